/- Texts of stores, joined: Lj. -/
import Derived.Test.YtdaheepfmnjadaaGreatDoorJ45
import Derived.Test.YtdaheepfmnjadaaGreatDoorJ6
namespace Go.Proofs.YtdaheepfmnjadaaGreatDoor
open Go.RowKit
set_option linter.unusedSimpArgs false
set_option linter.unusedVariables false
theorem recs_S (s : ByteArray) : (recs s).1.length ≤ 100000 ∧ ∀ m (h : m < (recs s).1.length), chS (recs s).1[m] ∧ (recs s).1[m].length ≤ 100 := by
  unfold recs
  split
  · rename_i h
    obtain ⟨h1, h2, h3⟩ := rcs_len s s.size 0
    exact ⟨by omega, fun m hm => h3 _ (List.getElem_mem hm)⟩
  · exact ⟨by simp, fun m hm => absurd hm (by simp)⟩
theorem apb_small {s : ByteArray} {cs : List Ch} (hs : s.size ≤ 9300) (hc : cs.length ≤ 3) : apb s cs = pcb cs := by
  have := recT_small cs
  unfold apb
  rw [decide_eq_true (by omega), Bool.and_true]
theorem pcT_nil {cs : List Ch} (h : pcb cs = false) : pcT cs = ⟨#[]⟩ := by unfold pcT; rw [h]; rfl
theorem recT_nil {cs : List Ch} (h : pcb cs = false) : recT cs = ⟨#[]⟩ := by unfold recT; rw [h]; rfl
theorem ba_pos {a : ByteArray} (h : 0 < a.size) : (a.toList == (⟨#[]⟩ : ByteArray).toList) = false := ba_ne (fun e => by rw [e] at h; exact absurd h (by decide))
/-- What is known of a log and of changes that are put behind what is told of it. -/
structure MORE (lg : ByteArray) (cs : List Ch) : Prop where
  le : (recs lg).2 ≤ lg.size
  size : (lg.extract 0 (recs lg).2 ++ recT cs).size ≤ 100000
  pos : 0 < (pcT cs).size ∧ (pcT cs).size ≤ (lg.extract 0 (recs lg).2 ++ recT cs).size
  back : gcS (pcT cs) = some cs
  more : recs (lg.extract 0 (recs lg).2 ++ recT cs) = ((recs lg).1 ++ [cs], (lg.extract 0 (recs lg).2 ++ recT cs).size)
  cut : recs ((lg.extract 0 (recs lg).2 ++ recT cs).extract 0 ((lg.extract 0 (recs lg).2 ++ recT cs).size - 1)) = recs lg
  spoilt : ∀ i X, X < 256 → i < (lg.extract 0 (recs lg).2 ++ recT cs).size → (lg.extract 0 (recs lg).2 ++ recT cs).size ≤ i + (pcT cs).size → X ≠ by8 (lg.extract 0 (recs lg).2 ++ recT cs) i → recs (chg (lg.extract 0 (recs lg).2 ++ recT cs) i X) = recs lg
theorem by8_app (a b : ByteArray) (k : Nat) (hk : k < a.size) : by8 (a ++ b) k = by8 a k := by
  have h1 := byte_at a k hk
  have e : a.data.toList.length = a.size := Array.length_toList
  rw [by8_of (a ++ b) k (a[k]'hk) (by rw [ByteArray.data_append, Array.toList_append, List.getElem?_append_left (by omega)]; exact h1)]
  exact by8_at a k hk
theorem more_of {lg : ByteArray} {cs : List Ch} (hl : lg.size ≤ 9300) (hc : cs.length ≤ 3) (hp : pcb cs = true) : MORE lg cs := by
  obtain ⟨h1, h2⟩ := recs_log (s := lg) (by omega)
  have hr := recT_small cs
  have hz : (lg.extract 0 (recs lg).2).size = (recs lg).2 := by rw [ext_size lg 0 (recs lg).2 h1]; omega
  have hsz : (lg.extract 0 (recs lg).2 ++ recT cs).size = (recs lg).2 + (recT cs).size := by rw [ByteArray.size_append, hz]
  have hps := (pcT_size cs).2 hp
  have hrp : (pcT cs).size + 4 ≤ (recT cs).size := by
    unfold recT
    rw [if_pos hp, ByteArray.size_append, ByteArray.size_append, strOfNums_size]
    have : (wdL (sum (pcT cs))).length = 4 := rfl
    omega
  have hat : At (lg.extract 0 (recs lg).2 ++ recT cs) (recs lg).2 (recT cs).data.toList := by
    refine ⟨(lg.extract 0 (recs lg).2).data.toList, [], ?_, ?_⟩
    · rw [ByteArray.data_append]; simp
    · have e : (lg.extract 0 (recs lg).2).data.toList.length = (lg.extract 0 (recs lg).2).size := Array.length_toList
      rw [e, hz]
  have hag : ∀ k, k < (recs lg).2 → by8 lg k = by8 (lg.extract 0 (recs lg).2 ++ recT cs) k := fun k hk => by
    rw [by8_app _ _ k (by omega), ext_by8 lg 0 (recs lg).2 k h1 (by omega), Nat.zero_add]
  have hbk := (gc_back (xs := cs) rfl hps).1
  generalize hmm : lg.extract 0 (recs lg).2 ++ recT cs = mm at *
  have ha : Agree lg mm (recs lg).2 := ⟨h1, by omega, hag⟩
  have hcz : (mm.extract 0 (mm.size - 1)).size = mm.size - 1 := by rw [ext_size mm 0 (mm.size - 1) (by omega)]; omega
  have hcb : ∀ k, k < mm.size - 1 → by8 (mm.extract 0 (mm.size - 1)) k = by8 mm k := fun k hk => by rw [ext_by8 mm 0 (mm.size - 1) k (by omega) (by omega), Nat.zero_add]
  constructor
  · exact h1
  · rw [hmm]; omega
  · rw [hmm]; exact ⟨hps, by omega⟩
  · exact hbk
  · rw [hmm]; exact (h2 mm (by omega) ha).2 cs (rc_more hp hat hsz)
  · rw [hmm]
    refine (h2 (mm.extract 0 (mm.size - 1)) (by omega) ⟨h1, by omega, fun k hk => (hag k hk).trans (hcb k (by omega)).symm⟩).1 (rc_cut hp hat hsz (by omega) ?_)
    exact ⟨by omega, Nat.le_refl _, fun k hk => (hcb k (by omega)).symm⟩
  · rw [hmm]
    intro i X hX hi hi2 hne
    have hcs := chg_size mm i X
    have hcc := fun k => chg_by8 mm i X k hX hi
    obtain ⟨fr, q1, q2, q3, q4, q5, q6⟩ := rec_at hp hat hsz
    refine (h2 (chg mm i X) (by omega) ⟨h1, by omega, fun k hk => by rw [hcc k, if_neg (by omega)]; exact hag k hk⟩).1 (rc_spoilt hp hat hsz (by omega) hi hi2 (by rw [hcc i, if_pos rfl]; exact fun e => hne e.symm) (fun k hk => by rw [hcc k, if_neg hk]))
/-- One byte of a row is another. -/
def SP (t : ByteArray) (g i : Nat) (y wx : World) : Prop := ∃ (X : Nat) (Y : World), X < 256 ∧ X ≠ by8 t i ∧ Below y.heap.size y Y ∧ wx = Y.setCell ⟨g, i, none⟩ (.int .u8 (X : Int))
set_option maxRecDepth 100000 in
set_option maxHeartbeats 16000000 in
theorem records_w (a0 : Option Addr) (len0 cap0 : Nat) (z0 : List Int) (w : World) (w0 : IsRow .u8 w a0 len0 cap0 z0) (hg : w.cell? ⟨0, 0, none⟩ = some (.iface 150 (.agg #[.pointer (some ⟨1, 55, none⟩)]))) :
    Calls Tryz.prog 3 #[.slice a0 len0 cap0] w fun e w' => e = .returned (.bool true) ∧ Below w.heap.size w w' := by
  have hlen := len_of w0
  by_cases hbig : len0 ≤ 1048576
  rotate_left
  · have hd : 1048576 < (len0 : Int) := by omega
    clear w0 hg
    go_enter Tryz.func3, Tryz.ntmps3
    go_wp2_with (go_at_call 4; go_in)
    go_ret
    exact ⟨rfl, Below.refl _ _⟩
  have hc := code_of w0 hbig
  have hd : (len0 : Int) ≤ 1048576 := by omega
  have HC := hid hc
  have HG := hid hg
  clear hc w0 hg
  have CIR := hid (fun (s : ByteArray) (hs : s.size ≤ 1048576) (W : World) (hb : Below w.heap.size w W) => impl_Records s hs W (keepcell hb HG.out))
  have CSR := hid (fun (s : ByteArray) (hs : s.size ≤ 1048576) (W : World) => spec_Records s hs W)
  have CIG := hid (fun (s : ByteArray) (hs : s.size ≤ 1048576) (W : World) (hb : Below w.heap.size w W) => (gc_same s) ▸ impl_GetChanges s hs W (keepcell hb HG.out))
  have CSG := hid (fun (s : ByteArray) (hs : s.size ≤ 1048576) (W : World) => spec_GetChanges s hs W)
  unfold GRA at CIR CSR
  unfold GCA at CIG CSG
  go_enter Tryz.func3, Tryz.ntmps3
  go_wp2_with (go_at_call 4; go_in)
  refine (draw_append _ a0 len0 cap0 HC.out).mono ?_
  rintro e v1 ⟨lg, cs, ao, cp, NN, rfl, hlg, hcs, hch, hb1⟩
  have B0 := hid hb1
  have HLs := hid hch
  clear hb1 hch
  go_wp2_with fail
  refine (CIR.out lg (by omega) _ B0.out).mono ?_
  rintro e v2 ⟨aa, ac, rfl, hAll, hb⟩
  replace HLs := hid (HLs.out.below hb)
  replace B0 := hid (btrans B0.out hb)
  clear hb
  have HAl := hid hAll.csl
  clear hAll
  go_wp2_with fail
  refine (CSR.out lg (by omega) _).mono ?_
  rintro e v3 ⟨wa, wc, rfl, hWa, hb⟩
  replace HLs := hid (HLs.out.below hb)
  replace HAl := hid (HAl.out.below hb)
  replace B0 := hid (btrans B0.out hb)
  clear hb
  have HWa := hid hWa.csl
  clear hWa
  go_wp2_with fail
  refine (impl_PutChanges ao cp cs _ (by omega) HLs.out).mono ?_
  rintro e v4 ⟨rfl, hb⟩
  replace HLs := hid (HLs.out.below hb)
  replace HAl := hid (HAl.out.below hb)
  replace HWa := hid (HWa.out.below hb)
  replace B0 := hid (btrans B0.out hb)
  clear hb
  go_wp2_with fail
  refine (impl_Record ao cp cs _ (by omega) HLs.out).mono ?_
  rintro e v5 ⟨rfl, hb⟩
  replace HLs := hid (HLs.out.below hb)
  replace HAl := hid (HAl.out.below hb)
  replace HWa := hid (HWa.out.below hb)
  replace B0 := hid (btrans B0.out hb)
  clear hb
  go_wp2_with fail
  refine (draw_getch _ a0 len0 cap0 ((HC.out.below B0.out).mono B0.out.size)).mono ?_
  rintro e v6 ⟨u, rfl, hu, hb⟩
  replace HLs := hid (HLs.out.below hb)
  replace HAl := hid (HAl.out.below hb)
  replace HWa := hid (HWa.out.below hb)
  replace B0 := hid (btrans B0.out hb)
  clear hb
  go_wp2_with fail
  refine (CIG.out u (by omega) _ B0.out).mono ?_
  rintro e v7 ⟨xa, xc, rfl, hX, hb⟩
  replace HLs := hid (HLs.out.below hb)
  replace HAl := hid (HAl.out.below hb)
  replace HWa := hid (HWa.out.below hb)
  replace B0 := hid (btrans B0.out hb)
  clear hb
  have HX := hid hX.chsN
  clear hX
  go_wp2_with fail
  refine (CSG.out u (by omega) _).mono ?_
  rintro e v8 ⟨ya, yc, rfl, hY, hb⟩
  replace HLs := hid (HLs.out.below hb)
  replace HAl := hid (HAl.out.below hb)
  replace HWa := hid (HWa.out.below hb)
  replace HX := hid (HX.out.below hb)
  replace B0 := hid (btrans B0.out hb)
  clear hb
  have HY := hid hY.chsN
  clear hY
  have hxs := gcS_S u
  have HOK := hid (fun (h : (gcS u).isSome = true) => (show pcT ((gcS u).getD []) = u by
    cases hq : gcS u with
    | none => rw [hq] at h; cases h
    | some l => exact (gcS_of hq).1))
  have hxl : ((gcS u).getD []).length ≤ 100 := hxs.2
  clear hxs
  generalize (gcS u).getD [] = xs at *
  generalize (gcS u).isSome = ok at *
  have HS := hid (recs_S lg)
  have HM := hid (fun (hp : pcb cs = true) => more_of hlg hcs hp)
  obtain ⟨hrl, _⟩ := recs_log (s := lg) (by omega)
  have HBN := hid (bnes ok)
  go_upto_region 11 with fail
  go_cut [103] (fun t103 wx => t103 = .bool false ∧ Below v8.heap.size v8 wx)
  case first =>
    have hbb := HBN.out
    have hq1 : ((pcT cs).toList == (pcT cs).toList) = true := by simp
    have hq2 : ((recT cs).toList == (recT cs).toList) = true := by simp
    have PC := hid (fun (W : World) (hb : Below v8.heap.size v8 W) => spec_PutChanges ao cp cs W (by omega) (HLs.out.below hb))
    have PR := hid (fun (W : World) (hb : Below v8.heap.size v8 W) => spec_Record ao cp cs W (by omega) (HLs.out.below hb))
    have SC := hid (fun (W : World) (hb : Below v8.heap.size v8 W) => same_chs xa ya xc yc xs W (by omega) (HX.out.below hb) (HY.out.below hb))
    have PX := hid (fun (W : World) (hb : Below v8.heap.size v8 W) => impl_PutChanges xa xc xs W (by omega) (HX.out.below hb))
    clear HM HS
    generalize pcT cs = tp at *
    generalize recT cs = tr at *
    cases ok
    · go_wp2_with fail
      refine (PC.out _ (Below.refl _ _)).mono ?_
      rintro e y1 ⟨rfl, hy1⟩
      go_wp2_with fail
      refine (PR.out _ hy1).mono ?_
      rintro e y2 ⟨rfl, hy2⟩
      replace hy2 := btrans hy1 hy2
      clear hy1
      go_wp2_with fail
      refine (SC.out _ hy2).mono ?_
      rintro e y3 ⟨rfl, hy3⟩
      replace hy3 := btrans hy2 hy3
      clear hy2
      go_wp2_with fail
      go_meet
      exact ⟨rfl, hy3⟩
    · have hq3 := ba_eq (HOK.out rfl)
      clear HOK
      generalize pcT xs = tx2 at *
      go_wp2_with fail
      refine (PC.out _ (Below.refl _ _)).mono ?_
      rintro e y1 ⟨rfl, hy1⟩
      go_wp2_with fail
      refine (PR.out _ hy1).mono ?_
      rintro e y2 ⟨rfl, hy2⟩
      replace hy2 := btrans hy1 hy2
      clear hy1
      go_wp2_with fail
      refine (SC.out _ hy2).mono ?_
      rintro e y3 ⟨rfl, hy3⟩
      replace hy3 := btrans hy2 hy3
      clear hy2
      go_wp2_with fail
      refine (PX.out _ hy3).mono ?_
      rintro e y4 ⟨rfl, hy4⟩
      replace hy4 := btrans hy3 hy4
      clear hy3
      go_wp2_with fail
      go_meet
      exact ⟨rfl, hy4⟩
  case rest =>
    obtain ⟨rfl, hb⟩ := hcut
    clear HX HY HOK HBN CSG CSR
    replace HLs := hid (HLs.out.below hb)
    replace HAl := hid (HAl.out.below hb)
    replace HWa := hid (HWa.out.below hb)
    replace B0 := hid (btrans B0.out hb)
    clear hb
    obtain ⟨nl, hnl⟩ : ∃ nl, nl = (recs lg).1.length := ⟨_, rfl⟩
    have HNL := hid hnl.symm
    rw [← hnl]
    have hnl2 : nl ≤ 100000 := by have := HS.out.1; omega
    have HAll := hid (fun m (h : m < (recs lg).1.length) => (HS.out.2 m h).2)
    clear hnl
    go_wp2_with fail
    go_loopw [16] (fun ti wr => ∃ j : Nat, ti = .int .i64 j ∧ j ≤ nl ∧ Hid (Below wc.heap.size wc wr)) (fun ti _ => nl - (intOf ti).toNat)
    case atStart => exact ⟨0, rfl, Nat.zero_le _, hid (Below.refl _ _)⟩
    case round =>
      obtain ⟨j, rfl, hj, HBW⟩ := hrel
      by_cases hlt : j < nl
      · have c1 : (j : Int) < (nl : Int) := by omega
        have hjr : j < (recs lg).1.length := by rw [HNL.out]; exact hlt
        obtain ⟨b1, o1, ea, hb1, hall1⟩ : ∃ b o, aa = some ⟨b, o, none⟩ ∧ b < wr.heap.size ∧ ∀ j (h : j < (recs lg).1.length), ∃ (a' : Option Addr) (cap' : Nat) (N : Nat → Prop), wr.cell? ⟨b, o + j, none⟩ = some (.slice a' (recs lg).1[j].length cap') ∧ Chs N 1099511627776 wr a' (recs lg).1[j] := by
          rcases HAl.out.below HBW.out with q | q
          · rw [q] at hjr; simp at hjr
          · exact q
        obtain ⟨b2, o2, eb, hb2, hall2⟩ : ∃ b' o, wa = some ⟨b', o, none⟩ ∧ b' < wr.heap.size ∧ ∀ j (h : j < (recs lg).1.length), ∃ (a' : Option Addr) (cap' : Nat) (N : Nat → Prop), wr.cell? ⟨b', o + j, none⟩ = some (.slice a' (recs lg).1[j].length cap') ∧ Chs N 1099511627776 wr a' (recs lg).1[j] := by
          rcases HWa.out.below HBW.out with q | q
          · rw [q] at hjr; simp at hjr
          · exact q
        subst ea eb
        obtain ⟨a1, c1', N1, k1, q1⟩ := hall1 j hjr
        obtain ⟨a2, c2', N2, k2, q2⟩ := hall2 j hjr
        have EQ := hid (fun (W : World) (hb : Below wr.heap.size wr W) => same_chs a1 a2 c1' c2' (recs lg).1[j] W (Nat.le_trans (HAll.out j hjr) (by decide)) (q1.below hb) (q2.below hb))
        clear q1 q2 hall1 hall2
        generalize (recs lg).1[j].length = np at *
        have HB0 : Hid (Below wr.heap.size wr wr.drew) := hid (bdrew (Below.refl _ _))
        go_wp2_with fail
        refine wp_region_held_drew (S := (fun w' => w'.cell? ⟨b1, o1 + j, none⟩ = some (.slice a1 np c1') ∧ w'.cell? ⟨b2, o2 + j, none⟩ = some (.slice a2 np c2'))) (by kernel_rfl) ?_ (fun hHeld => ?_)
        · (repeat' apply And.intro) <;> (repeat (first | with_reducible assumption | with_reducible refine keepdrew ?_ | with_reducible refine keepcell (by with_reducible assumption) ?_))
        refine wpAnyH_take (i := 0) (v := ?_) rfl (by kernel_rfl) (by kernel_rfl) (by kernel_rfl) (fun _ _ _ h => h) (Or.inl ⟨by rfl, ?_⟩) hHeld ?_
        rotate_left
        · intro w hSw; (try dsimp only at hSw); go_simp; try (with_reducible rfl)
        try simp only [sq]
        refine wpAnyH_take (i := 1) (v := ?_) rfl (by kernel_rfl) (by kernel_rfl) (by kernel_rfl) (fun _ _ _ h => h) (Or.inl ⟨by rfl, ?_⟩) hHeld ?_
        rotate_left
        · intro w hSw; (try dsimp only at hSw); go_simp; try (with_reducible rfl)
        try simp only [sq]
        refine wpAnyH_take (i := 2) (v := ?_) rfl (by kernel_rfl) (by kernel_rfl) (by kernel_rfl) (fun _ _ _ h => h) (Or.inl ⟨by rfl, ?_⟩) hHeld ?_
        rotate_left
        · intro w hSw; (try dsimp only at hSw); go_simp; try (with_reducible rfl)
        try simp only [sq]
        refine wpAnyH_take (i := 3) (v := ?_) rfl (by kernel_rfl) (by kernel_rfl) (by kernel_rfl) (fun _ _ _ h => h) (Or.inl ⟨by rfl, ?_⟩) hHeld ?_
        rotate_left
        · intro w hSw; (try dsimp only at hSw); go_simp; try (with_reducible rfl)
        try simp only [sq]
        refine wpAnyH_take (i := 4) (v := ?_) rfl (by kernel_rfl) (by kernel_rfl) (by kernel_rfl) (fun _ _ _ h => h) (Or.inl ⟨by rfl, ?_⟩) hHeld ?_
        rotate_left
        · intro w hSw; (try dsimp only at hSw); go_simp; try (with_reducible rfl)
        try simp only [sq]
        refine wpAnyH_take (i := 5) (v := ?_) rfl (by kernel_rfl) (by kernel_rfl) (by kernel_rfl) (fun _ _ _ h => h) (Or.inl ⟨by rfl, ?_⟩) hHeld ?_
        rotate_left
        · intro w hSw; (try dsimp only at hSw); go_simp; try (with_reducible rfl)
        try simp only [sq]
        refine wpAnyH_take (i := 6) (v := ?_) rfl (by kernel_rfl) (by kernel_rfl) (by kernel_rfl) (fun _ _ _ h => h) (Or.inl ⟨by rfl, ?_⟩) hHeld ?_
        rotate_left
        · intro w hSw; (try dsimp only at hSw); go_simp; try (with_reducible rfl)
        try simp only [sq]
        refine wpAnyH_take (i := 7) (v := ?_) rfl (by kernel_rfl) (by kernel_rfl) (by kernel_rfl) (fun _ _ _ h => h) (Or.inl ⟨by rfl, ?_⟩) hHeld ?_
        rotate_left
        · intro w hSw; (try dsimp only at hSw); go_simp; try (with_reducible rfl)
        try simp only [sq]
        refine wpAnyH_ready (rs := [8]) (by kernel_rfl) (by simp) ?_
        refine AllReadyH.cons rfl (fun K hK => ?_) AllReadyH.nil
        try simp only [sq]
        go_simp
        (first
            | (go_at_call 15; refine (EQ.out _ HB0.out).mono ?_; rintro e z1 ⟨rfl, hz⟩))
        go_wp2_with fail
        refine hK.out _ _ ?_ (fun hHeld => ?_)
        · (repeat' apply And.intro) <;> (repeat (first | with_reducible assumption | with_reducible refine keepdrew ?_ | with_reducible refine keepcell (by with_reducible assumption) ?_))
        clear hK K
        try simp only [sq]
        refine wpAnyH_take (i := 9) (v := ?_) rfl (by kernel_rfl) (by kernel_rfl) (by kernel_rfl) (fun _ _ _ h => h) (Or.inl ⟨by rfl, ?_⟩) hHeld ?_
        rotate_left
        · intro w hSw; (try dsimp only at hSw); go_simp; try (with_reducible rfl)
        try simp only [sq]
        refine wpAnyH_done (by kernel_rfl) ?_ _
        go_wp2_with fail
        go_roundw
        case rel => exact ⟨j + 1, by go_num, by omega, hid (btrans (bdrew HBW.out) hz)⟩
        case measure => simp [intOf]; omega
      · have c1 : (nl : Int) ≤ (j : Int) := by omega
        have hb := HBW.out
        clear HBW HAll
        replace HLs := hid (HLs.out.below hb)
        replace HAl := hid (HAl.out.below hb)
        replace HWa := hid (HWa.out.below hb)
        replace B0 := hid (btrans B0.out hb)
        clear hb
        have hen : ((recs lg).2 : Int) ≤ (lg.size : Int) := by omega
        have hen0 : (0 : Int) ≤ ((recs lg).2 : Int) := by omega
        have hLz : (lg.extract 0 (recs lg).2).size ≤ 9300 := by rw [ext_size lg 0 (recs lg).2 hrl]; omega
        have AP := hid (impl_Append (lg.extract 0 (recs lg).2) (by omega) ao cp cs wr (by omega) HLs.out)
        have hab := apb_small hLz hcs
        have hlq : ((lg.extract 0 (recs lg).2).toList == (lg.extract 0 (recs lg).2).toList) = true := by simp
        cases hp : pcb cs
        · rw [hp] at hab
          unfold apT at AP
          rw [hab] at AP
          simp only [Bool.false_eq_true, if_false] at AP
          rw [pcT_nil hp, recT_nil hp]
          clear HM hab hp HS
          go_wp2_with fail
          refine AP.out.mono ?_
          rintro e y1 ⟨rfl, hb⟩
          replace HLs := hid (HLs.out.below hb)
          replace HAl := hid (HAl.out.below hb)
          replace HWa := hid (HWa.out.below hb)
          replace B0 := hid (btrans B0.out hb)
          clear hb
          go_wp2_with fail
          go_ret
          exact ⟨rfl, B0.out⟩
        have M := HM.out hp
        rw [hp] at hab
        unfold apT at AP
        rw [hab] at AP
        simp only [if_true] at AP
        obtain ⟨m1, m2, ⟨m3, m3'⟩, m4, m5, m6, m7⟩ := M
        have hrp : 0 < (recT cs).size := (recT_size cs).2 hp
        have hn1 := ba_pos m3
        have hn2 := ba_pos hrp
        have hn3 := bne_of m3
        have hn4 := bne_of hrp
        have C23 := hid (CIG.out (pcT cs) (by have := pcT_small cs; omega))
        rw [m4] at C23
        simp only [Option.getD_some, Option.isSome_some] at C23
        clear HM hab hp HS m4 hrp
        generalize lg.extract 0 (recs lg).2 ++ recT cs = mm at *
        have C24 := hid (CIR.out mm (by omega))
        rw [m5] at C24
        have C25 := hid (CIR.out (mm.extract 0 (mm.size - 1)) (by rw [ext_size mm 0 (mm.size - 1) (by omega)]; omega))
        rw [m6] at C25
        have C29 := hid (fun i X hX hi hi2 hne => (m7 i X hX hi hi2 hne) ▸ CIR.out (chg mm i X) (by rw [chg_size]; omega))
        have HAL := hid (show ((recs lg).1 ++ [cs]).length = nl + 1 by rw [List.length_append, HNL.out]; rfl)
        simp only [HAL.out] at C24
        rw [HNL.out] at C25 C29
        generalize (recs lg).2 = en at *
        generalize pcT cs = ps at *
        generalize recT cs = rt at *
        clear m5 m6 m7 CIR CIG HAL HNL
        have hmz : (0 : Int) < (mm.size : Int) := by omega
        have hmz2 : (mm.size : Int) ≤ 100000 := by omega
        have hmw : IntKind.i64.wrap ((mm.size : Int) - 1) = (mm.size : Int) - 1 := by rw [IntKind.wrap_i64]; omega
        have hmt : ((mm.size : Int) - 1).toNat = mm.size - 1 := by omega
        have hm1 : (0 : Int) ≤ (mm.size : Int) - 1 := by omega
        have hm2 : (mm.size : Int) - 1 ≤ (mm.size : Int) := by omega
        go_wp2_with fail
        refine AP.out.mono ?_
        rintro e y1 ⟨rfl, hb⟩
        replace HLs := hid (HLs.out.below hb)
        replace HAl := hid (HAl.out.below hb)
        replace HWa := hid (HWa.out.below hb)
        replace B0 := hid (btrans B0.out hb)
        clear hb
        clear AP
        go_wp2_with fail
        refine (C23.out _ B0.out).mono ?_
        rintro e y2 ⟨ba, bc, rfl, hBk, hb⟩
        replace HLs := hid (HLs.out.below hb)
        replace HAl := hid (HAl.out.below hb)
        replace HWa := hid (HWa.out.below hb)
        replace B0 := hid (btrans B0.out hb)
        clear hb
        have HBk := hid hBk.chsN
        clear hBk C23
        go_wp2_with fail
        refine (C24.out _ B0.out).mono ?_
        rintro e y3 ⟨fa, fc, rfl, hFa, hb⟩
        replace HLs := hid (HLs.out.below hb)
        replace HAl := hid (HAl.out.below hb)
        replace HWa := hid (HWa.out.below hb)
        replace HBk := hid (HBk.out.below hb)
        replace B0 := hid (btrans B0.out hb)
        clear hb
        clear hFa C24
        go_wp2_with fail
        refine (C25.out _ B0.out).mono ?_
        rintro e y4 ⟨ga, gc, rfl, hGa, hb⟩
        replace HLs := hid (HLs.out.below hb)
        replace HAl := hid (HAl.out.below hb)
        replace HWa := hid (HWa.out.below hb)
        replace HBk := hid (HBk.out.below hb)
        replace B0 := hid (btrans B0.out hb)
        clear hb
        clear hGa C25
        have hgw := B0.out.size
        have hcv := Lib.run_convert_string_bytes (P := Tryz.prog) y4 9 22 5 mm Tryz.underlying9 Tryz.underlying22 Tryz.underlying5
        have HBT := hid (bytes_at y4 5 mm)
        have hbw := bw_below y4 5 mm
        have hgs : y4.heap.size < (Lib.bytesWorld y4 5 mm).heap.size := by rw [Lib.bytesWorld_size]; omega
        go_upto_region 27 with fail
        have BB := hid hbw
        replace B0 := hid (btrans B0.out hbw)
        clear hcv hbw
        generalize Lib.bytesWorld y4 5 mm = y5 at *
        generalize grownCap y4 mm.size 0 5 = bcap at *
        have hpn : ¬ (ps.size : Int) = 0 := by omega
        have hpn0 : (0 : Int) < (ps.size : Int) := by omega
        go_wp2_with fail
        refine (at_c _ a0 len0 cap0 _ 3 (by omega) (HC.out.below B0.out)).mono ?_
        rintro e y6 ⟨q, rfl, ⟨q0, q1⟩, hw⟩
        replace hw := hw.symm
        subst hw
        obtain ⟨q, rfl⟩ := Int.eq_ofNat_of_zero_le q0
        obtain ⟨i, hi⟩ : ∃ i, i = mm.size - 1 - q % ps.size := ⟨_, rfl⟩
        have hqr : q % ps.size < ps.size := Nat.mod_lt _ m3
        have hqm : (q : Int).tmod (ps.size : Int) = ((q % ps.size : Nat) : Int) := rfl
        have hil : i < mm.size := by omega
        have hil2 : mm.size ≤ i + ps.size := by omega
        have hie : (mm.size : Int) - 1 - ((q % ps.size : Nat) : Int) = (i : Int) := by omega
        have hiw : IntKind.i64.wrap ((mm.size : Int) - 1 - ((q % ps.size : Nat) : Int)) = (i : Int) := by rw [hie, IntKind.wrap_i64]; omega
        have hilI : (i : Int) < (mm.size : Int) := by omega
        have hi0 : (0 : Int) ≤ (i : Int) := by omega
        clear hi hie
        generalize q % ps.size = qr at *
        obtain ⟨hci, hfi⟩ := HBT.out i hil
        go_upto_region 28 with fail
        go_cut [26] (fun t26 wx => t26 = .int .i64 i ∧ SP mm y4.heap.size i y5 wx)
        case first =>
          refine wp_region_held_drew (S := (fun _ => True)) (by kernel_rfl) ?_ (fun hHeld => ?_)
          · trivial
          have HZ := hid (bdrew (Below.refl y5.heap.size y5))
          have B1 := hid (btrans B0.out HZ.out)
          have hcz := keepcell HZ.out hci
          have hfz : y5.drew.frozen? ⟨y4.heap.size, i, none⟩ = false := hfi
          generalize y5.drew = Z at *
          refine wpAnyH_take (i := 0) (v := ?_) rfl (by kernel_rfl) (by kernel_rfl) (by kernel_rfl) (fun _ _ _ h => h) (Or.inl ⟨by rfl, ?_⟩) hHeld ?_
          rotate_left
          · intro w hSw; (try dsimp only at hSw); go_simp; try (with_reducible rfl)
          try simp only [sq]
          refine wpAnyH_take (i := 1) (v := ?_) rfl (by kernel_rfl) (by kernel_rfl) (by kernel_rfl) (fun _ _ _ h => h) (Or.inl ⟨by rfl, ?_⟩) hHeld ?_
          rotate_left
          · intro w hSw; (try dsimp only at hSw); go_simp; try (with_reducible rfl)
          try simp only [sq]
          refine wpAnyH_take (i := 2) (v := ?_) rfl (by kernel_rfl) (by kernel_rfl) (by kernel_rfl) (fun _ _ _ h => h) (Or.inl ⟨by rfl, ?_⟩) hHeld ?_
          rotate_left
          · intro w hSw; (try dsimp only at hSw); go_simp; try (with_reducible rfl)
          try simp only [sq]
          refine wpAnyH_take (i := 3) (v := ?_) rfl (by kernel_rfl) (by kernel_rfl) (by kernel_rfl) (fun _ _ _ h => h) (Or.inl ⟨by rfl, ?_⟩) hHeld ?_
          rotate_left
          · intro w hSw; (try dsimp only at hSw); go_simp; try (with_reducible rfl)
          try simp only [sq]
          refine wpAnyH_take (i := 4) (v := ?_) rfl (by kernel_rfl) (by kernel_rfl) (by kernel_rfl) (fun _ _ _ h => h) (Or.inl ⟨by rfl, ?_⟩) hHeld ?_
          rotate_left
          · intro w hSw; (try dsimp only at hSw); go_simp; try (with_reducible rfl)
          try simp only [sq]
          refine wpAnyH_take (i := 6) (v := ?_) rfl (by kernel_rfl) (by kernel_rfl) (by kernel_rfl) (fun _ _ _ h => h) (Or.inl ⟨by rfl, ?_⟩) hHeld ?_
          rotate_left
          · intro w hSw; (try dsimp only at hSw); go_simp; try (with_reducible rfl)
          try simp only [sq]
          refine wpAnyH_ready (rs := [5, 7]) (by kernel_rfl) (by simp) ?_
          refine (AllReadyH.cons rfl (fun K hK => ?_) (AllReadyH.cons rfl (fun K hK => ?_) AllReadyH.nil))
          · skip
            try simp only [sq]
            go_simp
            refine hK.out _ _ trivial (fun hHeld => ?_)
            clear hK K
            try simp only [sq]
            refine wpAnyH_ready (rs := [7]) (by kernel_rfl) (by simp) ?_
            refine (AllReadyH.cons rfl (fun K hK => ?_) AllReadyH.nil)
            try simp only [sq]
            go_simp
            go_at_call 17
            refine (at_c _ a0 len0 cap0 _ 4 (by omega) (HC.out.below B1.out)).mono ?_
            rintro e y7 ⟨q4, rfl, ⟨q40, q41⟩, hw⟩
            replace hw := hw.symm
            subst hw
            obtain ⟨q4, rfl⟩ := Int.eq_ofNat_of_zero_le q40
            go_wp2_with fail
            refine hK.out _ _ trivial (fun hHeld => ?_)
            clear hK K
            try simp only [sq]
            refine wpAnyH_take (i := 8) (v := ?_) rfl (by kernel_rfl) (by kernel_rfl) (by kernel_rfl) (fun _ _ _ h => h) (Or.inl ⟨by rfl, ?_⟩) hHeld ?_
            rotate_left
            · intro w hSw; (try dsimp only at hSw); go_simp; try (with_reducible rfl)
            try simp only [sq]
            refine wpAnyH_take (i := 9) (v := ?_) rfl (by kernel_rfl) (by kernel_rfl) (by kernel_rfl) (fun _ _ _ h => h) (Or.inl ⟨by rfl, ?_⟩) hHeld ?_
            rotate_left
            · intro w hSw; (try dsimp only at hSw); go_simp; try (with_reducible rfl)
            try simp only [sq]
            refine wpAnyH_take (i := 10) (v := ?_) rfl (by kernel_rfl) (by kernel_rfl) (by kernel_rfl) (fun _ _ _ h => h) (Or.inl ⟨by rfl, ?_⟩) hHeld ?_
            rotate_left
            · intro w hSw; (try dsimp only at hSw); go_simp; try (with_reducible rfl)
            try simp only [sq]
            refine wpAnyH_take (i := 11) (v := ?_) rfl (by kernel_rfl) (by kernel_rfl) (by kernel_rfl) (fun _ _ _ h => h) (Or.inl ⟨by rfl, ?_⟩) hHeld ?_
            rotate_left
            · intro w hSw; (try dsimp only at hSw); go_simp; try (with_reducible rfl)
            try simp only [sq]
            refine wpAnyH_take (i := 12) (v := ?_) rfl (by kernel_rfl) (by kernel_rfl) (by kernel_rfl) (fun _ _ _ h => h) (Or.inl ⟨by rfl, ?_⟩) hHeld ?_
            rotate_left
            · intro w hSw; (try dsimp only at hSw); go_simp; try (with_reducible rfl)
            try simp only [sq]
            refine wpAnyH_ready (rs := [13]) (by kernel_rfl) (by simp) ?_
            refine (AllReadyH.cons rfl (fun K hK => ?_) AllReadyH.nil)
            try simp only [sq]
            go_simp
            refine hK.out _ _ trivial (fun hHeld => ?_)
            clear hK K
            try simp only [sq]
            refine wpAnyH_done (by kernel_rfl) ?_ _
            obtain ⟨X, hX, hX1, hX2⟩ := xor_q (by8 mm i) q4 (by have := by8_lt mm i; omega)
            rw [hX]
            go_wp2_with fail
            go_meet
            exact ⟨rfl, X, _, hX1, hX2, HZ.out, rfl⟩
          · skip
            try simp only [sq]
            go_simp
            go_at_call 17
            refine (at_c _ a0 len0 cap0 _ 4 (by omega) (HC.out.below B1.out)).mono ?_
            rintro e y7 ⟨q4, rfl, ⟨q40, q41⟩, hw⟩
            replace hw := hw.symm
            subst hw
            obtain ⟨q4, rfl⟩ := Int.eq_ofNat_of_zero_le q40
            go_wp2_with fail
            refine hK.out _ _ trivial (fun hHeld => ?_)
            clear hK K
            try simp only [sq]
            refine wpAnyH_take (i := 8) (v := ?_) rfl (by kernel_rfl) (by kernel_rfl) (by kernel_rfl) (fun _ _ _ h => h) (Or.inl ⟨by rfl, ?_⟩) hHeld ?_
            rotate_left
            · intro w hSw; (try dsimp only at hSw); go_simp; try (with_reducible rfl)
            try simp only [sq]
            refine wpAnyH_take (i := 9) (v := ?_) rfl (by kernel_rfl) (by kernel_rfl) (by kernel_rfl) (fun _ _ _ h => h) (Or.inl ⟨by rfl, ?_⟩) hHeld ?_
            rotate_left
            · intro w hSw; (try dsimp only at hSw); go_simp; try (with_reducible rfl)
            try simp only [sq]
            refine wpAnyH_take (i := 10) (v := ?_) rfl (by kernel_rfl) (by kernel_rfl) (by kernel_rfl) (fun _ _ _ h => h) (Or.inl ⟨by rfl, ?_⟩) hHeld ?_
            rotate_left
            · intro w hSw; (try dsimp only at hSw); go_simp; try (with_reducible rfl)
            try simp only [sq]
            refine wpAnyH_ready (rs := [5]) (by kernel_rfl) (by simp) ?_
            refine (AllReadyH.cons rfl (fun K hK => ?_) AllReadyH.nil)
            try simp only [sq]
            go_simp
            refine hK.out _ _ trivial (fun hHeld => ?_)
            clear hK K
            try simp only [sq]
            refine wpAnyH_take (i := 11) (v := ?_) rfl (by kernel_rfl) (by kernel_rfl) (by kernel_rfl) (fun _ _ _ h => h) (Or.inl ⟨by rfl, ?_⟩) hHeld ?_
            rotate_left
            · intro w hSw; (try dsimp only at hSw); go_simp; try (with_reducible rfl)
            try simp only [sq]
            refine wpAnyH_take (i := 12) (v := ?_) rfl (by kernel_rfl) (by kernel_rfl) (by kernel_rfl) (fun _ _ _ h => h) (Or.inl ⟨by rfl, ?_⟩) hHeld ?_
            rotate_left
            · intro w hSw; (try dsimp only at hSw); go_simp; try (with_reducible rfl)
            try simp only [sq]
            refine wpAnyH_ready (rs := [13]) (by kernel_rfl) (by simp) ?_
            refine (AllReadyH.cons rfl (fun K hK => ?_) AllReadyH.nil)
            try simp only [sq]
            go_simp
            refine hK.out _ _ trivial (fun hHeld => ?_)
            clear hK K
            try simp only [sq]
            refine wpAnyH_done (by kernel_rfl) ?_ _
            obtain ⟨X, hX, hX1, hX2⟩ := xor_q (by8 mm i) q4 (by have := by8_lt mm i; omega)
            rw [hX]
            go_wp2_with fail
            go_meet
            exact ⟨rfl, X, _, hX1, hX2, HZ.out, rfl⟩
        case rest =>
          obtain ⟨rfl, X, Y, hX1, hX2, hbY, hwx⟩ := hcut
          subst hwx
          have hblk := hbY.block y4.heap.size hgs
          have hcv2 := chg_conv mm i X y4.heap.size bcap Y hil (fun j hj => by
            obtain ⟨k1, k2⟩ := HBT.out j hj
            simp only [World.cell?, World.frozen?, hblk] at k1 k2 ⊢
            exact ⟨k1, k2⟩)
          have BB2 := hid (bset (btrans BB.out hbY) (q := y4.heap.size) (k := i) (Nat.le_refl _) (.int .u8 (X : Int)))
          have B2 := hid (bset (btrans B0.out hbY) (q := y4.heap.size) (k := i) hgw (.int .u8 (X : Int)))
          replace C29 := hid (C29.out i X hX1 hil hil2 hX2)
          have SC := hid (fun (W : World) (hb : Below y4.heap.size y4 W) => same_chs ba ao bc cp cs W (by omega) (HBk.out.below hb) (HLs.out.below hb))
          clear hbY hblk HBT hci hfi hgs BB B0 HBk HLs HAl HWa
          generalize chg mm i X = t2 at *
          generalize Y.setCell ⟨y4.heap.size, i, none⟩ (.int .u8 (X : Int)) = y8 at *
          go_wp2_with fail
          refine (C29.out _ B2.out).mono ?_
          rintro e y9 ⟨ka, kc, rfl, hKa, hb⟩
          have BB3 := hid (btrans BB2.out hb)
          have B3 := hid (btrans B2.out hb)
          clear hKa hb BB2 B2 hcv2
          have hn5 : ((nl : Int) + 1 == (nl : Int) + 1) = true := by simp
          go_wp2_with fail
          refine (SC.out _ BB3.out).mono ?_
          rintro e y10 ⟨rfl, hb⟩
          have B4 := hid (btrans B3.out hb)
          clear hb SC B3 BB3
          go_wp2_with fail
          go_ret
          exact ⟨rfl, B4.out⟩
end Go.Proofs.YtdaheepfmnjadaaGreatDoor
