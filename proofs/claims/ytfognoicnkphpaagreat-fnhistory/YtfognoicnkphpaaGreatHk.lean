/- The walk of FnHistory. -/
import Derived.Test.YtfognoicnkphpaaGreatJ16
import Derived.Test.YtfognoicnkphpaaGreatHi
import Derived.Test.YtfognoicnkphpaaGreatJ19
namespace Go.Proofs.YtfognoicnkphpaaGreat
open Go.RowKit
set_option linter.unusedSimpArgs false
set_option linter.unusedVariables false
theorem idsb_le (now : Int) (rs : List Rw) (m : Int) : (idsb now rs m).length ≤ rs.length := by
  unfold idsb
  split
  · rw [srt_len]
    unfold idsT
    rw [List.length_map]
    exact List.length_filter_le _ _
  · simp
theorem vacb_le (now : Int) (rs : List Rw) (t : Int) : (vacb now rs t).length ≤ rs.length := by
  unfold vacb
  split
  · exact List.length_filter_le _ _
  · exact Nat.le_refl _
theorem vacb_ok {now : Int} {rs : List Rw} {t : Int} (h : rowsb now rs = true) : rowsb now (vacb now rs t) = true := by
  unfold vacb
  rw [if_pos h]
  exact rowsb_sub _ h
set_option maxRecDepth 100000 in
set_option maxHeartbeats 64000000 in
theorem history_w (a0 : Option Addr) (len0 cap0 : Nat) (z0 : List Int) (w : World) (w0 : IsRow .u8 w a0 len0 cap0 z0) :
    Calls Tryz.prog 4 #[.slice a0 len0 cap0] w fun e w' => e = .returned (.bool true) ∧ Below w.heap.size w w' := by
  have hlen := len_of w0
  by_cases hbig : len0 ≤ 1048576
  rotate_left
  · have hd : 1048576 < (len0 : Int) := by omega
    clear w0
    go_enter Tryz.func4, Tryz.ntmps4
    go_wp2_with (go_at_call 5; go_in)
    go_ret
    exact ⟨rfl, Below.refl _ _⟩
  have hc := code_of w0 hbig
  have hd : (len0 : Int) ≤ 1048576 := by omega
  have HC := hid hc
  clear hc w0
  go_enter Tryz.func4, Tryz.ntmps4
  go_wp2_with (go_at_call 5; go_in)
  refine (draw_vac _ a0 len0 cap0 HC.out).mono ?_
  rintro e v1 hdv
  obtain ⟨now, ra, rc, rs, xs, t, rfl, ⟨hn0, hn1⟩, hrl, hX, ⟨ht0, ht1⟩, hB⟩ := hdv
  go_upto_region 4 with fail
  have gA := heap_alloc_new v1 (.cells #[.int .i64 now, .slice ra rs.length rc] 26)
  have hal : Below v1.heap.size v1 (v1.alloc (.cells #[.int .i64 now, .slice ra rs.length rc] 26)) := balloc (Below.refl _ _) _
  replace hB := btrans hB hal
  have HX := hid (hX.below hal)
  clear hal hX
  generalize v1.alloc (.cells #[.int .i64 now, .slice ra rs.length rc] 26) = W1 at *
  generalize v1.heap.size = A at *
  have HRG := hid HX.out.rwsG
  have HRR := hid HX.out.rws
  clear HX
  obtain ⟨d0, d1, _, _⟩ := cell2f gA
  go_wp2_with fail
  refine (impl_VacuumG now ra rc rs t _ (by omega) HRG.out HRR.out).mono ?_
  rintro e v2 hvr
  obtain ⟨va, vc, vx, rfl, hVX, hb⟩ := hvr
  have hvl := vacb_le now rs t
  have HMV : Hid (∀ m, t ≤ m → rowsb now rs = true → idsb now rs m = idsb now (vacb now rs t) m ∧ ∀ id, ratb now rs id m = ratb now (vacb now rs t) id m) := hid (fun m hm h => ⟨(ids_vac h hm).symm, fun id => (ratb_vac h hm).symm⟩)
  have HVO : Hid (rowsb now rs = true → rowsb now (vacb now rs t) = true) := hid vacb_ok
  have HVE : Hid (rowsb now rs = false → vacb now rs t = rs) := hid (fun h => by unfold vacb; rw [if_neg (by rw [h]; simp)])
  have HVS := hid (fun (W : World) (h1 : RwsG W ra rs) (h2 : Rws (fun _ => True) W ra rs) => spec_VacuumG (N := fun _ => True) now ra rc rs t W (by omega) h1 h2)
  unfold VS at HVS
  generalize vacb now rs t = vs at *
  go_upto_region 5 with fail
  have gV := heap_alloc_new v2 (.cells #[.int .i64 now, .slice va vs.length vc] 26)
  have hal : Below v2.heap.size v2 (v2.alloc (.cells #[.int .i64 now, .slice va vs.length vc] 26)) := balloc (Below.refl _ _) _
  replace gA := keepheap2 (btrans hb hal) gA
  replace HRG := hid (HRG.out.below (btrans hb hal))
  replace HRR := hid (HRR.out.below (btrans hb hal))
  replace hB := btrans hB (btrans hb hal)
  have HV := hid (hVX.rws.below hal)
  clear hal hb hVX d0 d1
  generalize v2.alloc (.cells #[.int .i64 now, .slice va vs.length vc] 26) = W2 at *
  generalize v2.heap.size = V at *
  obtain ⟨d0, d1, _, _⟩ := cell2f gA
  go_wp2_with fail
  refine (HVS.out _ HRG.out HRR.out).mono ?_
  rintro e v3 ⟨wa, wcp, rfl, hW, hb⟩
  go_upto_region 6 with fail
  have gW := heap_alloc_new v3 (.cells #[.int .i64 now, .slice wa vs.length wcp] 26)
  have hal : Below v3.heap.size v3 (v3.alloc (.cells #[.int .i64 now, .slice wa vs.length wcp] 26)) := balloc (Below.refl _ _) _
  replace gA := keepheap2 (btrans hb hal) gA
  replace gV := keepheap2 (btrans hb hal) gV
  replace HRR := hid (HRR.out.below (btrans hb hal))
  replace HV := hid (HV.out.below (btrans hb hal))
  replace hB := btrans hB (btrans hb hal)
  have HW := hid (hW.below hal)
  clear hal hb hW d0 d1 HVS HRG
  generalize v3.alloc (.cells #[.int .i64 now, .slice wa vs.length wcp] 26) = W3 at *
  generalize v3.heap.size = Wb at *
  have hcd : CodeAt W3 a0 len0 W3.heap.size := (HC.out.below hB).mono hB.size
  go_wp2_with fail
  refine (draw_tou _ a0 len0 cap0 hcd).mono ?_
  rintro e v4 hdu
  obtain ⟨qn, qa, qc, qs, qx, id, si, rfl, ⟨hq0, hq1⟩, hql, hQX, ⟨hs0, hs1⟩, hb⟩ := hdu
  go_upto_region 7 with fail
  have gQ := heap_alloc_new v4 (.cells #[.int .i64 qn, .slice qa qs.length qc] 26)
  have hal : Below v4.heap.size v4 (v4.alloc (.cells #[.int .i64 qn, .slice qa qs.length qc] 26)) := balloc (Below.refl _ _) _
  replace gA := keepheap2 (btrans hb hal) gA
  replace gV := keepheap2 (btrans hb hal) gV
  replace gW := keepheap2 (btrans hb hal) gW
  replace HRR := hid (HRR.out.below (btrans hb hal))
  replace HV := hid (HV.out.below (btrans hb hal))
  replace HW := hid (HW.out.below (btrans hb hal))
  replace hB := btrans hB (btrans hb hal)
  have HQ := hid (hQX.rws.below hal)
  clear hal hb hQX hcd HC
  generalize v4.alloc (.cells #[.int .i64 qn, .slice qa qs.length qc] 26) = W4 at *
  generalize v4.heap.size = Q at *
  -- what is told of the blocks, in any world behind
  have HTI := hid (fun (W : World) (hq : Below W4.heap.size W4 W) => impl_Touched qn qa qc qs id si W (by omega) (HQ.out.below hq))
  have HTS := hid (fun (W : World) (hq : Below W4.heap.size W4 W) => spec_Touched qn qa qc qs id si W (by omega) (HQ.out.below hq))
  have HTM : Hid (rowsb qn qs = true → touchb qn qs id si = false → 0 ≤ si → ∀ m, si ≤ m → ratb qn qs id m = ratb qn qs id si) := hid (fun h1 h2 h3 m h4 => touch_same h1 h2 h3 h4)
  have HOK := hid (fun (W : World) (hq : Below W4.heap.size W4 W) => spec_RowsOk qn qa qc qs W (by omega) (HQ.out.below hq))
  have HRQ := hid (fun (m : Int) (W : World) (hq : Below W4.heap.size W4 W) => impl_RowAt qn qa qc qs id m W (by omega) (HQ.out.below hq))
  have HLQ : Hid (∀ m, (raP (ratb qn qs id m)).length ≤ 1099511627776) := hid (fun m => rat_len HQ.out)
  have HSR := hid (fun (W : World) (hq : Below W4.heap.size W4 W) => same_rows now va wa vc wcp vs W (by omega) (HV.out.below hq) (HW.out.below hq))
  have HOR := hid (fun (W : World) (hq : Below W4.heap.size W4 W) => spec_RowsOk now ra rc rs W (by omega) (HRR.out.below hq))
  have HSV : Hid (vs = rs → ∀ (W : World) (hq : Below W4.heap.size W4 W), Calls Tryz.prog 9 #[.agg #[.int .i64 now, .slice va vs.length vc], .agg #[.int .i64 now, .slice ra rs.length rc]] W fun e w' => e = .returned (.bool true) ∧ Below W.heap.size W w') := hid (fun e W hq => by have h1 := HV.out.below hq; rw [e] at h1 ⊢; exact same_rows now va ra vc rc rs W (by omega) h1 (HRR.out.below hq))
  have HSM : Hid (∀ m, idsb now rs m = idsb now vs m → (∀ id, ratb now rs id m = ratb now vs id m) → ∀ (W : World) (hq : Below W4.heap.size W4 W), Calls Tryz.prog 12 #[.agg #[.int .i64 now, .slice va vs.length vc], .int .i64 m, .agg #[.int .i64 now, .slice ra rs.length rc], .int .i64 m] W fun e w' => e = .returned (.bool true) ∧ Below W.heap.size W w') := hid (fun m h1 h2 W hq => same_moment now now va ra vc rc vs rs m W (by omega) (by omega) (by have := idsb_le now vs m; omega) (HV.out.below hq) (HRR.out.below hq) h1 h2)
  have HOV := hid (fun (W : World) (hq : Below W4.heap.size W4 W) => impl_RowsOk now va vc vs W (by omega) (HV.out.below hq))
  have HOV2 := HVO
  clear HRR HV HW HQ
  obtain ⟨dv0, dv1, _, _⟩ := cell2f gV
  obtain ⟨dw0, dw1, _, _⟩ := cell2f gW
  obtain ⟨dq0, dq1, _, _⟩ := cell2f gQ
  have HB4 := hid hB
  clear hB
  generalize touchb qn qs id si = tb at *
  generalize rowsb qn qs = qb at *
  have htt : (tb != tb) = false := by cases tb <;> rfl
  refine wp_region_held_drew (S := (fun w' => w'.cell? ⟨V, 0, none⟩ = some (.int .i64 now) ∧ w'.cell? ⟨V, 1, none⟩ = some (.slice va vs.length vc) ∧ w'.cell? ⟨Wb, 0, none⟩ = some (.int .i64 now) ∧ w'.cell? ⟨Wb, 1, none⟩ = some (.slice wa vs.length wcp) ∧ w'.cell? ⟨Q, 0, none⟩ = some (.int .i64 qn) ∧ w'.cell? ⟨Q, 1, none⟩ = some (.slice qa qs.length qc))) (by kernel_rfl) ?_ (fun hHeld => ?_)
  · (repeat' apply And.intro) <;> (repeat (first | with_reducible assumption | with_reducible refine keepdrew ?_ | with_reducible refine keepcell (by with_reducible assumption) ?_))
  refine wpAnyH_take (i := 0) (v := ?_) rfl (by kernel_rfl) (by kernel_rfl) (by kernel_rfl) (fun _ _ _ h => h) (Or.inl ⟨by rfl, ?_⟩) hHeld ?_
  rotate_left
  · intro w hSw; (try dsimp only at hSw); go_simp; try (with_reducible rfl)
  try simp only [sq]
  refine wpAnyH_take (i := 1) (v := ?_) rfl (by kernel_rfl) (by kernel_rfl) (by kernel_rfl) (fun _ _ _ h => h) (Or.inl ⟨by rfl, ?_⟩) hHeld ?_
  rotate_left
  · intro w hSw; (try dsimp only at hSw); go_simp; try (with_reducible rfl)
  try simp only [sq]
  refine wpAnyH_ready (rs := [2]) (by kernel_rfl) (by simp) ?_
  refine AllReadyH.cons rfl (fun K hK => ?_) AllReadyH.nil
  try simp only [sq]
  go_simp
  (first
      | (go_at_call 9; refine (HSR.out _ (bdrew (Below.refl _ _))).mono ?_; rintro e y1 ⟨rfl, hy1⟩; have hz1 := btrans (bdrew (Below.refl W4.heap.size W4)) hy1))
  go_wp2_with fail
  refine hK.out _ _ ?_ (fun hHeld => ?_)
  · (repeat' apply And.intro) <;> (repeat (first | with_reducible assumption | with_reducible refine keepdrew ?_ | with_reducible refine keepcell (by with_reducible assumption) ?_))
  clear hK K
  try simp only [sq]
  refine wpAnyH_take (i := 3) (v := ?_) rfl (by kernel_rfl) (by kernel_rfl) (by kernel_rfl) (fun _ _ _ h => h) (Or.inl ⟨by rfl, ?_⟩) hHeld ?_
  rotate_left
  · intro w hSw; (try dsimp only at hSw); go_simp; try (with_reducible rfl)
  try simp only [sq]
  refine wpAnyH_take (i := 4) (v := ?_) rfl (by kernel_rfl) (by kernel_rfl) (by kernel_rfl) (fun _ _ _ h => h) (Or.inl ⟨by rfl, ?_⟩) hHeld ?_
  rotate_left
  · intro w hSw; (try dsimp only at hSw); go_simp; try (with_reducible rfl)
  try simp only [sq]
  refine wpAnyH_take (i := 5) (v := ?_) rfl (by kernel_rfl) (by kernel_rfl) (by kernel_rfl) (fun _ _ _ h => h) (Or.inl ⟨by rfl, ?_⟩) hHeld ?_
  rotate_left
  · intro w hSw; (try dsimp only at hSw); go_simp; try (with_reducible rfl)
  try simp only [sq]
  refine wpAnyH_take (i := 6) (v := ?_) rfl (by kernel_rfl) (by kernel_rfl) (by kernel_rfl) (fun _ _ _ h => h) (Or.inl ⟨by rfl, ?_⟩) hHeld ?_
  rotate_left
  · intro w hSw; (try dsimp only at hSw); go_simp; try (with_reducible rfl)
  try simp only [sq]
  refine wpAnyH_take (i := 7) (v := ?_) rfl (by kernel_rfl) (by kernel_rfl) (by kernel_rfl) (fun _ _ _ h => h) (Or.inl ⟨by rfl, ?_⟩) hHeld ?_
  rotate_left
  · intro w hSw; (try dsimp only at hSw); go_simp; try (with_reducible rfl)
  try simp only [sq]
  refine wpAnyH_take (i := 9) (v := ?_) rfl (by kernel_rfl) (by kernel_rfl) (by kernel_rfl) (fun _ _ _ h => h) (Or.inl ⟨by rfl, ?_⟩) hHeld ?_
  rotate_left
  · intro w hSw; (try dsimp only at hSw); go_simp; try (with_reducible rfl)
  try simp only [sq]
  refine wpAnyH_take (i := 10) (v := ?_) rfl (by kernel_rfl) (by kernel_rfl) (by kernel_rfl) (fun _ _ _ h => h) (Or.inl ⟨by rfl, ?_⟩) hHeld ?_
  rotate_left
  · intro w hSw; (try dsimp only at hSw); go_simp; try (with_reducible rfl)
  try simp only [sq]
  refine wpAnyH_take (i := 11) (v := ?_) rfl (by kernel_rfl) (by kernel_rfl) (by kernel_rfl) (fun _ _ _ h => h) (Or.inl ⟨by rfl, ?_⟩) hHeld ?_
  rotate_left
  · intro w hSw; (try dsimp only at hSw); go_simp; try (with_reducible rfl)
  try simp only [sq]
  refine wpAnyH_ready (rs := [8]) (by kernel_rfl) (by simp) ?_
  refine AllReadyH.cons rfl (fun K hK => ?_) AllReadyH.nil
  try simp only [sq]
  go_simp
  (first
      | (go_at_call 20; refine (HTI.out _ hz1).mono ?_; rintro e y2 ⟨rfl, hy2⟩; have hz2 := btrans hz1 hy2))
  go_wp2_with fail
  refine hK.out _ _ ?_ (fun hHeld => ?_)
  · (repeat' apply And.intro) <;> (repeat (first | with_reducible assumption | with_reducible refine keepdrew ?_ | with_reducible refine keepcell (by with_reducible assumption) ?_))
  clear hK K
  try simp only [sq]
  refine wpAnyH_ready (rs := [12]) (by kernel_rfl) (by simp) ?_
  refine AllReadyH.cons rfl (fun K hK => ?_) AllReadyH.nil
  try simp only [sq]
  go_simp
  (first
      | (go_at_call 21; refine (HTS.out _ hz2).mono ?_; rintro e y3 ⟨rfl, hy3⟩; have hz3 := btrans hz2 hy3))
  go_wp2_with fail
  refine hK.out _ _ ?_ (fun hHeld => ?_)
  · (repeat' apply And.intro) <;> (repeat (first | with_reducible assumption | with_reducible refine keepdrew ?_ | with_reducible refine keepcell (by with_reducible assumption) ?_))
  clear hK K
  try simp only [sq]
  refine wpAnyH_take (i := 13) (v := ?_) rfl (by kernel_rfl) (by kernel_rfl) (by kernel_rfl) (fun _ _ _ h => h) (Or.inl ⟨by rfl, ?_⟩) hHeld ?_
  rotate_left
  · intro w hSw; (try dsimp only at hSw); go_simp; try (with_reducible rfl)
  try simp only [sq]
  refine wpAnyH_take (i := 14) (v := ?_) rfl (by kernel_rfl) (by kernel_rfl) (by kernel_rfl) (fun _ _ _ h => h) (Or.inl ⟨by rfl, ?_⟩) hHeld ?_
  rotate_left
  · intro w hSw; (try dsimp only at hSw); go_simp; try (with_reducible rfl)
  try simp only [sq]
  refine wpAnyH_done (by kernel_rfl) ?_ _
  clear hHeld hy1 hy2 hy3 hz1 hz2 dv0 dv1 dw0 dw1 dq0 dq1 HSR HTS
  have HZ := hid hz3
  clear hz3
  generalize y3 = Y at *
  obtain ⟨dq0, dq1, _, _⟩ := cell2f (keepheap2 HZ.out gQ)
  go_wp2_with fail
  refine (HOK.out _ HZ.out).mono ?_
  rintro e y4 ⟨rfl, hy⟩
  replace HZ := hid (btrans HZ.out hy)
  clear hy dq0 dq1 HOK
  cases qb
  · skip
    generalize hrb : rowsb now rs = rb at HOR HMV HVO HVE HOV2
    clear hrb
    obtain ⟨ga0, ga1, _, _⟩ := cell2f (keepheap2 HZ.out gA)
    go_wp2_with fail
    refine (HOR.out _ HZ.out).mono ?_
    rintro e u1 ⟨rfl, hy⟩
    replace HZ := hid (btrans HZ.out hy)
    clear hy ga0 ga1 HOR
    cases rb
    · have hve := HVE.out rfl
      obtain ⟨ga0, ga1, _, _⟩ := cell2f (keepheap2 HZ.out gA)
      obtain ⟨gv0, gv1, _, _⟩ := cell2f (keepheap2 HZ.out gV)
      have HS := hid (HSV.out hve _ HZ.out)
      clear hve
      go_wp2_with fail
      refine HS.out.mono ?_
      rintro e u2 ⟨rfl, hy⟩
      replace HZ := hid (btrans HZ.out hy)
      clear hy HS
      go_wp2_with fail
      go_ret
      exact ⟨rfl, btrans HB4.out HZ.out⟩
    · replace HMV := hid (fun m hm => HMV.out m hm rfl)
      replace HVO := hid (HVO.out rfl)
      go_wp2_with fail
      go_loopw [15] (fun ti wr => ∃ m : Int, ti = .int .i64 m ∧ t ≤ m ∧ m ≤ 24 ∧ Hid (Below W4.heap.size W4 wr)) (fun ti _ => (25 - intOf ti).toNat)
      case atStart => exact ⟨t, rfl, Int.le_refl _, by omega, HZ⟩
      case round =>
        clear HZ
        obtain ⟨m, rfl, hm0, hm1, HZ⟩ := hrel
        by_cases hmn : m ≤ now
        · obtain ⟨hi1, hi2⟩ := HMV.out m hm0
          have HS := hid (HSM.out m hi1 hi2 _ HZ.out)
          have hwm : IntKind.i64.wrap (m + 1) = m + 1 := by rw [IntKind.wrap_i64]; omega
          clear hi1 hi2
          obtain ⟨ga0, ga1, _, _⟩ := cell2f (keepheap2 HZ.out gA)
          obtain ⟨gv0, gv1, _, _⟩ := cell2f (keepheap2 HZ.out gV)
          go_wp2_with fail
          refine HS.out.mono ?_
          rintro e u3 ⟨rfl, hy⟩
          replace HZ := hid (btrans HZ.out hy)
          clear hy HS ga0 ga1 gv0 gv1
          go_wp2_with fail
          go_roundw
          case rel => exact ⟨m + 1, rfl, by omega, by omega, HZ⟩
          case measure => simp [intOf]; omega
        · have hmn2 : now < m := by omega
          obtain ⟨ga0, ga1, _, _⟩ := cell2f (keepheap2 HZ.out gA)
          obtain ⟨gv0, gv1, _, _⟩ := cell2f (keepheap2 HZ.out gV)
          have hvr := HVO.out
          go_wp2_with fail
          refine (HOV.out _ HZ.out).mono ?_
          rw [hvr]
          rintro e u4 ⟨rfl, hy⟩
          replace HZ := hid (btrans HZ.out hy)
          clear hy ga0 ga1 gv0 gv1 hvr
          have hle : (vs.length : Int) ≤ (rs.length : Int) := by omega
          obtain ⟨ga0, ga1, _, _⟩ := cell2f (keepheap2 HZ.out gA)
          obtain ⟨gv0, gv1, _, _⟩ := cell2f (keepheap2 HZ.out gV)
          go_wp2_with fail
          go_ret
          exact ⟨rfl, btrans HB4.out HZ.out⟩
  by_cases hsi : 0 ≤ si
  rotate_left
  · have hsi2 : si < 0 := by omega
    generalize hrb : rowsb now rs = rb at HOR HMV HVO HVE HOV2
    clear hrb
    obtain ⟨ga0, ga1, _, _⟩ := cell2f (keepheap2 HZ.out gA)
    go_wp2_with fail
    refine (HOR.out _ HZ.out).mono ?_
    rintro e u1 ⟨rfl, hy⟩
    replace HZ := hid (btrans HZ.out hy)
    clear hy ga0 ga1 HOR
    cases rb
    · have hve := HVE.out rfl
      obtain ⟨ga0, ga1, _, _⟩ := cell2f (keepheap2 HZ.out gA)
      obtain ⟨gv0, gv1, _, _⟩ := cell2f (keepheap2 HZ.out gV)
      have HS := hid (HSV.out hve _ HZ.out)
      clear hve
      go_wp2_with fail
      refine HS.out.mono ?_
      rintro e u2 ⟨rfl, hy⟩
      replace HZ := hid (btrans HZ.out hy)
      clear hy HS
      go_wp2_with fail
      go_ret
      exact ⟨rfl, btrans HB4.out HZ.out⟩
    · replace HMV := hid (fun m hm => HMV.out m hm rfl)
      replace HVO := hid (HVO.out rfl)
      go_wp2_with fail
      go_loopw [15] (fun ti wr => ∃ m : Int, ti = .int .i64 m ∧ t ≤ m ∧ m ≤ 24 ∧ Hid (Below W4.heap.size W4 wr)) (fun ti _ => (25 - intOf ti).toNat)
      case atStart => exact ⟨t, rfl, Int.le_refl _, by omega, HZ⟩
      case round =>
        clear HZ
        obtain ⟨m, rfl, hm0, hm1, HZ⟩ := hrel
        by_cases hmn : m ≤ now
        · obtain ⟨hi1, hi2⟩ := HMV.out m hm0
          have HS := hid (HSM.out m hi1 hi2 _ HZ.out)
          have hwm : IntKind.i64.wrap (m + 1) = m + 1 := by rw [IntKind.wrap_i64]; omega
          clear hi1 hi2
          obtain ⟨ga0, ga1, _, _⟩ := cell2f (keepheap2 HZ.out gA)
          obtain ⟨gv0, gv1, _, _⟩ := cell2f (keepheap2 HZ.out gV)
          go_wp2_with fail
          refine HS.out.mono ?_
          rintro e u3 ⟨rfl, hy⟩
          replace HZ := hid (btrans HZ.out hy)
          clear hy HS ga0 ga1 gv0 gv1
          go_wp2_with fail
          go_roundw
          case rel => exact ⟨m + 1, rfl, by omega, by omega, HZ⟩
          case measure => simp [intOf]; omega
        · have hmn2 : now < m := by omega
          obtain ⟨ga0, ga1, _, _⟩ := cell2f (keepheap2 HZ.out gA)
          obtain ⟨gv0, gv1, _, _⟩ := cell2f (keepheap2 HZ.out gV)
          have hvr := HVO.out
          go_wp2_with fail
          refine (HOV.out _ HZ.out).mono ?_
          rw [hvr]
          rintro e u4 ⟨rfl, hy⟩
          replace HZ := hid (btrans HZ.out hy)
          clear hy ga0 ga1 gv0 gv1 hvr
          have hle : (vs.length : Int) ≤ (rs.length : Int) := by omega
          obtain ⟨ga0, ga1, _, _⟩ := cell2f (keepheap2 HZ.out gA)
          obtain ⟨gv0, gv1, _, _⟩ := cell2f (keepheap2 HZ.out gV)
          go_wp2_with fail
          go_ret
          exact ⟨rfl, btrans HB4.out HZ.out⟩
  obtain ⟨gq0, gq1, _, _⟩ := cell2f (keepheap2 HZ.out gQ)
  go_wp2_with fail
  refine (HTI.out _ HZ.out).mono ?_
  rintro e y5 ⟨rfl, hy⟩
  replace HZ := hid (btrans HZ.out hy)
  clear hy gq0 gq1
  cases tb
  rotate_left
  · skip
    generalize hrb : rowsb now rs = rb at HOR HMV HVO HVE HOV2
    clear hrb
    obtain ⟨ga0, ga1, _, _⟩ := cell2f (keepheap2 HZ.out gA)
    go_wp2_with fail
    refine (HOR.out _ HZ.out).mono ?_
    rintro e u1 ⟨rfl, hy⟩
    replace HZ := hid (btrans HZ.out hy)
    clear hy ga0 ga1 HOR
    cases rb
    · have hve := HVE.out rfl
      obtain ⟨ga0, ga1, _, _⟩ := cell2f (keepheap2 HZ.out gA)
      obtain ⟨gv0, gv1, _, _⟩ := cell2f (keepheap2 HZ.out gV)
      have HS := hid (HSV.out hve _ HZ.out)
      clear hve
      go_wp2_with fail
      refine HS.out.mono ?_
      rintro e u2 ⟨rfl, hy⟩
      replace HZ := hid (btrans HZ.out hy)
      clear hy HS
      go_wp2_with fail
      go_ret
      exact ⟨rfl, btrans HB4.out HZ.out⟩
    · replace HMV := hid (fun m hm => HMV.out m hm rfl)
      replace HVO := hid (HVO.out rfl)
      go_wp2_with fail
      go_loopw [15] (fun ti wr => ∃ m : Int, ti = .int .i64 m ∧ t ≤ m ∧ m ≤ 24 ∧ Hid (Below W4.heap.size W4 wr)) (fun ti _ => (25 - intOf ti).toNat)
      case atStart => exact ⟨t, rfl, Int.le_refl _, by omega, HZ⟩
      case round =>
        clear HZ
        obtain ⟨m, rfl, hm0, hm1, HZ⟩ := hrel
        by_cases hmn : m ≤ now
        · obtain ⟨hi1, hi2⟩ := HMV.out m hm0
          have HS := hid (HSM.out m hi1 hi2 _ HZ.out)
          have hwm : IntKind.i64.wrap (m + 1) = m + 1 := by rw [IntKind.wrap_i64]; omega
          clear hi1 hi2
          obtain ⟨ga0, ga1, _, _⟩ := cell2f (keepheap2 HZ.out gA)
          obtain ⟨gv0, gv1, _, _⟩ := cell2f (keepheap2 HZ.out gV)
          go_wp2_with fail
          refine HS.out.mono ?_
          rintro e u3 ⟨rfl, hy⟩
          replace HZ := hid (btrans HZ.out hy)
          clear hy HS ga0 ga1 gv0 gv1
          go_wp2_with fail
          go_roundw
          case rel => exact ⟨m + 1, rfl, by omega, by omega, HZ⟩
          case measure => simp [intOf]; omega
        · have hmn2 : now < m := by omega
          obtain ⟨ga0, ga1, _, _⟩ := cell2f (keepheap2 HZ.out gA)
          obtain ⟨gv0, gv1, _, _⟩ := cell2f (keepheap2 HZ.out gV)
          have hvr := HVO.out
          go_wp2_with fail
          refine (HOV.out _ HZ.out).mono ?_
          rw [hvr]
          rintro e u4 ⟨rfl, hy⟩
          replace HZ := hid (btrans HZ.out hy)
          clear hy ga0 ga1 gv0 gv1 hvr
          have hle : (vs.length : Int) ≤ (rs.length : Int) := by omega
          obtain ⟨ga0, ga1, _, _⟩ := cell2f (keepheap2 HZ.out gA)
          obtain ⟨gv0, gv1, _, _⟩ := cell2f (keepheap2 HZ.out gV)
          go_wp2_with fail
          go_ret
          exact ⟨rfl, btrans HB4.out HZ.out⟩
  have HTM2 := hid (HTM.out (by first | rfl | trivial) (by first | rfl | trivial) hsi)
  go_wp2_with fail
  go_loopw [10] (fun ti wr => ∃ m : Int, ti = .int .i64 m ∧ si ≤ m ∧ m ≤ 24 ∧ Hid (Below W4.heap.size W4 wr)) (fun ti _ => (25 - intOf ti).toNat)
  case atStart => exact ⟨si, rfl, Int.le_refl _, by omega, HZ⟩
  case round =>
    clear HZ
    obtain ⟨m, rfl, hm0, hm1, HZ⟩ := hrel
    obtain ⟨gq0, gq1, _, _⟩ := cell2f (keepheap2 HZ.out gQ)
    by_cases hmn : m ≤ qn
    · have hwm : IntKind.i64.wrap (m + 1) = m + 1 := by rw [IntKind.wrap_i64]; omega
      have hsame := HTM2.out m hm0
      have HR1 := hid (HRQ.out si)
      have HR2 := hid (HRQ.out m)
      rw [hsame] at HR2
      have hlq := HLQ.out si
      generalize (ratb qn qs id si).isSome = ob at *
      generalize raP (ratb qn qs id si) = rp at *
      generalize raK (ratb qn qs id si) = rk at *
      clear hsame
      have hoo : (ob != ob) = false := by cases ob <;> rfl
      go_wp2_with fail
      refine (HR1.out _ HZ.out).mono ?_
      rintro e z1 ⟨a1, p1, rfl, hp1, hpt1, _, hy⟩
      have hP1 := ra_pts hpt1
      go_upto_region 14 with fail
      have gX := heap_alloc_new z1 (.cells #[.int .i64 rk, .slice a1 rp.length p1] 37)
      have hal : Below z1.heap.size z1 (z1.alloc (.cells #[.int .i64 rk, .slice a1 rp.length p1] 37)) := balloc (Below.refl _ _) _
      replace HZ := hid (btrans HZ.out (btrans hy hal))
      have HP1 := hid (hP1.below hal)
      clear hy hal hP1 hpt1 gq0 gq1 HR1
      generalize z1.alloc (.cells #[.int .i64 rk, .slice a1 rp.length p1] 37) = Z1 at *
      generalize z1.heap.size = X at *
      obtain ⟨gq0, gq1, _, _⟩ := cell2f (keepheap2 HZ.out gQ)
      go_wp2_with fail
      refine (HR2.out _ HZ.out).mono ?_
      rintro e z2 ⟨a2, p2, rfl, hp2, hpt2, _, hy⟩
      have hP2 := ra_pts hpt2
      go_upto_region 15 with fail
      have gY := heap_alloc_new z2 (.cells #[.int .i64 rk, .slice a2 rp.length p2] 37)
      have hal : Below z2.heap.size z2 (z2.alloc (.cells #[.int .i64 rk, .slice a2 rp.length p2] 37)) := balloc (Below.refl _ _) _
      replace gX := keepheap2 (btrans hy hal) gX
      replace HZ := hid (btrans HZ.out (btrans hy hal))
      replace HP1 := hid (HP1.out.below (btrans hy hal))
      have HP2 := hid (hP2.below hal)
      clear hy hal hP2 hpt2 gq0 gq1 HR2
      generalize z2.alloc (.cells #[.int .i64 rk, .slice a2 rp.length p2] 37) = Z2 at *
      generalize z2.heap.size = Yb at *
      obtain ⟨x0, x1, _, _⟩ := cell2f gX
      obtain ⟨w0, w1, _, _⟩ := cell2f gY
      have HS := hid (same_shp rk a1 a2 p1 p2 rp _ hlq hp1 hp2 HP1.out HP2.out)
      go_wp2_with fail
      refine HS.out.mono ?_
      rintro e z3 ⟨rfl, hy⟩
      replace HZ := hid (btrans HZ.out hy)
      clear hy HS x0 x1 w0 w1
      go_wp2_with fail
      go_roundw
      case rel => exact ⟨m + 1, rfl, by omega, by omega, HZ⟩
      case measure => simp [intOf]; omega
    · have hmn2 : qn < m := by omega
      generalize hrb : rowsb now rs = rb at HOR HMV HVO HVE HOV2
      clear hrb
      obtain ⟨ga0, ga1, _, _⟩ := cell2f (keepheap2 HZ.out gA)
      go_wp2_with fail
      refine (HOR.out _ HZ.out).mono ?_
      rintro e u1 ⟨rfl, hy⟩
      replace HZ := hid (btrans HZ.out hy)
      clear hy ga0 ga1 HOR
      cases rb
      · have hve := HVE.out rfl
        obtain ⟨ga0, ga1, _, _⟩ := cell2f (keepheap2 HZ.out gA)
        obtain ⟨gv0, gv1, _, _⟩ := cell2f (keepheap2 HZ.out gV)
        have HS := hid (HSV.out hve _ HZ.out)
        clear hve
        go_wp2_with fail
        refine HS.out.mono ?_
        rintro e u2 ⟨rfl, hy⟩
        replace HZ := hid (btrans HZ.out hy)
        clear hy HS
        go_wp2_with fail
        go_ret
        exact ⟨rfl, btrans HB4.out HZ.out⟩
      · replace HMV := hid (fun m hm => HMV.out m hm rfl)
        replace HVO := hid (HVO.out rfl)
        go_wp2_with fail
        go_loopw [15] (fun ti wr => ∃ m : Int, ti = .int .i64 m ∧ t ≤ m ∧ m ≤ 24 ∧ Hid (Below W4.heap.size W4 wr)) (fun ti _ => (25 - intOf ti).toNat)
        case atStart => exact ⟨t, rfl, Int.le_refl _, by omega, HZ⟩
        case round =>
          clear HZ
          obtain ⟨m, rfl, hm0, hm1, HZ⟩ := hrel
          by_cases hmn : m ≤ now
          · obtain ⟨hi1, hi2⟩ := HMV.out m hm0
            have HS := hid (HSM.out m hi1 hi2 _ HZ.out)
            have hwm : IntKind.i64.wrap (m + 1) = m + 1 := by rw [IntKind.wrap_i64]; omega
            clear hi1 hi2
            obtain ⟨ga0, ga1, _, _⟩ := cell2f (keepheap2 HZ.out gA)
            obtain ⟨gv0, gv1, _, _⟩ := cell2f (keepheap2 HZ.out gV)
            go_wp2_with fail
            refine HS.out.mono ?_
            rintro e u3 ⟨rfl, hy⟩
            replace HZ := hid (btrans HZ.out hy)
            clear hy HS ga0 ga1 gv0 gv1
            go_wp2_with fail
            go_roundw
            case rel => exact ⟨m + 1, rfl, by omega, by omega, HZ⟩
            case measure => simp [intOf]; omega
          · have hmn2 : now < m := by omega
            obtain ⟨ga0, ga1, _, _⟩ := cell2f (keepheap2 HZ.out gA)
            obtain ⟨gv0, gv1, _, _⟩ := cell2f (keepheap2 HZ.out gV)
            have hvr := HVO.out
            go_wp2_with fail
            refine (HOV.out _ HZ.out).mono ?_
            rw [hvr]
            rintro e u4 ⟨rfl, hy⟩
            replace HZ := hid (btrans HZ.out hy)
            clear hy ga0 ga1 gv0 gv1 hvr
            have hle : (vs.length : Int) ≤ (rs.length : Int) := by omega
            obtain ⟨ga0, ga1, _, _⟩ := cell2f (keepheap2 HZ.out gA)
            obtain ⟨gv0, gv1, _, _⟩ := cell2f (keepheap2 HZ.out gV)
            go_wp2_with fail
            go_ret
            exact ⟨rfl, btrans HB4.out HZ.out⟩
end Go.Proofs.YtfognoicnkphpaaGreat
