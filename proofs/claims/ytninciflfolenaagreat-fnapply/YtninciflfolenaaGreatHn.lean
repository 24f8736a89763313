/- The walk of FnApply. -/
import Derived.Test.YtninciflfolenaaGreatJ16
import Derived.Test.YtninciflfolenaaGreatHm
import Derived.Test.YtninciflfolenaaGreatHj
import Derived.Test.YtninciflfolenaaGreatJ18
namespace Go.Proofs.YtninciflfolenaaGreat
open Go.RowKit
set_option linter.unusedSimpArgs false
set_option linter.unusedVariables false
theorem idsb_leA (now : Int) (rs : List Rw) (m : Int) : (idsb now rs m).length ≤ rs.length := by
  unfold idsb
  split
  · rw [srt_len]
    unfold idsT
    rw [List.length_map]
    exact List.length_filter_le _ _
  · simp
/-- What RowAt told, in a variable, there or not. -/
def RQ3 (W : World) (rk : Int) (rp : List (Int × Int)) (ob : Bool) (tv tb : Value) (wx : World) : Prop := ∃ X a' c', tv = .pointer (some ⟨X, 0, none⟩) ∧ tb = .bool ob ∧ wx.heap[X]? = some (.cells #[.int .i64 rk, .slice a' rp.length c'] 37 (0, 0)) ∧ rp.length ≤ c' ∧ Pts wx a' rp ∧ Below W.heap.size W wx
theorem RQ3.mk {W wx : World} {rk : Int} {rp : List (Int × Int)} {ob : Bool} {X c' : Nat} {a' : Option Addr} (h1 : wx.heap[X]? = some (.cells #[.int .i64 rk, .slice a' rp.length c'] 37 (0, 0))) (h2 : rp.length ≤ c') (h3 : Pts wx a' rp) (h4 : Below W.heap.size W wx) : RQ3 W rk rp ob (.pointer (some ⟨X, 0, none⟩)) (.bool ob) wx := ⟨X, a', c', rfl, rfl, h1, h2, h3, h4⟩
theorem any_take {cs : List Ch} {id : Int} {i : Nat} (hi : i < cs.length) : (cs.take (i + 1)).any (fun c => decide (c.1 = id)) = ((cs.take i).any (fun c => decide (c.1 = id)) || decide (cs[i].1 = id)) := by
  rw [List.take_add_one, List.getElem?_eq_getElem hi, List.any_append]
  simp
set_option maxRecDepth 100000 in
set_option maxHeartbeats 64000000 in
theorem apply_fw (a0 : Option Addr) (len0 cap0 : Nat) (z0 : List Int) (w : World) (w0 : IsRow .u8 w a0 len0 cap0 z0) :
    Calls Tryz.prog 3 #[.slice a0 len0 cap0] w fun e w' => e = .returned (.bool true) ∧ Below w.heap.size w w' := by
  have hlen := len_of w0
  by_cases hbig : len0 ≤ 1048576
  rotate_left
  · have hd : 1048576 < (len0 : Int) := by omega
    clear w0
    go_enter Tryz.func3, Tryz.ntmps3
    go_wp2_with (go_at_call 4; go_in)
    go_ret
    exact ⟨rfl, Below.refl _ _⟩
  have hc := code_of w0 hbig
  have hd : (len0 : Int) ≤ 1048576 := by omega
  have HC := hid hc
  clear hc w0
  go_enter Tryz.func3, Tryz.ntmps3
  go_wp2_with (go_at_call 4; go_in)
  refine (draw_app _ a0 len0 cap0 HC.out).mono ?_
  rintro e v1 hda
  obtain ⟨now, ra, rc, rs, xs, cs, ca, cc, rfl, ⟨hn0, hn1⟩, hrl, hcl, hX, hCH, hB⟩ := hda
  go_upto_region 4 with fail
  have gA := heap_alloc_new v1 (.cells #[.int .i64 now, .slice ra rs.length rc] 26)
  have hal : Below v1.heap.size v1 (v1.alloc (.cells #[.int .i64 now, .slice ra rs.length rc] 26)) := balloc (Below.refl _ _) _
  replace hB := btrans hB hal
  have HX := hid (hX.below hal)
  have HCH := hid (hCH.below hal)
  clear hal hX hCH HC
  generalize v1.alloc (.cells #[.int .i64 now, .slice ra rs.length rc] 26) = W1 at *
  generalize v1.heap.size = A at *
  have HRG := hid HX.out.rwsG
  have HRR := hid HX.out.rws
  clear HX
  have HAS := hid (fun (W : World) (h1 : RwsG W ra rs) (h2 : Rws (fun _ => True) W ra rs) (h3 : Chs (fun _ => True) 1099511627776 W ca cs) => spec_ApplyG now ra rc rs ca cc cs W (by omega) h1 h2 (by omega) h3)
  obtain ⟨d0, d1, _, _⟩ := cell2f gA
  go_wp2_with fail
  refine (impl_ApplyG now ra rc rs ca cc cs _ (by omega) HRG.out HRR.out (by omega) HCH.out).mono ?_
  rintro e v2 har
  obtain ⟨sv, sx, rfl, hSX, hb⟩ := har
  obtain ⟨sa, sc, hse⟩ := kept_form hSX
  subst hse
  have hsl : (aprs now rs cs).length ≤ 302 := by
    unfold aprs
    split
    · rename_i e
      unfold apb at e
      simp only [Bool.and_eq_true, decide_eq_true_eq] at e
      rw [apl_len]; omega
    · omega
  have HNO : Hid (apb now rs cs = false → apnow now rs cs = now ∧ aprs now rs cs = rs) := hid apb_no
  have HYE : Hid (apb now rs cs = true → apnow now rs cs = now + 1 ∧ rowsb (now + 1) (aprs now rs cs) = true ∧ (∀ m, m ≤ now → idsb now rs m = idsb (now + 1) (aprs now rs cs) m ∧ ∀ id, raK (ratb now rs id m) = raK (ratb (now + 1) (aprs now rs cs) id m) ∧ raP (ratb now rs id m) = raP (ratb (now + 1) (aprs now rs cs) id m) ∧ (ratb now rs id m).isSome = (ratb (now + 1) (aprs now rs cs) id m).isSome) ∧ (∀ c ∈ cs, ratb (now + 1) (aprs now rs cs) c.1 (now + 1) = if c.2.1 = true then none else some (newR (now + 1) c)) ∧ (∀ id, (∀ c ∈ cs, c.1 ≠ id) → ratb (now + 1) (aprs now rs cs) id (now + 1) = ratb now rs id now)) := hid (fun h => by
    obtain ⟨q1, q2⟩ := apb_yes h
    rw [q2]
    refine ⟨q1, ap_rows h, fun m hm => ⟨((ap_past (id := 0) h hm).1).symm, fun id => ?_⟩, fun c hc => ap_chg h hc, fun id hn => ap_same h hn⟩
    obtain ⟨p1, p2, p3⟩ := sh_parts (ap_past (id := id) h hm).2
    exact ⟨p1.symm, p2.symm, p3.symm⟩)
  unfold APR at HAS
  generalize aprs now rs cs = ss at *
  generalize apnow now rs cs = sn at *
  generalize apb now rs cs = ab at *
  go_upto_region 5 with fail
  have gS := heap_alloc_new v2 (.cells #[.int .i64 sn, .slice sa ss.length sc] 26)
  have hal : Below v2.heap.size v2 (v2.alloc (.cells #[.int .i64 sn, .slice sa ss.length sc] 26)) := balloc (Below.refl _ _) _
  replace gA := keepheap2 (btrans hb hal) gA
  replace HRG := hid (HRG.out.below (btrans hb hal))
  replace HRR := hid (HRR.out.below (btrans hb hal))
  replace HCH := hid (HCH.out.below (btrans hb hal))
  replace hB := btrans hB (btrans hb hal)
  have HS := hid (hSX.rws.below hal)
  clear hal hb hSX d0 d1
  generalize v2.alloc (.cells #[.int .i64 sn, .slice sa ss.length sc] 26) = W2 at *
  generalize v2.heap.size = Sb at *
  obtain ⟨d0, d1, _, _⟩ := cell2f gA
  go_wp2_with fail
  refine (HAS.out _ HRG.out HRR.out HCH.out).mono ?_
  rintro e v3 ⟨wv, wx, rfl, hWX, hb⟩
  obtain ⟨wa, wcp, hwe⟩ := kept_form hWX
  subst hwe
  go_upto_region 6 with fail
  have gW := heap_alloc_new v3 (.cells #[.int .i64 sn, .slice wa ss.length wcp] 26)
  have hal : Below v3.heap.size v3 (v3.alloc (.cells #[.int .i64 sn, .slice wa ss.length wcp] 26)) := balloc (Below.refl _ _) _
  replace gA := keepheap2 (btrans hb hal) gA
  replace gS := keepheap2 (btrans hb hal) gS
  replace HRR := hid (HRR.out.below (btrans hb hal))
  replace HCH := hid (HCH.out.below (btrans hb hal))
  replace HS := hid (HS.out.below (btrans hb hal))
  replace hB := btrans hB (btrans hb hal)
  have HW := hid (hWX.rws.below hal)
  clear hal hb hWX d0 d1 HAS HRG
  generalize v3.alloc (.cells #[.int .i64 sn, .slice wa ss.length wcp] 26) = W4 at *
  generalize v3.heap.size = Wb at *
  have HSR := hid (fun (W : World) (hq : Below W4.heap.size W4 W) => same_rows sn sa wa sc wcp ss W (by omega) (HS.out.below hq) (HW.out.below hq))
  have HOI := hid (fun (W : World) (hq : Below W4.heap.size W4 W) => impl_RowsOk now ra rc rs W (by omega) (HRR.out.below hq))
  have HOS := hid (fun (W : World) (hq : Below W4.heap.size W4 W) => spec_RowsOk now ra rc rs W (by omega) (HRR.out.below hq))
  have HSV : Hid (sn = now → ss = rs → ∀ (W : World) (hq : Below W4.heap.size W4 W), Calls Tryz.prog 8 #[.agg #[.int .i64 sn, .slice sa ss.length sc], .agg #[.int .i64 now, .slice ra rs.length rc]] W fun e w' => e = .returned (.bool true) ∧ Below W.heap.size W w') := hid (fun e1 e W hq => by have h1 := HS.out.below hq; rw [e1]; rw [e] at h1 ⊢; exact same_rows now sa ra sc rc rs W (by omega) h1 (HRR.out.below hq))
  have HSM : Hid (∀ m, idsb now rs m = idsb (now + 1) ss m → (∀ id, raK (ratb now rs id m) = raK (ratb (now + 1) ss id m) ∧ raP (ratb now rs id m) = raP (ratb (now + 1) ss id m) ∧ (ratb now rs id m).isSome = (ratb (now + 1) ss id m).isSome) → ∀ (W : World) (hq : Below W4.heap.size W4 W), Calls Tryz.prog 11 #[.agg #[.int .i64 (now + 1), .slice sa ss.length sc], .int .i64 m, .agg #[.int .i64 now, .slice ra rs.length rc], .int .i64 m] W fun e w' => e = .returned (.bool true) ∧ Below W.heap.size W w') := hid (fun m h1 h2 W hq => same_moment (now + 1) now sa ra sc rc ss rs m W (by omega) (by omega) (by have := idsb_leA (now + 1) ss m; omega) (HS.out.below hq) (HRR.out.below hq) h1 h2)
  have HRS := hid (fun (id : Int) (W : World) (hq : Below W4.heap.size W4 W) => impl_RowAt (now + 1) sa sc ss id (now + 1) W (by omega) (HS.out.below hq))
  have HLS : Hid (∀ id, (raP (ratb (now + 1) ss id (now + 1))).length ≤ 1099511627776) := hid (fun id => rat_len HS.out)
  have HRA := hid (fun (id : Int) (W : World) (hq : Below W4.heap.size W4 W) => impl_RowAt now ra rc rs id now W (by omega) (HRR.out.below hq))
  have HLA : Hid (∀ id, (raP (ratb now rs id now)).length ≤ 1099511627776) := hid (fun id => rat_len HRR.out)
  have HIA := hid (fun (W : World) (hq : Below W4.heap.size W4 W) => impl_IdsAt now ra rc rs now W (by omega) (HRR.out.below hq))
  have HIS : Hid (∀ id ∈ idsb now rs now, (ratb now rs id now).isSome = true) := hid (fun id h => ids_some h)
  have hil := idsb_leA now rs now
  have HOV := hid (fun (W : World) (hq : Below W4.heap.size W4 W) => impl_RowsOk (now + 1) sa sc ss W (by omega) (HS.out.below hq))
  unfold IA at HIA
  clear HRR HS HW
  obtain ⟨da0, da1, _, _⟩ := cell2f gA
  obtain ⟨ds0, ds1, _, _⟩ := cell2f gS
  obtain ⟨dw0, dw1, _, _⟩ := cell2f gW
  have HB4 := hid hB
  clear hB
  generalize rowsb now rs = rb at HOI HOS
  have hrr : (rb != rb) = false := by cases rb <;> rfl
  have haa : (ab != ab) = false := by cases ab <;> rfl
  refine wp_region_held_drew (S := (fun w' => w'.cell? ⟨A, 0, none⟩ = some (.int .i64 now) ∧ w'.cell? ⟨A, 1, none⟩ = some (.slice ra rs.length rc) ∧ w'.cell? ⟨Sb, 0, none⟩ = some (.int .i64 sn) ∧ w'.cell? ⟨Sb, 1, none⟩ = some (.slice sa ss.length sc) ∧ w'.cell? ⟨Wb, 0, none⟩ = some (.int .i64 sn) ∧ w'.cell? ⟨Wb, 1, none⟩ = some (.slice wa ss.length wcp))) (by kernel_rfl) ?_ (fun hHeld => ?_)
  · (repeat' apply And.intro) <;> (repeat (first | with_reducible assumption | with_reducible refine keepdrew ?_ | with_reducible refine keepcell (by with_reducible assumption) ?_))
  refine wpAnyH_take (i := 0) (v := ?_) rfl (by kernel_rfl) (by kernel_rfl) (by kernel_rfl) (fun _ _ _ h => h) (Or.inl ⟨by rfl, ?_⟩) hHeld ?_
  rotate_left
  · intro w hSw; (try dsimp only at hSw); go_simp; try (with_reducible rfl)
  try simp only [sq]
  refine wpAnyH_take (i := 1) (v := ?_) rfl (by kernel_rfl) (by kernel_rfl) (by kernel_rfl) (fun _ _ _ h => h) (Or.inl ⟨by rfl, ?_⟩) hHeld ?_
  rotate_left
  · intro w hSw; (try dsimp only at hSw); go_simp; try (with_reducible rfl)
  try simp only [sq]
  refine wpAnyH_take (i := 2) (v := ?_) rfl (by kernel_rfl) (by kernel_rfl) (by kernel_rfl) (fun _ _ _ h => h) (Or.inl ⟨by rfl, ?_⟩) hHeld ?_
  rotate_left
  · intro w hSw; (try dsimp only at hSw); go_simp; try (with_reducible rfl)
  try simp only [sq]
  refine wpAnyH_take (i := 3) (v := ?_) rfl (by kernel_rfl) (by kernel_rfl) (by kernel_rfl) (fun _ _ _ h => h) (Or.inl ⟨by rfl, ?_⟩) hHeld ?_
  rotate_left
  · intro w hSw; (try dsimp only at hSw); go_simp; try (with_reducible rfl)
  try simp only [sq]
  refine wpAnyH_take (i := 4) (v := ?_) rfl (by kernel_rfl) (by kernel_rfl) (by kernel_rfl) (fun _ _ _ h => h) (Or.inl ⟨by rfl, ?_⟩) hHeld ?_
  rotate_left
  · intro w hSw; (try dsimp only at hSw); go_simp; try (with_reducible rfl)
  try simp only [sq]
  refine wpAnyH_take (i := 5) (v := ?_) rfl (by kernel_rfl) (by kernel_rfl) (by kernel_rfl) (fun _ _ _ h => h) (Or.inl ⟨by rfl, ?_⟩) hHeld ?_
  rotate_left
  · intro w hSw; (try dsimp only at hSw); go_simp; try (with_reducible rfl)
  try simp only [sq]
  refine wpAnyH_ready (rs := [6]) (by kernel_rfl) (by simp) ?_
  refine AllReadyH.cons rfl (fun K hK => ?_) AllReadyH.nil
  try simp only [sq]
  go_simp
  (first
      | (go_at_call 8; refine (HSR.out _ (bdrew (Below.refl _ _))).mono ?_; rintro e y1 ⟨rfl, hy1⟩; have hz1 := btrans (bdrew (Below.refl W4.heap.size W4)) hy1))
  go_wp2_with fail
  refine hK.out _ _ ?_ (fun hHeld => ?_)
  · (repeat' apply And.intro) <;> (repeat (first | with_reducible assumption | with_reducible refine keepdrew ?_ | with_reducible refine keepcell (by with_reducible assumption) ?_))
  clear hK K
  try simp only [sq]
  refine wpAnyH_take (i := 7) (v := ?_) rfl (by kernel_rfl) (by kernel_rfl) (by kernel_rfl) (fun _ _ _ h => h) (Or.inl ⟨by rfl, ?_⟩) hHeld ?_
  rotate_left
  · intro w hSw; (try dsimp only at hSw); go_simp; try (with_reducible rfl)
  try simp only [sq]
  refine wpAnyH_take (i := 8) (v := ?_) rfl (by kernel_rfl) (by kernel_rfl) (by kernel_rfl) (fun _ _ _ h => h) (Or.inl ⟨by rfl, ?_⟩) hHeld ?_
  rotate_left
  · intro w hSw; (try dsimp only at hSw); go_simp; try (with_reducible rfl)
  try simp only [sq]
  refine wpAnyH_take (i := 9) (v := ?_) rfl (by kernel_rfl) (by kernel_rfl) (by kernel_rfl) (fun _ _ _ h => h) (Or.inl ⟨by rfl, ?_⟩) hHeld ?_
  rotate_left
  · intro w hSw; (try dsimp only at hSw); go_simp; try (with_reducible rfl)
  try simp only [sq]
  refine wpAnyH_take (i := 10) (v := ?_) rfl (by kernel_rfl) (by kernel_rfl) (by kernel_rfl) (fun _ _ _ h => h) (Or.inl ⟨by rfl, ?_⟩) hHeld ?_
  rotate_left
  · intro w hSw; (try dsimp only at hSw); go_simp; try (with_reducible rfl)
  try simp only [sq]
  refine wpAnyH_take (i := 12) (v := ?_) rfl (by kernel_rfl) (by kernel_rfl) (by kernel_rfl) (fun _ _ _ h => h) (Or.inl ⟨by rfl, ?_⟩) hHeld ?_
  rotate_left
  · intro w hSw; (try dsimp only at hSw); go_simp; try (with_reducible rfl)
  try simp only [sq]
  refine wpAnyH_ready (rs := [11]) (by kernel_rfl) (by simp) ?_
  refine AllReadyH.cons rfl (fun K hK => ?_) AllReadyH.nil
  try simp only [sq]
  go_simp
  (first
      | (go_at_call 9; refine (HOI.out _ hz1).mono ?_; rintro e y2 ⟨rfl, hy2⟩; have hz2 := btrans hz1 hy2))
  go_wp2_with fail
  refine hK.out _ _ ?_ (fun hHeld => ?_)
  · (repeat' apply And.intro) <;> (repeat (first | with_reducible assumption | with_reducible refine keepdrew ?_ | with_reducible refine keepcell (by with_reducible assumption) ?_))
  clear hK K
  try simp only [sq]
  refine wpAnyH_ready (rs := [13]) (by kernel_rfl) (by simp) ?_
  refine AllReadyH.cons rfl (fun K hK => ?_) AllReadyH.nil
  try simp only [sq]
  go_simp
  (first
      | (go_at_call 10; refine (HOS.out _ hz2).mono ?_; rintro e y3 ⟨rfl, hy3⟩; have hz3 := btrans hz2 hy3))
  go_wp2_with fail
  refine hK.out _ _ ?_ (fun hHeld => ?_)
  · (repeat' apply And.intro) <;> (repeat (first | with_reducible assumption | with_reducible refine keepdrew ?_ | with_reducible refine keepcell (by with_reducible assumption) ?_))
  clear hK K
  try simp only [sq]
  refine wpAnyH_take (i := 14) (v := ?_) rfl (by kernel_rfl) (by kernel_rfl) (by kernel_rfl) (fun _ _ _ h => h) (Or.inl ⟨by rfl, ?_⟩) hHeld ?_
  rotate_left
  · intro w hSw; (try dsimp only at hSw); go_simp; try (with_reducible rfl)
  try simp only [sq]
  refine wpAnyH_take (i := 15) (v := ?_) rfl (by kernel_rfl) (by kernel_rfl) (by kernel_rfl) (fun _ _ _ h => h) (Or.inl ⟨by rfl, ?_⟩) hHeld ?_
  rotate_left
  · intro w hSw; (try dsimp only at hSw); go_simp; try (with_reducible rfl)
  try simp only [sq]
  refine wpAnyH_done (by kernel_rfl) ?_ _
  clear hHeld hy1 hy2 hy3 hz1 hz2 da0 da1 ds0 ds1 dw0 dw1 HSR HOI HOS hrr gW
  have HZ := hid hz3
  clear hz3
  generalize y3 = Y at *
  cases ab
  · obtain ⟨e1, e2⟩ := HNO.out rfl
    have HS := hid (HSV.out e1 e2 _ HZ.out)
    clear e1 e2
    obtain ⟨ga0, ga1, _, _⟩ := cell2f (keepheap2 HZ.out gA)
    obtain ⟨gs0, gs1, _, _⟩ := cell2f (keepheap2 HZ.out gS)
    go_wp2_with fail
    refine HS.out.mono ?_
    rintro e u2 ⟨rfl, hy⟩
    replace HZ := hid (btrans HZ.out hy)
    clear hy HS
    go_wp2_with fail
    go_ret
    exact ⟨rfl, btrans HB4.out HZ.out⟩
  obtain ⟨hsn, hro, hpast, hchg, hsame⟩ := HYE.out rfl
  subst hsn
  have HPA := hid hpast
  have HCG := hid hchg
  have HSA := hid hsame
  clear HYE HNO HSV hpast hchg hsame
  go_wp2_with fail
  go_loopw [9] (fun ti wr => ∃ m : Int, ti = .int .i64 m ∧ 0 ≤ m ∧ m ≤ 24 ∧ Hid (Below W4.heap.size W4 wr)) (fun ti _ => (25 - intOf ti).toNat)
  case atStart => exact ⟨0, rfl, Int.le_refl _, by omega, HZ⟩
  case round =>
    clear HZ
    obtain ⟨m, rfl, hm0, hm1, HZ⟩ := hrel
    by_cases hmn : m ≤ now
    · obtain ⟨hi1, hi2⟩ := HPA.out m hmn
      have HS := hid (HSM.out m hi1 hi2 _ HZ.out)
      have hwm : IntKind.i64.wrap (m + 1) = m + 1 := by rw [IntKind.wrap_i64]; omega
      clear hi1 hi2
      obtain ⟨ga0, ga1, _, _⟩ := cell2f (keepheap2 HZ.out gA)
      obtain ⟨gs0, gs1, _, _⟩ := cell2f (keepheap2 HZ.out gS)
      go_wp2_with fail
      refine HS.out.mono ?_
      rintro e u3 ⟨rfl, hy⟩
      replace HZ := hid (btrans HZ.out hy)
      clear hy HS ga0 ga1 gs0 gs1
      go_wp2_with fail
      go_roundw
      case rel => exact ⟨m + 1, rfl, by omega, by omega, HZ⟩
      case measure => simp [intOf]; omega
    · have hmn2 : now < m := by omega
      clear HSM HPA
      obtain ⟨ga0, ga1, _, _⟩ := cell2f (keepheap2 HZ.out gA)
      go_wp2_with fail
      clear ga0 ga1
      obtain ⟨nc, hnc⟩ : ∃ n, n = cs.length := ⟨_, rfl⟩
      have HNC := hid hnc.symm
      rw [← hnc] at hcl ⊢
      clear hnc
      go_loopw [10] (fun ti wr => ∃ i : Nat, ti = .int .i64 i ∧ i ≤ nc ∧ Hid (Below W4.heap.size W4 wr)) (fun ti _ => nc - (intOf ti).toNat)
      case atStart => exact ⟨0, rfl, Nat.zero_le _, HZ⟩
      case round =>
        clear HZ
        obtain ⟨i, rfl, hi, HZ⟩ := hrel
        by_cases hlt : i < nc
        · have c1 : (i : Int) < (nc : Int) := by omega
          have hir : i < cs.length := by rw [HNC.out]; exact hlt
          obtain ⟨b1, o1, rfl, hb1, a2, p2, k0, k1, k2, k3, k4, k5, k6, _⟩ := (HCH.out.below HZ.out).at i hir
          have hcg := HCG.out cs[i] (List.getElem_mem hir)
          have HR := hid (fun (W : World) (hq : Below W4.heap.size W4 W) => HRS.out cs[i].1 W hq)
          rw [hcg] at HR
          clear hcg
          obtain ⟨c, hce⟩ : ∃ c, c = cs[i] := ⟨_, rfl⟩
          rw [← hce] at k0 k1 k2 k3 k4 k5 k6 HR
          clear hce
          obtain ⟨id, gn, kd, ps⟩ := c
          simp only at k0 k1 k2 k3 k4 k5 k6 HR
          have HK6 := hid k6
          clear k6
          obtain ⟨gs0, gs1, _, _⟩ := cell2f (keepheap2 HZ.out gS)
          obtain ⟨rk, rp, ob, HR2, hob⟩ : ∃ (rk : Int) (rp : List (Int × Int)) (ob : Bool), Hid (∀ (W : World), Below W4.heap.size W4 W → Calls Tryz.prog 12 #[.agg #[.int .i64 (now + 1), .slice sa ss.length sc], .int .i64 id, .int .i64 (now + 1)] W fun e w' => RA W rk rp ob e w') ∧ ((gn = true ∧ ob = false) ∨ (gn = false ∧ ob = true ∧ rk = kd ∧ rp = ps)) := by
            cases gn
            · exact ⟨kd, ps, true, hid (fun W hq => HR.out W hq), .inr ⟨rfl, rfl, rfl, rfl⟩⟩
            · exact ⟨0, [], false, hid (fun W hq => HR.out W hq), .inl ⟨rfl, rfl⟩⟩
          clear HR
          go_upto_region 18 with fail
          go_cut [11, 12] from 73 to 110 (fun t11 t12 wx => RQ3 wr rk rp ob t11 t12 wx)
          case first =>
            refine wp_region_held_drew (S := (fun w' => w'.cell? ⟨Sb, 0, none⟩ = some (.int .i64 (now + 1)) ∧ w'.cell? ⟨Sb, 1, none⟩ = some (.slice sa ss.length sc) ∧ w'.cell? ⟨b1, (o1 + i * 4), none⟩ = some (.int .i64 id))) (by kernel_rfl) ?_ (fun hHeld => ?_)
            · (repeat' apply And.intro) <;> (first | with_reducible assumption | (with_reducible refine keepdrew ?_; with_reducible assumption))
            have hbz : Below wr.heap.size wr wr.drew := bdrew (Below.refl _ _)
            generalize wr.drew = Z0 at *
            refine wpAnyH_take (i := 0) (v := ?_) rfl (by kernel_rfl) (by kernel_rfl) (by kernel_rfl) (fun _ _ _ h => h) (Or.inl ⟨by rfl, ?_⟩) hHeld ?_
            rotate_left
            · intro w hSw; (try dsimp only at hSw); go_simp; try (with_reducible rfl)
            try simp only [sq]
            refine wpAnyH_take (i := 1) (v := ?_) rfl (by kernel_rfl) (by kernel_rfl) (by kernel_rfl) (fun _ _ _ h => h) (Or.inl ⟨by rfl, ?_⟩) hHeld ?_
            rotate_left
            · intro w hSw; (try dsimp only at hSw); go_simp; try (with_reducible rfl)
            try simp only [sq]
            refine wpAnyH_take (i := 2) (v := ?_) rfl (by kernel_rfl) (by kernel_rfl) (by kernel_rfl) (fun _ _ _ h => h) (Or.inl ⟨by rfl, ?_⟩) hHeld ?_
            rotate_left
            · intro w hSw; (try dsimp only at hSw); go_simp; try (with_reducible rfl)
            try simp only [sq]
            refine wpAnyH_take (i := 3) (v := ?_) rfl (by kernel_rfl) (by kernel_rfl) (by kernel_rfl) (fun _ _ _ h => h) (Or.inl ⟨by rfl, ?_⟩) hHeld ?_
            rotate_left
            · intro w hSw; (try dsimp only at hSw); go_simp; try (with_reducible rfl)
            try simp only [sq]
            refine wpAnyH_take (i := 4) (v := ?_) rfl (by kernel_rfl) (by kernel_rfl) (by kernel_rfl) (fun _ _ _ h => h) (Or.inl ⟨by rfl, ?_⟩) hHeld ?_
            rotate_left
            · intro w hSw; (try dsimp only at hSw); go_simp; try (with_reducible rfl)
            try simp only [sq]
            refine wpAnyH_take (i := 5) (v := ?_) rfl (by kernel_rfl) (by kernel_rfl) (by kernel_rfl) (fun _ _ _ h => h) (Or.inl ⟨by rfl, ?_⟩) hHeld ?_
            rotate_left
            · intro w hSw; (try dsimp only at hSw); go_simp; try (with_reducible rfl)
            try simp only [sq]
            refine wpAnyH_take (i := 6) (v := ?_) rfl (by kernel_rfl) (by kernel_rfl) (by kernel_rfl) (fun _ _ _ h => h) (Or.inl ⟨by rfl, ?_⟩) hHeld ?_
            rotate_left
            · intro w hSw; (try dsimp only at hSw); go_simp; try (with_reducible rfl)
            try simp only [sq]
            refine wpAnyH_take (i := 7) (v := ?_) rfl (by kernel_rfl) (by kernel_rfl) (by kernel_rfl) (fun _ _ _ h => h) (Or.inl ⟨by rfl, ?_⟩) hHeld ?_
            rotate_left
            · intro w hSw; (try dsimp only at hSw); go_simp; try (with_reducible rfl)
            try simp only [sq]
            refine wpAnyH_ready (rs := [8, 12]) (by kernel_rfl) (by simp) ?_
            refine (AllReadyH.cons rfl (fun K hK => ?_) (AllReadyH.cons rfl (fun K hK => ?_) AllReadyH.nil))
            · skip
              try simp only [sq]
              go_simp
              go_at_call 12
              refine (HR2.out _ (btrans HZ.out hbz)).mono ?_
              rintro e y ⟨aq, cq, rfl, hcq, hpq, hbq, hy⟩
              replace hbz := btrans hbz hy
              have hP := ra_pts hpq
              have hlt2 := ra_lt hpq
              clear hpq hbq hy
              go_wp2_with fail
              refine hK.out _ _ ?_ (fun hHeld => ?_)
              · (go_split_ands; (repeat' apply And.intro) <;> (repeat (first | with_reducible assumption | with_reducible refine keepcell (by with_reducible assumption) ?_)))
              clear hK K
              try simp only [sq]
              refine wpAnyH_take (i := 9) (v := ?_) rfl (by kernel_rfl) (by kernel_rfl) (by kernel_rfl) (fun _ _ _ h => h) (Or.inl ⟨by rfl, ?_⟩) hHeld ?_
              rotate_left
              · intro w hSw; (try dsimp only at hSw); go_simp; try (with_reducible rfl)
              try simp only [sq]
              refine wpAnyH_take (i := 10) (v := ?_) rfl (by kernel_rfl) (by kernel_rfl) (by kernel_rfl) (fun _ _ _ h => h) (Or.inl ⟨by rfl, ?_⟩) hHeld ?_
              rotate_left
              · intro w hSw; (try dsimp only at hSw); go_simp; try (with_reducible rfl)
              try simp only [sq]
              refine wpAnyH_take (i := 11) (v := ?_) rfl (by kernel_rfl) (by kernel_rfl) (by kernel_rfl) (fun _ _ _ h => h) (Or.inl ⟨by rfl, ?_⟩) hHeld ?_
              rotate_left
              · intro w hSw; (try dsimp only at hSw); go_simp; try (with_reducible rfl)
              try simp only [sq]
              refine wpAnyH_ready (rs := [12]) (by kernel_rfl) (by simp) ?_
              refine (AllReadyH.cons rfl (fun K hK => ?_) AllReadyH.nil)
              try simp only [sq]
              go_simp
              have gX := heap_alloc_new y (.cells #[.int .i64 0, .slice none 0 0] 37)
              have hal : Below y.heap.size y (y.alloc (.cells #[.int .i64 0, .slice none 0 0] 37)) := balloc (Below.refl _ _) _
              have hxw := hbz.size
              replace hbz := btrans hbz hal
              replace hP := hP.below hal
              have hne : ∀ b off, aq = some ⟨b, off, none⟩ → b ≠ y.heap.size := fun b off e => by have := hlt2 b off e; omega
              clear hlt2
              clear hal
              refine hK.out _ _ ?_ (fun hHeld => ?_)
              · (go_split_ands; (repeat' apply And.intro) <;> (repeat (first | with_reducible assumption | with_reducible refine keepcell (by with_reducible assumption) ?_)))
              clear hK K
              try simp only [sq]
              generalize y.alloc (.cells #[.int .i64 0, .slice none 0 0] 37) = ZA at *
              generalize y.heap.size = XB at *
              refine wpAnyH_ready (rs := [13]) (by kernel_rfl) (by simp) ?_
              refine (AllReadyH.cons rfl (fun K hK => ?_) AllReadyH.nil)
              obtain ⟨v0, v1, s0, s1⟩ := cell2f gX
              have hbc := bset (bset hbz (q := XB) (k := 0) hxw (.int .i64 rk)) (q := XB) (k := 1) hxw (.slice aq rp.length cq)
              try simp only [sq]
              go_simp
              refine hK.out _ _ ?_ (fun hHeld => ?_)
              · (go_split_ands; (repeat' apply And.intro) <;> (repeat (first | with_reducible assumption | with_reducible refine keepcell (by with_reducible assumption) ?_)))
              clear hK K
              try simp only [sq]
              clear v0 v1 s0 s1
              replace gX := set2r gX (.int .i64 rk) (.slice aq rp.length cq)
              replace hP : Pts ((ZA.setCell ⟨XB, 0, none⟩ (.int .i64 rk)).setCell ⟨XB, 1, none⟩ (.slice aq rp.length cq)) aq rp := pts_setX (pts_setX hP hne) hne
              generalize (ZA.setCell ⟨XB, 0, none⟩ (.int .i64 rk)).setCell ⟨XB, 1, none⟩ (.slice aq rp.length cq) = ZC at *
              refine wpAnyH_take (i := 14) (v := ?_) rfl (by kernel_rfl) (by kernel_rfl) (by kernel_rfl) (fun _ _ _ h => h) (Or.inl ⟨by rfl, ?_⟩) hHeld ?_
              rotate_left
              · intro w hSw; (try dsimp only at hSw); go_simp; try (with_reducible rfl)
              try simp only [sq]
              refine wpAnyH_done (by kernel_rfl) ?_ _
              go_wp2_with fail
              go_meet
              exact RQ3.mk gX hcq hP hbc
            · skip
              try simp only [sq]
              go_simp
              have gX := heap_alloc_new Z0 (.cells #[.int .i64 0, .slice none 0 0] 37)
              have hal : Below Z0.heap.size Z0 (Z0.alloc (.cells #[.int .i64 0, .slice none 0 0] 37)) := balloc (Below.refl _ _) _
              have hxw := hbz.size
              replace hbz := btrans hbz hal
              clear hal
              refine hK.out _ _ ?_ (fun hHeld => ?_)
              · (go_split_ands; (repeat' apply And.intro) <;> (repeat (first | with_reducible assumption | with_reducible refine keepcell (by with_reducible assumption) ?_)))
              clear hK K
              try simp only [sq]
              generalize Z0.alloc (.cells #[.int .i64 0, .slice none 0 0] 37) = ZA at *
              generalize Z0.heap.size = XB at *
              refine wpAnyH_ready (rs := [8]) (by kernel_rfl) (by simp) ?_
              refine (AllReadyH.cons rfl (fun K hK => ?_) AllReadyH.nil)
              try simp only [sq]
              go_simp
              go_at_call 12
              refine (HR2.out _ (btrans HZ.out hbz)).mono ?_
              rintro e y ⟨aq, cq, rfl, hcq, hpq, hbq, hy⟩
              replace hbz := btrans hbz hy
              have hP := ra_pts hpq
              have hne : ∀ b off, aq = some ⟨b, off, none⟩ → b ≠ XB := fun b off e => by have := hbq b off e; have := lt_of_block gX; omega
              replace gX := keepheap2 hy gX
              clear hpq hbq hy
              go_wp2_with fail
              refine hK.out _ _ ?_ (fun hHeld => ?_)
              · (go_split_ands; (repeat' apply And.intro) <;> (repeat (first | with_reducible assumption | with_reducible refine keepcell (by with_reducible assumption) ?_)))
              clear hK K
              try simp only [sq]
              refine wpAnyH_take (i := 9) (v := ?_) rfl (by kernel_rfl) (by kernel_rfl) (by kernel_rfl) (fun _ _ _ h => h) (Or.inl ⟨by rfl, ?_⟩) hHeld ?_
              rotate_left
              · intro w hSw; (try dsimp only at hSw); go_simp; try (with_reducible rfl)
              try simp only [sq]
              refine wpAnyH_take (i := 10) (v := ?_) rfl (by kernel_rfl) (by kernel_rfl) (by kernel_rfl) (fun _ _ _ h => h) (Or.inl ⟨by rfl, ?_⟩) hHeld ?_
              rotate_left
              · intro w hSw; (try dsimp only at hSw); go_simp; try (with_reducible rfl)
              try simp only [sq]
              refine wpAnyH_take (i := 11) (v := ?_) rfl (by kernel_rfl) (by kernel_rfl) (by kernel_rfl) (fun _ _ _ h => h) (Or.inl ⟨by rfl, ?_⟩) hHeld ?_
              rotate_left
              · intro w hSw; (try dsimp only at hSw); go_simp; try (with_reducible rfl)
              try simp only [sq]
              refine wpAnyH_ready (rs := [13]) (by kernel_rfl) (by simp) ?_
              refine (AllReadyH.cons rfl (fun K hK => ?_) AllReadyH.nil)
              obtain ⟨v0, v1, s0, s1⟩ := cell2f gX
              have hbc := bset (bset hbz (q := XB) (k := 0) hxw (.int .i64 rk)) (q := XB) (k := 1) hxw (.slice aq rp.length cq)
              try simp only [sq]
              go_simp
              refine hK.out _ _ ?_ (fun hHeld => ?_)
              · (go_split_ands; (repeat' apply And.intro) <;> (repeat (first | with_reducible assumption | with_reducible refine keepcell (by with_reducible assumption) ?_)))
              clear hK K
              try simp only [sq]
              clear v0 v1 s0 s1
              replace gX := set2r gX (.int .i64 rk) (.slice aq rp.length cq)
              replace hP : Pts ((y.setCell ⟨XB, 0, none⟩ (.int .i64 rk)).setCell ⟨XB, 1, none⟩ (.slice aq rp.length cq)) aq rp := pts_setX (pts_setX hP hne) hne
              generalize (y.setCell ⟨XB, 0, none⟩ (.int .i64 rk)).setCell ⟨XB, 1, none⟩ (.slice aq rp.length cq) = ZC at *
              refine wpAnyH_take (i := 14) (v := ?_) rfl (by kernel_rfl) (by kernel_rfl) (by kernel_rfl) (fun _ _ _ h => h) (Or.inl ⟨by rfl, ?_⟩) hHeld ?_
              rotate_left
              · intro w hSw; (try dsimp only at hSw); go_simp; try (with_reducible rfl)
              try simp only [sq]
              refine wpAnyH_done (by kernel_rfl) ?_ _
              go_wp2_with fail
              go_meet
              exact RQ3.mk gX hcq hP hbc
          case rest =>
            obtain ⟨X, a1, p1, rfl, rfl, gX, hp1, hP1, hb⟩ := hcut
            replace k0 := keepcell hb k0
            replace k1 := keepcell hb k1
            replace k2 := keepcell hb k2
            replace k3 := keepcell hb k3
            replace HZ := hid (btrans HZ.out hb)
            have HP1 := hid hP1
            have HP2 := hid (HK6.out.below hb)
            clear hb hP1 HK6 gs0 gs1 HR2
            obtain ⟨x0, x1, _, _⟩ := cell2f gX
            rcases hob with ⟨rfl, rfl⟩ | ⟨rfl, rfl, rfl, rfl⟩
            · go_upto_region 19 with fail
              refine wp_region_held_drew (S := (fun w' => w'.cell? ⟨b1, (o1 + i * 4 + 1), none⟩ = some (.bool true) ∧ w'.cell? ⟨b1, (o1 + i * 4 + 2), none⟩ = some (.int .i64 kd) ∧ w'.cell? ⟨b1, (o1 + i * 4 + 3), none⟩ = some (.slice a2 ps.length p2) ∧ w'.cell? ⟨X, 0, none⟩ = some (.int .i64 rk) ∧ w'.cell? ⟨X, 1, none⟩ = some (.slice a1 rp.length p1))) (by kernel_rfl) ?_ (fun hHeld => ?_)
              · (repeat' apply And.intro) <;> (repeat (first | with_reducible assumption | with_reducible refine keepdrew ?_ | with_reducible refine keepcell (by with_reducible assumption) ?_))
              refine wpAnyH_take (i := 0) (v := ?_) rfl (by kernel_rfl) (by kernel_rfl) (by kernel_rfl) (fun _ _ _ h => h) (Or.inl ⟨by rfl, ?_⟩) hHeld ?_
              rotate_left
              · intro w hSw; (try dsimp only at hSw); go_simp; try (with_reducible rfl)
              try simp only [sq]
              refine wpAnyH_take (i := 1) (v := ?_) rfl (by kernel_rfl) (by kernel_rfl) (by kernel_rfl) (fun _ _ _ h => h) (Or.inl ⟨by rfl, ?_⟩) hHeld ?_
              rotate_left
              · intro w hSw; (try dsimp only at hSw); go_simp; try (with_reducible rfl)
              try simp only [sq]
              refine wpAnyH_take (i := 2) (v := ?_) rfl (by kernel_rfl) (by kernel_rfl) (by kernel_rfl) (fun _ _ _ h => h) (Or.inl ⟨by rfl, ?_⟩) hHeld ?_
              rotate_left
              · intro w hSw; (try dsimp only at hSw); go_simp; try (with_reducible rfl)
              try simp only [sq]
              refine wpAnyH_take (i := 3) (v := ?_) rfl (by kernel_rfl) (by kernel_rfl) (by kernel_rfl) (fun _ _ _ h => h) (Or.inl ⟨by rfl, ?_⟩) hHeld ?_
              rotate_left
              · intro w hSw; (try dsimp only at hSw); go_simp; try (with_reducible rfl)
              try simp only [sq]
              refine wpAnyH_take (i := 4) (v := ?_) rfl (by kernel_rfl) (by kernel_rfl) (by kernel_rfl) (fun _ _ _ h => h) (Or.inl ⟨by rfl, ?_⟩) hHeld ?_
              rotate_left
              · intro w hSw; (try dsimp only at hSw); go_simp; try (with_reducible rfl)
              try simp only [sq]
              refine wpAnyH_take (i := 5) (v := ?_) rfl (by kernel_rfl) (by kernel_rfl) (by kernel_rfl) (fun _ _ _ h => h) (Or.inl ⟨by rfl, ?_⟩) hHeld ?_
              rotate_left
              · intro w hSw; (try dsimp only at hSw); go_simp; try (with_reducible rfl)
              try simp only [sq]
              refine wpAnyH_take (i := 6) (v := ?_) rfl (by kernel_rfl) (by kernel_rfl) (by kernel_rfl) (fun _ _ _ h => h) (Or.inl ⟨by rfl, ?_⟩) hHeld ?_
              rotate_left
              · intro w hSw; (try dsimp only at hSw); go_simp; try (with_reducible rfl)
              try simp only [sq]
              refine wpAnyH_take (i := 7) (v := ?_) rfl (by kernel_rfl) (by kernel_rfl) (by kernel_rfl) (fun _ _ _ h => h) (Or.inl ⟨by rfl, ?_⟩) hHeld ?_
              rotate_left
              · intro w hSw; (try dsimp only at hSw); go_simp; try (with_reducible rfl)
              try simp only [sq]
              refine wpAnyH_take (i := 8) (v := ?_) rfl (by kernel_rfl) (by kernel_rfl) (by kernel_rfl) (fun _ _ _ h => h) (Or.inl ⟨by rfl, ?_⟩) hHeld ?_
              rotate_left
              · intro w hSw; (try dsimp only at hSw); go_simp; try (with_reducible rfl)
              try simp only [sq]
              refine wpAnyH_take (i := 9) (v := ?_) rfl (by kernel_rfl) (by kernel_rfl) (by kernel_rfl) (fun _ _ _ h => h) (Or.inl ⟨by rfl, ?_⟩) hHeld ?_
              rotate_left
              · intro w hSw; (try dsimp only at hSw); go_simp; try (with_reducible rfl)
              try simp only [sq]
              refine wpAnyH_take (i := 10) (v := undef) rfl (by kernel_rfl) (by kernel_rfl) (by kernel_rfl) (fun _ _ _ h => h) (Or.inr ⟨by rfl, rfl⟩) hHeld ?_
              try simp only [sq]
              refine wpAnyH_take (i := 11) (v := undef) rfl (by kernel_rfl) (by kernel_rfl) (by kernel_rfl) (fun _ _ _ h => h) (Or.inr ⟨by rfl, rfl⟩) hHeld ?_
              try simp only [sq]
              refine wpAnyH_take (i := 12) (v := undef) rfl (by kernel_rfl) (by kernel_rfl) (by kernel_rfl) (fun _ _ _ h => h) (Or.inr ⟨by rfl, rfl⟩) hHeld ?_
              try simp only [sq]
              refine wpAnyH_take (i := 13) (v := undef) rfl (by kernel_rfl) (by kernel_rfl) (by kernel_rfl) (fun _ _ _ h => h) (Or.inr ⟨by rfl, rfl⟩) hHeld ?_
              try simp only [sq]
              refine wpAnyH_take (i := 14) (v := undef) rfl (by kernel_rfl) (by kernel_rfl) (by kernel_rfl) (fun _ _ _ h => h) (Or.inr ⟨by rfl, rfl⟩) hHeld ?_
              try simp only [sq]
              refine wpAnyH_take (i := 15) (v := undef) rfl (by kernel_rfl) (by kernel_rfl) (by kernel_rfl) (fun _ _ _ h => h) (Or.inr ⟨by rfl, rfl⟩) hHeld ?_
              try simp only [sq]
              refine wpAnyH_take (i := 16) (v := undef) rfl (by kernel_rfl) (by kernel_rfl) (by kernel_rfl) (fun _ _ _ h => h) (Or.inr ⟨by rfl, rfl⟩) hHeld ?_
              try simp only [sq]
              refine wpAnyH_take (i := 17) (v := undef) rfl (by kernel_rfl) (by kernel_rfl) (by kernel_rfl) (fun _ _ _ h => h) (Or.inr ⟨by rfl, rfl⟩) hHeld ?_
              try simp only [sq]
              refine wpAnyH_take (i := 18) (v := ?_) rfl (by kernel_rfl) (by kernel_rfl) (by kernel_rfl) (fun _ _ _ h => h) (Or.inl ⟨by rfl, ?_⟩) hHeld ?_
              rotate_left
              · intro w hSw; (try dsimp only at hSw); go_simp; try (with_reducible rfl)
              try simp only [sq]
              refine wpAnyH_take (i := 19) (v := ?_) rfl (by kernel_rfl) (by kernel_rfl) (by kernel_rfl) (fun _ _ _ h => h) (Or.inl ⟨by rfl, ?_⟩) hHeld ?_
              rotate_left
              · intro w hSw; (try dsimp only at hSw); go_simp; try (with_reducible rfl)
              try simp only [sq]
              refine wpAnyH_done (by kernel_rfl) ?_ _
              have HZe := hid (btrans HZ.out (bdrew (Below.refl _ _)))
              clear hHeld
              go_wp2_with fail
              go_roundw
              case rel => exact ⟨i + 1, by go_num, by omega, HZe⟩
              case measure => simp [intOf]; omega
            · go_upto_region 19 with fail
              refine wp_region_held_drew (S := (fun w' => w'.cell? ⟨b1, (o1 + i * 4 + 1), none⟩ = some (.bool false) ∧ w'.cell? ⟨b1, (o1 + i * 4 + 2), none⟩ = some (.int .i64 rk) ∧ w'.cell? ⟨b1, (o1 + i * 4 + 3), none⟩ = some (.slice a2 rp.length p2) ∧ w'.cell? ⟨X, 0, none⟩ = some (.int .i64 rk) ∧ w'.cell? ⟨X, 1, none⟩ = some (.slice a1 rp.length p1))) (by kernel_rfl) ?_ (fun hHeld => ?_)
              · (repeat' apply And.intro) <;> (repeat (first | with_reducible assumption | with_reducible refine keepdrew ?_ | with_reducible refine keepcell (by with_reducible assumption) ?_))
              refine wpAnyH_take (i := 0) (v := ?_) rfl (by kernel_rfl) (by kernel_rfl) (by kernel_rfl) (fun _ _ _ h => h) (Or.inl ⟨by rfl, ?_⟩) hHeld ?_
              rotate_left
              · intro w hSw; (try dsimp only at hSw); go_simp; try (with_reducible rfl)
              try simp only [sq]
              refine wpAnyH_take (i := 1) (v := ?_) rfl (by kernel_rfl) (by kernel_rfl) (by kernel_rfl) (fun _ _ _ h => h) (Or.inl ⟨by rfl, ?_⟩) hHeld ?_
              rotate_left
              · intro w hSw; (try dsimp only at hSw); go_simp; try (with_reducible rfl)
              try simp only [sq]
              refine wpAnyH_take (i := 2) (v := ?_) rfl (by kernel_rfl) (by kernel_rfl) (by kernel_rfl) (fun _ _ _ h => h) (Or.inl ⟨by rfl, ?_⟩) hHeld ?_
              rotate_left
              · intro w hSw; (try dsimp only at hSw); go_simp; try (with_reducible rfl)
              try simp only [sq]
              refine wpAnyH_take (i := 3) (v := ?_) rfl (by kernel_rfl) (by kernel_rfl) (by kernel_rfl) (fun _ _ _ h => h) (Or.inl ⟨by rfl, ?_⟩) hHeld ?_
              rotate_left
              · intro w hSw; (try dsimp only at hSw); go_simp; try (with_reducible rfl)
              try simp only [sq]
              refine wpAnyH_take (i := 4) (v := ?_) rfl (by kernel_rfl) (by kernel_rfl) (by kernel_rfl) (fun _ _ _ h => h) (Or.inl ⟨by rfl, ?_⟩) hHeld ?_
              rotate_left
              · intro w hSw; (try dsimp only at hSw); go_simp; try (with_reducible rfl)
              try simp only [sq]
              refine wpAnyH_take (i := 5) (v := ?_) rfl (by kernel_rfl) (by kernel_rfl) (by kernel_rfl) (fun _ _ _ h => h) (Or.inl ⟨by rfl, ?_⟩) hHeld ?_
              rotate_left
              · intro w hSw; (try dsimp only at hSw); go_simp; try (with_reducible rfl)
              try simp only [sq]
              refine wpAnyH_take (i := 6) (v := ?_) rfl (by kernel_rfl) (by kernel_rfl) (by kernel_rfl) (fun _ _ _ h => h) (Or.inl ⟨by rfl, ?_⟩) hHeld ?_
              rotate_left
              · intro w hSw; (try dsimp only at hSw); go_simp; try (with_reducible rfl)
              try simp only [sq]
              refine wpAnyH_take (i := 7) (v := ?_) rfl (by kernel_rfl) (by kernel_rfl) (by kernel_rfl) (fun _ _ _ h => h) (Or.inl ⟨by rfl, ?_⟩) hHeld ?_
              rotate_left
              · intro w hSw; (try dsimp only at hSw); go_simp; try (with_reducible rfl)
              try simp only [sq]
              refine wpAnyH_take (i := 8) (v := ?_) rfl (by kernel_rfl) (by kernel_rfl) (by kernel_rfl) (fun _ _ _ h => h) (Or.inl ⟨by rfl, ?_⟩) hHeld ?_
              rotate_left
              · intro w hSw; (try dsimp only at hSw); go_simp; try (with_reducible rfl)
              try simp only [sq]
              refine wpAnyH_take (i := 9) (v := ?_) rfl (by kernel_rfl) (by kernel_rfl) (by kernel_rfl) (fun _ _ _ h => h) (Or.inl ⟨by rfl, ?_⟩) hHeld ?_
              rotate_left
              · intro w hSw; (try dsimp only at hSw); go_simp; try (with_reducible rfl)
              try simp only [sq]
              refine wpAnyH_take (i := 10) (v := ?_) rfl (by kernel_rfl) (by kernel_rfl) (by kernel_rfl) (fun _ _ _ h => h) (Or.inl ⟨by rfl, ?_⟩) hHeld ?_
              rotate_left
              · intro w hSw; (try dsimp only at hSw); go_simp; try (with_reducible rfl)
              try simp only [sq]
              refine wpAnyH_take (i := 11) (v := ?_) rfl (by kernel_rfl) (by kernel_rfl) (by kernel_rfl) (fun _ _ _ h => h) (Or.inl ⟨by rfl, ?_⟩) hHeld ?_
              rotate_left
              · intro w hSw; (try dsimp only at hSw); go_simp; try (with_reducible rfl)
              try simp only [sq]
              refine wpAnyH_take (i := 12) (v := ?_) rfl (by kernel_rfl) (by kernel_rfl) (by kernel_rfl) (fun _ _ _ h => h) (Or.inl ⟨by rfl, ?_⟩) hHeld ?_
              rotate_left
              · intro w hSw; (try dsimp only at hSw); go_simp; try (with_reducible rfl)
              try simp only [sq]
              refine wpAnyH_take (i := 13) (v := ?_) rfl (by kernel_rfl) (by kernel_rfl) (by kernel_rfl) (fun _ _ _ h => h) (Or.inl ⟨by rfl, ?_⟩) hHeld ?_
              rotate_left
              · intro w hSw; (try dsimp only at hSw); go_simp; try (with_reducible rfl)
              try simp only [sq]
              refine wpAnyH_take (i := 14) (v := ?_) rfl (by kernel_rfl) (by kernel_rfl) (by kernel_rfl) (fun _ _ _ h => h) (Or.inl ⟨by rfl, ?_⟩) hHeld ?_
              rotate_left
              · intro w hSw; (try dsimp only at hSw); go_simp; try (with_reducible rfl)
              try simp only [sq]
              refine wpAnyH_take (i := 15) (v := ?_) rfl (by kernel_rfl) (by kernel_rfl) (by kernel_rfl) (fun _ _ _ h => h) (Or.inl ⟨by rfl, ?_⟩) hHeld ?_
              rotate_left
              · intro w hSw; (try dsimp only at hSw); go_simp; try (with_reducible rfl)
              try simp only [sq]
              refine wpAnyH_ready (rs := [16]) (by kernel_rfl) (by simp) ?_
              refine AllReadyH.cons rfl (fun K hK => ?_) AllReadyH.nil
              try simp only [sq]
              go_simp
              (first
                  | (go_at_call 13; refine (same_shp rk a1 a2 p1 p2 rp _ k5 hp1 k4 (HP1.out.below (bdrew (Below.refl _ _))) (HP2.out.below (bdrew (Below.refl _ _)))).mono ?_; rintro e yq ⟨rfl, hyq⟩; have HZe := hid (btrans HZ.out (btrans (bdrew (Below.refl _ _)) hyq))))
              go_wp2_with fail
              refine hK.out _ _ ?_ (fun hHeld => ?_)
              · (repeat' apply And.intro) <;> (repeat (first | with_reducible assumption | with_reducible refine keepdrew ?_ | with_reducible refine keepcell (by with_reducible assumption) ?_))
              clear hK K
              try simp only [sq]
              refine wpAnyH_take (i := 17) (v := ?_) rfl (by kernel_rfl) (by kernel_rfl) (by kernel_rfl) (fun _ _ _ h => h) (Or.inl ⟨by rfl, ?_⟩) hHeld ?_
              rotate_left
              · intro w hSw; (try dsimp only at hSw); go_simp; try (with_reducible rfl)
              try simp only [sq]
              refine wpAnyH_take (i := 18) (v := ?_) rfl (by kernel_rfl) (by kernel_rfl) (by kernel_rfl) (fun _ _ _ h => h) (Or.inl ⟨by rfl, ?_⟩) hHeld ?_
              rotate_left
              · intro w hSw; (try dsimp only at hSw); go_simp; try (with_reducible rfl)
              try simp only [sq]
              refine wpAnyH_take (i := 19) (v := ?_) rfl (by kernel_rfl) (by kernel_rfl) (by kernel_rfl) (fun _ _ _ h => h) (Or.inl ⟨by rfl, ?_⟩) hHeld ?_
              rotate_left
              · intro w hSw; (try dsimp only at hSw); go_simp; try (with_reducible rfl)
              try simp only [sq]
              refine wpAnyH_done (by kernel_rfl) ?_ _
              clear hHeld
              go_wp2_with fail
              go_roundw
              case rel => exact ⟨i + 1, by go_num, by omega, HZe⟩
              case measure => simp [intOf]; omega
        · have c1 : (nc : Int) ≤ (i : Int) := by omega
          clear HCG
          obtain ⟨ga0, ga1, _, _⟩ := cell2f (keepheap2 HZ.out gA)
          go_wp2_with fail
          refine (HIA.out _ HZ.out).mono ?_
          rintro e u4 ⟨ia, ic, rfl, hio, _, hy⟩
          replace HZ := hid (btrans HZ.out hy)
          have HO := hid hio
          have HU := hid (Below.refl u4.heap.size u4)
          clear hy hio ga0 ga1 HIA
          generalize idsb now rs now = ids at *
          obtain ⟨nk, hnk⟩ : ∃ n, n = ids.length := ⟨_, rfl⟩
          have HNK := hid hnk.symm
          rw [← hnk] at hil ⊢
          clear hnk
          go_wp2_with fail
          go_loopw [14] (fun ti wr => ∃ k : Nat, ti = .int .i64 k ∧ k ≤ nk ∧ Hid (Below u4.heap.size u4 wr)) (fun ti _ => nk - (intOf ti).toNat)
          case atStart => exact ⟨0, rfl, Nat.zero_le _, HU⟩
          case round =>
            obtain ⟨k, rfl, hk, HV⟩ := hrel
            have HY := hid (btrans HZ.out HV.out)
            by_cases hltk : k < nk
            · have c2 : (k : Int) < (nk : Int) := by omega
              have hkr : k < ids.length := by rw [HNK.out]; exact hltk
              obtain ⟨b3, rfl, e1, _⟩ := (HO.out.below HV.out).at (k := k) hkr
              have hmem : ids.getD k 0 ∈ ids := by
                rw [List.getD_eq_getElem?_getD, List.getElem?_eq_getElem hkr]
                exact List.getElem_mem hkr
              have his := HIS.out _ hmem
              have HR1 := hid (fun (W : World) (hq : Below W4.heap.size W4 W) => HRA.out (ids.getD k 0) W hq)
              rw [his] at HR1
              have HR2 := hid (fun (W : World) (hq : Below W4.heap.size W4 W) => HRS.out (ids.getD k 0) W hq)
              have hla := HLA.out (ids.getD k 0)
              have HSS : Hid ((∀ c ∈ cs, c.1 ≠ ids.getD k 0) → raK (ratb (now + 1) ss (ids.getD k 0) (now + 1)) = raK (ratb now rs (ids.getD k 0) now) ∧ raP (ratb (now + 1) ss (ids.getD k 0) (now + 1)) = raP (ratb now rs (ids.getD k 0) now) ∧ (ratb (now + 1) ss (ids.getD k 0) (now + 1)).isSome = true) := hid (fun h => by rw [HSA.out _ h]; exact ⟨rfl, rfl, his⟩)
              clear hmem his
              generalize ids.getD k 0 = id at *
              generalize raK (ratb now rs id now) = rk at *
              generalize raP (ratb now rs id now) = rp at *
              generalize raK (ratb (now + 1) ss id (now + 1)) = rk2 at *
              generalize raP (ratb (now + 1) ss id (now + 1)) = rp2 at *
              generalize (ratb (now + 1) ss id (now + 1)).isSome = ob2 at *
              obtain ⟨ga0, ga1, _, _⟩ := cell2f (keepheap2 HY.out gA)
              obtain ⟨gs0, gs1, _, _⟩ := cell2f (keepheap2 HY.out gS)
              go_upto_region 25 with fail
              go_cut [15, 16] from 115 to 173 (fun t15 t16 wx => RQ3 wr rk rp true t15 t16 wx)
              case first =>
                refine wp_region_held_drew (S := (fun w' => w'.cell? ⟨A, 0, none⟩ = some (.int .i64 now) ∧ w'.cell? ⟨A, 1, none⟩ = some (.slice ra rs.length rc) ∧ w'.cell? ⟨b3, k, none⟩ = some (.int .i64 id))) (by kernel_rfl) ?_ (fun hHeld => ?_)
                · (repeat' apply And.intro) <;> (first | with_reducible assumption | (with_reducible refine keepdrew ?_; with_reducible assumption))
                have hbz : Below wr.heap.size wr wr.drew := bdrew (Below.refl _ _)
                generalize wr.drew = Z0 at *
                refine wpAnyH_take (i := 0) (v := ?_) rfl (by kernel_rfl) (by kernel_rfl) (by kernel_rfl) (fun _ _ _ h => h) (Or.inl ⟨by rfl, ?_⟩) hHeld ?_
                rotate_left
                · intro w hSw; (try dsimp only at hSw); go_simp; try (with_reducible rfl)
                try simp only [sq]
                refine wpAnyH_take (i := 1) (v := ?_) rfl (by kernel_rfl) (by kernel_rfl) (by kernel_rfl) (fun _ _ _ h => h) (Or.inl ⟨by rfl, ?_⟩) hHeld ?_
                rotate_left
                · intro w hSw; (try dsimp only at hSw); go_simp; try (with_reducible rfl)
                try simp only [sq]
                refine wpAnyH_take (i := 2) (v := ?_) rfl (by kernel_rfl) (by kernel_rfl) (by kernel_rfl) (fun _ _ _ h => h) (Or.inl ⟨by rfl, ?_⟩) hHeld ?_
                rotate_left
                · intro w hSw; (try dsimp only at hSw); go_simp; try (with_reducible rfl)
                try simp only [sq]
                refine wpAnyH_take (i := 3) (v := ?_) rfl (by kernel_rfl) (by kernel_rfl) (by kernel_rfl) (fun _ _ _ h => h) (Or.inl ⟨by rfl, ?_⟩) hHeld ?_
                rotate_left
                · intro w hSw; (try dsimp only at hSw); go_simp; try (with_reducible rfl)
                try simp only [sq]
                refine wpAnyH_take (i := 4) (v := ?_) rfl (by kernel_rfl) (by kernel_rfl) (by kernel_rfl) (fun _ _ _ h => h) (Or.inl ⟨by rfl, ?_⟩) hHeld ?_
                rotate_left
                · intro w hSw; (try dsimp only at hSw); go_simp; try (with_reducible rfl)
                try simp only [sq]
                refine wpAnyH_take (i := 5) (v := ?_) rfl (by kernel_rfl) (by kernel_rfl) (by kernel_rfl) (fun _ _ _ h => h) (Or.inl ⟨by rfl, ?_⟩) hHeld ?_
                rotate_left
                · intro w hSw; (try dsimp only at hSw); go_simp; try (with_reducible rfl)
                try simp only [sq]
                refine wpAnyH_take (i := 6) (v := ?_) rfl (by kernel_rfl) (by kernel_rfl) (by kernel_rfl) (fun _ _ _ h => h) (Or.inl ⟨by rfl, ?_⟩) hHeld ?_
                rotate_left
                · intro w hSw; (try dsimp only at hSw); go_simp; try (with_reducible rfl)
                try simp only [sq]
                refine wpAnyH_ready (rs := [7, 11]) (by kernel_rfl) (by simp) ?_
                refine (AllReadyH.cons rfl (fun K hK => ?_) (AllReadyH.cons rfl (fun K hK => ?_) AllReadyH.nil))
                · skip
                  try simp only [sq]
                  go_simp
                  go_at_call 12
                  refine (HR1.out _ (btrans HY.out hbz)).mono ?_
                  rintro e y ⟨aq, cq, rfl, hcq, hpq, hbq, hy⟩
                  replace hbz := btrans hbz hy
                  have hP := ra_pts hpq
                  have hlt2 := ra_lt hpq
                  clear hpq hbq hy
                  go_wp2_with fail
                  refine hK.out _ _ ?_ (fun hHeld => ?_)
                  · (go_split_ands; (repeat' apply And.intro) <;> (repeat (first | with_reducible assumption | with_reducible refine keepcell (by with_reducible assumption) ?_)))
                  clear hK K
                  try simp only [sq]
                  refine wpAnyH_take (i := 8) (v := ?_) rfl (by kernel_rfl) (by kernel_rfl) (by kernel_rfl) (fun _ _ _ h => h) (Or.inl ⟨by rfl, ?_⟩) hHeld ?_
                  rotate_left
                  · intro w hSw; (try dsimp only at hSw); go_simp; try (with_reducible rfl)
                  try simp only [sq]
                  refine wpAnyH_take (i := 9) (v := ?_) rfl (by kernel_rfl) (by kernel_rfl) (by kernel_rfl) (fun _ _ _ h => h) (Or.inl ⟨by rfl, ?_⟩) hHeld ?_
                  rotate_left
                  · intro w hSw; (try dsimp only at hSw); go_simp; try (with_reducible rfl)
                  try simp only [sq]
                  refine wpAnyH_take (i := 10) (v := ?_) rfl (by kernel_rfl) (by kernel_rfl) (by kernel_rfl) (fun _ _ _ h => h) (Or.inl ⟨by rfl, ?_⟩) hHeld ?_
                  rotate_left
                  · intro w hSw; (try dsimp only at hSw); go_simp; try (with_reducible rfl)
                  try simp only [sq]
                  refine wpAnyH_ready (rs := [11]) (by kernel_rfl) (by simp) ?_
                  refine (AllReadyH.cons rfl (fun K hK => ?_) AllReadyH.nil)
                  try simp only [sq]
                  go_simp
                  have gX := heap_alloc_new y (.cells #[.int .i64 0, .slice none 0 0] 37)
                  have hal : Below y.heap.size y (y.alloc (.cells #[.int .i64 0, .slice none 0 0] 37)) := balloc (Below.refl _ _) _
                  have hxw := hbz.size
                  replace hbz := btrans hbz hal
                  replace hP := hP.below hal
                  have hne : ∀ b off, aq = some ⟨b, off, none⟩ → b ≠ y.heap.size := fun b off e => by have := hlt2 b off e; omega
                  clear hlt2
                  clear hal
                  refine hK.out _ _ ?_ (fun hHeld => ?_)
                  · (go_split_ands; (repeat' apply And.intro) <;> (repeat (first | with_reducible assumption | with_reducible refine keepcell (by with_reducible assumption) ?_)))
                  clear hK K
                  try simp only [sq]
                  generalize y.alloc (.cells #[.int .i64 0, .slice none 0 0] 37) = ZA at *
                  generalize y.heap.size = XB at *
                  refine wpAnyH_ready (rs := [12]) (by kernel_rfl) (by simp) ?_
                  refine (AllReadyH.cons rfl (fun K hK => ?_) AllReadyH.nil)
                  obtain ⟨v0, v1, s0, s1⟩ := cell2f gX
                  have hbc := bset (bset hbz (q := XB) (k := 0) hxw (.int .i64 rk)) (q := XB) (k := 1) hxw (.slice aq rp.length cq)
                  try simp only [sq]
                  go_simp
                  refine hK.out _ _ ?_ (fun hHeld => ?_)
                  · (go_split_ands; (repeat' apply And.intro) <;> (repeat (first | with_reducible assumption | with_reducible refine keepcell (by with_reducible assumption) ?_)))
                  clear hK K
                  try simp only [sq]
                  clear v0 v1 s0 s1
                  replace gX := set2r gX (.int .i64 rk) (.slice aq rp.length cq)
                  replace hP : Pts ((ZA.setCell ⟨XB, 0, none⟩ (.int .i64 rk)).setCell ⟨XB, 1, none⟩ (.slice aq rp.length cq)) aq rp := pts_setX (pts_setX hP hne) hne
                  generalize (ZA.setCell ⟨XB, 0, none⟩ (.int .i64 rk)).setCell ⟨XB, 1, none⟩ (.slice aq rp.length cq) = ZC at *
                  refine wpAnyH_take (i := 13) (v := ?_) rfl (by kernel_rfl) (by kernel_rfl) (by kernel_rfl) (fun _ _ _ h => h) (Or.inl ⟨by rfl, ?_⟩) hHeld ?_
                  rotate_left
                  · intro w hSw; (try dsimp only at hSw); go_simp; try (with_reducible rfl)
                  try simp only [sq]
                  refine wpAnyH_done (by kernel_rfl) ?_ _
                  go_wp2_with fail
                  go_meet
                  exact RQ3.mk gX hcq hP hbc
                · skip
                  try simp only [sq]
                  go_simp
                  have gX := heap_alloc_new Z0 (.cells #[.int .i64 0, .slice none 0 0] 37)
                  have hal : Below Z0.heap.size Z0 (Z0.alloc (.cells #[.int .i64 0, .slice none 0 0] 37)) := balloc (Below.refl _ _) _
                  have hxw := hbz.size
                  replace hbz := btrans hbz hal
                  clear hal
                  refine hK.out _ _ ?_ (fun hHeld => ?_)
                  · (go_split_ands; (repeat' apply And.intro) <;> (repeat (first | with_reducible assumption | with_reducible refine keepcell (by with_reducible assumption) ?_)))
                  clear hK K
                  try simp only [sq]
                  generalize Z0.alloc (.cells #[.int .i64 0, .slice none 0 0] 37) = ZA at *
                  generalize Z0.heap.size = XB at *
                  refine wpAnyH_ready (rs := [7]) (by kernel_rfl) (by simp) ?_
                  refine (AllReadyH.cons rfl (fun K hK => ?_) AllReadyH.nil)
                  try simp only [sq]
                  go_simp
                  go_at_call 12
                  refine (HR1.out _ (btrans HY.out hbz)).mono ?_
                  rintro e y ⟨aq, cq, rfl, hcq, hpq, hbq, hy⟩
                  replace hbz := btrans hbz hy
                  have hP := ra_pts hpq
                  have hne : ∀ b off, aq = some ⟨b, off, none⟩ → b ≠ XB := fun b off e => by have := hbq b off e; have := lt_of_block gX; omega
                  replace gX := keepheap2 hy gX
                  clear hpq hbq hy
                  go_wp2_with fail
                  refine hK.out _ _ ?_ (fun hHeld => ?_)
                  · (go_split_ands; (repeat' apply And.intro) <;> (repeat (first | with_reducible assumption | with_reducible refine keepcell (by with_reducible assumption) ?_)))
                  clear hK K
                  try simp only [sq]
                  refine wpAnyH_take (i := 8) (v := ?_) rfl (by kernel_rfl) (by kernel_rfl) (by kernel_rfl) (fun _ _ _ h => h) (Or.inl ⟨by rfl, ?_⟩) hHeld ?_
                  rotate_left
                  · intro w hSw; (try dsimp only at hSw); go_simp; try (with_reducible rfl)
                  try simp only [sq]
                  refine wpAnyH_take (i := 9) (v := ?_) rfl (by kernel_rfl) (by kernel_rfl) (by kernel_rfl) (fun _ _ _ h => h) (Or.inl ⟨by rfl, ?_⟩) hHeld ?_
                  rotate_left
                  · intro w hSw; (try dsimp only at hSw); go_simp; try (with_reducible rfl)
                  try simp only [sq]
                  refine wpAnyH_take (i := 10) (v := ?_) rfl (by kernel_rfl) (by kernel_rfl) (by kernel_rfl) (fun _ _ _ h => h) (Or.inl ⟨by rfl, ?_⟩) hHeld ?_
                  rotate_left
                  · intro w hSw; (try dsimp only at hSw); go_simp; try (with_reducible rfl)
                  try simp only [sq]
                  refine wpAnyH_ready (rs := [12]) (by kernel_rfl) (by simp) ?_
                  refine (AllReadyH.cons rfl (fun K hK => ?_) AllReadyH.nil)
                  obtain ⟨v0, v1, s0, s1⟩ := cell2f gX
                  have hbc := bset (bset hbz (q := XB) (k := 0) hxw (.int .i64 rk)) (q := XB) (k := 1) hxw (.slice aq rp.length cq)
                  try simp only [sq]
                  go_simp
                  refine hK.out _ _ ?_ (fun hHeld => ?_)
                  · (go_split_ands; (repeat' apply And.intro) <;> (repeat (first | with_reducible assumption | with_reducible refine keepcell (by with_reducible assumption) ?_)))
                  clear hK K
                  try simp only [sq]
                  clear v0 v1 s0 s1
                  replace gX := set2r gX (.int .i64 rk) (.slice aq rp.length cq)
                  replace hP : Pts ((y.setCell ⟨XB, 0, none⟩ (.int .i64 rk)).setCell ⟨XB, 1, none⟩ (.slice aq rp.length cq)) aq rp := pts_setX (pts_setX hP hne) hne
                  generalize (y.setCell ⟨XB, 0, none⟩ (.int .i64 rk)).setCell ⟨XB, 1, none⟩ (.slice aq rp.length cq) = ZC at *
                  refine wpAnyH_take (i := 13) (v := ?_) rfl (by kernel_rfl) (by kernel_rfl) (by kernel_rfl) (fun _ _ _ h => h) (Or.inl ⟨by rfl, ?_⟩) hHeld ?_
                  rotate_left
                  · intro w hSw; (try dsimp only at hSw); go_simp; try (with_reducible rfl)
                  try simp only [sq]
                  refine wpAnyH_done (by kernel_rfl) ?_ _
                  go_wp2_with fail
                  go_meet
                  exact RQ3.mk gX hcq hP hbc
              case rest =>
                obtain ⟨X, a1, p1, rfl, rfl, gX, hp1, hP1, hb⟩ := hcut
                replace ga0 := keepcell hb ga0
                replace ga1 := keepcell hb ga1
                replace gs0 := keepcell hb gs0
                replace gs1 := keepcell hb gs1
                replace e1 := keepcell hb e1
                replace HV := hid (btrans HV.out hb)
                replace HY := hid (btrans HY.out hb)
                have HP1 := hid hP1
                clear hb hP1 HR1
                go_upto_region 26 with fail
                go_cut [17, 18] from 115 to 173 (fun t17 t18 wz => RQ3 wc rk2 rp2 ob2 t17 t18 wz)
                case first =>
                  clear gX
                  refine wp_region_held_drew (S := (fun w' => w'.cell? ⟨Sb, 0, none⟩ = some (.int .i64 (now + 1)) ∧ w'.cell? ⟨Sb, 1, none⟩ = some (.slice sa ss.length sc) ∧ w'.cell? ⟨b3, k, none⟩ = some (.int .i64 id))) (by kernel_rfl) ?_ (fun hHeld => ?_)
                  · (repeat' apply And.intro) <;> (first | with_reducible assumption | (with_reducible refine keepdrew ?_; with_reducible assumption))
                  have hbz : Below wc.heap.size wc wc.drew := bdrew (Below.refl _ _)
                  generalize wc.drew = Z0 at *
                  refine wpAnyH_take (i := 0) (v := ?_) rfl (by kernel_rfl) (by kernel_rfl) (by kernel_rfl) (fun _ _ _ h => h) (Or.inl ⟨by rfl, ?_⟩) hHeld ?_
                  rotate_left
                  · intro w hSw; (try dsimp only at hSw); go_simp; try (with_reducible rfl)
                  try simp only [sq]
                  refine wpAnyH_take (i := 1) (v := ?_) rfl (by kernel_rfl) (by kernel_rfl) (by kernel_rfl) (fun _ _ _ h => h) (Or.inl ⟨by rfl, ?_⟩) hHeld ?_
                  rotate_left
                  · intro w hSw; (try dsimp only at hSw); go_simp; try (with_reducible rfl)
                  try simp only [sq]
                  refine wpAnyH_take (i := 2) (v := ?_) rfl (by kernel_rfl) (by kernel_rfl) (by kernel_rfl) (fun _ _ _ h => h) (Or.inl ⟨by rfl, ?_⟩) hHeld ?_
                  rotate_left
                  · intro w hSw; (try dsimp only at hSw); go_simp; try (with_reducible rfl)
                  try simp only [sq]
                  refine wpAnyH_take (i := 3) (v := ?_) rfl (by kernel_rfl) (by kernel_rfl) (by kernel_rfl) (fun _ _ _ h => h) (Or.inl ⟨by rfl, ?_⟩) hHeld ?_
                  rotate_left
                  · intro w hSw; (try dsimp only at hSw); go_simp; try (with_reducible rfl)
                  try simp only [sq]
                  refine wpAnyH_take (i := 4) (v := ?_) rfl (by kernel_rfl) (by kernel_rfl) (by kernel_rfl) (fun _ _ _ h => h) (Or.inl ⟨by rfl, ?_⟩) hHeld ?_
                  rotate_left
                  · intro w hSw; (try dsimp only at hSw); go_simp; try (with_reducible rfl)
                  try simp only [sq]
                  refine wpAnyH_take (i := 5) (v := ?_) rfl (by kernel_rfl) (by kernel_rfl) (by kernel_rfl) (fun _ _ _ h => h) (Or.inl ⟨by rfl, ?_⟩) hHeld ?_
                  rotate_left
                  · intro w hSw; (try dsimp only at hSw); go_simp; try (with_reducible rfl)
                  try simp only [sq]
                  refine wpAnyH_take (i := 6) (v := ?_) rfl (by kernel_rfl) (by kernel_rfl) (by kernel_rfl) (fun _ _ _ h => h) (Or.inl ⟨by rfl, ?_⟩) hHeld ?_
                  rotate_left
                  · intro w hSw; (try dsimp only at hSw); go_simp; try (with_reducible rfl)
                  try simp only [sq]
                  refine wpAnyH_ready (rs := [7, 11]) (by kernel_rfl) (by simp) ?_
                  refine (AllReadyH.cons rfl (fun K hK => ?_) (AllReadyH.cons rfl (fun K hK => ?_) AllReadyH.nil))
                  · skip
                    try simp only [sq]
                    go_simp
                    go_at_call 12
                    refine (HR2.out _ (btrans HY.out hbz)).mono ?_
                    rintro e y ⟨aq, cq, rfl, hcq, hpq, hbq, hy⟩
                    replace hbz := btrans hbz hy
                    have hP := ra_pts hpq
                    have hlt2 := ra_lt hpq
                    clear hpq hbq hy
                    go_wp2_with fail
                    refine hK.out _ _ ?_ (fun hHeld => ?_)
                    · (go_split_ands; (repeat' apply And.intro) <;> (repeat (first | with_reducible assumption | with_reducible refine keepcell (by with_reducible assumption) ?_)))
                    clear hK K
                    try simp only [sq]
                    refine wpAnyH_take (i := 8) (v := ?_) rfl (by kernel_rfl) (by kernel_rfl) (by kernel_rfl) (fun _ _ _ h => h) (Or.inl ⟨by rfl, ?_⟩) hHeld ?_
                    rotate_left
                    · intro w hSw; (try dsimp only at hSw); go_simp; try (with_reducible rfl)
                    try simp only [sq]
                    refine wpAnyH_take (i := 9) (v := ?_) rfl (by kernel_rfl) (by kernel_rfl) (by kernel_rfl) (fun _ _ _ h => h) (Or.inl ⟨by rfl, ?_⟩) hHeld ?_
                    rotate_left
                    · intro w hSw; (try dsimp only at hSw); go_simp; try (with_reducible rfl)
                    try simp only [sq]
                    refine wpAnyH_take (i := 10) (v := ?_) rfl (by kernel_rfl) (by kernel_rfl) (by kernel_rfl) (fun _ _ _ h => h) (Or.inl ⟨by rfl, ?_⟩) hHeld ?_
                    rotate_left
                    · intro w hSw; (try dsimp only at hSw); go_simp; try (with_reducible rfl)
                    try simp only [sq]
                    refine wpAnyH_ready (rs := [11]) (by kernel_rfl) (by simp) ?_
                    refine (AllReadyH.cons rfl (fun K hK => ?_) AllReadyH.nil)
                    try simp only [sq]
                    go_simp
                    have gX := heap_alloc_new y (.cells #[.int .i64 0, .slice none 0 0] 37)
                    have hal : Below y.heap.size y (y.alloc (.cells #[.int .i64 0, .slice none 0 0] 37)) := balloc (Below.refl _ _) _
                    have hxw := hbz.size
                    replace hbz := btrans hbz hal
                    replace hP := hP.below hal
                    have hne : ∀ b off, aq = some ⟨b, off, none⟩ → b ≠ y.heap.size := fun b off e => by have := hlt2 b off e; omega
                    clear hlt2
                    clear hal
                    refine hK.out _ _ ?_ (fun hHeld => ?_)
                    · (go_split_ands; (repeat' apply And.intro) <;> (repeat (first | with_reducible assumption | with_reducible refine keepcell (by with_reducible assumption) ?_)))
                    clear hK K
                    try simp only [sq]
                    generalize y.alloc (.cells #[.int .i64 0, .slice none 0 0] 37) = ZA at *
                    generalize y.heap.size = XB at *
                    refine wpAnyH_ready (rs := [12]) (by kernel_rfl) (by simp) ?_
                    refine (AllReadyH.cons rfl (fun K hK => ?_) AllReadyH.nil)
                    obtain ⟨v0, v1, s0, s1⟩ := cell2f gX
                    have hbc := bset (bset hbz (q := XB) (k := 0) hxw (.int .i64 rk2)) (q := XB) (k := 1) hxw (.slice aq rp2.length cq)
                    try simp only [sq]
                    go_simp
                    refine hK.out _ _ ?_ (fun hHeld => ?_)
                    · (go_split_ands; (repeat' apply And.intro) <;> (repeat (first | with_reducible assumption | with_reducible refine keepcell (by with_reducible assumption) ?_)))
                    clear hK K
                    try simp only [sq]
                    clear v0 v1 s0 s1
                    replace gX := set2r gX (.int .i64 rk2) (.slice aq rp2.length cq)
                    replace hP : Pts ((ZA.setCell ⟨XB, 0, none⟩ (.int .i64 rk2)).setCell ⟨XB, 1, none⟩ (.slice aq rp2.length cq)) aq rp2 := pts_setX (pts_setX hP hne) hne
                    generalize (ZA.setCell ⟨XB, 0, none⟩ (.int .i64 rk2)).setCell ⟨XB, 1, none⟩ (.slice aq rp2.length cq) = ZC at *
                    refine wpAnyH_take (i := 13) (v := ?_) rfl (by kernel_rfl) (by kernel_rfl) (by kernel_rfl) (fun _ _ _ h => h) (Or.inl ⟨by rfl, ?_⟩) hHeld ?_
                    rotate_left
                    · intro w hSw; (try dsimp only at hSw); go_simp; try (with_reducible rfl)
                    try simp only [sq]
                    refine wpAnyH_done (by kernel_rfl) ?_ _
                    go_wp2_with fail
                    go_meet
                    exact RQ3.mk gX hcq hP hbc
                  · skip
                    try simp only [sq]
                    go_simp
                    have gX := heap_alloc_new Z0 (.cells #[.int .i64 0, .slice none 0 0] 37)
                    have hal : Below Z0.heap.size Z0 (Z0.alloc (.cells #[.int .i64 0, .slice none 0 0] 37)) := balloc (Below.refl _ _) _
                    have hxw := hbz.size
                    replace hbz := btrans hbz hal
                    clear hal
                    refine hK.out _ _ ?_ (fun hHeld => ?_)
                    · (go_split_ands; (repeat' apply And.intro) <;> (repeat (first | with_reducible assumption | with_reducible refine keepcell (by with_reducible assumption) ?_)))
                    clear hK K
                    try simp only [sq]
                    generalize Z0.alloc (.cells #[.int .i64 0, .slice none 0 0] 37) = ZA at *
                    generalize Z0.heap.size = XB at *
                    refine wpAnyH_ready (rs := [7]) (by kernel_rfl) (by simp) ?_
                    refine (AllReadyH.cons rfl (fun K hK => ?_) AllReadyH.nil)
                    try simp only [sq]
                    go_simp
                    go_at_call 12
                    refine (HR2.out _ (btrans HY.out hbz)).mono ?_
                    rintro e y ⟨aq, cq, rfl, hcq, hpq, hbq, hy⟩
                    replace hbz := btrans hbz hy
                    have hP := ra_pts hpq
                    have hne : ∀ b off, aq = some ⟨b, off, none⟩ → b ≠ XB := fun b off e => by have := hbq b off e; have := lt_of_block gX; omega
                    replace gX := keepheap2 hy gX
                    clear hpq hbq hy
                    go_wp2_with fail
                    refine hK.out _ _ ?_ (fun hHeld => ?_)
                    · (go_split_ands; (repeat' apply And.intro) <;> (repeat (first | with_reducible assumption | with_reducible refine keepcell (by with_reducible assumption) ?_)))
                    clear hK K
                    try simp only [sq]
                    refine wpAnyH_take (i := 8) (v := ?_) rfl (by kernel_rfl) (by kernel_rfl) (by kernel_rfl) (fun _ _ _ h => h) (Or.inl ⟨by rfl, ?_⟩) hHeld ?_
                    rotate_left
                    · intro w hSw; (try dsimp only at hSw); go_simp; try (with_reducible rfl)
                    try simp only [sq]
                    refine wpAnyH_take (i := 9) (v := ?_) rfl (by kernel_rfl) (by kernel_rfl) (by kernel_rfl) (fun _ _ _ h => h) (Or.inl ⟨by rfl, ?_⟩) hHeld ?_
                    rotate_left
                    · intro w hSw; (try dsimp only at hSw); go_simp; try (with_reducible rfl)
                    try simp only [sq]
                    refine wpAnyH_take (i := 10) (v := ?_) rfl (by kernel_rfl) (by kernel_rfl) (by kernel_rfl) (fun _ _ _ h => h) (Or.inl ⟨by rfl, ?_⟩) hHeld ?_
                    rotate_left
                    · intro w hSw; (try dsimp only at hSw); go_simp; try (with_reducible rfl)
                    try simp only [sq]
                    refine wpAnyH_ready (rs := [12]) (by kernel_rfl) (by simp) ?_
                    refine (AllReadyH.cons rfl (fun K hK => ?_) AllReadyH.nil)
                    obtain ⟨v0, v1, s0, s1⟩ := cell2f gX
                    have hbc := bset (bset hbz (q := XB) (k := 0) hxw (.int .i64 rk2)) (q := XB) (k := 1) hxw (.slice aq rp2.length cq)
                    try simp only [sq]
                    go_simp
                    refine hK.out _ _ ?_ (fun hHeld => ?_)
                    · (go_split_ands; (repeat' apply And.intro) <;> (repeat (first | with_reducible assumption | with_reducible refine keepcell (by with_reducible assumption) ?_)))
                    clear hK K
                    try simp only [sq]
                    clear v0 v1 s0 s1
                    replace gX := set2r gX (.int .i64 rk2) (.slice aq rp2.length cq)
                    replace hP : Pts ((y.setCell ⟨XB, 0, none⟩ (.int .i64 rk2)).setCell ⟨XB, 1, none⟩ (.slice aq rp2.length cq)) aq rp2 := pts_setX (pts_setX hP hne) hne
                    generalize (y.setCell ⟨XB, 0, none⟩ (.int .i64 rk2)).setCell ⟨XB, 1, none⟩ (.slice aq rp2.length cq) = ZC at *
                    refine wpAnyH_take (i := 13) (v := ?_) rfl (by kernel_rfl) (by kernel_rfl) (by kernel_rfl) (fun _ _ _ h => h) (Or.inl ⟨by rfl, ?_⟩) hHeld ?_
                    rotate_left
                    · intro w hSw; (try dsimp only at hSw); go_simp; try (with_reducible rfl)
                    try simp only [sq]
                    refine wpAnyH_done (by kernel_rfl) ?_ _
                    go_wp2_with fail
                    go_meet
                    exact RQ3.mk gX hcq hP hbc
                case rest =>
                  obtain ⟨X2, a2, p2, rfl, rfl, gX2, hp2, hP2, hb⟩ := hcut
                  replace e1 := keepcell hb e1
                  replace gX := keepheap2 hb gX
                  replace HV := hid (btrans HV.out hb)
                  replace HY := hid (btrans HY.out hb)
                  replace HP1 := hid (HP1.out.below hb)
                  have HP2 := hid hP2
                  clear hb hP2 HR2 ga0 ga1 gs0 gs1
                  have HE : Hid (wc.cell? ⟨b3, k, none⟩ = some (.int .i64 id)) := hid e1
                  have HGX := hid gX
                  have HGX2 := hid gX2
                  clear e1 gX gX2
                  go_wp2_with fail
                  go_loopw [19, 20] (fun th tk wr => ∃ (b : Bool) (i : Nat), th = .bool b ∧ tk = .int .i64 i ∧ i ≤ nc ∧ b = (cs.take i).any (fun c => decide (c.1 = id)) ∧ Hid (Below wc.heap.size wc wr)) (fun _ tk _ => nc - (intOf tk).toNat)
                  case atStart => exact ⟨false, 0, rfl, rfl, Nat.zero_le _, by simp, hid (Below.refl _ _)⟩
                  case round =>
                    obtain ⟨b, i2, rfl, rfl, hi2, hbe, HT⟩ := hrel
                    have HBE := hid hbe
                    clear hbe
                    by_cases hl2 : i2 < nc
                    · have c3 : (i2 : Int) < (nc : Int) := by omega
                      have hir : i2 < cs.length := by rw [HNC.out]; exact hl2
                      obtain ⟨b4, o4, rfl, _, _, _, k0, _⟩ := ((HCH.out.below HY.out).below HT.out).at i2 hir
                      have e1 := keepcell HT.out HE.out
                      have HAN := hid (any_take (id := id) hir)
                      rw [← HBE.out] at HAN
                      generalize cs[i2].1 = ck at *
                      have HTd := hid (bdrew HT.out)
                      cases b
                      · go_upto_region 31 with fail
                        refine wp_region_held_drew (S := (fun w' => w'.cell? ⟨b4, (o4 + i2 * 4), none⟩ = some (.int .i64 ck) ∧ w'.cell? ⟨b3, k, none⟩ = some (.int .i64 id))) (by kernel_rfl) ?_ (fun hHeld => ?_)
                        · (repeat' apply And.intro) <;> (repeat (first | with_reducible assumption | with_reducible refine keepdrew ?_ | with_reducible refine keepcell (by with_reducible assumption) ?_))
                        refine wpAnyH_take (i := 0) (v := ?_) rfl (by kernel_rfl) (by kernel_rfl) (by kernel_rfl) (fun _ _ _ h => h) (Or.inl ⟨by rfl, ?_⟩) hHeld ?_
                        rotate_left
                        · intro w hSw; (try dsimp only at hSw); go_simp; try (with_reducible rfl)
                        try simp only [sq]
                        refine wpAnyH_take (i := 1) (v := ?_) rfl (by kernel_rfl) (by kernel_rfl) (by kernel_rfl) (fun _ _ _ h => h) (Or.inl ⟨by rfl, ?_⟩) hHeld ?_
                        rotate_left
                        · intro w hSw; (try dsimp only at hSw); go_simp; try (with_reducible rfl)
                        try simp only [sq]
                        refine wpAnyH_take (i := 2) (v := ?_) rfl (by kernel_rfl) (by kernel_rfl) (by kernel_rfl) (fun _ _ _ h => h) (Or.inl ⟨by rfl, ?_⟩) hHeld ?_
                        rotate_left
                        · intro w hSw; (try dsimp only at hSw); go_simp; try (with_reducible rfl)
                        try simp only [sq]
                        refine wpAnyH_take (i := 3) (v := ?_) rfl (by kernel_rfl) (by kernel_rfl) (by kernel_rfl) (fun _ _ _ h => h) (Or.inl ⟨by rfl, ?_⟩) hHeld ?_
                        rotate_left
                        · intro w hSw; (try dsimp only at hSw); go_simp; try (with_reducible rfl)
                        try simp only [sq]
                        refine wpAnyH_take (i := 4) (v := ?_) rfl (by kernel_rfl) (by kernel_rfl) (by kernel_rfl) (fun _ _ _ h => h) (Or.inl ⟨by rfl, ?_⟩) hHeld ?_
                        rotate_left
                        · intro w hSw; (try dsimp only at hSw); go_simp; try (with_reducible rfl)
                        try simp only [sq]
                        refine wpAnyH_take (i := 5) (v := ?_) rfl (by kernel_rfl) (by kernel_rfl) (by kernel_rfl) (fun _ _ _ h => h) (Or.inl ⟨by rfl, ?_⟩) hHeld ?_
                        rotate_left
                        · intro w hSw; (try dsimp only at hSw); go_simp; try (with_reducible rfl)
                        try simp only [sq]
                        refine wpAnyH_take (i := 6) (v := ?_) rfl (by kernel_rfl) (by kernel_rfl) (by kernel_rfl) (fun _ _ _ h => h) (Or.inl ⟨by rfl, ?_⟩) hHeld ?_
                        rotate_left
                        · intro w hSw; (try dsimp only at hSw); go_simp; try (with_reducible rfl)
                        try simp only [sq]
                        refine wpAnyH_take (i := 7) (v := ?_) rfl (by kernel_rfl) (by kernel_rfl) (by kernel_rfl) (fun _ _ _ h => h) (Or.inl ⟨by rfl, ?_⟩) hHeld ?_
                        rotate_left
                        · intro w hSw; (try dsimp only at hSw); go_simp; try (with_reducible rfl)
                        try simp only [sq]
                        refine wpAnyH_take (i := 8) (v := ?_) rfl (by kernel_rfl) (by kernel_rfl) (by kernel_rfl) (fun _ _ _ h => h) (Or.inl ⟨by rfl, ?_⟩) hHeld ?_
                        rotate_left
                        · intro w hSw; (try dsimp only at hSw); go_simp; try (with_reducible rfl)
                        try simp only [sq]
                        refine wpAnyH_take (i := 9) (v := ?_) rfl (by kernel_rfl) (by kernel_rfl) (by kernel_rfl) (fun _ _ _ h => h) (Or.inl ⟨by rfl, ?_⟩) hHeld ?_
                        rotate_left
                        · intro w hSw; (try dsimp only at hSw); go_simp; try (with_reducible rfl)
                        try simp only [sq]
                        refine wpAnyH_take (i := 10) (v := ?_) rfl (by kernel_rfl) (by kernel_rfl) (by kernel_rfl) (fun _ _ _ h => h) (Or.inl ⟨by rfl, ?_⟩) hHeld ?_
                        rotate_left
                        · intro w hSw; (try dsimp only at hSw); go_simp; try (with_reducible rfl)
                        try simp only [sq]
                        refine wpAnyH_take (i := 11) (v := ?_) rfl (by kernel_rfl) (by kernel_rfl) (by kernel_rfl) (fun _ _ _ h => h) (Or.inl ⟨by rfl, ?_⟩) hHeld ?_
                        rotate_left
                        · intro w hSw; (try dsimp only at hSw); go_simp; try (with_reducible rfl)
                        try simp only [sq]
                        refine wpAnyH_take (i := 12) (v := ?_) rfl (by kernel_rfl) (by kernel_rfl) (by kernel_rfl) (fun _ _ _ h => h) (Or.inl ⟨by rfl, ?_⟩) hHeld ?_
                        rotate_left
                        · intro w hSw; (try dsimp only at hSw); go_simp; try (with_reducible rfl)
                        try simp only [sq]
                        refine wpAnyH_take (i := 13) (v := ?_) rfl (by kernel_rfl) (by kernel_rfl) (by kernel_rfl) (fun _ _ _ h => h) (Or.inl ⟨by rfl, ?_⟩) hHeld ?_
                        rotate_left
                        · intro w hSw; (try dsimp only at hSw); go_simp; try (with_reducible rfl)
                        try simp only [sq]
                        refine wpAnyH_done (by kernel_rfl) ?_ _
                        go_wp2_with fail
                        go_roundw
                        case rel => exact ⟨_, i2 + 1, rfl, by go_num, by omega, by rw [HAN.out, Bool.false_or]; by_cases h : ck = id <;> simp [h], HTd⟩
                        case measure => simp [intOf]; omega
                      · go_upto_region 31 with fail
                        refine wp_region_held_drew (S := (fun w' => w'.cell? ⟨b3, k, none⟩ = some (.int .i64 id))) (by kernel_rfl) ?_ (fun hHeld => ?_)
                        · (repeat' apply And.intro) <;> (repeat (first | with_reducible assumption | with_reducible refine keepdrew ?_ | with_reducible refine keepcell (by with_reducible assumption) ?_))
                        refine wpAnyH_take (i := 0) (v := ?_) rfl (by kernel_rfl) (by kernel_rfl) (by kernel_rfl) (fun _ _ _ h => h) (Or.inl ⟨by rfl, ?_⟩) hHeld ?_
                        rotate_left
                        · intro w hSw; (try dsimp only at hSw); go_simp; try (with_reducible rfl)
                        try simp only [sq]
                        refine wpAnyH_take (i := 1) (v := ?_) rfl (by kernel_rfl) (by kernel_rfl) (by kernel_rfl) (fun _ _ _ h => h) (Or.inl ⟨by rfl, ?_⟩) hHeld ?_
                        rotate_left
                        · intro w hSw; (try dsimp only at hSw); go_simp; try (with_reducible rfl)
                        try simp only [sq]
                        refine wpAnyH_take (i := 2) (v := undef) rfl (by kernel_rfl) (by kernel_rfl) (by kernel_rfl) (fun _ _ _ h => h) (Or.inr ⟨by rfl, rfl⟩) hHeld ?_
                        try simp only [sq]
                        refine wpAnyH_take (i := 3) (v := undef) rfl (by kernel_rfl) (by kernel_rfl) (by kernel_rfl) (fun _ _ _ h => h) (Or.inr ⟨by rfl, rfl⟩) hHeld ?_
                        try simp only [sq]
                        refine wpAnyH_take (i := 4) (v := undef) rfl (by kernel_rfl) (by kernel_rfl) (by kernel_rfl) (fun _ _ _ h => h) (Or.inr ⟨by rfl, rfl⟩) hHeld ?_
                        try simp only [sq]
                        refine wpAnyH_take (i := 5) (v := undef) rfl (by kernel_rfl) (by kernel_rfl) (by kernel_rfl) (fun _ _ _ h => h) (Or.inr ⟨by rfl, rfl⟩) hHeld ?_
                        try simp only [sq]
                        refine wpAnyH_take (i := 6) (v := undef) rfl (by kernel_rfl) (by kernel_rfl) (by kernel_rfl) (fun _ _ _ h => h) (Or.inr ⟨by rfl, rfl⟩) hHeld ?_
                        try simp only [sq]
                        refine wpAnyH_take (i := 7) (v := undef) rfl (by kernel_rfl) (by kernel_rfl) (by kernel_rfl) (fun _ _ _ h => h) (Or.inr ⟨by rfl, rfl⟩) hHeld ?_
                        try simp only [sq]
                        refine wpAnyH_take (i := 8) (v := undef) rfl (by kernel_rfl) (by kernel_rfl) (by kernel_rfl) (fun _ _ _ h => h) (Or.inr ⟨by rfl, rfl⟩) hHeld ?_
                        try simp only [sq]
                        refine wpAnyH_take (i := 9) (v := undef) rfl (by kernel_rfl) (by kernel_rfl) (by kernel_rfl) (fun _ _ _ h => h) (Or.inr ⟨by rfl, rfl⟩) hHeld ?_
                        try simp only [sq]
                        refine wpAnyH_take (i := 10) (v := undef) rfl (by kernel_rfl) (by kernel_rfl) (by kernel_rfl) (fun _ _ _ h => h) (Or.inr ⟨by rfl, rfl⟩) hHeld ?_
                        try simp only [sq]
                        refine wpAnyH_take (i := 11) (v := undef) rfl (by kernel_rfl) (by kernel_rfl) (by kernel_rfl) (fun _ _ _ h => h) (Or.inr ⟨by rfl, rfl⟩) hHeld ?_
                        try simp only [sq]
                        refine wpAnyH_take (i := 12) (v := ?_) rfl (by kernel_rfl) (by kernel_rfl) (by kernel_rfl) (fun _ _ _ h => h) (Or.inl ⟨by rfl, ?_⟩) hHeld ?_
                        rotate_left
                        · intro w hSw; (try dsimp only at hSw); go_simp; try (with_reducible rfl)
                        try simp only [sq]
                        refine wpAnyH_take (i := 13) (v := ?_) rfl (by kernel_rfl) (by kernel_rfl) (by kernel_rfl) (fun _ _ _ h => h) (Or.inl ⟨by rfl, ?_⟩) hHeld ?_
                        rotate_left
                        · intro w hSw; (try dsimp only at hSw); go_simp; try (with_reducible rfl)
                        try simp only [sq]
                        refine wpAnyH_done (by kernel_rfl) ?_ _
                        go_wp2_with fail
                        go_roundw
                        case rel => exact ⟨true, i2 + 1, rfl, by go_num, by omega, by rw [HAN.out]; simp, HTd⟩
                        case measure => simp [intOf]; omega
                    · have c3 : (nc : Int) ≤ (i2 : Int) := by omega
                      have hin : i2 = nc := by omega
                      have HVt := hid (btrans HV.out HT.out)
                      obtain ⟨x0, x1, _, _⟩ := cell2f (keepheap2 HT.out HGX.out)
                      obtain ⟨y0, y1, _, _⟩ := cell2f (keepheap2 HT.out HGX2.out)
                      cases b
                      · have hall : ∀ c ∈ cs, c.1 ≠ id := by
                          have h1 := HBE.out
                          rw [hin, ← HNC.out, List.take_length] at h1
                          have h2 := h1.symm
                          rw [List.any_eq_false] at h2
                          intro c hc
                          simpa using h2 c hc
                        obtain ⟨q1, q2, q3⟩ := HSS.out hall
                        subst q1 q2 q3
                        have HS := hid (fun (kz : Int) => same_shp kz a1 a2 p1 p2 _ _ hla hp1 hp2 (HP1.out.below HT.out) (HP2.out.below HT.out))
                        clear hall HBE
                        go_wp2_with fail
                        refine (HS.out _).mono ?_
                        rintro e z3 ⟨rfl, hy⟩
                        replace HVt := hid (btrans HVt.out hy)
                        clear hy HS x0 x1 y0 y1
                        go_wp2_with fail
                        go_roundw
                        case rel => exact ⟨k + 1, by go_num, by omega, HVt⟩
                        case measure => simp [intOf]; omega
                      · clear HBE
                        go_wp2_with fail
                        go_roundw
                        case rel => exact ⟨k + 1, by go_num, by omega, HVt⟩
                        case measure => simp [intOf]; omega
            · have c2 : (nk : Int) ≤ (k : Int) := by omega
              have hwn : IntKind.i64.wrap (now + 1) = now + 1 := by rw [IntKind.wrap_i64]; omega
              obtain ⟨ga0, ga1, _, _⟩ := cell2f (keepheap2 HY.out gA)
              obtain ⟨gs0, gs1, _, _⟩ := cell2f (keepheap2 HY.out gS)
              go_wp2_with fail
              refine (HOV.out _ HY.out).mono ?_
              rw [hro]
              rintro e u5 ⟨rfl, hy⟩
              replace HY := hid (btrans HY.out hy)
              clear hy ga0 ga1 gs0 gs1
              obtain ⟨ga0, ga1, _, _⟩ := cell2f (keepheap2 HY.out gA)
              obtain ⟨gs0, gs1, _, _⟩ := cell2f (keepheap2 HY.out gS)
              go_wp2_with fail
              go_ret
              exact ⟨rfl, btrans HB4.out HY.out⟩
end Go.Proofs.YtninciflfolenaaGreat
