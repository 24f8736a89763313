/- Texts of stores, joined: Yd, Yb, Yc, Ye, Yf. -/
import Derived.Test.YtehifednpbdokaaGreatDoorJ4
import Derived.Test.YtehifednpbdokaaGreatDoorJ2
import Derived.Lib.AppendZeros
import Derived.Shelf.SortM.SortNone
import Derived.Test.YtehifednpbdokaaGreatDoorJ3
namespace Go.Proofs.YtehifednpbdokaaGreatDoor
open Go.RowKit
set_option linter.unusedSimpArgs false
set_option linter.unusedVariables false
set_option maxRecDepth 100000 in
set_option maxHeartbeats 2000000 in
theorem spec_IdsR {N : Nat → Prop} (now : Int) (a : Option Addr) (cap : Nat) (rs : List Rw) (t : Int) (w : World) (hm : rs.length ≤ 1099511627776) (h : Rws N w a rs) : Calls Tryz.prog 47 #[.agg #[.int .i64 now, .slice a rs.length cap], .int .i64 t] w fun e w' => ∃ v, e = .returned v ∧ IRow w.heap.size w' v (idsb now rs t) ∧ Below w.heap.size w w' := by
  have HOK := hid (fun (W : World) (hb : Below w.heap.size w W) => spec_RowsOk now a cap rs W hm (h.below hb))
  have HR := hid h
  clear h
  have HNO : Hid (rowsb now rs = false → idsb now rs t = []) := hid (fun e => by unfold idsb; rw [if_neg (by rw [e]; simp)])
  have HYE : Hid (rowsb now rs = true → ∀ ys, ys.Perm (idsT rs t) → ys.Pairwise (· ≤ ·) → ys = idsb now rs t) := hid (fun e ys hp hs => by unfold idsb; rw [if_pos e]; exact srt_of hp hs)
  obtain ⟨n, hn⟩ : ∃ n, n = rs.length := ⟨_, rfl⟩
  have HN := hid hn.symm
  rw [← hn] at hm HOK ⊢
  clear hn
  generalize idsb now rs t = ib at *
  generalize rowsb now rs = ob at *
  go_enter Tryz.func47, Tryz.ntmps47
  go_upto_region 2 with fail
  have hBx : Below w.heap.size w ((w.alloc (.cells #[.int .i64 now, .slice a n cap] 36)).alloc (.cells #[] 3)) := balloc (balloc (Below.refl _ _) _) _
  have g0 := old_alloc (o' := .cells #[] 3) (new_alloc w w.heap.size (.cells #[.int .i64 now, .slice a n cap] 36) rfl)
  have ho := own_newI2 (w := w.alloc (.cells #[.int .i64 now, .slice a n cap] 36)) (B := w.heap.size) (X := w.heap.size + 1) (by simp) (by simp)
  generalize (w.alloc (.cells #[.int .i64 now, .slice a n cap] 36)).alloc (.cells #[] 3) = W0 at *
  have HI := hid (irow_of (zs := []) ho rfl)
  clear ho
  obtain ⟨d0, d1, _, _⟩ := cell2r g0
  go_wp2_with fail
  refine (HOK.out _ hBx).mono ?_
  rintro e W ⟨rfl, hz⟩
  have g1 := keepheap2 hz g0
  have hB := btrans hBx hz
  replace HI := hid (HI.out.below hz)
  clear g0 hBx hz d0 d1 HOK
  cases ob
  · have HF := hid (HNO.out rfl)
    clear HNO HYE
    go_wp2_with fail
    go_ret
    rw [HF.out]
    exact ⟨_, rfl, HI.out, hB⟩
  have HG1 := hid g1
  have HB1 := hid hB
  have HYE2 := hid (HYE.out rfl)
  clear g1 hB HNO HYE
  go_wp2_with fail
  go_loopw [5, 6] (fun tv ti wr => ∃ i : Nat, ∃ zs : List Int, ti = .int .i64 i ∧ i ≤ n ∧ Hid (zs.length ≤ i ∧ zs.Perm (idsT (rs.take i) t) ∧ zs.Pairwise (· ≤ ·)) ∧ Hid (IRow w.heap.size wr tv zs) ∧ Hid (wr.heap[w.heap.size]? = some (.cells #[.int .i64 now, .slice a n cap] 36 (0, 0))) ∧ Hid (Below w.heap.size w wr)) (fun _ ti _ => n - (intOf ti).toNat)
  case atStart => exact ⟨0, [], rfl, Nat.zero_le _, hid ⟨Nat.le_refl _, by simp [idsT], List.Pairwise.nil⟩, HI, HG1, HB1⟩
  case round =>
    clear HI HG1 HB1
    obtain ⟨i, zs, rfl, hi, HZ, HV, G0, HBW⟩ := hrel
    obtain ⟨g, c, rfl, hgl, hgc, hown⟩ := HV.out
    have HO := hid hown
    clear hown HV
    obtain ⟨d0, d1, _, _⟩ := cell2r G0.out
    by_cases hlt : i < n
    · have c1 : (i : Int) < (n : Int) := by omega
      have hir : i < rs.length := by rw [HN.out]; exact hlt
      obtain ⟨b, o, rfl, hbs, a', cap', k0, k1, k2, k3, k4, k5, k6, k7, _⟩ := (HR.out.below HBW.out).at i hir
      have ST := hid (fun w' => spec_there rs[i] a' cap' t w')
      have HX := hid (ids_next (t := t) hir)
      unfold rwv at ST
      clear k5 k6 k7
      generalize thr (tr rs[i]) t = q2 at *
      generalize rs[i].1 = id2 at *
      generalize rs[i].2.1 = fr at *
      generalize rs[i].2.2.1 = te at *
      generalize rs[i].2.2.2.1 = kd at *
      generalize rs[i].2.2.2.2.length = np at *
      go_wp2_with fail
      refine (ST.out _).mono ?_
      rintro e z ⟨rfl, hz⟩
      have g1 := keepheap2 hz G0.out
      have HBz := hid (btrans HBW.out hz)
      have HIz := hid ((irow_of HO.out rfl).below hz)
      replace k0 := keepcell hz k0
      have hsz := hz.size
      clear hz d0 d1 k1 k2 k3 k4
      obtain ⟨d0, d1, _, _⟩ := cell2r g1
      have HG1 := hid g1
      clear g1
      cases q2
      · have HZ2 : Hid (zs.length ≤ i + 1 ∧ zs.Perm (idsT (rs.take (i + 1)) t) ∧ zs.Pairwise (· ≤ ·)) := hid ⟨by have := HZ.out.1; omega, by rw [HX.out, if_neg (by simp)]; exact HZ.out.2.1, HZ.out.2.2⟩
        go_wp2_with fail
        go_roundw
        case rel => exact ⟨i + 1, zs, by go_num, by omega, HZ2, HIz, HG1, HBz⟩
        case measure => simp [intOf]; omega
      · have hzl := HZ.out.1
        have HX2 : Hid (idsT (rs.take (i + 1)) t = idsT (rs.take i) t ++ [id2]) := hid (by rw [HX.out]; simp)
        obtain ⟨g', c', e', hgl', hgc', hown'⟩ := HIz.out
        cases e'
        have AD := hid (add_c w.heap.size g zs.length c zs id2 z (by omega) rfl hgc' hgl' hown')
        clear hown' hgc' hgl'
        go_wp2_with fail
        refine AD.out.mono ?_
        rintro e y ⟨j, g2, c2, hj, h1, h2, rfl, hown2, hy⟩
        have HZ2 : Hid ((zs.take j ++ id2 :: zs.drop j).length ≤ i + 1 ∧ (zs.take j ++ id2 :: zs.drop j).Perm (idsT (rs.take (i + 1)) t) ∧ (zs.take j ++ id2 :: zs.drop j).Pairwise (· ≤ ·)) := hid ⟨by have := (ins_perm zs id2 j).length_eq; simp only [List.length_cons] at this; omega, by
          rw [HX2.out]
          exact (ins_perm zs id2 j).trans ((List.perm_append_singleton id2 _).symm.trans ((List.Perm.append_right [id2] HZ.out.2.1))), ins_sorted HZ.out.2.2 h1 h2⟩
        have HV2 := hid (irow_of (own_mono hown2 (show w.heap.size ≤ z.heap.size by have := HBz.out.size; omega)) (zs := zs.take j ++ id2 :: zs.drop j) (by have := (ins_perm zs id2 j).length_eq; simpa using this))
        have HG2 := hid (keepheap2 hy HG1.out)
        have HBy := hid (btrans HBz.out hy)
        clear hown2 hy h1 h2 d0 d1 k0
        go_wp2_with fail
        go_roundw
        case rel => exact ⟨i + 1, _, by go_num, by omega, HZ2, HV2, HG2, HBy⟩
        case measure => simp [intOf]; omega
    · have c1 : (n : Int) ≤ (i : Int) := by omega
      have hin : i = rs.length := by have := HN.out; omega
      have HF : Hid (zs = ib) := hid (HYE2.out zs (by have := HZ.out.2.1; rw [hin, List.take_length] at this; exact this) HZ.out.2.2)
      clear hin
      go_wp2_with fail
      go_ret
      have := HF.out
      subst this
      exact ⟨_, rfl, irow_of HO.out rfl, HBW.out⟩
set_option maxHeartbeats 1000000 in
theorem spec_has (B g c : Nat) (zs : List Int) (x : Int) (w : World) (hm : zs.length ≤ 1099511627776) (h : w.ownsRow B 3 1 (.slice (some ⟨g, 0, none⟩) zs.length c) zs.length (fli zs)) : Calls Tryz.prog 48 #[.slice (some ⟨g, 0, none⟩) zs.length c, .int .i64 x] w fun e w' => e = .returned (.bool (decide (x ∈ zs))) ∧ w' = w := by
  have HO := hid h
  clear h
  obtain ⟨n, hn⟩ : ∃ n, n = zs.length := ⟨_, rfl⟩
  have HN := hid hn.symm
  rw [← hn] at hm HO ⊢
  clear hn
  have HYE : Hid (∀ i, i < n → zs.getD i 0 = x → decide (x ∈ zs) = true) := hid (fun i hi e => by
    have hi' : i < zs.length := by rw [HN.out]; exact hi
    rw [List.getD_eq_getElem?_getD, List.getElem?_eq_getElem hi'] at e
    simp only [Option.getD_some] at e
    rw [decide_eq_true_eq, ← e]; exact List.getElem_mem hi')
  have HNO : Hid ((∀ i, i < n → zs.getD i 0 ≠ x) → decide (x ∈ zs) = false) := hid (fun hh => by
    rw [decide_eq_false_iff_not]
    intro hx
    obtain ⟨i, hi, e⟩ := List.getElem_of_mem hx
    refine hh i (by rw [← HN.out]; exact hi) ?_
    rw [List.getD_eq_getElem?_getD, List.getElem?_eq_getElem hi]; exact e)
  generalize decide (x ∈ zs) = q at *
  go_enter Tryz.func48, Tryz.ntmps48
  go_wp2_with fail
  go_loopw [5] (fun ti wr => ∃ i : Nat, ti = .int .i64 i ∧ i ≤ n ∧ Hid (∀ k, k < i → zs.getD k 0 ≠ x) ∧ wr = w) (fun ti _ => n - (intOf ti).toNat)
  case atStart => exact ⟨0, rfl, Nat.zero_le _, hid (fun k hk => absurd hk (by omega)), rfl⟩
  case round =>
    obtain ⟨i, rfl, hi, HA, hw⟩ := hrel
    subst hw
    by_cases hlt : i < n
    · have c1 : (i : Int) < (n : Int) := by omega
      have k0 := own_cell HO.out HN.out hlt
      have HY := hid (HYE.out i hlt)
      have HX : Hid (zs.getD i 0 ≠ x → ∀ k, k < i + 1 → zs.getD k 0 ≠ x) := hid (fun e k hk => by
        by_cases e2 : k = i
        · subst e2; exact e
        · exact HA.out k (by omega))
      generalize zs.getD i 0 = y at *
      cases qi : (y == x)
      · have hq : y ≠ x := by simpa using qi
        have HF := hid (HX.out hq)
        clear hq
        go_wp2_with fail
        go_roundw
        case rel => exact ⟨i + 1, by go_num, by omega, HF, by first | rfl | trivial⟩
        case measure => simp [intOf]; omega
      · have hq : y = x := by simpa using qi
        have HF := hid (HY.out hq)
        clear hq
        go_wp2_with fail
        go_ret
        exact ⟨by rw [HF.out]; rfl, rfl⟩
    · have c1 : (n : Int) ≤ (i : Int) := by omega
      have hin : i = n := by omega
      have HF := hid (HNO.out (fun k hk => HA.out k (by omega)))
      clear hin
      go_wp2_with fail
      go_ret
      exact ⟨by rw [HF.out]; rfl, rfl⟩
theorem IRow.grown {B : Nat} {w w' : World} {v : Value} {zs : List Int} {r : Option Nat} (h : IRow B w v zs) (hg : w.grownBy w' r) (hne : ∀ g n c, v = .slice (some ⟨g, 0, none⟩) n c → some g ≠ r) : IRow B w' v zs := by
  obtain ⟨g, cap, rfl, h1, h2, h3⟩ := h
  exact ⟨g, cap, rfl, Nat.lt_of_lt_of_le h1 hg.size, h2, h3.kept hg (.inr (by simpa [Value.ownBlock] using hne g _ _ rfl))⟩
theorem fil_next {zs : List Int} {p : Int → Bool} {i : Nat} (hi : i < zs.length) : (zs.take (i + 1)).filter p = if p (zs.getD i 0) = true then (zs.take i).filter p ++ [zs.getD i 0] else (zs.take i).filter p := by
  rw [List.take_add_one, List.getElem?_eq_getElem hi, List.filter_append, List.getD_eq_getElem?_getD, List.getElem?_eq_getElem hi]
  cases h : p zs[i]
  · simp [h]
  · simp [h]
set_option maxRecDepth 100000 in
set_option maxHeartbeats 8000000 in
theorem spec_TxnIds {N1 N2 : Nat → Prop} (now : Int) (a ta : Option Addr) (cap tcap : Nat) (rs : List Rw) (ts : List Tx) (n : Int) (w : World) (hm : rs.length ≤ 1099511627776) (htm : ts.length ≤ 1099511627776) (hcb : ∀ m (h : m < ts.length), ts[m].2.2.length ≤ 1048576) (hr : Rws N1 w a rs) (ht : Txs N2 1099511627776 w ta ts) : Calls Tryz.prog 17 #[.agg #[.int .i64 now, .slice a rs.length cap, .slice ta ts.length tcap], .int .i64 n] w fun e w' => IA w (tidsb now rs ts n) e w' := by
  have HOK := hid (fun (W : World) (hb : Below w.heap.size w W) => spec_open now a ta cap tcap rs ts n W hm htm (hr.below hb) (ht.below hb))
  obtain ⟨i0, hi0, hz0, hz1, hz2⟩ := info_parts Tryz.infoI
  cases hob : opn now rs ts n
  · rw [hob] at HOK
    have HF : Hid (tidsb now rs ts n = []) := hid (by unfold tidsb; rw [hob]; rfl)
    clear hr ht hcb hob
    generalize tidsb now rs ts n = ti at *
    generalize rs.length = rn at *
    generalize ts.length = tn at *
    go_enter Tryz.func17, Tryz.ntmps17
    go_upto_region 2 with fail
    have hBx : Below w.heap.size w ((w.alloc (.cells #[.int .i64 now, .slice a rn cap, .slice ta tn tcap] 39)).alloc (.cells #[] 3)) := balloc (balloc (Below.refl _ _) _) _
    have g0 := old_alloc (o' := .cells #[] 3) (new_alloc w w.heap.size (.cells #[.int .i64 now, .slice a rn cap, .slice ta tn tcap] 39) rfl)
    have ho := own_newI2 (w := w.alloc (.cells #[.int .i64 now, .slice a rn cap, .slice ta tn tcap] 39)) (B := w.heap.size) (X := w.heap.size + 1) (by simp) (by simp)
    generalize (w.alloc (.cells #[.int .i64 now, .slice a rn cap, .slice ta tn tcap] 39)).alloc (.cells #[] 3) = W0 at *
    have HI := hid (irow_of (zs := []) ho rfl)
    clear ho
    obtain ⟨⟨d0, d1, d2⟩, _⟩ := cellk3 g0
    go_wp2_with fail
    refine (HOK.out _ hBx).mono ?_
    rintro e z ⟨rfl, hz⟩
    have HB := hid (btrans hBx hz)
    have HI2 := hid (HI.out.below hz)
    clear hBx hz HOK d0 d1 d2 g0 HI
    go_wp2_with fail
    go_ret
    obtain ⟨g, c, e, h1, h2, h3⟩ := HI2.out
    cases e
    obtain ⟨q1, q2, q3⟩ := own_I h3 rfl
    rw [HF.out]
    exact ⟨some ⟨_, 0, none⟩, _, rfl, q3, fun b off e => (by cases e; exact q1), HB.out⟩
  rw [hob] at HOK
  obtain ⟨m, rfl, hmr, h1, h2, h3, h4⟩ := opn_yes hob
  have e1 : tidsb now rs ts m = tids rs ts[m].2.2 ts[m].1 := by
    unfold tidsb
    rw [hob, h2]; rfl
  rw [e1]
  clear e1 h2 h4 hob
  have HSEE := hid (fun (x : Int) (W : World) (hb : Below w.heap.size w W) => spec_sees now a ta cap tcap rs ts m x W hm htm (hr.below hb) (ht.below hb) hmr h1 (edb_pos h3))
  unfold RA at HSEE
  have HIDS := hid (fun (W : World) (hb : Below w.heap.size w W) => spec_IdsR now a cap rs ts[m].1 W hm (hr.below hb))
  have hidb : idsb now rs ts[m].1 = srt (idsT rs ts[m].1) := by unfold idsb; rw [if_pos h1]
  rw [hidb] at HIDS
  have hr3 := rowsb_300 h1
  have HAP := hid (rowsb_apart h1)
  have HAS := hid (edb_asc h3)
  have hcm := hcb m hmr
  obtain ⟨b, o, rfl, hbs, ca, ccap, k0, k1, k2, _, _, hcs, _⟩ := ht.at m hmr
  have HCS := hid hcs
  clear hidb h1 h3 hcb hcs hr ht k1
  generalize ts[m].1 = st at *
  generalize ts[m].2.2 = cs at *
  have c0 : (m : Int) < (ts.length : Int) := by omega
  generalize ts.length = tn at *
  have HR3 := hid hr3
  obtain ⟨rn, hrn⟩ : ∃ rn, rn = rs.length := ⟨_, rfl⟩
  have HRN := hid hrn.symm
  rw [← hrn] at hm HOK HSEE HIDS HR3 ⊢
  clear hr3 hrn
  obtain ⟨cn, hcn⟩ : ∃ cn, cn = cs.length := ⟨_, rfl⟩
  have HCN := hid hcn.symm
  rw [← hcn] at hcm k2
  clear hcn
  have K0 := hid k0
  have K2 := hid k2
  clear k0 k2
  go_enter Tryz.func17, Tryz.ntmps17
  go_upto_region 2 with fail
  have hBx : Below w.heap.size w ((w.alloc (.cells #[.int .i64 now, .slice a rn cap, .slice (some ⟨b, o, none⟩) tn tcap] 39)).alloc (.cells #[] 3)) := balloc (balloc (Below.refl _ _) _) _
  have g0 := old_alloc (o' := .cells #[] 3) (new_alloc w w.heap.size (.cells #[.int .i64 now, .slice a rn cap, .slice (some ⟨b, o, none⟩) tn tcap] 39) rfl)
  have ho := own_newI2 (w := w.alloc (.cells #[.int .i64 now, .slice a rn cap, .slice (some ⟨b, o, none⟩) tn tcap] 39)) (B := w.heap.size) (X := w.heap.size + 1) (by simp) (by simp)
  generalize (w.alloc (.cells #[.int .i64 now, .slice a rn cap, .slice (some ⟨b, o, none⟩) tn tcap] 39)).alloc (.cells #[] 3) = W0 at *
  have HI := hid (irow_of (zs := []) ho rfl)
  clear ho
  obtain ⟨⟨d0, d1, d2⟩, _⟩ := cellk3 g0
  go_wp2_with fail
  refine (HOK.out _ hBx).mono ?_
  rintro e z ⟨rfl, hz⟩
  replace g0 := keepheapA hz g0
  have hB := btrans hBx hz
  replace HI := hid (HI.out.below hz)
  clear hBx hz HOK d0 d1 d2
  obtain ⟨⟨d0, d1, d2⟩, _⟩ := cellk3 g0
  have k0 := keepcell hB K0.out
  go_upto_region 4 with fail
  refine wp_region_held_drew (S := (fun w' => w'.cell? ⟨w.heap.size, 0, none⟩ = some (.int .i64 now) ∧ w'.cell? ⟨w.heap.size, 1, none⟩ = some (.slice a rn cap) ∧ w'.cell? ⟨w.heap.size, 2, none⟩ = some (.slice (some ⟨b, o, none⟩) tn tcap) ∧ w'.cell? ⟨b, o + m * 3, none⟩ = some (.int .i64 st))) (by kernel_rfl) ?_ (fun hHeld => ?_)
  · (repeat' apply And.intro) <;> (repeat (first | with_reducible assumption | with_reducible refine keepdrew ?_ | with_reducible refine keepcell (by with_reducible assumption) ?_ | with_reducible refine keepalloc ?_ _))
  refine wpAnyH_take (i := 0) (v := ?_) rfl (by kernel_rfl) (by kernel_rfl) (by kernel_rfl) (fun _ _ _ h => h) (Or.inl ⟨by rfl, ?_⟩) hHeld ?_
  rotate_left
  · intro w hSw; (try dsimp only at hSw); go_simp; try (with_reducible rfl)
  try simp only [sq]
  refine wpAnyH_take (i := 1) (v := ?_) rfl (by kernel_rfl) (by kernel_rfl) (by kernel_rfl) (fun _ _ _ h => h) (Or.inl ⟨by rfl, ?_⟩) hHeld ?_
  rotate_left
  · intro w hSw; (try dsimp only at hSw); go_simp; try (with_reducible rfl)
  try simp only [sq]
  refine wpAnyH_take (i := 2) (v := ?_) rfl (by kernel_rfl) (by kernel_rfl) (by kernel_rfl) (fun _ _ _ h => h) (Or.inl ⟨by rfl, ?_⟩) hHeld ?_
  rotate_left
  · intro w hSw; (try dsimp only at hSw); go_simp; try (with_reducible rfl)
  try simp only [sq]
  refine wpAnyH_take (i := 3) (v := ?_) rfl (by kernel_rfl) (by kernel_rfl) (by kernel_rfl) (fun _ _ _ h => h) (Or.inl ⟨by rfl, ?_⟩) hHeld ?_
  rotate_left
  · intro w hSw; (try dsimp only at hSw); go_simp; try (with_reducible rfl)
  try simp only [sq]
  refine wpAnyH_take (i := 4) (v := ?_) rfl (by kernel_rfl) (by kernel_rfl) (by kernel_rfl) (fun _ _ _ h => h) (Or.inl ⟨by rfl, ?_⟩) hHeld ?_
  rotate_left
  · intro w hSw; (try dsimp only at hSw); go_simp; try (with_reducible rfl)
  try simp only [sq]
  refine wpAnyH_take (i := 5) (v := ?_) rfl (by kernel_rfl) (by kernel_rfl) (by kernel_rfl) (fun _ _ _ h => h) (Or.inl ⟨by rfl, ?_⟩) hHeld ?_
  rotate_left
  · intro w hSw; (try dsimp only at hSw); go_simp; try (with_reducible rfl)
  try simp only [sq]
  refine wpAnyH_take (i := 6) (v := ?_) rfl (by kernel_rfl) (by kernel_rfl) (by kernel_rfl) (fun _ _ _ h => h) (Or.inl ⟨by rfl, ?_⟩) hHeld ?_
  rotate_left
  · intro w hSw; (try dsimp only at hSw); go_simp; try (with_reducible rfl)
  try simp only [sq]
  refine wpAnyH_take (i := 7) (v := ?_) rfl (by kernel_rfl) (by kernel_rfl) (by kernel_rfl) (fun _ _ _ h => h) (Or.inl ⟨by rfl, ?_⟩) hHeld ?_
  rotate_left
  · intro w hSw; (try dsimp only at hSw); go_simp; try (with_reducible rfl)
  try simp only [sq]
  refine wpAnyH_ready (rs := [8]) (by kernel_rfl) (by simp) ?_
  refine AllReadyH.cons rfl (fun K hK => ?_) AllReadyH.nil
  try simp only [sq]
  go_simp
  (first
      | (go_at_call 47; refine (HIDS.out _ (by show Below _ _ _; (repeat (first | with_reducible exact Below.refl _ _ | with_reducible assumption | (with_reducible refine btrans ?_ (by with_reducible assumption)) | with_reducible refine bdrew ?_ | with_reducible refine balloc ?_ _)))).mono ?_; rintro e z2 ⟨v, rfl, hI, hz2⟩))
  go_wp2_with fail
  refine hK.out _ _ ?_ (fun hHeld => ?_)
  · (repeat' apply And.intro) <;> (repeat (first | with_reducible assumption | with_reducible refine keepdrew ?_ | with_reducible refine keepcell (by with_reducible assumption) ?_ | with_reducible refine keepalloc ?_ _))
  clear hK K
  try simp only [sq]
  refine wpAnyH_take (i := 9) (v := ?_) rfl (by kernel_rfl) (by kernel_rfl) (by kernel_rfl) (fun _ _ _ h => h) (Or.inl ⟨by rfl, ?_⟩) hHeld ?_
  rotate_left
  · intro w hSw; (try dsimp only at hSw); go_simp; try (with_reducible rfl)
  try simp only [sq]
  refine wpAnyH_done (by kernel_rfl) ?_ _
  replace hz2 := btrans (bdrew (Below.refl z.heap.size z)) hz2
  replace g0 := keepheapA hz2 g0
  have HB := hid (btrans hB hz2)
  have HI0 := hid HI.out
  replace HI := hid (HI.out.below hz2)
  have HZ := hid hI
  have HG0 := hid g0
  have hzz := hB.size
  have hz2s : w.heap.size + 2 ≤ z.heap.size := by
    obtain ⟨g', c', e', q, _⟩ := HI0.out
    cases e'; omega
  have HV0 := hid (show IRow (w.heap.size + 2) z2 v (srt (idsT rs st)) by
    obtain ⟨g, c, e, q1, q2, q3⟩ := hI
    exact ⟨g, c, e, q1, q2, own_mono q3 hz2s⟩)
  have hz3s := hz2.size
  clear hB hz2 hI d0 d1 d2 k0 g0 HIDS HZ hHeld HI0
  go_wp2_with fail
  go_loopw [6, 7] (fun tv ti wr => ∃ i : Nat, ∃ zs : List Int, ti = .int .i64 i ∧ i ≤ cn ∧ Hid (AL rs cs st i zs) ∧ Hid (w.heap.size + 2 ≤ wr.heap.size ∧ IRow (w.heap.size + 2) wr tv zs) ∧ Hid (IRow w.heap.size wr (.slice (some ⟨w.heap.size + 1, 0, none⟩) 0 0) []) ∧ Hid (wr.heap[w.heap.size]? = some (.cells #[.int .i64 now, .slice a rn cap, .slice (some ⟨b, o, none⟩) tn tcap] 39 (0, 0))) ∧ Hid (Below w.heap.size w wr)) (fun _ ti _ => cn - (intOf ti).toNat)
  case atStart => exact ⟨0, _, rfl, Nat.zero_le _, hid (AL.zero HAP.out), hid ⟨by omega, HV0.out⟩, HI, HG0, HB⟩
  case round =>
    clear HV0 HI HG0 HB hzz hz2s hz3s
    obtain ⟨i, zs, rfl, hi, HZ, HV, HI, G0, HBW⟩ := hrel
    obtain ⟨hw2, g, c, rfl, hgl, hgc, hown⟩ := HV.out
    have HO := hid hown
    have hzl : zs.length ≤ 300 + i := by have h := HZ.out.2.2.2; have h1 := HRN.out; have h2 := HR3.out; omega
    clear hown HV
    obtain ⟨⟨d0, d1, d2⟩, _⟩ := cellk3 G0.out
    have k2 := keepcell HBW.out K2.out
    by_cases hlt : i < cn
    · have c1 : (i : Int) < (cn : Int) := by omega
      have hir : i < cs.length := by rw [HCN.out]; exact hlt
      obtain ⟨b', o', rfl, hbs', a', cap', x0, _, _, _, _, _, _, _⟩ := (HCS.out.below HBW.out).at i hir
      rw [← idc_at hir] at x0
      have HAS2 := hid (spec_has (w.heap.size + 2) g c zs (idc cs i) wr (by omega) HO.out)
      have HSK := hid (HZ.out.skip (i := i))
      have HAD := hid (fun (j : Nat) => HZ.out.add (i := i) (j := j) hir)
      have AD := hid (add_c (w.heap.size + 2) g zs.length c zs (idc cs i) wr (by omega) rfl hgc hgl HO.out)
      generalize idc cs i = x at *
      by_cases hmem : x ∈ zs
      · rw [show decide (x ∈ zs) = true by simpa using hmem] at HAS2
        have HN := hid (HSK.out hmem)
        clear hmem
        go_wp2_with fail
        refine HAS2.out.mono ?_
        rintro e z ⟨rfl, hz⟩
        subst hz
        go_wp2_with fail
        go_roundw
        case rel => exact ⟨i + 1, zs, by go_num, by omega, HN, hid ⟨hw2, irow_of HO.out rfl⟩, HI, G0, HBW⟩
        case measure => simp [intOf]; omega
      · rw [show decide (x ∈ zs) = false by simpa using hmem] at HAS2
        have HN := hid (fun j => HAD.out j hmem)
        clear hmem
        go_wp2_with fail
        refine HAS2.out.mono ?_
        rintro e z ⟨rfl, hz⟩
        subst hz
        go_wp2_with fail
        refine AD.out.mono ?_
        rintro e y ⟨j, g2, c2, hj, q1, q2, rfl, hown2, hy⟩
        have HZ2 := hid (HN.out j q1 q2)
        have HV2 := hid (irow_of (own_mono hown2 (show w.heap.size + 2 ≤ z.heap.size from hw2)) (zs := zs.take j ++ x :: zs.drop j) (by have := (ins_perm zs x j).length_eq; simpa using this))
        have HG2 := hid (keepheapA hy G0.out)
        have HI2 := hid (HI.out.below hy)
        have HBy := hid (btrans HBW.out hy)
        have hys := hy.size
        clear hown2 hy q1 q2 d0 d1 d2 k2 x0
        go_wp2_with fail
        go_roundw
        case rel => exact ⟨i + 1, _, by go_num, by omega, HZ2, hid ⟨by omega, HV2.out⟩, HI2, HG2, HBy⟩
        case measure => simp [intOf]; omega
    · have c1 : (cn : Int) ≤ (i : Int) := by omega
      have hin : i = cs.length := by have := HCN.out; omega
      have HF : Hid (zs.filter (fun x => seB rs cs x st) = tids rs cs st) := hid (by have := HZ.out; rw [hin] at this; exact this.fin HAP.out HAS.out)
      clear hin HZ
      have HO0 := hid (irow_of HO.out rfl)
      have hgb := (HO.out.lt g rfl).1
      obtain ⟨zn, hzn⟩ : ∃ zn, zn = zs.length := ⟨_, rfl⟩
      have HZN := hid hzn.symm
      rw [← hzn] at HO hzl HO0 hgc ⊢
      have hzb : zn ≤ 1099511627 := by omega
      clear hzn
      go_wp2_with fail
      clear d0 d1 d2 k2
      rename_i wq _
      go_loopw [5, 8] (fun tv ti wr => ∃ i : Nat, ∃ os : List Int, ti = .int .i64 i ∧ i ≤ zn ∧ Hid (os = (zs.take i).filter (fun x => seB rs cs x st)) ∧ Hid (IRow w.heap.size wr tv os) ∧ Hid (∀ q n' c', tv = .slice (some ⟨q, 0, none⟩) n' c' → q ≠ g ∧ q ≠ w.heap.size) ∧ Hid (IRow (w.heap.size + 2) wr (.slice (some ⟨g, 0, none⟩) zn c) zs) ∧ Hid (wr.heap[w.heap.size]? = some (.cells #[.int .i64 now, .slice a rn cap, .slice (some ⟨b, o, none⟩) tn tcap] 39 (0, 0))) ∧ Hid (Below w.heap.size w wr)) (fun _ ti _ => zn - (intOf ti).toNat)
      case atStart => exact ⟨0, [], rfl, Nat.zero_le _, hid rfl, HI, hid (by intro q n' c' e; cases e; omega), HO0, G0, HBW⟩
      case round =>
        clear HO0 HI HO G0 HBW c1 hi hgl hgc
        rename_i wr _
        obtain ⟨i, os, rfl, hi, HZ, HV, HD, HA, G0, HBW⟩ := hrel
        obtain ⟨go, co, rfl, hgl, hgc, hown⟩ := HV.out
        have HO := hid hown
        clear hown HV
        obtain ⟨⟨d0, d1, d2⟩, _⟩ := cellk3 G0.out
        by_cases hlt : i < zn
        · have c1 : (i : Int) < (zn : Int) := by omega
          have hir : i < zs.length := by rw [HZN.out]; exact hlt
          have k3 : wr.cell? ⟨g, i, none⟩ = some (.int .i64 (zs.getD i 0)) := by
            obtain ⟨g', c', e', _, _, q⟩ := HA.out
            rw [HZN.out] at q e'
            cases e'
            exact own_cell q HZN.out hlt
          have hga0 : g < wr.heap.size := by
            obtain ⟨g', c', e', q, _⟩ := HA.out
            cases e'; exact q
          have HX := hid (fil_next (p := fun x => seB rs cs x st) hir)
          have HSE := hid (fun (W : World) (hb : Below wr.heap.size wr W) => HSEE.out (zs.getD i 0) W (btrans HBW.out hb))
          rw [← HZ.out] at HX
          have hol : os.length ≤ i := by
            rw [HZ.out]
            have := List.length_filter_le (fun x => seB rs cs x st) (zs.take i)
            simp at this; omega
          clear HZ
          generalize zs.getD i 0 = x at *
          try simp only at HX
          generalize seK rs cs x st = sk at *
          generalize seP rs cs x st = sp at *
          generalize seB rs cs x st = sb at *
          have hwl := HBW.out.size
          have hw1 : w.heap.size < wr.heap.size := lt_of_block G0.out
          go_upto_region 13 with fail
          go_cut [9, 10] from 68 to 77 (fun _ t10 wx => t10 = .bool sb ∧ Hid (Below wr.heap.size wr wx))
          case first =>
            refine wp_region_held_drew (S := (fun w' => w'.cell? ⟨w.heap.size, 0, none⟩ = some (.int .i64 now) ∧ w'.cell? ⟨w.heap.size, 1, none⟩ = some (.slice a rn cap) ∧ w'.cell? ⟨w.heap.size, 2, none⟩ = some (.slice (some ⟨b, o, none⟩) tn tcap) ∧ w'.cell? ⟨g, i, none⟩ = some (.int .i64 x))) (by kernel_rfl) ?_ (fun hHeld => ?_)
            · (repeat' apply And.intro) <;> (repeat (first | with_reducible assumption | with_reducible refine keepset ?_ (by dsimp only; omega) | with_reducible refine keepdrew ?_ | with_reducible refine keepcell (by with_reducible assumption) ?_ | with_reducible refine keepalloc ?_ _))
            refine wpAnyH_take (i := 0) (v := ?_) rfl (by kernel_rfl) (by kernel_rfl) (by kernel_rfl) (fun _ _ _ h => h) (Or.inl ⟨by rfl, ?_⟩) hHeld ?_
            rotate_left
            · intro w hSw; (try dsimp only at hSw); go_simp; try (with_reducible rfl)
            try simp only [sq]
            refine wpAnyH_take (i := 1) (v := ?_) rfl (by kernel_rfl) (by kernel_rfl) (by kernel_rfl) (fun _ _ _ h => h) (Or.inl ⟨by rfl, ?_⟩) hHeld ?_
            rotate_left
            · intro w hSw; (try dsimp only at hSw); go_simp; try (with_reducible rfl)
            try simp only [sq]
            refine wpAnyH_take (i := 2) (v := ?_) rfl (by kernel_rfl) (by kernel_rfl) (by kernel_rfl) (fun _ _ _ h => h) (Or.inl ⟨by rfl, ?_⟩) hHeld ?_
            rotate_left
            · intro w hSw; (try dsimp only at hSw); go_simp; try (with_reducible rfl)
            try simp only [sq]
            refine wpAnyH_take (i := 3) (v := ?_) rfl (by kernel_rfl) (by kernel_rfl) (by kernel_rfl) (fun _ _ _ h => h) (Or.inl ⟨by rfl, ?_⟩) hHeld ?_
            rotate_left
            · intro w hSw; (try dsimp only at hSw); go_simp; try (with_reducible rfl)
            try simp only [sq]
            refine wpAnyH_take (i := 4) (v := ?_) rfl (by kernel_rfl) (by kernel_rfl) (by kernel_rfl) (fun _ _ _ h => h) (Or.inl ⟨by rfl, ?_⟩) hHeld ?_
            rotate_left
            · intro w hSw; (try dsimp only at hSw); go_simp; try (with_reducible rfl)
            try simp only [sq]
            refine wpAnyH_take (i := 5) (v := ?_) rfl (by kernel_rfl) (by kernel_rfl) (by kernel_rfl) (fun _ _ _ h => h) (Or.inl ⟨by rfl, ?_⟩) hHeld ?_
            rotate_left
            · intro w hSw; (try dsimp only at hSw); go_simp; try (with_reducible rfl)
            try simp only [sq]
            refine wpAnyH_ready (rs := [6, 10]) (by kernel_rfl) (by simp) ?_
            refine (AllReadyH.cons rfl (fun K hK => ?_) (AllReadyH.cons rfl (fun K hK => ?_) AllReadyH.nil))
            · skip
              try simp only [sq]
              go_simp
              go_at_call 34
              refine (HSE.out _ (by show Below _ _ _; (repeat (first | with_reducible exact Below.refl _ _ | with_reducible assumption | (with_reducible refine btrans ?_ (by with_reducible assumption)) | with_reducible refine bdrew ?_ | with_reducible refine balloc ?_ _)))).mono ?_
              rintro e y1 ⟨a', cap', rfl, _, _, _, hby1⟩
              have hzy1 : wr.heap.size ≤ y1.heap.size := by have := hby1.size; (try simp at this); omega
              go_wp2_with fail
              refine hK.out _ _ ?_ (fun hHeld => ?_)
              · (repeat' apply And.intro) <;> (repeat (first | with_reducible assumption | with_reducible refine keepset ?_ (by dsimp only; omega) | with_reducible refine keepdrew ?_ | with_reducible refine keepcell (by with_reducible assumption) ?_ | with_reducible refine keepalloc ?_ _))
              clear hK K
              try simp only [sq]
              refine wpAnyH_take (i := 7) (v := ?_) rfl (by kernel_rfl) (by kernel_rfl) (by kernel_rfl) (fun _ _ _ h => h) (Or.inl ⟨by rfl, ?_⟩) hHeld ?_
              rotate_left
              · intro w hSw; (try dsimp only at hSw); go_simp; try (with_reducible rfl)
              try simp only [sq]
              refine wpAnyH_take (i := 8) (v := ?_) rfl (by kernel_rfl) (by kernel_rfl) (by kernel_rfl) (fun _ _ _ h => h) (Or.inl ⟨by rfl, ?_⟩) hHeld ?_
              rotate_left
              · intro w hSw; (try dsimp only at hSw); go_simp; try (with_reducible rfl)
              try simp only [sq]
              refine wpAnyH_take (i := 9) (v := ?_) rfl (by kernel_rfl) (by kernel_rfl) (by kernel_rfl) (fun _ _ _ h => h) (Or.inl ⟨by rfl, ?_⟩) hHeld ?_
              rotate_left
              · intro w hSw; (try dsimp only at hSw); go_simp; try (with_reducible rfl)
              try simp only [sq]
              refine wpAnyH_ready (rs := [10]) (by kernel_rfl) (by simp) ?_
              refine (AllReadyH.cons rfl (fun K hK => ?_) AllReadyH.nil)
              try simp only [sq]
              go_simp
              refine hK.out _ _ ?_ (fun hHeld => ?_)
              · (repeat' apply And.intro) <;> (repeat (first | with_reducible assumption | with_reducible refine keepset ?_ (by dsimp only; omega) | with_reducible refine keepdrew ?_ | with_reducible refine keepcell (by with_reducible assumption) ?_ | with_reducible refine keepalloc ?_ _))
              clear hK K
              try simp only [sq]
              refine wpAnyH_ready (rs := [11]) (by kernel_rfl) (by simp) ?_
              refine (AllReadyH.cons rfl (fun K hK => ?_) AllReadyH.nil)
              try simp only [sq]
              go_simp
              refine hK.out _ _ ?_ (fun hHeld => ?_)
              · (repeat' apply And.intro) <;> (repeat (first | with_reducible assumption | with_reducible refine keepset ?_ (by dsimp only; omega) | with_reducible refine keepdrew ?_ | with_reducible refine keepcell (by with_reducible assumption) ?_ | with_reducible refine keepalloc ?_ _))
              clear hK K
              try simp only [sq]
              refine wpAnyH_take (i := 12) (v := ?_) rfl (by kernel_rfl) (by kernel_rfl) (by kernel_rfl) (fun _ _ _ h => h) (Or.inl ⟨by rfl, ?_⟩) hHeld ?_
              rotate_left
              · intro w hSw; (try dsimp only at hSw); go_simp; try (with_reducible rfl)
              try simp only [sq]
              refine wpAnyH_done (by kernel_rfl) ?_ _
              go_wp2_with fail
              go_meet
              exact ⟨rfl, hid (by show Below _ _ _; (repeat (first | with_reducible exact Below.refl _ _ | with_reducible assumption | with_reducible refine bset ?_ (by (try dsimp only); omega) _ | (with_reducible refine btrans ?_ (by with_reducible assumption)) | with_reducible refine bdrew ?_ | with_reducible refine balloc ?_ _)))⟩
            · skip
              try simp only [sq]
              go_simp
              refine hK.out _ _ ?_ (fun hHeld => ?_)
              · (repeat' apply And.intro) <;> (repeat (first | with_reducible assumption | with_reducible refine keepset ?_ (by dsimp only; omega) | with_reducible refine keepdrew ?_ | with_reducible refine keepcell (by with_reducible assumption) ?_ | with_reducible refine keepalloc ?_ _))
              clear hK K
              try simp only [sq]
              refine wpAnyH_ready (rs := [6]) (by kernel_rfl) (by simp) ?_
              refine (AllReadyH.cons rfl (fun K hK => ?_) AllReadyH.nil)
              try simp only [sq]
              go_simp
              go_at_call 34
              refine (HSE.out _ (by show Below _ _ _; (repeat (first | with_reducible exact Below.refl _ _ | with_reducible assumption | (with_reducible refine btrans ?_ (by with_reducible assumption)) | with_reducible refine bdrew ?_ | with_reducible refine balloc ?_ _)))).mono ?_
              rintro e y1 ⟨a', cap', rfl, _, _, _, hby1⟩
              have hzy1 : wr.heap.size ≤ y1.heap.size := by have := hby1.size; (try simp at this); omega
              go_wp2_with fail
              refine hK.out _ _ ?_ (fun hHeld => ?_)
              · (repeat' apply And.intro) <;> (repeat (first | with_reducible assumption | with_reducible refine keepset ?_ (by dsimp only; omega) | with_reducible refine keepdrew ?_ | with_reducible refine keepcell (by with_reducible assumption) ?_ | with_reducible refine keepalloc ?_ _))
              clear hK K
              try simp only [sq]
              refine wpAnyH_take (i := 7) (v := ?_) rfl (by kernel_rfl) (by kernel_rfl) (by kernel_rfl) (fun _ _ _ h => h) (Or.inl ⟨by rfl, ?_⟩) hHeld ?_
              rotate_left
              · intro w hSw; (try dsimp only at hSw); go_simp; try (with_reducible rfl)
              try simp only [sq]
              refine wpAnyH_take (i := 8) (v := ?_) rfl (by kernel_rfl) (by kernel_rfl) (by kernel_rfl) (fun _ _ _ h => h) (Or.inl ⟨by rfl, ?_⟩) hHeld ?_
              rotate_left
              · intro w hSw; (try dsimp only at hSw); go_simp; try (with_reducible rfl)
              try simp only [sq]
              refine wpAnyH_take (i := 9) (v := ?_) rfl (by kernel_rfl) (by kernel_rfl) (by kernel_rfl) (fun _ _ _ h => h) (Or.inl ⟨by rfl, ?_⟩) hHeld ?_
              rotate_left
              · intro w hSw; (try dsimp only at hSw); go_simp; try (with_reducible rfl)
              try simp only [sq]
              refine wpAnyH_ready (rs := [11]) (by kernel_rfl) (by simp) ?_
              refine (AllReadyH.cons rfl (fun K hK => ?_) AllReadyH.nil)
              have gz : y1.heap[wr.heap.size]? = some (.cells #[.int .i64 0, .slice none 0 0] 31 (0, 0)) := by (repeat (first | with_reducible assumption | (with_reducible refine new_alloc _ _ _ ?_; (first | rfl | (simp; done))) | with_reducible refine keepheap2 (by with_reducible assumption) ?_ | with_reducible refine keephdrew2 ?_ | with_reducible refine old_alloc ?_))
              obtain ⟨ci0, ci1, cj0, cj1⟩ := cell2r gz
              have Gz10 := hid gz
              clear gz
              try simp only [sq]
              go_simp
              refine hK.out _ _ ?_ (fun hHeld => ?_)
              · (repeat' apply And.intro) <;> (repeat (first | with_reducible assumption | with_reducible refine keepset ?_ (by dsimp only; omega) | with_reducible refine keepdrew ?_ | with_reducible refine keepcell (by with_reducible assumption) ?_ | with_reducible refine keepalloc ?_ _))
              clear hK K
              try simp only [sq]
              refine wpAnyH_take (i := 12) (v := ?_) rfl (by kernel_rfl) (by kernel_rfl) (by kernel_rfl) (fun _ _ _ h => h) (Or.inl ⟨by rfl, ?_⟩) hHeld ?_
              rotate_left
              · intro w hSw; (try dsimp only at hSw); go_simp; try (with_reducible rfl)
              try simp only [sq]
              refine wpAnyH_done (by kernel_rfl) ?_ _
              go_wp2_with fail
              go_meet
              exact ⟨rfl, hid (by show Below _ _ _; (repeat (first | with_reducible exact Below.refl _ _ | with_reducible assumption | with_reducible refine bset ?_ (by (try dsimp only); omega) _ | (with_reducible refine btrans ?_ (by with_reducible assumption)) | with_reducible refine bdrew ?_ | with_reducible refine balloc ?_ _)))⟩
          case rest =>
            obtain ⟨rfl, HBc⟩ := hcut
            obtain ⟨wx, hwx, _⟩ : ∃ wx, wx = _ ∧ Below wr.heap.size wr wx := ⟨_, rfl, HBc.out⟩
            subst hwx
            have HG2 := hid (keepheapA HBc.out G0.out)
            have HBW2 := hid (btrans HBW.out HBc.out)
            have HA2 := hid (HA.out.below HBc.out)
            have HO2 := hid ((irow_of HO.out rfl).below HBc.out)
            have k4 := keepcell HBc.out k3
            clear d0 d1 d2 k3
            cases sb
            · have HX2 := hid (show os = (zs.take (i + 1)).filter (fun x => seB rs cs x st) by rw [HX.out]; simp)
              go_wp2_with fail
              go_roundw
              case rel => exact ⟨i + 1, os, by go_num, by omega, HX2, HO2, HD, HA2, HG2, HBW2⟩
              case measure => simp [intOf]; omega
            · have HX2 := hid (show os ++ [x] = (zs.take (i + 1)).filter (fun x => seB rs cs x st) by rw [HX.out]; simp)
              obtain ⟨g', c', e', hgl', hgc', hown'⟩ := HO2.out
              cases e'
              have hzw := HBW2.out.size
              clear HX HO2
              go_wp2_with (at_builtin; refine wpList_append_lies _ rfl (.tmp 79) (.tmp 84) 46 rfl w.heap.size 3 i0 _ 1 8 Tryz.underlying46 hi0 hz0 hz1 hz2 rfl (by decide) (.slice (some ⟨go, 0, none⟩) os.length co) _ _ rfl (hown'.alloc _) ⟨wx.heap.size, 0, none⟩ 1 1 [.int .i64 x] rfl rfl (World.news_of_block (cs := #[.int .i64 x]) (t := 3) (fr := (0, 0)) (heap_alloc_new wx _)) (by simp [Value.oneCell']) (by omega) (by unfold maxLen; omega) (by omega) (by simp; omega) (wx.heap.size + 1) (by simp) ?_; intro gg cp w2 hown2 hgrow hat hlt2)
              have hd := HD.out go _ _ rfl
              have hga : g < wx.heap.size := by
                obtain ⟨g', c', e', q, _⟩ := HA2.out
                cases e'; exact q
              have hwx : w.heap.size < wx.heap.size := lt_of_block HG2.out
              have hgg : gg = go ∨ gg = wx.heap.size + 1 := by
                rcases hat with h | h
                · left; simpa [Value.ownBlock] using h.symm
                · exact .inr h
              have HD2 : Hid (∀ q n' c', (Value.slice (some ⟨gg, 0, none⟩) (os.length + 1) cp) = .slice (some ⟨q, 0, none⟩) n' c' → q ≠ g ∧ q ≠ w.heap.size) := hid (by
                intro q n' c' e
                cases e
                rcases hgg with h | h <;> omega)
              have HA3 := hid ((HA2.out.below (balloc (Below.refl _ _) (.cells #[.int .i64 x] 3))).grown hgrow (by intro g' n' c' e; cases e; simp [Value.ownBlock]; omega))
              have HG3 : Hid (w2.heap[w.heap.size]? = some (.cells #[.int .i64 now, .slice a rn cap, .slice (some ⟨b, o, none⟩) tn tcap] 39 (0, 0))) := hid (by
                rw [hgrow.block w.heap.size (by simp; omega) (by simp [Value.ownBlock]; omega)]
                exact old_alloc HG2.out)
              have HV3 := hid (irow_of (B := w.heap.size) (zs := os ++ [x]) (by simpa [fli] using hown2) (by simp))
              have HB3 := hid (Below.grown (balloc HBW2.out (.cells #[.int .i64 x] 3)) hgrow (by simp; omega) (fun k e => (hown'.lt k e).1))
              clear hown2 hgrow hat hown' hlt2
              go_roundw
              case rel => exact ⟨i + 1, os ++ [x], by go_num, by omega, HX2, HV3, HD2, HA3, HG3, HB3⟩
              case measure => simp [intOf]; omega
        · have c1 : (zn : Int) ≤ (i : Int) := by omega
          have hin : i = zs.length := by have := HZN.out; omega
          have HF2 : Hid (os = tids rs cs st) := hid (by rw [HZ.out, hin, List.take_length]; exact HF.out)
          clear hin
          go_wp2_with fail
          go_ret
          obtain ⟨q1, q2, q3⟩ := own_I HO.out rfl
          rw [← HF2.out]
          exact ⟨some ⟨_, 0, none⟩, _, rfl, q3, fun b off e => (by cases e; exact q1), HBW.out⟩
end Go.Proofs.YtehifednpbdokaaGreatDoor
namespace Go.Proofs.YtehifednpbdokaaGreatDoor
open Go.RowKit
set_option linter.unusedSimpArgs false
set_option linter.unusedVariables false
theorem place_chgd {cs : List Ch} {id : Int} {i : Nat} (hin : i ≤ cs.length) (hlo : ∀ t, t < i → idc cs t < id) (hhi : ∀ t, i ≤ t → t < cs.length → id ≤ idc cs t) (ha : ∀ i j, i < j → j < cs.length → idc cs i < idc cs j) : (decide (i < cs.length) && decide (idc cs i = id)) = chgd cs id := by
  rw [Bool.eq_iff_iff, chgd_iff]
  simp only [Bool.and_eq_true, decide_eq_true_eq]
  constructor
  · rintro ⟨h1, h2⟩; exact ⟨i, h1, h2⟩
  · rintro ⟨k, hk, e⟩
    by_cases h1 : k < i
    · have := hlo k h1; omega
    · by_cases h2 : k = i
      · subst h2; exact ⟨hk, e⟩
      · have h3 := ha i k (by omega) hk
        have h4 := hhi i (Nat.le_refl _) (by omega)
        omega
set_option maxRecDepth 100000 in
set_option maxHeartbeats 2000000 in
theorem seen_1 {N : Nat → Prop} (r : Rw) (a' : Option Addr) (cap' : Nat) (ca : Option Addr) (ccap : Nat) (cs : List Ch) (st : Int) (p : Nat) (w : World) (hcm : cs.length ≤ 1099511627776) (hc : Chs N 1099511627776 w ca cs) (ha : ∀ i j, i < j → j < cs.length → idc cs i < idc cs j) (c0 : w.cell? ⟨p, 0, none⟩ = some (.slice ca cs.length ccap)) (c1 : w.cell? ⟨p, 1, none⟩ = some (.int .i64 st)) : Calls Tryz.prog 86 #[rwv r a' cap', .pointer (some ⟨p, 0, none⟩)] w fun e w' => e = .returned (.tuple #[.int .i64 r.1, .bool (thr (tr r) st && !chgd cs r.1)]) ∧ Below w.heap.size w w' := by
  have TH := hid (fun w' => impl_there r a' cap' st w')
  have HP := hid (fun (W : World) (hb : Below w.heap.size w W) => place_c ca ccap cs r.1 W hcm (hc.below hb) ha)
  have HQ := hid (fun i h1 h2 h3 => place_chgd (cs := cs) (id := r.1) (i := i) h1 h2 h3 ha)
  clear hc ha
  generalize thr (tr r) st = q2 at *
  obtain ⟨id2, fr, te, kd, ps⟩ := r
  unfold rwv at *
  simp only at *
  generalize ps.length = np at *
  generalize chgd cs id2 = q1 at *
  generalize cs.length = n at *
  go_enter Tryz.func86, Tryz.ntmps86
  go_upto_region 1 with fail
  have hB : Below w.heap.size w (w.alloc (.cells #[.int .i64 id2, .int .i64 fr, .int .i64 te, .int .i64 kd, .slice a' np cap'] 129)) := balloc (Below.refl _ _) _
  have gx := new_alloc w w.heap.size (.cells #[.int .i64 id2, .int .i64 fr, .int .i64 te, .int .i64 kd, .slice a' np cap'] 129) rfl
  replace c0 := keepalloc c0 (.cells #[.int .i64 id2, .int .i64 fr, .int .i64 te, .int .i64 kd, .slice a' np cap'] 129)
  replace c1 := keepalloc c1 (.cells #[.int .i64 id2, .int .i64 fr, .int .i64 te, .int .i64 kd, .slice a' np cap'] 129)
  generalize w.alloc (.cells #[.int .i64 id2, .int .i64 fr, .int .i64 te, .int .i64 kd, .slice a' np cap'] 129) = W at *
  obtain ⟨⟨x0, x1, x2, x3, x4⟩, _⟩ := cell5g gx
  clear gx
  go_wp2_with fail
  refine (HP.out _ hB).mono ?_
  rintro e z ⟨i, rfl, hin, hlo, hhi, hz⟩
  rw [HQ.out i hin hlo hhi]
  replace x0 := keepcell hz x0
  replace x1 := keepcell hz x1
  replace x2 := keepcell hz x2
  replace x3 := keepcell hz x3
  replace x4 := keepcell hz x4
  replace c1 := keepcell hz c1
  replace hB := btrans hB hz
  clear hz HP HQ hlo hhi c0
  go_upto_region 2 with fail
  cases q2
  · skip
    refine wp_region_held_drew (S := (fun w' => w'.cell? ⟨w.heap.size, 0, none⟩ = some (.int .i64 id2) ∧ w'.cell? ⟨w.heap.size, 1, none⟩ = some (.int .i64 fr) ∧ w'.cell? ⟨w.heap.size, 2, none⟩ = some (.int .i64 te) ∧ w'.cell? ⟨w.heap.size, 3, none⟩ = some (.int .i64 kd) ∧ w'.cell? ⟨w.heap.size, 4, none⟩ = some (.slice a' np cap') ∧ w'.cell? ⟨p, 1, none⟩ = some (.int .i64 st))) (by kernel_rfl) ?_ (fun hHeld => ?_)
    · (repeat' apply And.intro) <;> (repeat (first | with_reducible assumption | with_reducible refine keepdrew ?_ | with_reducible refine keepcell (by with_reducible assumption) ?_ | with_reducible refine keepalloc ?_ _))
    refine wpAnyH_take (i := 0) (v := ?_) rfl (by kernel_rfl) (by kernel_rfl) (by kernel_rfl) (fun _ _ _ h => h) (Or.inl ⟨by rfl, ?_⟩) hHeld ?_
    rotate_left
    · intro w hSw; (try dsimp only at hSw); go_simp; try (with_reducible rfl)
    try simp only [sq]
    refine wpAnyH_take (i := 1) (v := ?_) rfl (by kernel_rfl) (by kernel_rfl) (by kernel_rfl) (fun _ _ _ h => h) (Or.inl ⟨by rfl, ?_⟩) hHeld ?_
    rotate_left
    · intro w hSw; (try dsimp only at hSw); go_simp; try (with_reducible rfl)
    try simp only [sq]
    refine wpAnyH_take (i := 2) (v := ?_) rfl (by kernel_rfl) (by kernel_rfl) (by kernel_rfl) (fun _ _ _ h => h) (Or.inl ⟨by rfl, ?_⟩) hHeld ?_
    rotate_left
    · intro w hSw; (try dsimp only at hSw); go_simp; try (with_reducible rfl)
    try simp only [sq]
    refine wpAnyH_take (i := 3) (v := ?_) rfl (by kernel_rfl) (by kernel_rfl) (by kernel_rfl) (fun _ _ _ h => h) (Or.inl ⟨by rfl, ?_⟩) hHeld ?_
    rotate_left
    · intro w hSw; (try dsimp only at hSw); go_simp; try (with_reducible rfl)
    try simp only [sq]
    refine wpAnyH_take (i := 4) (v := ?_) rfl (by kernel_rfl) (by kernel_rfl) (by kernel_rfl) (fun _ _ _ h => h) (Or.inl ⟨by rfl, ?_⟩) hHeld ?_
    rotate_left
    · intro w hSw; (try dsimp only at hSw); go_simp; try (with_reducible rfl)
    try simp only [sq]
    refine wpAnyH_ready (rs := [5]) (by kernel_rfl) (by simp) ?_
    refine AllReadyH.cons rfl (fun K hK => ?_) AllReadyH.nil
    try simp only [sq]
    go_simp
    (first
        | (go_at_call 87; refine (TH.out _).mono ?_; rintro e y ⟨rfl, hy⟩))
    go_wp2_with fail
    refine hK.out _ _ ?_ (fun hHeld => ?_)
    · (repeat' apply And.intro) <;> (repeat (first | with_reducible assumption | with_reducible refine keepdrew ?_ | with_reducible refine keepcell (by with_reducible assumption) ?_ | with_reducible refine keepalloc ?_ _))
    clear hK K
    try simp only [sq]
    refine wpAnyH_take (i := 6) (v := ?_) rfl (by kernel_rfl) (by kernel_rfl) (by kernel_rfl) (fun _ _ _ h => h) (Or.inl ⟨by rfl, ?_⟩) hHeld ?_
    rotate_left
    · intro w hSw; (try dsimp only at hSw); go_simp; try (with_reducible rfl)
    try simp only [sq]
    refine wpAnyH_take (i := 7) (v := undef) rfl (by kernel_rfl) (by kernel_rfl) (by kernel_rfl) (fun _ _ _ h => h) (Or.inr ⟨by rfl, rfl⟩) hHeld ?_
    try simp only [sq]
    refine wpAnyH_take (i := 8) (v := undef) rfl (by kernel_rfl) (by kernel_rfl) (by kernel_rfl) (fun _ _ _ h => h) (Or.inr ⟨by rfl, rfl⟩) hHeld ?_
    try simp only [sq]
    refine wpAnyH_take (i := 9) (v := ?_) rfl (by kernel_rfl) (by kernel_rfl) (by kernel_rfl) (fun _ _ _ h => h) (Or.inl ⟨by rfl, ?_⟩) hHeld ?_
    rotate_left
    · intro w hSw; (try dsimp only at hSw); go_simp; try (with_reducible rfl)
    try simp only [sq]
    refine wpAnyH_take (i := 10) (v := ?_) rfl (by kernel_rfl) (by kernel_rfl) (by kernel_rfl) (fun _ _ _ h => h) (Or.inl ⟨by rfl, ?_⟩) hHeld ?_
    rotate_left
    · intro w hSw; (try dsimp only at hSw); go_simp; try (with_reducible rfl)
    try simp only [sq]
    refine wpAnyH_take (i := 11) (v := ?_) rfl (by kernel_rfl) (by kernel_rfl) (by kernel_rfl) (fun _ _ _ h => h) (Or.inl ⟨by rfl, ?_⟩) hHeld ?_
    rotate_left
    · intro w hSw; (try dsimp only at hSw); go_simp; try (with_reducible rfl)
    try simp only [sq]
    refine wpAnyH_done (by kernel_rfl) ?_ _
    go_wp2_with fail
    exact bodyPost_ret (v := .tuple #[.int .i64 id2, .bool (false && !q1)]) (by simp [results, Tryz.results86, go_sem]) rfl ⟨rfl, by show Below _ _ _; (repeat (first | with_reducible exact Below.refl _ _ | with_reducible assumption | (with_reducible refine btrans ?_ (by with_reducible assumption)) | with_reducible refine bdrew ?_ | with_reducible refine balloc ?_ _))⟩
  · skip
    refine wp_region_held_drew (S := (fun w' => w'.cell? ⟨w.heap.size, 0, none⟩ = some (.int .i64 id2) ∧ w'.cell? ⟨w.heap.size, 1, none⟩ = some (.int .i64 fr) ∧ w'.cell? ⟨w.heap.size, 2, none⟩ = some (.int .i64 te) ∧ w'.cell? ⟨w.heap.size, 3, none⟩ = some (.int .i64 kd) ∧ w'.cell? ⟨w.heap.size, 4, none⟩ = some (.slice a' np cap') ∧ w'.cell? ⟨p, 1, none⟩ = some (.int .i64 st))) (by kernel_rfl) ?_ (fun hHeld => ?_)
    · (repeat' apply And.intro) <;> (repeat (first | with_reducible assumption | with_reducible refine keepdrew ?_ | with_reducible refine keepcell (by with_reducible assumption) ?_ | with_reducible refine keepalloc ?_ _))
    refine wpAnyH_take (i := 0) (v := ?_) rfl (by kernel_rfl) (by kernel_rfl) (by kernel_rfl) (fun _ _ _ h => h) (Or.inl ⟨by rfl, ?_⟩) hHeld ?_
    rotate_left
    · intro w hSw; (try dsimp only at hSw); go_simp; try (with_reducible rfl)
    try simp only [sq]
    refine wpAnyH_take (i := 1) (v := ?_) rfl (by kernel_rfl) (by kernel_rfl) (by kernel_rfl) (fun _ _ _ h => h) (Or.inl ⟨by rfl, ?_⟩) hHeld ?_
    rotate_left
    · intro w hSw; (try dsimp only at hSw); go_simp; try (with_reducible rfl)
    try simp only [sq]
    refine wpAnyH_take (i := 2) (v := ?_) rfl (by kernel_rfl) (by kernel_rfl) (by kernel_rfl) (fun _ _ _ h => h) (Or.inl ⟨by rfl, ?_⟩) hHeld ?_
    rotate_left
    · intro w hSw; (try dsimp only at hSw); go_simp; try (with_reducible rfl)
    try simp only [sq]
    refine wpAnyH_take (i := 3) (v := ?_) rfl (by kernel_rfl) (by kernel_rfl) (by kernel_rfl) (fun _ _ _ h => h) (Or.inl ⟨by rfl, ?_⟩) hHeld ?_
    rotate_left
    · intro w hSw; (try dsimp only at hSw); go_simp; try (with_reducible rfl)
    try simp only [sq]
    refine wpAnyH_take (i := 4) (v := ?_) rfl (by kernel_rfl) (by kernel_rfl) (by kernel_rfl) (fun _ _ _ h => h) (Or.inl ⟨by rfl, ?_⟩) hHeld ?_
    rotate_left
    · intro w hSw; (try dsimp only at hSw); go_simp; try (with_reducible rfl)
    try simp only [sq]
    refine wpAnyH_ready (rs := [5]) (by kernel_rfl) (by simp) ?_
    refine AllReadyH.cons rfl (fun K hK => ?_) AllReadyH.nil
    try simp only [sq]
    go_simp
    (first
        | (go_at_call 87; refine (TH.out _).mono ?_; rintro e y ⟨rfl, hy⟩))
    go_wp2_with fail
    refine hK.out _ _ ?_ (fun hHeld => ?_)
    · (repeat' apply And.intro) <;> (repeat (first | with_reducible assumption | with_reducible refine keepdrew ?_ | with_reducible refine keepcell (by with_reducible assumption) ?_ | with_reducible refine keepalloc ?_ _))
    clear hK K
    try simp only [sq]
    refine wpAnyH_take (i := 6) (v := ?_) rfl (by kernel_rfl) (by kernel_rfl) (by kernel_rfl) (fun _ _ _ h => h) (Or.inl ⟨by rfl, ?_⟩) hHeld ?_
    rotate_left
    · intro w hSw; (try dsimp only at hSw); go_simp; try (with_reducible rfl)
    try simp only [sq]
    refine wpAnyH_take (i := 7) (v := ?_) rfl (by kernel_rfl) (by kernel_rfl) (by kernel_rfl) (fun _ _ _ h => h) (Or.inl ⟨by rfl, ?_⟩) hHeld ?_
    rotate_left
    · intro w hSw; (try dsimp only at hSw); go_simp; try (with_reducible rfl)
    try simp only [sq]
    refine wpAnyH_take (i := 8) (v := ?_) rfl (by kernel_rfl) (by kernel_rfl) (by kernel_rfl) (fun _ _ _ h => h) (Or.inl ⟨by rfl, ?_⟩) hHeld ?_
    rotate_left
    · intro w hSw; (try dsimp only at hSw); go_simp; try (with_reducible rfl)
    try simp only [sq]
    refine wpAnyH_take (i := 9) (v := ?_) rfl (by kernel_rfl) (by kernel_rfl) (by kernel_rfl) (fun _ _ _ h => h) (Or.inl ⟨by rfl, ?_⟩) hHeld ?_
    rotate_left
    · intro w hSw; (try dsimp only at hSw); go_simp; try (with_reducible rfl)
    try simp only [sq]
    refine wpAnyH_take (i := 10) (v := ?_) rfl (by kernel_rfl) (by kernel_rfl) (by kernel_rfl) (fun _ _ _ h => h) (Or.inl ⟨by rfl, ?_⟩) hHeld ?_
    rotate_left
    · intro w hSw; (try dsimp only at hSw); go_simp; try (with_reducible rfl)
    try simp only [sq]
    refine wpAnyH_take (i := 11) (v := ?_) rfl (by kernel_rfl) (by kernel_rfl) (by kernel_rfl) (fun _ _ _ h => h) (Or.inl ⟨by rfl, ?_⟩) hHeld ?_
    rotate_left
    · intro w hSw; (try dsimp only at hSw); go_simp; try (with_reducible rfl)
    try simp only [sq]
    refine wpAnyH_done (by kernel_rfl) ?_ _
    go_wp2_with fail
    exact bodyPost_ret (v := .tuple #[.int .i64 id2, .bool (true && !q1)]) (by simp [results, Tryz.results86, go_sem]) rfl ⟨rfl, by show Below _ _ _; (repeat (first | with_reducible exact Below.refl _ _ | with_reducible assumption | (with_reducible refine btrans ?_ (by with_reducible assumption)) | with_reducible refine bdrew ?_ | with_reducible refine balloc ?_ _))⟩
set_option maxHeartbeats 1000000 in
theorem seen_2 (id2 : Int) (gn : Bool) (kd : Int) (a' : Option Addr) (np cap' : Nat) (w : World) : Calls Tryz.prog 89 #[.agg #[.int .i64 id2, .bool gn, .int .i64 kd, .slice a' np cap']] w fun e w' => e = .returned (.tuple #[.int .i64 id2, .bool (!gn)]) ∧ Below w.heap.size w w' := by
  go_enter Tryz.func89, Tryz.ntmps89
  go_wp2_with fail
  go_quiet (fail)
  go_wp2_with fail
  exact bodyPost_ret (v := .tuple #[.int .i64 id2, .bool (!gn)]) (by simp [results, Tryz.results89, go_sem]) rfl ⟨rfl, btrans (balloc (Below.refl _ _) _) ⟨rfl, rfl, rfl, Nat.le_refl _, fun _ _ => rfl⟩⟩
set_option maxRecDepth 100000 in
set_option maxHeartbeats 2000000 in
theorem kept_unch {N N2 : Nat → Prop} (a : Option Addr) (cap : Nat) (rs : List Rw) (ca : Option Addr) (ccap : Nat) (cs : List Ch) (t : Int) (p : Nat) (w : World) (hm : rs.length ≤ 1099511627776) (h : Rws N w a rs) (hcm : cs.length ≤ 1099511627776) (hc : Chs N2 1099511627776 w ca cs) (ha : ∀ i j, i < j → j < cs.length → idc cs i < idc cs j) (c0 : w.cell? ⟨p, 0, none⟩ = some (.slice ca cs.length ccap)) (c1 : w.cell? ⟨p, 1, none⟩ = some (.int .i64 t)) : Calls Tryz.prog 85 #[.slice a rs.length cap, .func (.func 86) #[] #[.pointer (some ⟨p, 0, none⟩)]] w fun e w' => ∃ v, e = .returned v ∧ IRow w.heap.size w' v (unch rs cs t) ∧ Below w.heap.size w w' := by
  obtain ⟨i0, hi0, hz0, hz1, hz2⟩ := info_parts Tryz.infoI
  have HR := hid h
  have HS1 := hid (fun (r : Rw) (a' : Option Addr) (cap' : Nat) (W : World) (hb : Below w.heap.size w W) => seen_1 r a' cap' ca ccap cs t p W hcm (hc.below hb) ha (keepcell hb c0) (keepcell hb c1))
  clear h c1 c0 hc ha
  have hmk := make_ints rs.length hm
  obtain ⟨n, hn⟩ : ∃ n, n = rs.length := ⟨_, rfl⟩
  have HN := hid hn.symm
  rw [← hn] at hm hmk ⊢
  clear hn
  have hB0 : Below w.heap.size w (w.alloc (.cells (madeCells #[.int .i64 0] n) 3)) := balloc (Below.refl _ _) _
  have HI : Hid (IRow w.heap.size (w.alloc (.cells (madeCells #[.int .i64 0] n) 3)) (.slice (some ⟨w.heap.size, 0, none⟩) 0 n) []) := hid (by
    have := World.ownsRow_made (base := w.heap.size) (e := 3) (size := 1) w (madeCells #[.int .i64 0] n) n (Nat.le_refl _) (by unfold maxLen; omega) (by rw [size_madeCells, Nat.mul_one])
    exact ⟨w.heap.size, n, rfl, by simp, Nat.zero_le _, by simpa [fli] using this⟩)
  go_enter Tryz.func85, Tryz.ntmps85
  go_upto_region 2 with fail
  generalize w.alloc (.cells (madeCells #[.int .i64 0] n) 3) = W0 at *
  clear hmk
  go_wp2_with fail
  go_loopw [5, 15] (fun tv ti wr => ∃ i : Nat, ti = .int .i64 i ∧ i ≤ n ∧ Hid (IRow w.heap.size wr tv (unch (rs.take i) cs t)) ∧ Hid (Below w.heap.size w wr)) (fun _ ti _ => n - (intOf ti).toNat)
  case atStart => exact ⟨0, rfl, Nat.zero_le _, HI, hid hB0⟩
  case round =>
    clear HI hB0
    obtain ⟨i, rfl, hi, HV, HBW⟩ := hrel
    by_cases hlt : i < n
    · have d1 : (i : Int) < (n : Int) := by omega
      have hir : i < rs.length := by rw [HN.out]; exact hlt
      obtain ⟨b, o, rfl, hbs, a', cap', k0, k1, k2, k3, k4, k5, k6, k7, _⟩ := (HR.out.below HBW.out).at i hir
      have hbx : Below wr.heap.size wr (wr.alloc (.cells #[.int .i64 rs[i].1, .int .i64 rs[i].2.1, .int .i64 rs[i].2.2.1, .int .i64 rs[i].2.2.2.1, .slice a' rs[i].2.2.2.2.length cap'] 129)) := balloc (Below.refl _ _) _
      have HT := hid (fun (W : World) (hb : Below wr.heap.size wr W) => HS1.out rs[i] a' cap' W (btrans HBW.out hb))
      have HX := hid (unch_next (cs := cs) (t := t) hir)
      have hil : (unch (rs.take i) cs t).length ≤ i := by have := unch_len (rs.take i) cs t; simp at this; omega
      clear k5 k6 k7
      unfold rwv at HT
      generalize (thr (tr rs[i]) t && !chgd cs rs[i].1) = q2 at *
      generalize rs[i].1 = id2 at *
      generalize rs[i].2.1 = fr at *
      generalize rs[i].2.2.1 = te at *
      generalize rs[i].2.2.2.1 = kd at *
      generalize rs[i].2.2.2.2.length = np at *
      generalize unch (rs.take i) cs t = zs at *
      obtain ⟨g, c, rfl, hgl, hgc, hown⟩ := HV.out
      have HO := hid hown
      clear hown HV
      go_upto_region 5 with fail
      have gx := new_alloc wr wr.heap.size (.cells #[.int .i64 id2, .int .i64 fr, .int .i64 te, .int .i64 kd, .slice a' np cap'] 129) rfl
      have HI1 := hid ((irow_of HO.out rfl).below hbx)
      have HB1 := hid (btrans HBW.out hbx)
      have HT1 := hid (HT.out _ hbx)
      clear k0 k1 k2 k3 k4 HT hbx
      generalize wr.alloc (.cells #[.int .i64 id2, .int .i64 fr, .int .i64 te, .int .i64 kd, .slice a' np cap'] 129) = W1 at *
      generalize wr.heap.size = X at *
      obtain ⟨⟨x0, x1, x2, x3, x4⟩, _⟩ := cell5g gx
      clear gx
      go_wp2_with fail
      refine HT1.out.mono ?_
      rintro e z ⟨rfl, hz⟩
      have HBz := hid (btrans HB1.out hz)
      have HIz := hid (HI1.out.below hz)
      clear hz x0 x1 x2 x3 x4 HT1 HI1 HB1
      cases q2
      · have HV2 : Hid (IRow w.heap.size z (.slice (some ⟨g, 0, none⟩) zs.length c) (unch (rs.take (i + 1)) cs t)) := hid (by rw [HX.out]; simpa using HIz.out)
        go_wp2_with fail
        go_roundw
        case rel => exact ⟨i + 1, by go_num, by omega, HV2, HBz⟩
        case measure => simp [intOf]; omega
      · have HX2 : Hid (unch (rs.take (i + 1)) cs t = zs ++ [id2]) := hid (by rw [HX.out]; simp)
        obtain ⟨g', c', e', hgl', hgc', hown'⟩ := HIz.out
        cases e'
        have hzw := HBz.out.size
        clear HX HIz
        go_wp2_with (at_builtin; refine wpList_append_lies _ rfl (.tmp 26) (.tmp 28) 46 rfl w.heap.size 3 i0 _ 1 8 Tryz.underlying46 hi0 hz0 hz1 hz2 rfl (by decide) _ _ _ rfl (hown'.alloc _) ⟨z.heap.size, 0, none⟩ 1 1 [.int .i64 id2] rfl rfl (World.news_of_block (cs := #[.int .i64 id2]) (t := 3) (fr := (0, 0)) (heap_alloc_new z _)) (by simp [Value.oneCell']) (by omega) (by unfold maxLen; omega) (by omega) (by simp; omega) (z.heap.size + 1) (by simp) ?_; intro gg cp w2 hown2 hgrow hat hlt2)
        go_roundw
        case rel =>
          refine ⟨i + 1, by go_num, by omega, hid ?_, hid ?_⟩
          · rw [HX2.out]
            exact irow_of (by simpa [fli] using hown2) (by simp)
          · exact Below.grown (balloc HBz.out _) hgrow (by simp; omega) (fun k e => (hown'.lt k e).1)
        case measure => simp [intOf]; omega
    · have d1 : (n : Int) ≤ (i : Int) := by omega
      have hin : i = rs.length := by have := HN.out; omega
      have HF : Hid (IRow w.heap.size wr u5 (unch rs cs t)) := hid (by have := HV.out; rw [hin, List.take_length] at this; exact this)
      clear hin HV
      go_wp2_with fail
      go_ret
      exact ⟨_, rfl, HF.out, HBW.out⟩
set_option maxRecDepth 100000 in
set_option maxHeartbeats 2000000 in
theorem kept_chg {N : Nat → Prop} (a : Option Addr) (cap : Nat) (cs : List Ch) (w : World) (hm : cs.length ≤ 1099511627776) (h : Chs N 1099511627776 w a cs) : Calls Tryz.prog 88 #[.slice a cs.length cap, .func (.func 89) #[] #[]] w fun e w' => ∃ v, e = .returned v ∧ IRow w.heap.size w' v (chg cs) ∧ Below w.heap.size w w' := by
  obtain ⟨i0, hi0, hz0, hz1, hz2⟩ := info_parts Tryz.infoI
  have HR := hid h
  clear h
  have hmk := make_ints cs.length hm
  obtain ⟨n, hn⟩ : ∃ n, n = cs.length := ⟨_, rfl⟩
  have HN := hid hn.symm
  rw [← hn] at hm hmk ⊢
  clear hn
  have hB0 : Below w.heap.size w (w.alloc (.cells (madeCells #[.int .i64 0] n) 3)) := balloc (Below.refl _ _) _
  have HI : Hid (IRow w.heap.size (w.alloc (.cells (madeCells #[.int .i64 0] n) 3)) (.slice (some ⟨w.heap.size, 0, none⟩) 0 n) []) := hid (by
    have := World.ownsRow_made (base := w.heap.size) (e := 3) (size := 1) w (madeCells #[.int .i64 0] n) n (Nat.le_refl _) (by unfold maxLen; omega) (by rw [size_madeCells, Nat.mul_one])
    exact ⟨w.heap.size, n, rfl, by simp, Nat.zero_le _, by simpa [fli] using this⟩)
  go_enter Tryz.func88, Tryz.ntmps88
  go_upto_region 2 with fail
  generalize w.alloc (.cells (madeCells #[.int .i64 0] n) 3) = W0 at *
  clear hmk
  go_wp2_with fail
  go_loopw [5, 15] (fun tv ti wr => ∃ i : Nat, ti = .int .i64 i ∧ i ≤ n ∧ Hid (IRow w.heap.size wr tv (chg (cs.take i))) ∧ Hid (Below w.heap.size w wr)) (fun _ ti _ => n - (intOf ti).toNat)
  case atStart => exact ⟨0, rfl, Nat.zero_le _, HI, hid hB0⟩
  case round =>
    clear HI hB0
    obtain ⟨i, rfl, hi, HV, HBW⟩ := hrel
    by_cases hlt : i < n
    · have d1 : (i : Int) < (n : Int) := by omega
      have hir : i < cs.length := by rw [HN.out]; exact hlt
      obtain ⟨b, o, rfl, hbs, a', cap', k0, k1, k2, k3, k4, k5, k6, _⟩ := (HR.out.below HBW.out).at i hir
      have hbx : Below wr.heap.size wr (wr.alloc (.cells #[.int .i64 cs[i].1, .bool cs[i].2.1, .int .i64 cs[i].2.2.1, .slice a' cs[i].2.2.2.length cap'] 87)) := balloc (Below.refl _ _) _
      have HX := hid (chg_next hir)
      have hil : (chg (cs.take i)).length ≤ i := by have := chg_len (cs.take i); simp at this; omega
      clear k4 k5 k6
      generalize cs[i].1 = id2 at *
      generalize cs[i].2.1 = gn at *
      generalize cs[i].2.2.1 = kd at *
      generalize cs[i].2.2.2.length = np at *
      have HT := hid (fun (W : World) => seen_2 id2 gn kd a' np cap' W)
      generalize chg (cs.take i) = zs at *
      obtain ⟨g, c, rfl, hgl, hgc, hown⟩ := HV.out
      have HO := hid hown
      clear hown HV
      go_upto_region 5 with fail
      have gx := new_alloc wr wr.heap.size (.cells #[.int .i64 id2, .bool gn, .int .i64 kd, .slice a' np cap'] 87) rfl
      have HI1 := hid ((irow_of HO.out rfl).below hbx)
      have HB1 := hid (btrans HBW.out hbx)
      clear k0 k1 k2 k3 hbx
      generalize wr.alloc (.cells #[.int .i64 id2, .bool gn, .int .i64 kd, .slice a' np cap'] 87) = W1 at *
      generalize wr.heap.size = X at *
      obtain ⟨⟨x0, x1, x2, x3⟩, _⟩ := cellk4 gx
      clear gx
      go_wp2_with fail
      refine (HT.out _).mono ?_
      rintro e z ⟨rfl, hz⟩
      have HBz := hid (btrans HB1.out hz)
      have HIz := hid (HI1.out.below hz)
      clear hz x0 x1 x2 x3 HT HI1 HB1
      cases gn
      · have HX2 : Hid (chg (cs.take (i + 1)) = zs ++ [id2]) := hid (by rw [HX.out]; simp)
        obtain ⟨g', c', e', hgl', hgc', hown'⟩ := HIz.out
        cases e'
        have hzw := HBz.out.size
        clear HX HIz
        go_wp2_with (at_builtin; refine wpList_append_lies _ rfl (.tmp 26) (.tmp 28) 46 rfl w.heap.size 3 i0 _ 1 8 Tryz.underlying46 hi0 hz0 hz1 hz2 rfl (by decide) _ _ _ rfl (hown'.alloc _) ⟨z.heap.size, 0, none⟩ 1 1 [.int .i64 id2] rfl rfl (World.news_of_block (cs := #[.int .i64 id2]) (t := 3) (fr := (0, 0)) (heap_alloc_new z _)) (by simp [Value.oneCell']) (by omega) (by unfold maxLen; omega) (by omega) (by simp; omega) (z.heap.size + 1) (by simp) ?_; intro gg cp w2 hown2 hgrow hat hlt2)
        go_roundw
        case rel =>
          refine ⟨i + 1, by go_num, by omega, hid ?_, hid ?_⟩
          · rw [HX2.out]
            exact irow_of (by simpa [fli] using hown2) (by simp)
          · exact Below.grown (balloc HBz.out _) hgrow (by simp; omega) (fun k e => (hown'.lt k e).1)
        case measure => simp [intOf]; omega
      · have HV2 : Hid (IRow w.heap.size z (.slice (some ⟨g, 0, none⟩) zs.length c) (chg (cs.take (i + 1)))) := hid (by rw [HX.out]; simpa using HIz.out)
        go_wp2_with fail
        go_roundw
        case rel => exact ⟨i + 1, by go_num, by omega, HV2, HBz⟩
        case measure => simp [intOf]; omega
    · have d1 : (n : Int) ≤ (i : Int) := by omega
      have hin : i = cs.length := by have := HN.out; omega
      have HF : Hid (IRow w.heap.size wr u5 (chg cs)) := hid (by have := HV.out; rw [hin, List.take_length] at this; exact this)
      clear hin HV
      go_wp2_with fail
      go_ret
      exact ⟨_, rfl, HF.out, HBW.out⟩
end Go.Proofs.YtehifednpbdokaaGreatDoor
namespace Go.Proofs.YtehifednpbdokaaGreatDoor
open Go.RowKit
set_option linter.unusedSimpArgs false
set_option linter.unusedVariables false
set_option maxHeartbeats 1000000 in
theorem grow_ints (n : Nat) (w : World) (hn : n ≤ 2199023255552) : Calls Tryz.prog 122 #[.slice none 0 0, .int .i64 n] w fun e w' => ∃ v, e = .returned v ∧ w'.ownsRow w.heap.size 3 1 v 0 (fli []) ∧ Below w.heap.size w w' := by
  obtain ⟨i0, hi0, hz0, hz1, hz2⟩ := info_parts Tryz.infoI
  rcases Nat.eq_zero_or_pos n with rfl | hp
  · go_enter Tryz.func122, Tryz.ntmps122
    go_wp2_with fail
    go_ret
    exact ⟨_, rfl, World.ownsRow_nil _ _ _ _, Below.refl _ _⟩
  · have hGn := grownCap_ge w n 0 3
    have hGm := grownCap_le_maxLen w n 0 3 (by unfold maxLen; omega)
    have hrz : ∀ ty, (Builtin.append_ #[46, 3] ty #[.slice none 0 0, .int .i64 (n : Int)]).run Tryz.prog w = _ := fun ty => Lib.run_append_nil_zeros w 46 3 ty 3 i0 _ .i64 .i64 Tryz.underlying46 Tryz.underlying3 hi0 hz0 n hp (by rw [hz1]; omega) (by omega) (by rw [hz2]; omega)
    generalize grownCap w n 0 3 = G at *
    have hp1 : (0 : Int) < (n : Int) := by omega
    have hp2 : ¬ ((n : Int) < 0) := by omega
    have hG1 : (0 : Int) ≤ (G : Int) := by omega
    have HW : Hid ((w.drew.alloc (.cells (Builtin.zeroCells (Value.int .i64 0).cells n ++ Builtin.zeroCells (Value.int .i64 0).cells (G - n)) 3)).ownsRow w.heap.size 3 1 (.slice (some ⟨w.heap.size, 0, none⟩) 0 G) 0 (fli [])) := hid (by
      refine World.ownsRow_made (base := w.heap.size) (e := 3) (size := 1) w.drew _ G (Nat.le_refl _) hGm ?_
      rw [Array.size_append, size_zeroCells, size_zeroCells]
      show n * 1 + (G - n) * 1 = G * 1
      omega)
    go_enter Tryz.func122, Tryz.ntmps122
    go_wp2_with (at_builtin; refine Lib.wpList_append_run _ rfl _ _ _ _ rfl _ _ rfl rfl _ _ (hrz _) ?_)
    go_ret
    exact ⟨_, rfl, HW.out, balloc (bdrew (Below.refl _ _)) _⟩
set_option maxRecDepth 100000 in
set_option maxHeartbeats 2000000 in
theorem concat_c (B g1 c1 g2 c2 p pc : Nat) (xs ys : List Int) (w : World) (hx : xs.length ≤ 1099511627776) (hy : ys.length ≤ 1099511627776) (h1 : w.ownsRow B 3 1 (.slice (some ⟨g1, 0, none⟩) xs.length c1) xs.length (fli xs)) (h2 : w.ownsRow B 3 1 (.slice (some ⟨g2, 0, none⟩) ys.length c2) ys.length (fli ys)) (k0 : w.cell? ⟨p, 0, none⟩ = some (.slice (some ⟨g1, 0, none⟩) xs.length c1)) (k1 : w.cell? ⟨p, 1, none⟩ = some (.slice (some ⟨g2, 0, none⟩) ys.length c2)) : Calls Tryz.prog 90 #[.slice (some ⟨p, 0, none⟩) 2 pc] w fun e w' => ∃ v, e = .returned v ∧ w'.ownsRow w.heap.size 3 1 v (xs ++ ys).length (fli (xs ++ ys)) ∧ Below w.heap.size w w' := by
  obtain ⟨i0, hi0, hz0, hz1, hz2⟩ := info_parts Tryz.infoI
  have H1 := hid h1
  have H2 := hid h2
  clear h1 h2
  obtain ⟨n1, hn1⟩ : ∃ n, n = xs.length := ⟨_, rfl⟩
  obtain ⟨n2, hn2⟩ : ∃ n, n = ys.length := ⟨_, rfl⟩
  have HN1 := hid hn1
  have HN2 := hid hn2
  rw [← hn1] at hx H1 k0
  rw [← hn2] at hy H2 k1
  clear hn1 hn2
  have e1 : ¬ ((n1 : Int) < 0) := by omega
  have e2 : ¬ ((n1 : Int) + (n2 : Int) < 0) := by omega
  have HGR := hid (fun (s : Nat) (h : s ≤ 2199023255552) => grow_ints s w h)
  have K0 := hid k0
  have K1 := hid k1
  go_enter Tryz.func90, Tryz.ntmps90
  go_wp2_with fail
  go_loopw [3, 11] (fun ts ti wr => ∃ k s : Nat, ti = .int .i64 k ∧ ts = .int .i64 s ∧ Hid ((k = 0 ∧ s = 0) ∨ (k = 1 ∧ s = n1) ∨ (k = 2 ∧ s = n1 + n2)) ∧ wr = w) (fun _ ti _ => 2 - (intOf ti).toNat)
  case atStart => exact ⟨0, 0, rfl, rfl, hid (.inl ⟨rfl, rfl⟩), rfl⟩
  case round =>
    obtain ⟨k, s, rfl, rfl, HK, hw⟩ := hrel
    replace hw := hw.symm
    subst hw
    rcases HK.out with ⟨rfl, rfl⟩ | ⟨rfl, rfl⟩ | ⟨rfl, hs⟩
    · go_wp2_with fail
      go_roundw
      case rel => exact ⟨1, n1, by go_num, by go_num, hid (.inr (.inl ⟨rfl, rfl⟩)), by first | rfl | trivial⟩
      case measure => simp [intOf]
    · go_wp2_with fail
      go_roundw
      case rel => exact ⟨2, s + n2, by go_num, by go_num, hid (.inr (.inr ⟨rfl, rfl⟩)), by first | rfl | trivial⟩
      case measure => simp [intOf]
    · have hs2 : s ≤ 2199023255552 := by omega
      have GR := hid (HGR.out s hs2)
      clear hs HK HGR k0 k1
      go_wp2_with fail
      refine GR.out.mono ?_
      rintro e z ⟨v, rfl, ho, hz⟩
      have HO := hid ho
      have HB := hid hz
      clear ho hz GR
      go_wp2_with fail
      go_loopw [6, 27] (fun tv ti wr => ∃ k : Nat, ∃ zs : List Int, ti = .int .i64 k ∧ Hid ((k = 0 ∧ zs = []) ∨ (k = 1 ∧ zs = xs) ∨ (k = 2 ∧ zs = xs ++ ys)) ∧ Hid (wr.ownsRow w.heap.size 3 1 tv zs.length (fli zs)) ∧ Hid (Below w.heap.size w wr)) (fun _ ti _ => 2 - (intOf ti).toNat)
      case atStart => exact ⟨0, [], rfl, hid (.inl ⟨rfl, rfl⟩), HO, HB⟩
      case round =>
        clear HO HB
        obtain ⟨k, zs, rfl, HK, HO, HB⟩ := hrel
        have hown := HO.out
        have hbs := HB.out.size
        have q0 := keepcell HB.out K0.out
        have q1 := keepcell HB.out K1.out
        rcases HK.out with ⟨rfl, hzs⟩ | ⟨rfl, hzs⟩ | ⟨rfl, hzs⟩
        · have hzl : zs.length ≤ 1099511627776 := by rw [hzs]; simp
          have HZ := hid hzs
          clear hzs
          go_wp2_with (at_builtin; refine wpList_append_own_at _ rfl (.tmp 31) (.tmp 32) 46 rfl w.heap.size 3 i0 _ 1 8 Tryz.underlying46 hi0 hz0 hz1 hz2 rfl (by decide) _ _ _ rfl hown ⟨g1, 0, none⟩ n1 c1 (fli xs) rfl (by rw [fli_len, HN1.out]; omega) (news_i 0 xs H1.out HN1.out.symm HB.out (fun k hk => ⟨by omega, by rw [Nat.zero_add]⟩)) (fli_one _) (by unfold maxLen; omega) (by omega) hbs ?_; intro v' w2 hown2 hgrow hnil hat)
          have HO2 : Hid (w2.ownsRow w.heap.size 3 1 v' (zs ++ xs).length (fli (zs ++ xs))) := hid (by have := HN1.out; subst this; simpa [fli] using hown2)
          have HB2 := hid (Below.grown HB.out hgrow hbs (fun k e => (hown.lt k e).1))
          have HK2 : Hid (((1 : Nat) = 0 ∧ zs ++ xs = []) ∨ ((1 : Nat) = 1 ∧ zs ++ xs = xs) ∨ ((1 : Nat) = 2 ∧ zs ++ xs = xs ++ ys)) := hid (.inr (.inl ⟨rfl, by rw [HZ.out]; rfl⟩))
          clear hown2 hgrow hnil hat hown
          go_roundw
          case rel => exact ⟨1, zs ++ xs, by go_num, HK2, HO2, HB2⟩
          case measure => simp [intOf]
        · have hzl : zs.length ≤ 1099511627776 := by rw [hzs, ← HN1.out]; exact hx
          have HZ := hid hzs
          clear hzs
          go_wp2_with (at_builtin; refine wpList_append_own_at _ rfl (.tmp 31) (.tmp 32) 46 rfl w.heap.size 3 i0 _ 1 8 Tryz.underlying46 hi0 hz0 hz1 hz2 rfl (by decide) _ _ _ rfl hown ⟨g2, 0, none⟩ n2 c2 (fli ys) rfl (by rw [fli_len, HN2.out]; omega) (news_i 0 ys H2.out HN2.out.symm HB.out (fun k hk => ⟨by omega, by rw [Nat.zero_add]⟩)) (fli_one _) (by unfold maxLen; omega) (by omega) hbs ?_; intro v' w2 hown2 hgrow hnil hat)
          have HO2 : Hid (w2.ownsRow w.heap.size 3 1 v' (zs ++ ys).length (fli (zs ++ ys))) := hid (by have := HN2.out; subst this; simpa [fli] using hown2)
          have HB2 := hid (Below.grown HB.out hgrow hbs (fun k e => (hown.lt k e).1))
          have HK2 : Hid (((2 : Nat) = 0 ∧ zs ++ ys = []) ∨ ((2 : Nat) = 1 ∧ zs ++ ys = xs) ∨ ((2 : Nat) = 2 ∧ zs ++ ys = xs ++ ys)) := hid (.inr (.inr ⟨rfl, by rw [HZ.out]⟩))
          clear hown2 hgrow hnil hat hown
          go_roundw
          case rel => exact ⟨2, zs ++ ys, by go_num, HK2, HO2, HB2⟩
          case measure => simp [intOf]
        · subst hzs
          clear hown
          go_wp2_with fail
          go_ret
          exact ⟨u6, rfl, (by have := HO.out; first | exact this | (rw [List.length_append] at this; exact this) | (simp at this ⊢; exact this)), HB.out⟩
theorem sort_any (B : Nat) (v : Value) (zs : List Int) (w : World) (hm : zs.length ≤ 1099511627776) (h : w.ownsRow B 3 1 v zs.length (fli zs)) : ∃ a' c, v = .slice a' zs.length c ∧ (∀ b off, a' = some ⟨b, off, none⟩ → B ≤ b) ∧ Calls Tryz.prog 91 #[v] w fun e w' => e = .returned (.tuple #[]) ∧ OwnI w' a' (srt zs) ∧ w.grownBy w' v.ownBlock := by
  have h' := h
  rcases h.2 with ⟨rfl, q⟩ | ⟨g, cap, cur, rfl, hb, hg, hc, _⟩
  · have hz : zs = [] := List.eq_nil_of_length_eq_zero q
    subst hz
    refine ⟨none, 0, rfl, (by intro b off e; cases e), ?_⟩
    have hc := AnyM.slices_Sort_int_none Tryz.sortInt none 0 w
    change Calls Tryz.prog 91 _ _ _ at hc
    refine hc.mono ?_
    rintro e w' ⟨rfl, rfl⟩
    exact ⟨rfl, .inl ⟨rfl, by simp [srt]⟩, ⟨rfl, rfl, rfl, Nat.le_refl _, fun _ _ _ => rfl⟩⟩
  · refine ⟨some ⟨g, 0, none⟩, cap, rfl, (by intro b off e; cases e; exact hb), ?_⟩
    exact sort_ids B g cap zs w hm (Array.getElem?_eq_some_iff.1 hg).1 h'
end Go.Proofs.YtehifednpbdokaaGreatDoor
namespace Go.Proofs.YtehifednpbdokaaGreatDoor
open Go.RowKit
set_option linter.unusedSimpArgs false
set_option linter.unusedVariables false
set_option maxRecDepth 100000 in
set_option maxHeartbeats 2000000 in
theorem impl_seenIds {N1 N3 : Nat → Prop} (now : Int) (a ca : Option Addr) (cap ccap : Nat) (rs : List Rw) (cs : List Ch) (st : Int) (op : Bool) (w : World) (hm : rs.length ≤ 549755813888) (hcm : cs.length ≤ 549755813888) (hr : Rws N1 w a rs) (hc : Chs N3 1099511627776 w ca cs) (hed : edb cs = true) : Calls Tryz.prog 50 #[.agg #[.slice ca cs.length ccap, .int .i64 st, .bool op, .int .i64 now, .slice a rs.length cap]] w fun e w' => IA w (tids rs cs st) e w' := by
  have HK1 := hid (fun (W : World) (hb : Below w.heap.size w W) (p : Nat) (c0 : W.cell? ⟨p, 0, none⟩ = some (.slice ca cs.length ccap)) (c1 : W.cell? ⟨p, 1, none⟩ = some (.int .i64 st)) => kept_unch a cap rs ca ccap cs st p W (by omega) (hr.below hb) (by omega) (hc.below hb) (edb_asc hed) c0 c1)
  have HK2 := hid (fun (W : World) (hb : Below w.heap.size w W) => kept_chg ca ccap cs W (by omega) (hc.below hb))
  have HTI : Hid (srt (unch rs cs st ++ chg cs) = tids rs cs st) := hid rfl
  have hl1 := unch_len rs cs st
  have hl2 := chg_len cs
  clear hr hc hed
  generalize tids rs cs st = ti at *
  generalize unch rs cs st = xs at *
  generalize chg cs = ys at *
  generalize rs.length = rn at *
  generalize cs.length = n at *
  have hmf : ∀ (fn : Fn) (first cp : Array Value) (w : World), (Instr.makeFunc fn first cp).run Tryz.prog w = .ok (.func fn first cp) w := fun _ _ _ _ => rfl
  go_enter Tryz.func50, Tryz.ntmps50
  go_upto_region 1 with fail
  have hB0 : Below w.heap.size w (w.alloc (.cells #[.slice ca n ccap, .int .i64 st, .bool op, .int .i64 now, .slice a rn cap] 69)) := balloc (Below.refl _ _) _
  have g0 := new_alloc w w.heap.size (.cells #[.slice ca n ccap, .int .i64 st, .bool op, .int .i64 now, .slice a rn cap] 69) rfl
  generalize w.alloc (.cells #[.slice ca n ccap, .int .i64 st, .bool op, .int .i64 now, .slice a rn cap] 69) = W0 at *
  obtain ⟨⟨d0, d1, d2, d3, d4⟩, _⟩ := cell5g g0
  have K1 := hid (HK1.out W0 hB0 w.heap.size d0 d1)
  clear HK1
  go_wp2_with fail
  refine K1.out.mono ?_
  rintro e z ⟨v1, rfl, hI1, hz⟩
  replace g0 := keepheapA hz g0
  have HB := hid (btrans hB0 hz)
  have HI1 := hid hI1
  have K2 := hid (HK2.out z HB.out)
  have hWs := hB0.size
  clear hB0 hz hI1 K1 HK2 d0 d1 d2 d3 d4
  obtain ⟨⟨d0, d1, d2, d3, d4⟩, _⟩ := cell5g g0
  go_wp2_with fail
  refine K2.out.mono ?_
  rintro e y ⟨v2, rfl, hI2, hy⟩
  have HBy := hid (btrans HB.out hy)
  have HI1y := hid (HI1.out.below hy)
  have hzs := HB.out.size
  clear HB HI1 hy K2 d0 d1 d2 d3 d4 g0
  obtain ⟨g1, c1, rfl, hg1, hc1, ho1⟩ := HI1y.out
  obtain ⟨g2, c2, rfl, hg2, hc2, ho2⟩ := hI2
  have gx := new_alloc y y.heap.size (.cells #[.slice (some ⟨g1, 0, none⟩) xs.length c1, .slice (some ⟨g2, 0, none⟩) ys.length c2] 46) rfl
  obtain ⟨x0, x1, _, _⟩ := cell2r gx
  have CC := hid (concat_c w.heap.size g1 c1 g2 c2 y.heap.size 2 xs ys _ (by omega) (by omega) ((own_mono ho1 (by omega)).alloc _) ((own_mono ho2 (by omega)).alloc _) x0 x1)
  have HBx := hid (balloc HBy.out (.cells #[.slice (some ⟨g1, 0, none⟩) xs.length c1, .slice (some ⟨g2, 0, none⟩) ys.length c2] 46))
  have hzl : (xs ++ ys).length ≤ 1099511627776 := by rw [List.length_append]; omega
  generalize xs ++ ys = zs at CC HTI hzl
  clear ho1 ho2 x0 x1 gx HBy HI1y
  go_wp2_with fail
  refine CC.out.mono ?_
  rintro e u ⟨v, rfl, ho, hu⟩
  have HBu := hid (btrans HBx.out hu)
  have hxs := HBx.out.size
  obtain ⟨a', c', hv, hnew, hso⟩ := sort_any _ v zs u hzl ho
  subst hv
  have HNEW := hid hnew
  have HS := hid hso
  have HLT := hid ho.lt
  clear ho hu CC HBx hso hnew
  go_wp2_with fail
  refine HS.out.mono ?_
  rintro e u2 ⟨rfl, hI, hgr⟩
  have HB2 := hid (Below.grown HBu.out hgr HBu.out.size (fun k e => by have := (HLT.out k e).1; omega))
  have HI := hid hI
  clear hI hgr HS HLT
  go_wp2_with fail
  go_ret
  rw [← HTI.out]
  exact ⟨a', c', by rw [srt_len]; rfl, HI.out, fun b off e => by have := HNEW.out b off e; omega, HB2.out⟩
set_option maxRecDepth 100000 in
set_option maxHeartbeats 4000000 in
theorem impl_TxnIds {N1 N2 : Nat → Prop} (now : Int) (a ta : Option Addr) (cap tcap : Nat) (rs : List Rw) (ts : List Tx) (n : Int) (w : World) (hm : rs.length ≤ 549755813888) (htm : ts.length ≤ 1099511627776) (hcb : ∀ m (h : m < ts.length), ts[m].2.2.length ≤ 1048576) (hr : Rws N1 w a rs) (ht : Txs N2 1099511627776 w ta ts) (et : TypeId) (ev : Value) (hg : w.cell? ⟨0, 0, none⟩ = some (.iface et ev)) : Calls Tryz.prog 18 #[.agg #[.int .i64 now, .slice a rs.length cap, .slice ta ts.length tcap], .int .i64 n] w fun e w' => IA w (tidsb now rs ts n) e w' := by
  cases hob : opn now rs ts n
  · have HRN := hid (fun (W : World) (hb : Below w.heap.size w W) => run_no now a ta cap tcap rs ts n W (by omega) htm (hr.below hb) (ht.below hb) et ev (keepcell hb hg) hob)
    have HF : Hid (tidsb now rs ts n = []) := hid (by unfold tidsb; rw [hob]; rfl)
    clear hr ht hg hob hcb
    unfold zrun at HRN
    generalize tidsb now rs ts n = ti at *
    generalize rs.length = rn at *
    generalize ts.length = tn at *
    have hBx : Below w.heap.size w (w.alloc (.cells #[.int .i64 now, .slice a rn cap, .slice ta tn tcap] 39)) := balloc (Below.refl _ _) _
    have g0 := new_alloc w w.heap.size (.cells #[.int .i64 now, .slice a rn cap, .slice ta tn tcap] 39) rfl
    go_enter Tryz.func18, Tryz.ntmps18
    go_upto_region 1 with fail
    generalize w.alloc (.cells #[.int .i64 now, .slice a rn cap, .slice ta tn tcap] 39) = W0 at *
    obtain ⟨⟨d0, d1, d2⟩, _⟩ := cellk3 g0
    go_wp2_with fail
    refine (HRN.out _ hBx).mono ?_
    rintro e z ⟨rfl, hz⟩
    have HB := hid (btrans hBx hz)
    clear hBx hz HRN d0 d1 d2 g0
    go_upto_region 2 with fail
    have HB2 := hid (balloc HB.out (.cells #[.slice none 0 0, .int .i64 0, .bool false, .int .i64 0, .slice none 0 0] 69))
    clear HB
    generalize z.alloc (.cells #[.slice none 0 0, .int .i64 0, .bool false, .int .i64 0, .slice none 0 0] 69) = Y at *
    go_wp2_with fail
    go_ret
    rw [HF.out]
    exact ⟨some ⟨Y.heap.size, 0, none⟩, 0, rfl, .inr ⟨_, rfl, by simp, fun k hk => absurd hk (by simp), fun j hj => absurd hj (by simp)⟩, fun b off e => (by cases e; exact HB2.out.size), balloc HB2.out _⟩
  · obtain ⟨m, rfl, hmr, h1, h2, h3, h4⟩ := opn_yes hob
    have hst := opn_st hob
    have HRY := hid (fun (W : World) (hb : Below w.heap.size w W) => run_yes now a ta cap tcap rs ts m W (by omega) htm (hr.below hb) (ht.below hb) hmr hst h4)
    have HSN := hid (fun (W : World) (ca : Option Addr) (ccap : Nat) (hb : Below w.heap.size w W) (hc : Chs N2 1099511627776 W ca ts[m].2.2) => impl_seenIds now a ca cap ccap rs ts[m].2.2 ts[m].1 true W hm (by have := hcb m hmr; omega) (hr.below hb) hc h3)
    have e1 : tidsb now rs ts m = tids rs ts[m].2.2 ts[m].1 := by
      unfold tidsb
      rw [hob, h2]; rfl
    rw [e1]
    clear hr ht hg hob e1 h1 h2 h3 h4 hst hcb
    generalize tids rs ts[m].2.2 ts[m].1 = ti at *
    generalize ts[m].1 = st at *
    generalize ts[m].2.2 = cs at *
    generalize rs.length = rn at *
    generalize ts.length = tn at *
    have hBx : Below w.heap.size w (w.alloc (.cells #[.int .i64 now, .slice a rn cap, .slice ta tn tcap] 39)) := balloc (Below.refl _ _) _
    have g0 := new_alloc w w.heap.size (.cells #[.int .i64 now, .slice a rn cap, .slice ta tn tcap] 39) rfl
    go_enter Tryz.func18, Tryz.ntmps18
    go_upto_region 1 with fail
    generalize w.alloc (.cells #[.int .i64 now, .slice a rn cap, .slice ta tn tcap] 39) = W0 at *
    obtain ⟨⟨d0, d1, d2⟩, _⟩ := cellk3 g0
    go_wp2_with fail
    refine (HRY.out _ hBx).mono ?_
    rintro e z ⟨ca, ccap, rfl, hcl, hcs, hz⟩
    have HB := hid (btrans hBx hz)
    have HCS := hid hcs
    clear hBx hz HRY d0 d1 d2 g0 hcs
    obtain ⟨cn, hcn⟩ : ∃ cn, cn = cs.length := ⟨_, rfl⟩
    rw [← hcn] at hcl HSN ⊢
    clear hcn
    go_upto_region 2 with fail
    have hBy : Below z.heap.size z (z.alloc (.cells #[.slice ca cn ccap, .int .i64 st, .bool true, .int .i64 now, .slice a rn cap] 69)) := balloc (Below.refl _ _) _
    have g2 := new_alloc z z.heap.size (.cells #[.slice ca cn ccap, .int .i64 st, .bool true, .int .i64 now, .slice a rn cap] 69) rfl
    have HB2 := hid (btrans HB.out hBy)
    have HSN2 := hid (HSN.out _ ca ccap HB2.out (HCS.out.below hBy))
    clear hBy HB HSN HCS
    generalize z.alloc (.cells #[.slice ca cn ccap, .int .i64 st, .bool true, .int .i64 now, .slice a rn cap] 69) = Y at *
    generalize z.heap.size = Z at *
    obtain ⟨⟨d0, d1, d2, d3, d4⟩, _⟩ := cell5g g2
    go_wp2_with fail
    refine HSN2.out.mono ?_
    rintro e y ⟨a', cap', rfl, hI, hnew, hy⟩
    have HBy := hid (btrans HB2.out hy)
    have HI := hid hI
    have hys := HB2.out.size
    clear hI hy d0 d1 d2 d3 d4 HSN2 g2 HB2
    go_wp2_with fail
    go_ret
    exact ⟨a', cap', rfl, HI.out, fun b off e => by have := hnew b off e; omega, HBy.out⟩
end Go.Proofs.YtehifednpbdokaaGreatDoor
namespace Go.Proofs.YtehifednpbdokaaGreatDoor
open Go.RowKit
set_option linter.unusedSimpArgs false
set_option linter.unusedVariables false
theorem mid_ownI {lo hi : Nat} {w w' : World} {a : Option Addr} {zs : List Int} (k : Mid lo hi w w') (h : OwnI w a zs) (ha : ∀ c off, a = some ⟨c, off, none⟩ → c < lo ∨ hi ≤ c) : OwnI w' a zs :=
  h.blk k.2.2.2.1 (fun b off e => mid_blk k (h.lt b off e) (ha b off e))
set_option maxRecDepth 100000 in
set_option maxHeartbeats 4000000 in
theorem txnids_w (now0 : Int) (a0 : Option Addr) (cap0 : Nat) (rs0 : List Rw) (ta0 : Option Addr) (tcap0 : Nat) (ts0 : List Tx) (a1 : Int) (w : World) (wnow0 : True) (hl0 : rs0.length ≤ 9223372036854775807) (w0 : RwsL w a0 rs0) (htl0 : ts0.length ≤ 9223372036854775807) (wt0 : Txs (fun _ => True) 9223372036854775807 w ta0 ts0) (w1 : True) (et : TypeId) (ev : Value) (hL : w.cell? ⟨0, 0, none⟩ = some (.iface et ev)) : Calls Tryz.prog 4 #[.agg #[.int .i64 now0, .slice a0 rs0.length cap0, .slice ta0 ts0.length tcap0], .int .i64 a1] w fun e w' => e = .returned (.bool true) ∧ Below w.heap.size w w' := by
  clear wnow0 w1
  have HR0 := hid w0
  have HT0 := hid wt0
  clear w0 wt0
  have hg0 : 0 < w.heap.size := by have := World.block_lt_of_cell? w _ hL; simp only at this; omega
  go_enter Tryz.func4, Tryz.ntmps4
  go_wp2_with fail
  refine (sz_store now0 a0 ta0 cap0 tcap0 rs0 ts0 _ hl0 htl0 (HR0.out.below (by show Below _ _ _; (repeat (first | with_reducible exact Below.refl _ _ | with_reducible assumption | (with_reducible refine btrans ?_ (by with_reducible assumption)) | with_reducible refine bdrew ?_ | with_reducible refine balloc ?_ _)))) (HT0.out.below (by show Below _ _ _; (repeat (first | with_reducible exact Below.refl _ _ | with_reducible assumption | (with_reducible refine btrans ?_ (by with_reducible assumption)) | with_reducible refine bdrew ?_ | with_reducible refine balloc ?_ _))))).mono ?_
  rintro e y0 ⟨⟨v, rfl, hv⟩, hb1⟩
  have c0 : y0.cell? ⟨0, 0, none⟩ = some (.iface et ev) := by (repeat (first | with_reducible assumption | (refine newcell _ _ _ _ _ _ ?_ rfl; simp; done) | refine keepcell (by with_reducible assumption) ?_ | refine keepdrew ?_ | refine keepalloc ?_ _))
  have c1 : y0.cell? ⟨w.heap.size, 0, none⟩ = some (.int .i64 now0) := by (repeat (first | with_reducible assumption | (refine newcell _ _ _ _ _ _ ?_ rfl; simp; done) | refine keepcell (by with_reducible assumption) ?_ | refine keepdrew ?_ | refine keepalloc ?_ _))
  have c2 : y0.cell? ⟨w.heap.size, 1, none⟩ = some (.slice a0 rs0.length cap0) := by (repeat (first | with_reducible assumption | (refine newcell _ _ _ _ _ _ ?_ rfl; simp; done) | refine keepcell (by with_reducible assumption) ?_ | refine keepdrew ?_ | refine keepalloc ?_ _))
  have c3 : y0.cell? ⟨w.heap.size, 2, none⟩ = some (.slice ta0 ts0.length tcap0) := by (repeat (first | with_reducible assumption | (refine newcell _ _ _ _ _ _ ?_ rfl; simp; done) | refine keepcell (by with_reducible assumption) ?_ | refine keepdrew ?_ | refine keepalloc ?_ _))
  have hB2 : Below w.heap.size w y0 := by (repeat (first | with_reducible exact Below.refl _ _ | with_reducible assumption | (with_reducible refine btrans ?_ (by with_reducible assumption)) | with_reducible refine bdrew ?_ | with_reducible refine balloc ?_ _))
  rcases hv with rfl | ⟨hv0, hv1, HV⟩
  · go_wp2_with fail
    go_ret
    exact ⟨rfl, hB2⟩
  have hv2 : ¬ v < 0 := by omega
  have HP := hid (HR0.out.rws HV.out.1.2)
  have HQ := hid (HT0.out.small HV.out.2)
  have hm'' : rs0.length ≤ 549755813888 := by have := HV.out.1.1; omega
  have hm' : rs0.length ≤ 1099511627776 := by have := HV.out.1.1; omega
  have hn' : ts0.length ≤ 1099511627776 := by have := HV.out.2.1; omega
  have HCB := hid (fun m (h : m < ts0.length) => (HV.out.2.2 m h).1)
  clear hb1 HR0 HT0 hL
  have CS := hid (fun (b t : Nat) w' (hw : Rws (fun c => b < c) w' (some ⟨b, 0, none⟩) rs0) (hx : Txs (fun c => t < c) 1099511627776 w' (some ⟨t, 0, none⟩) ts0) => spec_TxnIds now0 (some ⟨b, 0, none⟩) (some ⟨t, 0, none⟩) rs0.length ts0.length rs0 ts0 a1 w' hm' hn' HCB.out hw hx)
  have CI := hid (fun (b t : Nat) w' (hw : Rws (fun c => b < c) w' (some ⟨b, 0, none⟩) rs0) (hx : Txs (fun c => t < c) 1099511627776 w' (some ⟨t, 0, none⟩) ts0) (hg : w'.cell? ⟨0, 0, none⟩ = some (.iface et ev)) => impl_TxnIds now0 (some ⟨b, 0, none⟩) (some ⟨t, 0, none⟩) rs0.length ts0.length rs0 ts0 a1 w' hm'' hn' HCB.out hw hx et ev hg)
  have hql : (tidsb now0 rs0 ts0 a1).length ≤ 549755813888 + 1048576 := tidsb_len hm'' HCB.out
  unfold IA at CS CI
  generalize tidsb now0 rs0 ts0 a1 = qs at *
  have hqm : qs.length ≤ 1099511627776 := by omega
  have Q0 := hid (HP.out.below hB2)
  have QT := hid (HQ.out.below hB2)
  have hw0 : w.heap.size < y0.heap.size := World.block_lt_of_cell? y0 _ c1
  go_wp2_with fail
  refine (to_store now0 a0 ta0 cap0 tcap0 rs0 ts0 _ hm' hn' Q0.out QT.out).mono ?_
  rintro e y1 ⟨b1, t1, rfl, ho1, hx1, hc1⟩
  replace Q0 : Hid (Rws (fun _ => True) y1 a0 rs0) := hid (Q0.out.below (show Below y0.heap.size y0 y1 by (repeat (first | with_reducible exact Below.refl _ _ | with_reducible assumption | (with_reducible refine btrans ?_ (by with_reducible assumption)) | with_reducible refine bdrew ?_ | with_reducible refine balloc ?_ _))))
  replace QT : Hid (Txs (fun _ => True) 1099511627776 y1 ta0 ts0) := hid (QT.out.below (show Below y0.heap.size y0 y1 by (repeat (first | with_reducible exact Below.refl _ _ | with_reducible assumption | (with_reducible refine btrans ?_ (by with_reducible assumption)) | with_reducible refine bdrew ?_ | with_reducible refine balloc ?_ _))))
  have n1_0 := keepcell hc1 c0
  have n1_1 := keepcell hc1 c1
  have n1_2 := keepcell hc1 c2
  have n1_3 := keepcell hc1 c3
  replace hB2 := btrans hB2 hc1
  clear hc1 c0 c1 c2 c3
  have R1 := hid ho1
  have X1 := hid hx1
  clear ho1 hx1
  have hw1 : w.heap.size < y1.heap.size := World.block_lt_of_cell? y1 _ n1_1
  go_wp2_with fail
  refine (CS.out b1 t1 _ R1.out X1.out).mono ?_
  rintro e y2 ⟨sa, sc, rfl, hso, hsb, hc2⟩
  replace Q0 : Hid (Rws (fun _ => True) y2 a0 rs0) := hid (Q0.out.below (show Below y1.heap.size y1 y2 by (repeat (first | with_reducible exact Below.refl _ _ | with_reducible assumption | (with_reducible refine btrans ?_ (by with_reducible assumption)) | with_reducible refine bdrew ?_ | with_reducible refine balloc ?_ _))))
  replace QT : Hid (Txs (fun _ => True) 1099511627776 y2 ta0 ts0) := hid (QT.out.below (show Below y1.heap.size y1 y2 by (repeat (first | with_reducible exact Below.refl _ _ | with_reducible assumption | (with_reducible refine btrans ?_ (by with_reducible assumption)) | with_reducible refine bdrew ?_ | with_reducible refine balloc ?_ _))))
  have n2_0 := keepcell hc2 n1_0
  have n2_1 := keepcell hc2 n1_1
  have n2_2 := keepcell hc2 n1_2
  have n2_3 := keepcell hc2 n1_3
  replace hB2 := btrans hB2 hc2
  clear hc2 n1_0 n1_1 n1_2 n1_3
  have S0 := hid hso
  have hw2 : w.heap.size < y2.heap.size := World.block_lt_of_cell? y2 _ n2_1
  clear hso hsb R1 X1
  have hsal := hid (S0.out.lt)
  go_wp2_with fail
  refine (to_storeO now0 a0 ta0 cap0 tcap0 rs0 ts0 _ hm' hn' Q0.out QT.out).mono ?_
  rintro e y3 ⟨b3, t3, hR, rfl, ho3, hx3, hss, hc3⟩
  replace Q0 : Hid (Rws (fun _ => True) y3 a0 rs0) := hid (Q0.out.below (show Below y2.heap.size y2 y3 by (repeat (first | with_reducible exact Below.refl _ _ | with_reducible assumption | (with_reducible refine btrans ?_ (by with_reducible assumption)) | with_reducible refine bdrew ?_ | with_reducible refine balloc ?_ _))))
  replace QT : Hid (Txs (fun _ => True) 1099511627776 y3 ta0 ts0) := hid (QT.out.below (show Below y2.heap.size y2 y3 by (repeat (first | with_reducible exact Below.refl _ _ | with_reducible assumption | (with_reducible refine btrans ?_ (by with_reducible assumption)) | with_reducible refine bdrew ?_ | with_reducible refine balloc ?_ _))))
  replace S0 : Hid (OwnI y3 sa qs) := hid (S0.out.below (show Below y2.heap.size y2 y3 by (repeat (first | with_reducible exact Below.refl _ _ | with_reducible assumption | (with_reducible refine btrans ?_ (by with_reducible assumption)) | with_reducible refine bdrew ?_ | with_reducible refine balloc ?_ _))))
  have n3_0 := keepcell hc3 n2_0
  have n3_1 := keepcell hc3 n2_1
  have n3_2 := keepcell hc3 n2_2
  have n3_3 := keepcell hc3 n2_3
  replace hB2 := btrans hB2 hc3
  clear hc3 n2_0 n2_1 n2_2 n2_3
  have R3 := hid ho3
  have X3' := hid hx3
  obtain ⟨hg3, hl3, hl3', hl4, ht3, hr3, hx3'⟩ := hss
  have O3 : Hid (OwnS y3.heap.size hR y3 b3 t3 rs0 ts0) := hid ⟨hl3, hl3', hl4, Nat.le_refl _, ht3, hr3, hx3'⟩
  have hg3' : y2.heap.size ≤ b3 := by (try simp at hg3); omega
  have hl5 : b3 < y3.heap.size := by omega
  clear ho3 hx3 hg3 ht3 hr3 hx3'
  have r3_0 := keepalloc n3_0 (.cells #[.int .i64 now0, .slice (some ⟨b3, 0, none⟩) rs0.length rs0.length, .slice (some ⟨t3, 0, none⟩) ts0.length ts0.length] 39)
  have r3_1 := keepalloc n3_1 (.cells #[.int .i64 now0, .slice (some ⟨b3, 0, none⟩) rs0.length rs0.length, .slice (some ⟨t3, 0, none⟩) ts0.length ts0.length] 39)
  have r3_2 := keepalloc n3_2 (.cells #[.int .i64 now0, .slice (some ⟨b3, 0, none⟩) rs0.length rs0.length, .slice (some ⟨t3, 0, none⟩) ts0.length ts0.length] 39)
  have r3_3 := keepalloc n3_3 (.cells #[.int .i64 now0, .slice (some ⟨b3, 0, none⟩) rs0.length rs0.length, .slice (some ⟨t3, 0, none⟩) ts0.length ts0.length] 39)
  go_wp2_with fail
  refine (CI.out b3 t3 _ (R3.out.below (balloc (Below.refl _ _) _)) (X3'.out.below (balloc (Below.refl _ _) _)) (keepalloc n3_0 _)).mono ?_
  rintro e y4 ⟨ga, gc, rfl, hgo, hgb, hc4⟩
  replace Q0 : Hid (Rws (fun _ => True) y4 a0 rs0) := hid (Q0.out.below (show Below y3.heap.size y3 y4 by (repeat (first | with_reducible exact Below.refl _ _ | with_reducible assumption | (with_reducible refine btrans ?_ (by with_reducible assumption)) | with_reducible refine bdrew ?_ | with_reducible refine balloc ?_ _))))
  replace QT : Hid (Txs (fun _ => True) 1099511627776 y4 ta0 ts0) := hid (QT.out.below (show Below y3.heap.size y3 y4 by (repeat (first | with_reducible exact Below.refl _ _ | with_reducible assumption | (with_reducible refine btrans ?_ (by with_reducible assumption)) | with_reducible refine bdrew ?_ | with_reducible refine balloc ?_ _))))
  replace S0 : Hid (OwnI y4 sa qs) := hid (S0.out.below (show Below y3.heap.size y3 y4 by (repeat (first | with_reducible exact Below.refl _ _ | with_reducible assumption | (with_reducible refine btrans ?_ (by with_reducible assumption)) | with_reducible refine bdrew ?_ | with_reducible refine balloc ?_ _))))
  replace R3 : Hid (Rws (fun c => b3 < c) y4 (some ⟨b3, 0, none⟩) rs0) := hid (R3.out.below (show Below y3.heap.size y3 y4 by (repeat (first | with_reducible exact Below.refl _ _ | with_reducible assumption | (with_reducible refine btrans ?_ (by with_reducible assumption)) | with_reducible refine bdrew ?_ | with_reducible refine balloc ?_ _))))
  replace X3' : Hid (Txs (fun c => t3 < c) 1099511627776 y4 (some ⟨t3, 0, none⟩) ts0) := hid (X3'.out.below (show Below y3.heap.size y3 y4 by (repeat (first | with_reducible exact Below.refl _ _ | with_reducible assumption | (with_reducible refine btrans ?_ (by with_reducible assumption)) | with_reducible refine bdrew ?_ | with_reducible refine balloc ?_ _))))
  replace O3 : Hid (OwnS y3.heap.size hR y4 b3 t3 rs0 ts0) := hid (O3.out.below (show Below y3.heap.size y3 y4 by (repeat (first | with_reducible exact Below.refl _ _ | with_reducible assumption | (with_reducible refine btrans ?_ (by with_reducible assumption)) | with_reducible refine bdrew ?_ | with_reducible refine balloc ?_ _))))
  have n4_0 : y4.cell? ⟨0, 0, none⟩ = some (.iface et ev) := by (repeat (first | with_reducible assumption | (refine newcell _ _ _ _ _ _ ?_ rfl; simp; done) | refine keepcell (by with_reducible assumption) ?_ | refine keepdrew ?_ | refine keepalloc ?_ _))
  have n4_1 : y4.cell? ⟨w.heap.size, 0, none⟩ = some (.int .i64 now0) := by (repeat (first | with_reducible assumption | (refine newcell _ _ _ _ _ _ ?_ rfl; simp; done) | refine keepcell (by with_reducible assumption) ?_ | refine keepdrew ?_ | refine keepalloc ?_ _))
  have n4_2 : y4.cell? ⟨w.heap.size, 1, none⟩ = some (.slice a0 rs0.length cap0) := by (repeat (first | with_reducible assumption | (refine newcell _ _ _ _ _ _ ?_ rfl; simp; done) | refine keepcell (by with_reducible assumption) ?_ | refine keepdrew ?_ | refine keepalloc ?_ _))
  have n4_3 : y4.cell? ⟨w.heap.size, 2, none⟩ = some (.slice ta0 ts0.length tcap0) := by (repeat (first | with_reducible assumption | (refine newcell _ _ _ _ _ _ ?_ rfl; simp; done) | refine keepcell (by with_reducible assumption) ?_ | refine keepdrew ?_ | refine keepalloc ?_ _))
  have n4_4 : y4.cell? ⟨y3.heap.size, 0, none⟩ = some (.int .i64 now0) := by (repeat (first | with_reducible assumption | (refine newcell _ _ _ _ _ _ ?_ rfl; simp; done) | refine keepcell (by with_reducible assumption) ?_ | refine keepdrew ?_ | refine keepalloc ?_ _))
  have n4_5 : y4.cell? ⟨y3.heap.size, 1, none⟩ = some (.slice (some ⟨b3, 0, none⟩) rs0.length rs0.length) := by (repeat (first | with_reducible assumption | (refine newcell _ _ _ _ _ _ ?_ rfl; simp; done) | refine keepcell (by with_reducible assumption) ?_ | refine keepdrew ?_ | refine keepalloc ?_ _))
  have n4_6 : y4.cell? ⟨y3.heap.size, 2, none⟩ = some (.slice (some ⟨t3, 0, none⟩) ts0.length ts0.length) := by (repeat (first | with_reducible assumption | (refine newcell _ _ _ _ _ _ ?_ rfl; simp; done) | refine keepcell (by with_reducible assumption) ?_ | refine keepdrew ?_ | refine keepalloc ?_ _))
  replace hB2 : Below w.heap.size w y4 := by (repeat (first | with_reducible exact Below.refl _ _ | with_reducible assumption | (with_reducible refine btrans ?_ (by with_reducible assumption)) | with_reducible refine bdrew ?_ | with_reducible refine balloc ?_ _))
  clear hc4 n3_0 n3_1 n3_2 n3_3
  have G0 := hid hgo
  have hw4 : y3.heap.size < y4.heap.size := World.block_lt_of_cell? y4 _ n4_4
  have hgbl := hid hgb
  clear hgo hgb
  go_wp2_with fail
  refine (eq_ints ga sa gc sc qs _ hqm G0.out S0.out).mono ?_
  rintro e y5 ⟨rfl, hc5⟩
  replace Q0 : Hid (Rws (fun _ => True) y5 a0 rs0) := hid (Q0.out.below (show Below y4.heap.size y4 y5 by (repeat (first | with_reducible exact Below.refl _ _ | with_reducible assumption | (with_reducible refine btrans ?_ (by with_reducible assumption)) | with_reducible refine bdrew ?_ | with_reducible refine balloc ?_ _))))
  replace QT : Hid (Txs (fun _ => True) 1099511627776 y5 ta0 ts0) := hid (QT.out.below (show Below y4.heap.size y4 y5 by (repeat (first | with_reducible exact Below.refl _ _ | with_reducible assumption | (with_reducible refine btrans ?_ (by with_reducible assumption)) | with_reducible refine bdrew ?_ | with_reducible refine balloc ?_ _))))
  replace S0 : Hid (OwnI y5 sa qs) := hid (S0.out.below (show Below y4.heap.size y4 y5 by (repeat (first | with_reducible exact Below.refl _ _ | with_reducible assumption | (with_reducible refine btrans ?_ (by with_reducible assumption)) | with_reducible refine bdrew ?_ | with_reducible refine balloc ?_ _))))
  replace R3 : Hid (Rws (fun c => b3 < c) y5 (some ⟨b3, 0, none⟩) rs0) := hid (R3.out.below (show Below y4.heap.size y4 y5 by (repeat (first | with_reducible exact Below.refl _ _ | with_reducible assumption | (with_reducible refine btrans ?_ (by with_reducible assumption)) | with_reducible refine bdrew ?_ | with_reducible refine balloc ?_ _))))
  replace X3' : Hid (Txs (fun c => t3 < c) 1099511627776 y5 (some ⟨t3, 0, none⟩) ts0) := hid (X3'.out.below (show Below y4.heap.size y4 y5 by (repeat (first | with_reducible exact Below.refl _ _ | with_reducible assumption | (with_reducible refine btrans ?_ (by with_reducible assumption)) | with_reducible refine bdrew ?_ | with_reducible refine balloc ?_ _))))
  replace O3 : Hid (OwnS y3.heap.size hR y5 b3 t3 rs0 ts0) := hid (O3.out.below (show Below y4.heap.size y4 y5 by (repeat (first | with_reducible exact Below.refl _ _ | with_reducible assumption | (with_reducible refine btrans ?_ (by with_reducible assumption)) | with_reducible refine bdrew ?_ | with_reducible refine balloc ?_ _))))
  replace G0 : Hid (OwnI y5 ga qs) := hid (G0.out.below (show Below y4.heap.size y4 y5 by (repeat (first | with_reducible exact Below.refl _ _ | with_reducible assumption | (with_reducible refine btrans ?_ (by with_reducible assumption)) | with_reducible refine bdrew ?_ | with_reducible refine balloc ?_ _))))
  have n5_0 := keepcell hc5 n4_0
  have n5_1 := keepcell hc5 n4_1
  have n5_2 := keepcell hc5 n4_2
  have n5_3 := keepcell hc5 n4_3
  have n5_4 := keepcell hc5 n4_4
  have n5_5 := keepcell hc5 n4_5
  have n5_6 := keepcell hc5 n4_6
  replace hB2 := btrans hB2 hc5
  clear hc5 n4_0 n4_1 n4_2 n4_3 n4_4 n4_5 n4_6
  go_wp2_with fail
  have hgm : ∀ c off, ga = some ⟨c, off, none⟩ → y3.heap.size < c := by
    intro c off e
    have h1 := hgbl.out c off e
    simp at h1; omega
  have hsm : ∀ c off, sa = some ⟨c, off, none⟩ → c < y2.heap.size := hsal.out
  have HGM := hid hgm
  have HSM := hid hsm
  clear hgm hsm hgbl hsal
  generalize y2.heap.size = X2 at *
  generalize y3.heap.size = X3 at *
  refine wp_region_held_drew (S := (fun w' => w'.cell? ⟨0, 0, none⟩ = some (.iface et ev) ∧ w'.cell? ⟨w.heap.size, 0, none⟩ = some (.int .i64 now0) ∧ w'.cell? ⟨w.heap.size, 1, none⟩ = some (.slice a0 rs0.length cap0) ∧ w'.cell? ⟨w.heap.size, 2, none⟩ = some (.slice ta0 ts0.length tcap0) ∧ w'.cell? ⟨X3, 0, none⟩ = some (.int .i64 now0) ∧ w'.cell? ⟨X3, 1, none⟩ = some (.slice (some ⟨b3, 0, none⟩) rs0.length rs0.length) ∧ w'.cell? ⟨X3, 2, none⟩ = some (.slice (some ⟨t3, 0, none⟩) ts0.length ts0.length))) (by kernel_rfl) ?_ (fun hHeld => ?_)
  · (repeat' apply And.intro) <;> (repeat (first | with_reducible assumption | with_reducible refine keepdrew ?_ | with_reducible refine keepcell (by with_reducible assumption) ?_ | with_reducible refine keepalloc ?_ _))
  refine wpAnyH_take (i := 0) (v := ?_) rfl (by kernel_rfl) (by kernel_rfl) (by kernel_rfl) (fun _ _ _ h => h) (Or.inl ⟨by rfl, ?_⟩) hHeld ?_
  rotate_left
  · intro w hSw; (try dsimp only at hSw); go_simp; try (with_reducible rfl)
  try simp only [sq]
  refine wpAnyH_take (i := 1) (v := ?_) rfl (by kernel_rfl) (by kernel_rfl) (by kernel_rfl) (fun _ _ _ h => h) (Or.inl ⟨by rfl, ?_⟩) hHeld ?_
  rotate_left
  · intro w hSw; (try dsimp only at hSw); go_simp; try (with_reducible rfl)
  try simp only [sq]
  refine wpAnyH_ready (rs := [2]) (by kernel_rfl) (by simp) ?_
  refine AllReadyH.cons rfl (fun K hK => ?_) AllReadyH.nil
  try simp only [sq]
  go_simp
  (first
      | (go_at_call 10; refine (to_store now0 a0 ta0 cap0 tcap0 rs0 ts0 _ hm' hn' (Q0.out.below (by (repeat (first | with_reducible exact Below.refl _ _ | with_reducible assumption | (with_reducible refine btrans ?_ (by with_reducible assumption)) | with_reducible refine bdrew ?_ | with_reducible refine balloc ?_ _)))) (QT.out.below (by (repeat (first | with_reducible exact Below.refl _ _ | with_reducible assumption | (with_reducible refine btrans ?_ (by with_reducible assumption)) | with_reducible refine bdrew ?_ | with_reducible refine balloc ?_ _))))).mono ?_; rintro e m1 ⟨c1', d1', rfl, ho1, hx1, hm1⟩; have T1 := hid ho1; have T2 := hid hx1; clear ho1 hx1; have Z := hid (R3.out.below (show Below y5.heap.size y5 m1 by (repeat (first | with_reducible exact Below.refl _ _ | with_reducible assumption | (with_reducible refine btrans ?_ (by with_reducible assumption)) | with_reducible refine bdrew ?_ | with_reducible refine balloc ?_ _)))); have Z2 := hid (X3'.out.below (show Below y5.heap.size y5 m1 by (repeat (first | with_reducible exact Below.refl _ _ | with_reducible assumption | (with_reducible refine btrans ?_ (by with_reducible assumption)) | with_reducible refine bdrew ?_ | with_reducible refine balloc ?_ _))))))
  go_wp2_with fail
  refine hK.out _ _ ?_ (fun hHeld => ?_)
  · (repeat' apply And.intro) <;> (repeat (first | with_reducible assumption | with_reducible refine keepdrew ?_ | with_reducible refine keepcell (by with_reducible assumption) ?_ | with_reducible refine keepalloc ?_ _))
  clear hK K
  try simp only [sq]
  refine wpAnyH_ready (rs := [3]) (by kernel_rfl) (by simp) ?_
  refine AllReadyH.cons rfl (fun K hK => ?_) AllReadyH.nil
  try simp only [sq]
  go_simp
  (first
      | (go_at_call 13; refine (eq_store now0 _ _ _ _ _ _ _ _ rs0 ts0 _ hm' hn' Z.out T1.out Z2.out T2.out).mono ?_; rintro e m2 ⟨rfl, hm2⟩))
  go_wp2_with fail
  refine hK.out _ _ ?_ (fun hHeld => ?_)
  · (repeat' apply And.intro) <;> (repeat (first | with_reducible assumption | with_reducible refine keepdrew ?_ | with_reducible refine keepcell (by with_reducible assumption) ?_ | with_reducible refine keepalloc ?_ _))
  clear hK K
  try simp only [sq]
  refine wpAnyH_take (i := 4) (v := ?_) rfl (by kernel_rfl) (by kernel_rfl) (by kernel_rfl) (fun _ _ _ h => h) (Or.inl ⟨by rfl, ?_⟩) hHeld ?_
  rotate_left
  · intro w hSw; (try dsimp only at hSw); go_simp; try (with_reducible rfl)
  try simp only [sq]
  refine wpAnyH_done (by kernel_rfl) ?_ _
  have hY : Below y5.heap.size y5 m2 := by (repeat (first | with_reducible exact Below.refl _ _ | with_reducible assumption | (with_reducible refine btrans ?_ (by with_reducible assumption)) | with_reducible refine bdrew ?_ | with_reducible refine balloc ?_ _))
  replace n5_0 := keepcell hY n5_0
  replace n5_1 := keepcell hY n5_1
  replace n5_2 := keepcell hY n5_2
  replace n5_3 := keepcell hY n5_3
  replace n5_4 := keepcell hY n5_4
  replace n5_5 := keepcell hY n5_5
  replace n5_6 := keepcell hY n5_6
  replace hB2 := btrans hB2 hY
  replace Q0 := hid (Q0.out.below hY)
  replace QT := hid (QT.out.below hY)
  replace S0 := hid (S0.out.below hY)
  replace R3 := hid (R3.out.below hY)
  replace X3' := hid (X3'.out.below hY)
  replace O3 := hid (O3.out.below hY)
  replace G0 := hid (G0.out.below hY)
  clear hY hm1 hm2 hHeld T1 T2 Z Z2
  go_wp2_with fail
  obtain ⟨s1, s2, s3, s4, s5, s6, s7⟩ := O3.out
  refine (mark_store b3 X3 hR b3 t3 now0 rs0 ts0 _ (Nat.le_refl _) s1 s2 s3 s4 HV.out.1.1 HV.out.1.2 HV.out.2 s5 s6 s7).mono ?_
  rintro e k1 ⟨⟨kv, rfl, hkv⟩, hmid⟩
  clear s5 s6 s7
  replace n5_0 := mid_cell hmid n5_0 (by omega)
  replace n5_1 := mid_cell hmid n5_1 (by omega)
  replace n5_2 := mid_cell hmid n5_2 (by omega)
  replace n5_3 := mid_cell hmid n5_3 (by omega)
  replace n5_4 := mid_cell hmid n5_4 (by omega)
  replace n5_5 := mid_cell hmid n5_5 (by omega)
  replace n5_6 := mid_cell hmid n5_6 (by omega)
  replace hB2 := mid_B hB2 hmid (by omega) hB2.size
  replace Q0 : Hid (Rws (fun _ => True) k1 a0 rs0) := hid (HP.out.below hB2)
  replace QT : Hid (Txs (fun _ => True) 1099511627776 k1 ta0 ts0) := hid (HQ.out.below hB2)
  replace S0 : Hid (OwnI k1 sa qs) := hid (mid_ownI hmid S0.out (fun c off e => by have := HSM.out c off e; omega))
  replace G0 : Hid (OwnI k1 ga qs) := hid (mid_ownI hmid G0.out (fun c off e => by have := HGM.out c off e; omega))
  clear hmid R3 X3' O3
  have hk0 : ¬ (kv < 0) := by omega
  have hk1 : ¬ ((1 : Int) + (qs.length : Int) < 0) := by omega
  go_wp2_with fail
  refine (eq_ints ga sa gc sc qs _ hqm G0.out S0.out).mono ?_
  rintro e y6 ⟨rfl, hc6⟩
  replace Q0 : Hid (Rws (fun _ => True) y6 a0 rs0) := hid (Q0.out.below (show Below k1.heap.size k1 y6 by (repeat (first | with_reducible exact Below.refl _ _ | with_reducible assumption | (with_reducible refine btrans ?_ (by with_reducible assumption)) | with_reducible refine bdrew ?_ | with_reducible refine balloc ?_ _))))
  replace QT : Hid (Txs (fun _ => True) 1099511627776 y6 ta0 ts0) := hid (QT.out.below (show Below k1.heap.size k1 y6 by (repeat (first | with_reducible exact Below.refl _ _ | with_reducible assumption | (with_reducible refine btrans ?_ (by with_reducible assumption)) | with_reducible refine bdrew ?_ | with_reducible refine balloc ?_ _))))
  replace S0 : Hid (OwnI y6 sa qs) := hid (S0.out.below (show Below k1.heap.size k1 y6 by (repeat (first | with_reducible exact Below.refl _ _ | with_reducible assumption | (with_reducible refine btrans ?_ (by with_reducible assumption)) | with_reducible refine bdrew ?_ | with_reducible refine balloc ?_ _))))
  replace G0 : Hid (OwnI y6 ga qs) := hid (G0.out.below (show Below k1.heap.size k1 y6 by (repeat (first | with_reducible exact Below.refl _ _ | with_reducible assumption | (with_reducible refine btrans ?_ (by with_reducible assumption)) | with_reducible refine bdrew ?_ | with_reducible refine balloc ?_ _))))
  have n6_0 := keepcell hc6 n5_0
  have n6_1 := keepcell hc6 n5_1
  have n6_2 := keepcell hc6 n5_2
  have n6_3 := keepcell hc6 n5_3
  have n6_4 := keepcell hc6 n5_4
  have n6_5 := keepcell hc6 n5_5
  have n6_6 := keepcell hc6 n5_6
  replace hB2 := btrans hB2 hc6
  clear hc6 n5_0 n5_1 n5_2 n5_3 n5_4 n5_5 n5_6
  go_wp2_with fail
  refine (mark_ints _ ga gc qs hqm G0.out).mono ?_
  rintro e k2 ⟨rfl, hmo, hmg⟩
  replace n6_0 := hmg.cell n6_0 (fun e => by have := HGM.out _ _ (OwnI.map_blk G0.out e.symm); dsimp only at this; omega)
  replace n6_1 := hmg.cell n6_1 (fun e => by have := HGM.out _ _ (OwnI.map_blk G0.out e.symm); dsimp only at this; omega)
  replace n6_2 := hmg.cell n6_2 (fun e => by have := HGM.out _ _ (OwnI.map_blk G0.out e.symm); dsimp only at this; omega)
  replace n6_3 := hmg.cell n6_3 (fun e => by have := HGM.out _ _ (OwnI.map_blk G0.out e.symm); dsimp only at this; omega)
  replace n6_4 := hmg.cell n6_4 (fun e => by have := HGM.out _ _ (OwnI.map_blk G0.out e.symm); dsimp only at this; omega)
  replace n6_5 := hmg.cell n6_5 (fun e => by have := HGM.out _ _ (OwnI.map_blk G0.out e.symm); dsimp only at this; omega)
  replace n6_6 := hmg.cell n6_6 (fun e => by have := HGM.out _ _ (OwnI.map_blk G0.out e.symm); dsimp only at this; omega)
  replace hB2 := bgrownr hB2 hmg (fun c e => by have := HGM.out _ _ (OwnI.map_blk G0.out e); omega)
  replace Q0 : Hid (Rws (fun _ => True) k2 a0 rs0) := hid (HP.out.below hB2)
  replace QT : Hid (Txs (fun _ => True) 1099511627776 k2 ta0 ts0) := hid (HQ.out.below hB2)
  replace S0 : Hid (OwnI k2 sa qs) := hid (S0.out.grown hmg (fun c off e e2 => by have h1 := HGM.out _ _ (OwnI.map_blk G0.out e2.symm); have h2 := HSM.out c off e; omega))
  replace G0 : Hid (OwnI k2 ga (mki qs.length)) := hid hmo
  clear hmo hmg
  go_wp2_with fail
  refine (held_ints _ ga gc qs.length hqm G0.out).mono ?_
  rintro e y7 ⟨rfl, hc7⟩
  replace Q0 : Hid (Rws (fun _ => True) y7 a0 rs0) := hid (Q0.out.below (show Below k2.heap.size k2 y7 by (repeat (first | with_reducible exact Below.refl _ _ | with_reducible assumption | (with_reducible refine btrans ?_ (by with_reducible assumption)) | with_reducible refine bdrew ?_ | with_reducible refine balloc ?_ _))))
  replace QT : Hid (Txs (fun _ => True) 1099511627776 y7 ta0 ts0) := hid (QT.out.below (show Below k2.heap.size k2 y7 by (repeat (first | with_reducible exact Below.refl _ _ | with_reducible assumption | (with_reducible refine btrans ?_ (by with_reducible assumption)) | with_reducible refine bdrew ?_ | with_reducible refine balloc ?_ _))))
  replace S0 : Hid (OwnI y7 sa qs) := hid (S0.out.below (show Below k2.heap.size k2 y7 by (repeat (first | with_reducible exact Below.refl _ _ | with_reducible assumption | (with_reducible refine btrans ?_ (by with_reducible assumption)) | with_reducible refine bdrew ?_ | with_reducible refine balloc ?_ _))))
  replace G0 : Hid (OwnI y7 ga (mki qs.length)) := hid (G0.out.below (show Below k2.heap.size k2 y7 by (repeat (first | with_reducible exact Below.refl _ _ | with_reducible assumption | (with_reducible refine btrans ?_ (by with_reducible assumption)) | with_reducible refine bdrew ?_ | with_reducible refine balloc ?_ _))))
  have n7_0 := keepcell hc7 n6_0
  have n7_1 := keepcell hc7 n6_1
  have n7_2 := keepcell hc7 n6_2
  have n7_3 := keepcell hc7 n6_3
  have n7_4 := keepcell hc7 n6_4
  have n7_5 := keepcell hc7 n6_5
  have n7_6 := keepcell hc7 n6_6
  replace hB2 := btrans hB2 hc7
  clear hc7 n6_0 n6_1 n6_2 n6_3 n6_4 n6_5 n6_6
  go_wp2_with fail
  refine (to_store now0 a0 ta0 cap0 tcap0 rs0 ts0 _ hm' hn' Q0.out QT.out).mono ?_
  rintro e y8 ⟨b9, t9, rfl, ho9, hx9, hc8⟩
  replace Q0 : Hid (Rws (fun _ => True) y8 a0 rs0) := hid (Q0.out.below (show Below y7.heap.size y7 y8 by (repeat (first | with_reducible exact Below.refl _ _ | with_reducible assumption | (with_reducible refine btrans ?_ (by with_reducible assumption)) | with_reducible refine bdrew ?_ | with_reducible refine balloc ?_ _))))
  replace QT : Hid (Txs (fun _ => True) 1099511627776 y8 ta0 ts0) := hid (QT.out.below (show Below y7.heap.size y7 y8 by (repeat (first | with_reducible exact Below.refl _ _ | with_reducible assumption | (with_reducible refine btrans ?_ (by with_reducible assumption)) | with_reducible refine bdrew ?_ | with_reducible refine balloc ?_ _))))
  replace S0 : Hid (OwnI y8 sa qs) := hid (S0.out.below (show Below y7.heap.size y7 y8 by (repeat (first | with_reducible exact Below.refl _ _ | with_reducible assumption | (with_reducible refine btrans ?_ (by with_reducible assumption)) | with_reducible refine bdrew ?_ | with_reducible refine balloc ?_ _))))
  replace G0 : Hid (OwnI y8 ga (mki qs.length)) := hid (G0.out.below (show Below y7.heap.size y7 y8 by (repeat (first | with_reducible exact Below.refl _ _ | with_reducible assumption | (with_reducible refine btrans ?_ (by with_reducible assumption)) | with_reducible refine bdrew ?_ | with_reducible refine balloc ?_ _))))
  have n8_0 := keepcell hc8 n7_0
  have n8_1 := keepcell hc8 n7_1
  have n8_2 := keepcell hc8 n7_2
  have n8_3 := keepcell hc8 n7_3
  have n8_4 := keepcell hc8 n7_4
  have n8_5 := keepcell hc8 n7_5
  have n8_6 := keepcell hc8 n7_6
  replace hB2 := btrans hB2 hc8
  clear hc8 n7_0 n7_1 n7_2 n7_3 n7_4 n7_5 n7_6
  have R9 := hid ho9
  have X9 := hid hx9
  clear ho9 hx9
  go_wp2_with fail
  refine (CI.out b9 t9 _ R9.out X9.out n8_0).mono ?_
  rintro e y9 ⟨ha, hcp, rfl, hho, hhb, hc9⟩
  replace Q0 : Hid (Rws (fun _ => True) y9 a0 rs0) := hid (Q0.out.below (show Below y8.heap.size y8 y9 by (repeat (first | with_reducible exact Below.refl _ _ | with_reducible assumption | (with_reducible refine btrans ?_ (by with_reducible assumption)) | with_reducible refine bdrew ?_ | with_reducible refine balloc ?_ _))))
  replace QT : Hid (Txs (fun _ => True) 1099511627776 y9 ta0 ts0) := hid (QT.out.below (show Below y8.heap.size y8 y9 by (repeat (first | with_reducible exact Below.refl _ _ | with_reducible assumption | (with_reducible refine btrans ?_ (by with_reducible assumption)) | with_reducible refine bdrew ?_ | with_reducible refine balloc ?_ _))))
  replace S0 : Hid (OwnI y9 sa qs) := hid (S0.out.below (show Below y8.heap.size y8 y9 by (repeat (first | with_reducible exact Below.refl _ _ | with_reducible assumption | (with_reducible refine btrans ?_ (by with_reducible assumption)) | with_reducible refine bdrew ?_ | with_reducible refine balloc ?_ _))))
  replace G0 : Hid (OwnI y9 ga (mki qs.length)) := hid (G0.out.below (show Below y8.heap.size y8 y9 by (repeat (first | with_reducible exact Below.refl _ _ | with_reducible assumption | (with_reducible refine btrans ?_ (by with_reducible assumption)) | with_reducible refine bdrew ?_ | with_reducible refine balloc ?_ _))))
  have n9_0 := keepcell hc9 n8_0
  have n9_1 := keepcell hc9 n8_1
  have n9_2 := keepcell hc9 n8_2
  have n9_3 := keepcell hc9 n8_3
  have n9_4 := keepcell hc9 n8_4
  have n9_5 := keepcell hc9 n8_5
  have n9_6 := keepcell hc9 n8_6
  replace hB2 := btrans hB2 hc9
  clear hc9 n8_0 n8_1 n8_2 n8_3 n8_4 n8_5 n8_6
  have H0 := hid hho
  clear hho hhb R9 X9
  go_wp2_with fail
  refine (eq_ints ha sa hcp sc qs _ hqm H0.out S0.out).mono ?_
  rintro e y10 ⟨rfl, hc10⟩
  replace Q0 : Hid (Rws (fun _ => True) y10 a0 rs0) := hid (Q0.out.below (show Below y9.heap.size y9 y10 by (repeat (first | with_reducible exact Below.refl _ _ | with_reducible assumption | (with_reducible refine btrans ?_ (by with_reducible assumption)) | with_reducible refine bdrew ?_ | with_reducible refine balloc ?_ _))))
  replace QT : Hid (Txs (fun _ => True) 1099511627776 y10 ta0 ts0) := hid (QT.out.below (show Below y9.heap.size y9 y10 by (repeat (first | with_reducible exact Below.refl _ _ | with_reducible assumption | (with_reducible refine btrans ?_ (by with_reducible assumption)) | with_reducible refine bdrew ?_ | with_reducible refine balloc ?_ _))))
  replace S0 : Hid (OwnI y10 sa qs) := hid (S0.out.below (show Below y9.heap.size y9 y10 by (repeat (first | with_reducible exact Below.refl _ _ | with_reducible assumption | (with_reducible refine btrans ?_ (by with_reducible assumption)) | with_reducible refine bdrew ?_ | with_reducible refine balloc ?_ _))))
  replace G0 : Hid (OwnI y10 ga (mki qs.length)) := hid (G0.out.below (show Below y9.heap.size y9 y10 by (repeat (first | with_reducible exact Below.refl _ _ | with_reducible assumption | (with_reducible refine btrans ?_ (by with_reducible assumption)) | with_reducible refine bdrew ?_ | with_reducible refine balloc ?_ _))))
  replace H0 : Hid (OwnI y10 ha qs) := hid (H0.out.below (show Below y9.heap.size y9 y10 by (repeat (first | with_reducible exact Below.refl _ _ | with_reducible assumption | (with_reducible refine btrans ?_ (by with_reducible assumption)) | with_reducible refine bdrew ?_ | with_reducible refine balloc ?_ _))))
  have n10_0 := keepcell hc10 n9_0
  have n10_1 := keepcell hc10 n9_1
  have n10_2 := keepcell hc10 n9_2
  have n10_3 := keepcell hc10 n9_3
  have n10_4 := keepcell hc10 n9_4
  have n10_5 := keepcell hc10 n9_5
  have n10_6 := keepcell hc10 n9_6
  replace hB2 := btrans hB2 hc10
  clear hc10 n9_0 n9_1 n9_2 n9_3 n9_4 n9_5 n9_6
  go_wp2_with fail
  refine (held_ints _ ga gc qs.length hqm G0.out).mono ?_
  rintro e y11 ⟨rfl, hc11⟩
  replace Q0 : Hid (Rws (fun _ => True) y11 a0 rs0) := hid (Q0.out.below (show Below y10.heap.size y10 y11 by (repeat (first | with_reducible exact Below.refl _ _ | with_reducible assumption | (with_reducible refine btrans ?_ (by with_reducible assumption)) | with_reducible refine bdrew ?_ | with_reducible refine balloc ?_ _))))
  replace QT : Hid (Txs (fun _ => True) 1099511627776 y11 ta0 ts0) := hid (QT.out.below (show Below y10.heap.size y10 y11 by (repeat (first | with_reducible exact Below.refl _ _ | with_reducible assumption | (with_reducible refine btrans ?_ (by with_reducible assumption)) | with_reducible refine bdrew ?_ | with_reducible refine balloc ?_ _))))
  replace S0 : Hid (OwnI y11 sa qs) := hid (S0.out.below (show Below y10.heap.size y10 y11 by (repeat (first | with_reducible exact Below.refl _ _ | with_reducible assumption | (with_reducible refine btrans ?_ (by with_reducible assumption)) | with_reducible refine bdrew ?_ | with_reducible refine balloc ?_ _))))
  replace G0 : Hid (OwnI y11 ga (mki qs.length)) := hid (G0.out.below (show Below y10.heap.size y10 y11 by (repeat (first | with_reducible exact Below.refl _ _ | with_reducible assumption | (with_reducible refine btrans ?_ (by with_reducible assumption)) | with_reducible refine bdrew ?_ | with_reducible refine balloc ?_ _))))
  replace H0 : Hid (OwnI y11 ha qs) := hid (H0.out.below (show Below y10.heap.size y10 y11 by (repeat (first | with_reducible exact Below.refl _ _ | with_reducible assumption | (with_reducible refine btrans ?_ (by with_reducible assumption)) | with_reducible refine bdrew ?_ | with_reducible refine balloc ?_ _))))
  have n11_0 := keepcell hc11 n10_0
  have n11_1 := keepcell hc11 n10_1
  have n11_2 := keepcell hc11 n10_2
  have n11_3 := keepcell hc11 n10_3
  have n11_4 := keepcell hc11 n10_4
  have n11_5 := keepcell hc11 n10_5
  have n11_6 := keepcell hc11 n10_6
  replace hB2 := btrans hB2 hc11
  clear hc11 n10_0 n10_1 n10_2 n10_3 n10_4 n10_5 n10_6
  go_wp2_with fail
  go_ret
  exact ⟨rfl, hB2⟩
end Go.Proofs.YtehifednpbdokaaGreatDoor
