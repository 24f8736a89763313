import Derived.Test.YtkdoigibpaempaaGreatDoorUe
import Derived.Test.YtkdoigibpaempaaGreatDoorJ27
set_option linter.unusedSimpArgs false
set_option linter.unusedVariables false
namespace Go.Proofs.YtkdoigibpaempaaGreatDoor
open Go.RowKit
theorem apl_pts {P : Nat → Prop} (t : Int) : ∀ (cs : List Ch) (rs : List Rw), (∀ r ∈ rs, P r.2.2.2.2.length) → (∀ c ∈ cs, P c.2.2.2.length) → ∀ r ∈ apl t rs cs, P r.2.2.2.2.length
  | [], rs, h1, _ => h1
  | c :: cs, rs, h1, h2 => by
    show ∀ r ∈ apl t (stp t rs c) cs, _
    refine apl_pts t cs _ (fun r hr => ?_) (fun c' hc => h2 c' (List.mem_cons_of_mem _ hc))
    unfold stp at hr
    rw [List.mem_append] at hr
    rcases hr with hr | hr
    · obtain ⟨r', hr', rfl⟩ := List.mem_map.1 hr
      rw [endR_pts]
      exact h1 r' hr'
    · split at hr
      · simp at hr
      · rw [List.mem_singleton] at hr
        subst hr
        exact h2 c (List.mem_cons_self ..)
theorem cmR_S {now n : Int} {rs : List Rw} {ts : List Tx} (hr : rwS rs) (ht : txS ts) : rwS (cmR now rs ts n) := by
  unfold cmR
  split
  case isFalse => exact hr
  case isTrue h =>
    unfold cmY at h
    rw [Bool.and_eq_true] at h
    obtain ⟨ho, hc⟩ := h
    obtain ⟨m, rfl, hmt, _, _⟩ := opn_at ho
    rw [txn_at hmt] at hc ⊢
    have hcs := ht.2 m hmt
    generalize ts[m].2.2 = cs at *
    generalize ts[m].1 = st at *
    unfold cmd at hc
    simp only [Bool.and_eq_true] at hc
    have ha := hc.2.2
    unfold apb at ha
    simp only [Bool.and_eq_true, decide_eq_true_eq] at ha
    have hlen := ha.1.2
    refine ⟨by rw [apl_len]; omega, fun k hk => ?_⟩
    refine apl_pts (P := fun x => x ≤ 1048576) _ cs rs (fun r hr' => ?_) (fun c hc' => ?_) _ (List.getElem_mem hk)
    · obtain ⟨i, hi, rfl⟩ := List.mem_iff_getElem.1 hr'
      exact hr.2 i hi
    · obtain ⟨i, hi, rfl⟩ := List.mem_iff_getElem.1 hc'
      exact hcs.2 i hi
set_option maxRecDepth 100000 in
set_option maxHeartbeats 8000000 in
theorem commit_w (now0 : Int) (a0 : Option Addr) (cap0 : Nat) (rs0 : List Rw) (ta0 : Option Addr) (tcap0 : Nat) (ts0 : List Tx) (a1 : Int) (w : World) (hl0 : rs0.length ≤ 9223372036854775807) (w0 : RwsL w a0 rs0) (htl0 : ts0.length ≤ 9223372036854775807) (wt0 : Txs (fun _ => True) 9223372036854775807 w ta0 ts0) (na n4 n5 : Addr) (hL : w.cell? ⟨0, 0, none⟩ = some (.iface 258 (.pointer (some na)))) (hE : w.cell? ⟨3, 0, none⟩ = some (.iface 148 (.agg #[.pointer (some ⟨4, 87, none⟩)]))) (hLc : w.cell? ⟨1, 0, none⟩ = some (.iface 258 (.pointer (some n4)))) (hLf : w.cell? ⟨2, 0, none⟩ = some (.iface 258 (.pointer (some n5)))) : Calls Tryz.prog 3 #[.agg #[.int .i64 now0, .slice a0 rs0.length cap0, .slice ta0 ts0.length tcap0], .int .i64 a1] w fun e w' => e = .returned (.bool true) ∧ Below w.heap.size w w' := by
  have HR0 := hid w0
  have HT0 := hid wt0
  clear w0 wt0
  go_enter Tryz.func3, Tryz.ntmps3
  go_wp2_with fail
  refine (sz_store now0 a0 ta0 cap0 tcap0 rs0 ts0 _ hl0 htl0 (HR0.out.below (by show Below _ _ _; (with_reducible repeat (first | exact Below.refl _ _ | assumption | (refine btrans ?_ (by assumption)) | refine bdrew ?_ | refine balloc ?_ _)))) (HT0.out.below (by show Below _ _ _; (with_reducible repeat (first | exact Below.refl _ _ | assumption | (refine btrans ?_ (by assumption)) | refine bdrew ?_ | refine balloc ?_ _))))).mono ?_
  rintro e y0 ⟨⟨v, rfl, hv⟩, hb1⟩
  obtain ⟨c0, c1, c2⟩ : y0.cell? ⟨w.heap.size, 0, none⟩ = some (.int .i64 now0) ∧ y0.cell? ⟨w.heap.size, 1, none⟩ = some (.slice a0 rs0.length cap0) ∧ y0.cell? ⟨w.heap.size, 2, none⟩ = some (.slice ta0 ts0.length tcap0) := by (repeat' apply And.intro) <;> (repeat (first | with_reducible assumption | (refine newcell _ _ _ _ _ _ ?_ rfl; simp; done) | refine keepcell (by with_reducible assumption) ?_ | refine keepdrew ?_ | refine keepalloc ?_ _))
  have hB2 : Below w.heap.size w y0 := by (with_reducible repeat (first | exact Below.refl _ _ | assumption | (refine btrans ?_ (by assumption)) | refine bdrew ?_ | refine balloc ?_ _))
  rcases hv with rfl | ⟨hv0, hv1, HV⟩
  · go_wp2_with fail
    go_ret
    exact ⟨rfl, hB2⟩
  have hv2 : ¬ v < 0 := by omega
  have HP := hid (HR0.out.rws HV.out.1.2)
  have HQ := hid (HT0.out.small HV.out.2)
  have hm' : rs0.length ≤ 1099511627776 := by have := HV.out.1.1; omega
  have hn' : ts0.length ≤ 1099511627776 := by have := HV.out.2.1; omega
  clear hb1 HR0 HT0
  have CS := hid (fun (b t : Nat) w' (hs : RwsS w' b rs0) (hw : Rws (fun c => b < c) w' (some ⟨b, 0, none⟩) rs0) (hts : TxsS w' t ts0) (hx : Txs (fun c => t < c) 1099511627776 w' (some ⟨t, 0, none⟩) ts0) => spec_Commit now0 a1 b t rs0 ts0 w' hm' hn' (fun m h => (HV.out.2.2 m h).1) hs hw hts hx)
  have CI := hid (fun (b t : Nat) w' (hb : Below w.heap.size w w') (hs : RwsS w' b rs0) (hw : Rws (fun c => b < c) w' (some ⟨b, 0, none⟩) rs0) (hts : TxsS w' t ts0) (hx : Txs (fun c => t < c) 1099511627776 w' (some ⟨t, 0, none⟩) ts0) => impl_Commit now0 a1 b t rs0 ts0 w' na n4 n5 hm' hn' hs hts (keepcell hb hL) (keepcell hb hE) (keepcell hb hLc) (keepcell hb hLf))
  have HQS : Hid (txS (rbT now0 rs0 ts0 a1)) := hid (rbT_S HV.out.2)
  have HRS : Hid (rwS (cmR now0 rs0 ts0 a1)) := hid (cmR_S HV.out.1 HV.out.2)
  unfold SSN at CS
  unfold SN at CI
  generalize rbT now0 rs0 ts0 a1 = qt at *
  generalize cmN now0 rs0 ts0 a1 = bn at *
  generalize cmR now0 rs0 ts0 a1 = qr at *
  generalize cmW now0 rs0 ts0 a1 = qw at *
  have hqm : qt.length ≤ 1099511627776 := by have := HQS.out.1; omega
  have hqr : qr.length ≤ 1099511627776 := by have := HRS.out.1; omega
  obtain ⟨hkr, hks⟩ := kst_pos HRS.out HQS.out
  have hkn : ¬ (kst qr qt < 0) := by omega
  clear hkr hks
  obtain ⟨ks, hks⟩ : ∃ ks, ks = kst qr qt := ⟨_, rfl⟩
  have MK := hid (fun b1 u1 b2 u2 lo hi a ta cap tcap w' e1 e2 e3 e4 e5 e6 (h : StX b1 u1 b2 u2 w' a ta cap tcap qr qt) => mark_storeX b1 u1 b2 u2 lo hi qw a ta cap tcap qr qt w' HRS.out HQS.out e1 e2 e3 e4 e5 e6 h.1 h.2)
  have HE := hid (fun a ta cap tcap w' (h1 : Rws (fun _ => True) w' a (mkr 1 qr)) (h2 : Txs (fun _ => True) 1099511627776 w' ta (mks (kkr 1 qr qr.length) qt)) => held_storeX qw a ta cap tcap qr qt w' HRS.out HQS.out h1 h2)
  rw [← hks] at MK HE hkn
  clear hks
  have Q0 := hid (HP.out.below hB2)
  have QT := hid (HQ.out.below hB2)
  have hw0 : w.heap.size < y0.heap.size := World.block_lt_of_cell? y0 _ c0
  go_wp2_with fail
  refine (to_storeO now0 a0 ta0 cap0 tcap0 rs0 ts0 _ hm' hn' Q0.out QT.out).mono ?_
  rintro e y1 ⟨b1, t1, hR1, rfl, ho1, hx1, hss, hc1⟩
  have hSB : Below y0.heap.size y0 y1 := by (with_reducible repeat (first | exact Below.refl _ _ | assumption | (refine btrans ?_ (by assumption)) | refine bdrew ?_ | refine balloc ?_ _))
  replace Q0 : Hid (Rws (fun _ => True) y1 a0 rs0) := hid (Q0.out.below hSB)
  replace QT : Hid (Txs (fun _ => True) 1099511627776 y1 ta0 ts0) := hid (QT.out.below hSB)
  clear hSB
  have n1_0 := keepcell hc1 c0
  have n1_1 := keepcell hc1 c1
  have n1_2 := keepcell hc1 c2
  replace hB2 := btrans hB2 hc1
  clear hc1 c0 c1 c2
  have R1 := hid ho1
  have X1' := hid hx1
  obtain ⟨hg1, hl1, hl1', hl1'', ht1, hr1, hx1'⟩ := hss
  have S1 := hid (rwsS_of2 (by omega) R1.out hr1 (by omega))
  have U1 := hid (txsS_of (by omega) X1'.out hx1' (Nat.le_refl _))
  have hw1 : w.heap.size < y1.heap.size := World.block_lt_of_cell? y1 _ n1_0
  clear ho1 hx1 hg1 hl1 hl1' hl1'' ht1 hr1 hx1'
  go_wp2_with fail
  refine (CS.out b1 t1 _ S1.out R1.out U1.out X1'.out).mono ?_
  rintro e y2 ⟨sa, sc, sta, stc, rfl, hso, hst, hc2⟩
  have hSB : Below y1.heap.size y1 y2 := by (with_reducible repeat (first | exact Below.refl _ _ | assumption | (refine btrans ?_ (by assumption)) | refine bdrew ?_ | refine balloc ?_ _))
  replace Q0 : Hid (Rws (fun _ => True) y2 a0 rs0) := hid (Q0.out.below hSB)
  replace QT : Hid (Txs (fun _ => True) 1099511627776 y2 ta0 ts0) := hid (QT.out.below hSB)
  clear hSB
  have n2_0 := keepcell hc2 n1_0
  have n2_1 := keepcell hc2 n1_1
  have n2_2 := keepcell hc2 n1_2
  replace hB2 := btrans hB2 hc2
  clear hc2 n1_0 n1_1 n1_2
  have S00 := hid hso
  have S0 := hid hso
  have ST00 := hid hst
  have ST0 := hid hst
  have HBS : Hid (BS y2 y2) := hid (Below.refl _ _)
  have hw2 : w.heap.size < y2.heap.size := World.block_lt_of_cell? y2 _ n2_0
  clear hso hst R1 X1' S1 U1
  have r2_0 := keepalloc n2_0 (.cells #[.int .i64 qw, .slice sa qr.length sc, .slice sta qt.length stc] 34)
  have r2_1 := keepalloc n2_1 (.cells #[.int .i64 qw, .slice sa qr.length sc, .slice sta qt.length stc] 34)
  have r2_2 := keepalloc n2_2 (.cells #[.int .i64 qw, .slice sa qr.length sc, .slice sta qt.length stc] 34)
  go_wp2_with fail
  refine (to_storeO now0 a0 ta0 cap0 tcap0 rs0 ts0 _ hm' hn' (Q0.out.below (balloc (Below.refl _ _) _)) (QT.out.below (balloc (Below.refl _ _) _))).mono ?_
  rintro e y3 ⟨b3, t3, hR, rfl, ho3, hx3, hss, hc3⟩
  have hSB : Below y2.heap.size y2 y3 := by (with_reducible repeat (first | exact Below.refl _ _ | assumption | (refine btrans ?_ (by assumption)) | refine bdrew ?_ | refine balloc ?_ _))
  replace Q0 : Hid (Rws (fun _ => True) y3 a0 rs0) := hid (Q0.out.below hSB)
  replace QT : Hid (Txs (fun _ => True) 1099511627776 y3 ta0 ts0) := hid (QT.out.below hSB)
  replace S0 : Hid (Rws (fun _ => True) y3 sa qr) := hid (S0.out.below hSB)
  replace ST0 : Hid (Txs (fun _ => True) 1099511627776 y3 sta qt) := hid (ST0.out.below hSB)
  replace HBS : Hid (BS y2 y3) := hid (HBS.out.below hSB)
  clear hSB
  obtain ⟨n3_0, n3_1, n3_2, n3_3, n3_4, n3_5⟩ : y3.cell? ⟨w.heap.size, 0, none⟩ = some (.int .i64 now0) ∧ y3.cell? ⟨w.heap.size, 1, none⟩ = some (.slice a0 rs0.length cap0) ∧ y3.cell? ⟨w.heap.size, 2, none⟩ = some (.slice ta0 ts0.length tcap0) ∧ y3.cell? ⟨y2.heap.size, 0, none⟩ = some (.int .i64 qw) ∧ y3.cell? ⟨y2.heap.size, 1, none⟩ = some (.slice sa qr.length sc) ∧ y3.cell? ⟨y2.heap.size, 2, none⟩ = some (.slice sta qt.length stc) := by (repeat' apply And.intro) <;> (repeat (first | with_reducible assumption | (refine newcell _ _ _ _ _ _ ?_ rfl; simp; done) | refine keepcell (by with_reducible assumption) ?_ | refine keepdrew ?_ | refine keepalloc ?_ _))
  replace hB2 : Below w.heap.size w y3 := by (with_reducible repeat (first | exact Below.refl _ _ | assumption | (refine btrans ?_ (by assumption)) | refine bdrew ?_ | refine balloc ?_ _))
  clear hc3 n2_0 n2_1 n2_2
  have R3 := hid ho3
  have X3' := hid hx3
  obtain ⟨hg3, hl3, hl3', hl3'', ht3, hr3, hx3'⟩ := hss
  have S3 := hid (rwsS_of2 (by omega) R3.out hr3 (by omega))
  have U3 := hid (txsS_of (by omega) X3'.out hx3' (Nat.le_refl _))
  have O3 : Hid (OwnS2 y3.heap.size hR y3 b3 t3 rs0 ts0) := hid ⟨hl3, hl3', hl3'', Nat.le_refl _, ht3, hr3, hx3'⟩
  have hg3' : y2.heap.size < b3 := by simp at hg3; omega
  have hl5 : b3 < y3.heap.size := by omega
  have HSL : Hid (SizeLe y2 b3) := hid (Nat.le_of_lt hg3')
  have HSL2 : Hid (SizeLe y2 (y3.heap.size + 1)) := hid (show y2.heap.size ≤ y3.heap.size + 1 by omega)
  clear ho3 hx3 hg3 ht3 hr3 hx3'
  have r3_0 := keepalloc n3_0 (.cells #[.int .i64 now0, .slice (some ⟨b3, 0, none⟩) rs0.length rs0.length, .slice (some ⟨t3, 0, none⟩) ts0.length ts0.length] 34)
  have r3_1 := keepalloc n3_1 (.cells #[.int .i64 now0, .slice (some ⟨b3, 0, none⟩) rs0.length rs0.length, .slice (some ⟨t3, 0, none⟩) ts0.length ts0.length] 34)
  have r3_2 := keepalloc n3_2 (.cells #[.int .i64 now0, .slice (some ⟨b3, 0, none⟩) rs0.length rs0.length, .slice (some ⟨t3, 0, none⟩) ts0.length ts0.length] 34)
  have r3_3 := keepalloc n3_3 (.cells #[.int .i64 now0, .slice (some ⟨b3, 0, none⟩) rs0.length rs0.length, .slice (some ⟨t3, 0, none⟩) ts0.length ts0.length] 34)
  have r3_4 := keepalloc n3_4 (.cells #[.int .i64 now0, .slice (some ⟨b3, 0, none⟩) rs0.length rs0.length, .slice (some ⟨t3, 0, none⟩) ts0.length ts0.length] 34)
  have r3_5 := keepalloc n3_5 (.cells #[.int .i64 now0, .slice (some ⟨b3, 0, none⟩) rs0.length rs0.length, .slice (some ⟨t3, 0, none⟩) ts0.length ts0.length] 34)
  go_wp2_with fail
  refine (CI.out b3 t3 _ (balloc hB2 _) (S3.out.below (balloc (Below.refl _ _) _)) (R3.out.below (balloc (Below.refl _ _) _)) (U3.out.below (balloc (Below.refl _ _) _)) (X3'.out.below (balloc (Below.refl _ _) _))).mono ?_
  rintro e y4 ⟨ga, gc, gta, gtc, p1, v1, p2, v2, rfl, hgx, hp1, hp2, hp3, hc4⟩
  have hSB : Below y3.heap.size y3 y4 := by (with_reducible repeat (first | exact Below.refl _ _ | assumption | (refine btrans ?_ (by assumption)) | refine bdrew ?_ | refine balloc ?_ _))
  replace Q0 : Hid (Rws (fun _ => True) y4 a0 rs0) := hid (Q0.out.below hSB)
  replace QT : Hid (Txs (fun _ => True) 1099511627776 y4 ta0 ts0) := hid (QT.out.below hSB)
  replace S0 : Hid (Rws (fun _ => True) y4 sa qr) := hid (S0.out.below hSB)
  replace ST0 : Hid (Txs (fun _ => True) 1099511627776 y4 sta qt) := hid (ST0.out.below hSB)
  replace HBS : Hid (BS y2 y4) := hid (HBS.out.below hSB)
  replace R3 : Hid (Rws (fun c => b3 < c) y4 (some ⟨b3, 0, none⟩) rs0) := hid (R3.out.below hSB)
  replace X3' : Hid (Txs (fun c => t3 < c) 1099511627776 y4 (some ⟨t3, 0, none⟩) ts0) := hid (X3'.out.below hSB)
  replace S3 : Hid (RwsS y4 b3 rs0) := hid (S3.out.below hSB)
  replace U3 : Hid (TxsS y4 t3 ts0) := hid (U3.out.below hSB)
  replace O3 : Hid (OwnS2 y3.heap.size hR y4 b3 t3 rs0 ts0) := hid (O3.out.below hSB)
  clear hSB
  obtain ⟨n4_0, n4_1, n4_2, n4_3, n4_4, n4_5, n4_6, n4_7, n4_8⟩ : y4.cell? ⟨w.heap.size, 0, none⟩ = some (.int .i64 now0) ∧ y4.cell? ⟨w.heap.size, 1, none⟩ = some (.slice a0 rs0.length cap0) ∧ y4.cell? ⟨w.heap.size, 2, none⟩ = some (.slice ta0 ts0.length tcap0) ∧ y4.cell? ⟨y2.heap.size, 0, none⟩ = some (.int .i64 qw) ∧ y4.cell? ⟨y2.heap.size, 1, none⟩ = some (.slice sa qr.length sc) ∧ y4.cell? ⟨y2.heap.size, 2, none⟩ = some (.slice sta qt.length stc) ∧ y4.cell? ⟨y3.heap.size, 0, none⟩ = some (.int .i64 now0) ∧ y4.cell? ⟨y3.heap.size, 1, none⟩ = some (.slice (some ⟨b3, 0, none⟩) rs0.length rs0.length) ∧ y4.cell? ⟨y3.heap.size, 2, none⟩ = some (.slice (some ⟨t3, 0, none⟩) ts0.length ts0.length) := by (repeat' apply And.intro) <;> (repeat (first | with_reducible assumption | (refine newcell _ _ _ _ _ _ ?_ rfl; simp; done) | refine keepcell (by with_reducible assumption) ?_ | refine keepdrew ?_ | refine keepalloc ?_ _))
  replace hB2 : Below w.heap.size w y4 := by (with_reducible repeat (first | exact Below.refl _ _ | assumption | (refine btrans ?_ (by assumption)) | refine bdrew ?_ | refine balloc ?_ _))
  clear hc4 n3_0 n3_1 n3_2 n3_3 n3_4 n3_5
  have G0 : Hid (StX p1 v1 p2 v2 y4 ga gta gc gtc qr qt) := hid hgx
  have hw4 : y3.heap.size < y4.heap.size := World.block_lt_of_cell? y4 _ n4_6
  have hp1' : y3.heap.size + 1 ≤ p1 := by simpa using hp1
  have hp2' : y3.heap.size + 1 ≤ p2 := by simpa using hp2
  have hv1' : v1 ≤ y4.heap.size := hgx.1.1
  have hv2' : v2 ≤ y4.heap.size := hgx.2.1
  clear hgx hp1 hp2
  have r4_0 := keepalloc n4_0 (.cells #[.int .i64 qw, .slice ga qr.length gc, .slice gta qt.length gtc] 34)
  have r4_1 := keepalloc n4_1 (.cells #[.int .i64 qw, .slice ga qr.length gc, .slice gta qt.length gtc] 34)
  have r4_2 := keepalloc n4_2 (.cells #[.int .i64 qw, .slice ga qr.length gc, .slice gta qt.length gtc] 34)
  have r4_3 := keepalloc n4_3 (.cells #[.int .i64 qw, .slice ga qr.length gc, .slice gta qt.length gtc] 34)
  have r4_4 := keepalloc n4_4 (.cells #[.int .i64 qw, .slice ga qr.length gc, .slice gta qt.length gtc] 34)
  have r4_5 := keepalloc n4_5 (.cells #[.int .i64 qw, .slice ga qr.length gc, .slice gta qt.length gtc] 34)
  have r4_6 := keepalloc n4_6 (.cells #[.int .i64 qw, .slice ga qr.length gc, .slice gta qt.length gtc] 34)
  have r4_7 := keepalloc n4_7 (.cells #[.int .i64 qw, .slice ga qr.length gc, .slice gta qt.length gtc] 34)
  have r4_8 := keepalloc n4_8 (.cells #[.int .i64 qw, .slice ga qr.length gc, .slice gta qt.length gtc] 34)
  go_wp2_with fail
  refine (eq_store qw ga sa gta sta gc sc gtc stc qr qt _ hqr hqm (G0.out.below (balloc (Below.refl _ _) _)).1.rws (S0.out.below (balloc (Below.refl _ _) _)) ((G0.out.below (balloc (Below.refl _ _) _)).2.txs (txS_L HQS.out)) (ST0.out.below (balloc (Below.refl _ _) _))).mono ?_
  rintro e y5 ⟨rfl, hc5⟩
  have hSB : Below y4.heap.size y4 y5 := by (with_reducible repeat (first | exact Below.refl _ _ | assumption | (refine btrans ?_ (by assumption)) | refine bdrew ?_ | refine balloc ?_ _))
  replace Q0 : Hid (Rws (fun _ => True) y5 a0 rs0) := hid (Q0.out.below hSB)
  replace QT : Hid (Txs (fun _ => True) 1099511627776 y5 ta0 ts0) := hid (QT.out.below hSB)
  replace S0 : Hid (Rws (fun _ => True) y5 sa qr) := hid (S0.out.below hSB)
  replace ST0 : Hid (Txs (fun _ => True) 1099511627776 y5 sta qt) := hid (ST0.out.below hSB)
  replace HBS : Hid (BS y2 y5) := hid (HBS.out.below hSB)
  replace R3 : Hid (Rws (fun c => b3 < c) y5 (some ⟨b3, 0, none⟩) rs0) := hid (R3.out.below hSB)
  replace X3' : Hid (Txs (fun c => t3 < c) 1099511627776 y5 (some ⟨t3, 0, none⟩) ts0) := hid (X3'.out.below hSB)
  replace S3 : Hid (RwsS y5 b3 rs0) := hid (S3.out.below hSB)
  replace U3 : Hid (TxsS y5 t3 ts0) := hid (U3.out.below hSB)
  replace O3 : Hid (OwnS2 y3.heap.size hR y5 b3 t3 rs0 ts0) := hid (O3.out.below hSB)
  replace G0 : Hid (StX p1 v1 p2 v2 y5 ga gta gc gtc qr qt) := hid (G0.out.below hSB)
  clear hSB
  obtain ⟨n5_0, n5_1, n5_2, n5_3, n5_4, n5_5, n5_6, n5_7, n5_8, n5_9, n5_10, n5_11⟩ : y5.cell? ⟨w.heap.size, 0, none⟩ = some (.int .i64 now0) ∧ y5.cell? ⟨w.heap.size, 1, none⟩ = some (.slice a0 rs0.length cap0) ∧ y5.cell? ⟨w.heap.size, 2, none⟩ = some (.slice ta0 ts0.length tcap0) ∧ y5.cell? ⟨y2.heap.size, 0, none⟩ = some (.int .i64 qw) ∧ y5.cell? ⟨y2.heap.size, 1, none⟩ = some (.slice sa qr.length sc) ∧ y5.cell? ⟨y2.heap.size, 2, none⟩ = some (.slice sta qt.length stc) ∧ y5.cell? ⟨y3.heap.size, 0, none⟩ = some (.int .i64 now0) ∧ y5.cell? ⟨y3.heap.size, 1, none⟩ = some (.slice (some ⟨b3, 0, none⟩) rs0.length rs0.length) ∧ y5.cell? ⟨y3.heap.size, 2, none⟩ = some (.slice (some ⟨t3, 0, none⟩) ts0.length ts0.length) ∧ y5.cell? ⟨y4.heap.size, 0, none⟩ = some (.int .i64 qw) ∧ y5.cell? ⟨y4.heap.size, 1, none⟩ = some (.slice ga qr.length gc) ∧ y5.cell? ⟨y4.heap.size, 2, none⟩ = some (.slice gta qt.length gtc) := by (repeat' apply And.intro) <;> (repeat (first | with_reducible assumption | (refine newcell _ _ _ _ _ _ ?_ rfl; simp; done) | refine keepcell (by with_reducible assumption) ?_ | refine keepdrew ?_ | refine keepalloc ?_ _))
  replace hB2 : Below w.heap.size w y5 := by (with_reducible repeat (first | exact Below.refl _ _ | assumption | (refine btrans ?_ (by assumption)) | refine bdrew ?_ | refine balloc ?_ _))
  clear hc5 n4_0 n4_1 n4_2 n4_3 n4_4 n4_5 n4_6 n4_7 n4_8
  go_wp2_with fail
  generalize y2.heap.size = X2 at *
  generalize y3.heap.size = X3 at *
  generalize y4.heap.size = X4 at *
  refine wp_region_held_drew (S := (fun w' => w'.cell? ⟨w.heap.size, 0, none⟩ = some (.int .i64 now0) ∧ w'.cell? ⟨w.heap.size, 1, none⟩ = some (.slice a0 rs0.length cap0) ∧ w'.cell? ⟨w.heap.size, 2, none⟩ = some (.slice ta0 ts0.length tcap0) ∧ w'.cell? ⟨X2, 0, none⟩ = some (.int .i64 qw) ∧ w'.cell? ⟨X2, 1, none⟩ = some (.slice sa qr.length sc) ∧ w'.cell? ⟨X2, 2, none⟩ = some (.slice sta qt.length stc) ∧ w'.cell? ⟨X3, 0, none⟩ = some (.int .i64 now0) ∧ w'.cell? ⟨X3, 1, none⟩ = some (.slice (some ⟨b3, 0, none⟩) rs0.length rs0.length) ∧ w'.cell? ⟨X3, 2, none⟩ = some (.slice (some ⟨t3, 0, none⟩) ts0.length ts0.length) ∧ w'.cell? ⟨X4, 0, none⟩ = some (.int .i64 qw) ∧ w'.cell? ⟨X4, 1, none⟩ = some (.slice ga qr.length gc) ∧ w'.cell? ⟨X4, 2, none⟩ = some (.slice gta qt.length gtc))) (by kernel_rfl) ?_ (fun hHeld => ?_)
  · (repeat' apply And.intro) <;> (with_reducible repeat (first | assumption | refine keepdrew ?_ | refine keepcell (by assumption) ?_ | refine keepalloc ?_ _))
  refine wpAnyH_take (i := 0) (v := ?_) rfl (by kernel_rfl) (by kernel_rfl) (by kernel_rfl) (fun _ _ _ h => h) (Or.inl ⟨by rfl, ?_⟩) hHeld ?_
  rotate_left
  · intro w hSw; (try dsimp only at hSw); go_simp; try (with_reducible rfl)
  try simp only [sq]
  refine wpAnyH_take (i := 1) (v := ?_) rfl (by kernel_rfl) (by kernel_rfl) (by kernel_rfl) (fun _ _ _ h => h) (Or.inl ⟨by rfl, ?_⟩) hHeld ?_
  rotate_left
  · intro w hSw; (try dsimp only at hSw); go_simp; try (with_reducible rfl)
  try simp only [sq]
  refine wpAnyH_ready (rs := [2]) (by kernel_rfl) (by simp) ?_
  refine AllReadyH.cons rfl (fun K hK => ?_) AllReadyH.nil
  try simp only [sq]
  go_simp
  (first
      | (go_at_call 6; refine (to_store now0 a0 ta0 cap0 tcap0 rs0 ts0 _ hm' hn' (Q0.out.below (by (with_reducible repeat (first | exact Below.refl _ _ | assumption | (refine btrans ?_ (by assumption)) | refine bdrew ?_ | refine balloc ?_ _)))) (QT.out.below (by (with_reducible repeat (first | exact Below.refl _ _ | assumption | (refine btrans ?_ (by assumption)) | refine bdrew ?_ | refine balloc ?_ _))))).mono ?_; rintro e m1 ⟨c1', d1', rfl, ho1, hx1, hm1⟩; have T1 := hid ho1; have T2 := hid hx1; clear ho1 hx1; have Z := hid (R3.out.below (show Below y5.heap.size y5 m1 by (with_reducible repeat (first | exact Below.refl _ _ | assumption | (refine btrans ?_ (by assumption)) | refine bdrew ?_ | refine balloc ?_ _)))); have Z2 := hid (X3'.out.below (show Below y5.heap.size y5 m1 by (with_reducible repeat (first | exact Below.refl _ _ | assumption | (refine btrans ?_ (by assumption)) | refine bdrew ?_ | refine balloc ?_ _))))))
  go_wp2_with fail
  refine hK.out _ _ ?_ (fun hHeld => ?_)
  · (repeat' apply And.intro) <;> (with_reducible repeat (first | assumption | refine keepdrew ?_ | refine keepcell (by assumption) ?_ | refine keepalloc ?_ _))
  clear hK K
  try simp only [sq]
  refine wpAnyH_ready (rs := [3]) (by kernel_rfl) (by simp) ?_
  refine AllReadyH.cons rfl (fun K hK => ?_) AllReadyH.nil
  try simp only [sq]
  go_simp
  (first
      | (go_at_call 8; refine (eq_store now0 _ _ _ _ _ _ _ _ rs0 ts0 _ hm' hn' Z.out T1.out Z2.out T2.out).mono ?_; rintro e m2 ⟨rfl, hm2⟩))
  go_wp2_with fail
  refine hK.out _ _ ?_ (fun hHeld => ?_)
  · (repeat' apply And.intro) <;> (with_reducible repeat (first | assumption | refine keepdrew ?_ | refine keepcell (by assumption) ?_ | refine keepalloc ?_ _))
  clear hK K
  try simp only [sq]
  refine wpAnyH_take (i := 4) (v := ?_) rfl (by kernel_rfl) (by kernel_rfl) (by kernel_rfl) (fun _ _ _ h => h) (Or.inl ⟨by rfl, ?_⟩) hHeld ?_
  rotate_left
  · intro w hSw; (try dsimp only at hSw); go_simp; try (with_reducible rfl)
  try simp only [sq]
  refine wpAnyH_done (by kernel_rfl) ?_ _
  have hY : Below y5.heap.size y5 m2 := by (with_reducible repeat (first | exact Below.refl _ _ | assumption | (refine btrans ?_ (by assumption)) | refine bdrew ?_ | refine balloc ?_ _))
  replace n5_0 := keepcell hY n5_0
  replace n5_1 := keepcell hY n5_1
  replace n5_2 := keepcell hY n5_2
  replace n5_3 := keepcell hY n5_3
  replace n5_4 := keepcell hY n5_4
  replace n5_5 := keepcell hY n5_5
  replace n5_6 := keepcell hY n5_6
  replace n5_7 := keepcell hY n5_7
  replace n5_8 := keepcell hY n5_8
  replace n5_9 := keepcell hY n5_9
  replace n5_10 := keepcell hY n5_10
  replace n5_11 := keepcell hY n5_11
  replace hB2 := btrans hB2 hY
  replace Q0 := hid (Q0.out.below hY)
  replace QT := hid (QT.out.below hY)
  replace S0 := hid (S0.out.below hY)
  replace ST0 := hid (ST0.out.below hY)
  replace HBS := hid (HBS.out.below hY)
  replace R3 := hid (R3.out.below hY)
  replace X3' := hid (X3'.out.below hY)
  replace S3 := hid (S3.out.below hY)
  replace U3 := hid (U3.out.below hY)
  replace O3 := hid (O3.out.below hY)
  replace G0 := hid (G0.out.below hY)
  clear hY hm1 hm2 hHeld T1 T2 Z Z2
  go_wp2_with fail
  obtain ⟨s1, s2, s3, s4, s5, s6, s7⟩ := O3.out
  refine (mark_store b3 X3 hR b3 t3 now0 rs0 ts0 _ (Nat.le_refl _) s1 s2 s3 s4 HV.out.1.1 HV.out.1.2 HV.out.2 s5 s6 s7).mono ?_
  rintro e k1 ⟨⟨kv, rfl, hkv⟩, hmid⟩
  clear s5 s6 s7
  replace n5_0 := mid_cell hmid n5_0 (by omega)
  replace n5_1 := mid_cell hmid n5_1 (by omega)
  replace n5_2 := mid_cell hmid n5_2 (by omega)
  replace n5_3 := mid_cell hmid n5_3 (by omega)
  replace n5_4 := mid_cell hmid n5_4 (by omega)
  replace n5_5 := mid_cell hmid n5_5 (by omega)
  replace n5_6 := mid_cell hmid n5_6 (by omega)
  replace n5_7 := mid_cell hmid n5_7 (by omega)
  replace n5_8 := mid_cell hmid n5_8 (by omega)
  replace n5_9 := mid_cell hmid n5_9 (by omega)
  replace n5_10 := mid_cell hmid n5_10 (by omega)
  replace n5_11 := mid_cell hmid n5_11 (by omega)
  replace hB2 := mid_B hB2 hmid (by omega) hB2.size
  replace HBS := hid (bs_mid HBS.out hmid HSL.out)
  replace Q0 : Hid (Rws (fun _ => True) k1 a0 rs0) := hid (HP.out.below hB2)
  replace QT : Hid (Txs (fun _ => True) 1099511627776 k1 ta0 ts0) := hid (HQ.out.below hB2)
  replace S0 : Hid (Rws (fun _ => True) k1 sa qr) := hid (S00.out.below HBS.out)
  replace ST0 : Hid (Txs (fun _ => True) 1099511627776 k1 sta qt) := hid (ST00.out.below HBS.out)
  have hk1s := hmid.2.2.2.1
  replace G0 : Hid (StX p1 v1 p2 v2 k1 ga gta gc gtc qr qt) := hid (G0.out.mid hmid (by omega) (by omega))
  clear hmid R3 X3' O3 S3 U3
  have hk0 : ¬ (kv < 0) := by omega
  go_wp2_with fail
  refine (eq_store qw ga sa gta sta gc sc gtc stc qr qt _ hqr hqm (G0.out).1.rws (S0.out) ((G0.out).2.txs (txS_L HQS.out)) (ST0.out)).mono ?_
  rintro e y6 ⟨rfl, hc6⟩
  have hSB : Below k1.heap.size k1 y6 := by (with_reducible repeat (first | exact Below.refl _ _ | assumption | (refine btrans ?_ (by assumption)) | refine bdrew ?_ | refine balloc ?_ _))
  replace Q0 : Hid (Rws (fun _ => True) y6 a0 rs0) := hid (Q0.out.below hSB)
  replace QT : Hid (Txs (fun _ => True) 1099511627776 y6 ta0 ts0) := hid (QT.out.below hSB)
  replace S0 : Hid (Rws (fun _ => True) y6 sa qr) := hid (S0.out.below hSB)
  replace ST0 : Hid (Txs (fun _ => True) 1099511627776 y6 sta qt) := hid (ST0.out.below hSB)
  replace HBS : Hid (BS y2 y6) := hid (HBS.out.below hSB)
  replace G0 : Hid (StX p1 v1 p2 v2 y6 ga gta gc gtc qr qt) := hid (G0.out.below hSB)
  clear hSB
  have n6_0 := keepcell hc6 n5_0
  have n6_1 := keepcell hc6 n5_1
  have n6_2 := keepcell hc6 n5_2
  have n6_3 := keepcell hc6 n5_3
  have n6_4 := keepcell hc6 n5_4
  have n6_5 := keepcell hc6 n5_5
  have n6_6 := keepcell hc6 n5_6
  have n6_7 := keepcell hc6 n5_7
  have n6_8 := keepcell hc6 n5_8
  have n6_9 := keepcell hc6 n5_9
  have n6_10 := keepcell hc6 n5_10
  have n6_11 := keepcell hc6 n5_11
  replace hB2 := btrans hB2 hc6
  clear hc6 n5_0 n5_1 n5_2 n5_3 n5_4 n5_5 n5_6 n5_7 n5_8 n5_9 n5_10 n5_11
  go_wp2_with fail
  have hX4 : X4 ≤ y6.heap.size := Nat.le_of_lt (World.block_lt_of_cell? y6 _ n6_9)
  refine (MK.out p1 v1 p2 v2 (X3 + 1) X4 ga gta gc gtc _ (by omega) (by omega) (by omega) (by omega) hp3 hX4 G0.out).mono ?_
  rintro e k2 ⟨rfl, hmo, hmt, hmid⟩
  replace n6_0 := mid_cell hmid n6_0 (by omega)
  replace n6_1 := mid_cell hmid n6_1 (by omega)
  replace n6_2 := mid_cell hmid n6_2 (by omega)
  replace n6_3 := mid_cell hmid n6_3 (by omega)
  replace n6_4 := mid_cell hmid n6_4 (by omega)
  replace n6_5 := mid_cell hmid n6_5 (by omega)
  replace n6_6 := mid_cell hmid n6_6 (by omega)
  replace n6_7 := mid_cell hmid n6_7 (by omega)
  replace n6_8 := mid_cell hmid n6_8 (by omega)
  replace n6_9 := mid_cell hmid n6_9 (by omega)
  replace n6_10 := mid_cell hmid n6_10 (by omega)
  replace n6_11 := mid_cell hmid n6_11 (by omega)
  replace hB2 := mid_B hB2 hmid (by omega) hB2.size
  replace HBS := hid (bs_mid HBS.out hmid HSL2.out)
  replace Q0 : Hid (Rws (fun _ => True) k2 a0 rs0) := hid (HP.out.below hB2)
  replace QT : Hid (Txs (fun _ => True) 1099511627776 k2 ta0 ts0) := hid (HQ.out.below hB2)
  replace S0 : Hid (Rws (fun _ => True) k2 sa qr) := hid (S00.out.below HBS.out)
  replace ST0 : Hid (Txs (fun _ => True) 1099511627776 k2 sta qt) := hid (ST00.out.below HBS.out)
  clear G0
  have G0 : Hid (Rws (fun _ => True) k2 ga (mkr 1 qr)) := hid hmo.rws
  have GT : Hid (Txs (fun _ => True) 1099511627776 k2 gta (mks (kkr 1 qr qr.length) qt)) := hid (Txs.any (LC.txs hmt (mks_L HQS.out)))
  clear hmo hmt hmid MK
  go_wp2_with fail
  refine (HE.out ga gta gc gtc _ G0.out GT.out).mono ?_
  rintro e y7 ⟨rfl, hc7⟩
  have hSB : Below k2.heap.size k2 y7 := by (with_reducible repeat (first | exact Below.refl _ _ | assumption | (refine btrans ?_ (by assumption)) | refine bdrew ?_ | refine balloc ?_ _))
  replace Q0 : Hid (Rws (fun _ => True) y7 a0 rs0) := hid (Q0.out.below hSB)
  replace QT : Hid (Txs (fun _ => True) 1099511627776 y7 ta0 ts0) := hid (QT.out.below hSB)
  replace S0 : Hid (Rws (fun _ => True) y7 sa qr) := hid (S0.out.below hSB)
  replace ST0 : Hid (Txs (fun _ => True) 1099511627776 y7 sta qt) := hid (ST0.out.below hSB)
  replace G0 : Hid (Rws (fun _ => True) y7 ga (mkr 1 qr)) := hid (G0.out.below hSB)
  replace GT : Hid (Txs (fun _ => True) 1099511627776 y7 gta (mks (kkr 1 qr qr.length) qt)) := hid (GT.out.below hSB)
  clear hSB
  have n7_0 := keepcell hc7 n6_0
  have n7_1 := keepcell hc7 n6_1
  have n7_2 := keepcell hc7 n6_2
  have n7_3 := keepcell hc7 n6_3
  have n7_4 := keepcell hc7 n6_4
  have n7_5 := keepcell hc7 n6_5
  have n7_6 := keepcell hc7 n6_6
  have n7_7 := keepcell hc7 n6_7
  have n7_8 := keepcell hc7 n6_8
  have n7_9 := keepcell hc7 n6_9
  have n7_10 := keepcell hc7 n6_10
  have n7_11 := keepcell hc7 n6_11
  replace hB2 := btrans hB2 hc7
  clear hc7 n6_0 n6_1 n6_2 n6_3 n6_4 n6_5 n6_6 n6_7 n6_8 n6_9 n6_10 n6_11
  go_wp2_with fail
  refine (to_storeO now0 a0 ta0 cap0 tcap0 rs0 ts0 _ hm' hn' Q0.out QT.out).mono ?_
  rintro e y8 ⟨b9, t9, hR9, rfl, ho9, hx9, hss, hc8⟩
  have hSB : Below y7.heap.size y7 y8 := by (with_reducible repeat (first | exact Below.refl _ _ | assumption | (refine btrans ?_ (by assumption)) | refine bdrew ?_ | refine balloc ?_ _))
  replace Q0 : Hid (Rws (fun _ => True) y8 a0 rs0) := hid (Q0.out.below hSB)
  replace QT : Hid (Txs (fun _ => True) 1099511627776 y8 ta0 ts0) := hid (QT.out.below hSB)
  replace S0 : Hid (Rws (fun _ => True) y8 sa qr) := hid (S0.out.below hSB)
  replace ST0 : Hid (Txs (fun _ => True) 1099511627776 y8 sta qt) := hid (ST0.out.below hSB)
  replace G0 : Hid (Rws (fun _ => True) y8 ga (mkr 1 qr)) := hid (G0.out.below hSB)
  replace GT : Hid (Txs (fun _ => True) 1099511627776 y8 gta (mks (kkr 1 qr qr.length) qt)) := hid (GT.out.below hSB)
  clear hSB
  have n8_0 := keepcell hc8 n7_0
  have n8_1 := keepcell hc8 n7_1
  have n8_2 := keepcell hc8 n7_2
  have n8_3 := keepcell hc8 n7_3
  have n8_4 := keepcell hc8 n7_4
  have n8_5 := keepcell hc8 n7_5
  have n8_6 := keepcell hc8 n7_6
  have n8_7 := keepcell hc8 n7_7
  have n8_8 := keepcell hc8 n7_8
  have n8_9 := keepcell hc8 n7_9
  have n8_10 := keepcell hc8 n7_10
  have n8_11 := keepcell hc8 n7_11
  replace hB2 := btrans hB2 hc8
  clear hc8 n7_0 n7_1 n7_2 n7_3 n7_4 n7_5 n7_6 n7_7 n7_8 n7_9 n7_10 n7_11
  have R9 := hid ho9
  have X9' := hid hx9
  obtain ⟨hg9, hl9, hl9', hl9'', ht9, hr9, hx9'⟩ := hss
  have S9 := hid (rwsS_of2 (by omega) R9.out hr9 (by omega))
  have U9 := hid (txsS_of (by omega) X9'.out hx9' (Nat.le_refl _))
  clear ho9 hx9 hg9 hl9 hl9' hl9'' ht9 hr9 hx9'
  go_wp2_with fail
  refine (CI.out b9 t9 _ hB2 S9.out R9.out U9.out X9'.out).mono ?_
  rintro e y9 ⟨ha, hcp, hta, htc, r1, r2, r3, r4, rfl, hhx, hhp1, hhp2, hhp3, hc9⟩
  have hSB : Below y8.heap.size y8 y9 := by (with_reducible repeat (first | exact Below.refl _ _ | assumption | (refine btrans ?_ (by assumption)) | refine bdrew ?_ | refine balloc ?_ _))
  replace Q0 : Hid (Rws (fun _ => True) y9 a0 rs0) := hid (Q0.out.below hSB)
  replace QT : Hid (Txs (fun _ => True) 1099511627776 y9 ta0 ts0) := hid (QT.out.below hSB)
  replace S0 : Hid (Rws (fun _ => True) y9 sa qr) := hid (S0.out.below hSB)
  replace ST0 : Hid (Txs (fun _ => True) 1099511627776 y9 sta qt) := hid (ST0.out.below hSB)
  replace G0 : Hid (Rws (fun _ => True) y9 ga (mkr 1 qr)) := hid (G0.out.below hSB)
  replace GT : Hid (Txs (fun _ => True) 1099511627776 y9 gta (mks (kkr 1 qr qr.length) qt)) := hid (GT.out.below hSB)
  clear hSB
  have n9_0 := keepcell hc9 n8_0
  have n9_1 := keepcell hc9 n8_1
  have n9_2 := keepcell hc9 n8_2
  have n9_3 := keepcell hc9 n8_3
  have n9_4 := keepcell hc9 n8_4
  have n9_5 := keepcell hc9 n8_5
  have n9_6 := keepcell hc9 n8_6
  have n9_7 := keepcell hc9 n8_7
  have n9_8 := keepcell hc9 n8_8
  have n9_9 := keepcell hc9 n8_9
  have n9_10 := keepcell hc9 n8_10
  have n9_11 := keepcell hc9 n8_11
  replace hB2 := btrans hB2 hc9
  clear hc9 n8_0 n8_1 n8_2 n8_3 n8_4 n8_5 n8_6 n8_7 n8_8 n8_9 n8_10 n8_11
  have H0 : Hid (StX r1 r2 r3 r4 y9 ha hta hcp htc qr qt) := hid hhx
  clear hhx hhp1 hhp2 hhp3 R9 X9' S9 U9
  have r9_0 := keepalloc n9_0 (.cells #[.int .i64 qw, .slice ha qr.length hcp, .slice hta qt.length htc] 34)
  have r9_1 := keepalloc n9_1 (.cells #[.int .i64 qw, .slice ha qr.length hcp, .slice hta qt.length htc] 34)
  have r9_2 := keepalloc n9_2 (.cells #[.int .i64 qw, .slice ha qr.length hcp, .slice hta qt.length htc] 34)
  have r9_3 := keepalloc n9_3 (.cells #[.int .i64 qw, .slice ha qr.length hcp, .slice hta qt.length htc] 34)
  have r9_4 := keepalloc n9_4 (.cells #[.int .i64 qw, .slice ha qr.length hcp, .slice hta qt.length htc] 34)
  have r9_5 := keepalloc n9_5 (.cells #[.int .i64 qw, .slice ha qr.length hcp, .slice hta qt.length htc] 34)
  have r9_6 := keepalloc n9_6 (.cells #[.int .i64 qw, .slice ha qr.length hcp, .slice hta qt.length htc] 34)
  have r9_7 := keepalloc n9_7 (.cells #[.int .i64 qw, .slice ha qr.length hcp, .slice hta qt.length htc] 34)
  have r9_8 := keepalloc n9_8 (.cells #[.int .i64 qw, .slice ha qr.length hcp, .slice hta qt.length htc] 34)
  have r9_9 := keepalloc n9_9 (.cells #[.int .i64 qw, .slice ha qr.length hcp, .slice hta qt.length htc] 34)
  have r9_10 := keepalloc n9_10 (.cells #[.int .i64 qw, .slice ha qr.length hcp, .slice hta qt.length htc] 34)
  have r9_11 := keepalloc n9_11 (.cells #[.int .i64 qw, .slice ha qr.length hcp, .slice hta qt.length htc] 34)
  go_wp2_with fail
  refine (eq_store qw ha sa hta sta hcp sc htc stc qr qt _ hqr hqm (H0.out.below (balloc (Below.refl _ _) _)).1.rws (S0.out.below (balloc (Below.refl _ _) _)) ((H0.out.below (balloc (Below.refl _ _) _)).2.txs (txS_L HQS.out)) (ST0.out.below (balloc (Below.refl _ _) _))).mono ?_
  rintro e y10 ⟨rfl, hc10⟩
  have hSB : Below y9.heap.size y9 y10 := by (with_reducible repeat (first | exact Below.refl _ _ | assumption | (refine btrans ?_ (by assumption)) | refine bdrew ?_ | refine balloc ?_ _))
  replace Q0 : Hid (Rws (fun _ => True) y10 a0 rs0) := hid (Q0.out.below hSB)
  replace QT : Hid (Txs (fun _ => True) 1099511627776 y10 ta0 ts0) := hid (QT.out.below hSB)
  replace S0 : Hid (Rws (fun _ => True) y10 sa qr) := hid (S0.out.below hSB)
  replace ST0 : Hid (Txs (fun _ => True) 1099511627776 y10 sta qt) := hid (ST0.out.below hSB)
  replace G0 : Hid (Rws (fun _ => True) y10 ga (mkr 1 qr)) := hid (G0.out.below hSB)
  replace GT : Hid (Txs (fun _ => True) 1099511627776 y10 gta (mks (kkr 1 qr qr.length) qt)) := hid (GT.out.below hSB)
  replace H0 : Hid (StX r1 r2 r3 r4 y10 ha hta hcp htc qr qt) := hid (H0.out.below hSB)
  clear hSB
  obtain ⟨n10_0, n10_1, n10_2, n10_3, n10_4, n10_5, n10_6, n10_7, n10_8, n10_9, n10_10, n10_11⟩ : y10.cell? ⟨w.heap.size, 0, none⟩ = some (.int .i64 now0) ∧ y10.cell? ⟨w.heap.size, 1, none⟩ = some (.slice a0 rs0.length cap0) ∧ y10.cell? ⟨w.heap.size, 2, none⟩ = some (.slice ta0 ts0.length tcap0) ∧ y10.cell? ⟨X2, 0, none⟩ = some (.int .i64 qw) ∧ y10.cell? ⟨X2, 1, none⟩ = some (.slice sa qr.length sc) ∧ y10.cell? ⟨X2, 2, none⟩ = some (.slice sta qt.length stc) ∧ y10.cell? ⟨X3, 0, none⟩ = some (.int .i64 now0) ∧ y10.cell? ⟨X3, 1, none⟩ = some (.slice (some ⟨b3, 0, none⟩) rs0.length rs0.length) ∧ y10.cell? ⟨X3, 2, none⟩ = some (.slice (some ⟨t3, 0, none⟩) ts0.length ts0.length) ∧ y10.cell? ⟨X4, 0, none⟩ = some (.int .i64 qw) ∧ y10.cell? ⟨X4, 1, none⟩ = some (.slice ga qr.length gc) ∧ y10.cell? ⟨X4, 2, none⟩ = some (.slice gta qt.length gtc) := by (repeat' apply And.intro) <;> (repeat (first | with_reducible assumption | (refine newcell _ _ _ _ _ _ ?_ rfl; simp; done) | refine keepcell (by with_reducible assumption) ?_ | refine keepdrew ?_ | refine keepalloc ?_ _))
  replace hB2 : Below w.heap.size w y10 := by (with_reducible repeat (first | exact Below.refl _ _ | assumption | (refine btrans ?_ (by assumption)) | refine bdrew ?_ | refine balloc ?_ _))
  clear hc10 n9_0 n9_1 n9_2 n9_3 n9_4 n9_5 n9_6 n9_7 n9_8 n9_9 n9_10 n9_11
  go_wp2_with fail
  refine (HE.out ga gta gc gtc _ G0.out GT.out).mono ?_
  rintro e y11 ⟨rfl, hc11⟩
  have hSB : Below y10.heap.size y10 y11 := by (with_reducible repeat (first | exact Below.refl _ _ | assumption | (refine btrans ?_ (by assumption)) | refine bdrew ?_ | refine balloc ?_ _))
  replace Q0 : Hid (Rws (fun _ => True) y11 a0 rs0) := hid (Q0.out.below hSB)
  replace QT : Hid (Txs (fun _ => True) 1099511627776 y11 ta0 ts0) := hid (QT.out.below hSB)
  replace S0 : Hid (Rws (fun _ => True) y11 sa qr) := hid (S0.out.below hSB)
  replace ST0 : Hid (Txs (fun _ => True) 1099511627776 y11 sta qt) := hid (ST0.out.below hSB)
  replace G0 : Hid (Rws (fun _ => True) y11 ga (mkr 1 qr)) := hid (G0.out.below hSB)
  replace GT : Hid (Txs (fun _ => True) 1099511627776 y11 gta (mks (kkr 1 qr qr.length) qt)) := hid (GT.out.below hSB)
  replace H0 : Hid (StX r1 r2 r3 r4 y11 ha hta hcp htc qr qt) := hid (H0.out.below hSB)
  clear hSB
  have n11_0 := keepcell hc11 n10_0
  have n11_1 := keepcell hc11 n10_1
  have n11_2 := keepcell hc11 n10_2
  have n11_3 := keepcell hc11 n10_3
  have n11_4 := keepcell hc11 n10_4
  have n11_5 := keepcell hc11 n10_5
  have n11_6 := keepcell hc11 n10_6
  have n11_7 := keepcell hc11 n10_7
  have n11_8 := keepcell hc11 n10_8
  have n11_9 := keepcell hc11 n10_9
  have n11_10 := keepcell hc11 n10_10
  have n11_11 := keepcell hc11 n10_11
  replace hB2 := btrans hB2 hc11
  clear hc11 n10_0 n10_1 n10_2 n10_3 n10_4 n10_5 n10_6 n10_7 n10_8 n10_9 n10_10 n10_11
  go_wp2_with fail
  go_ret
  exact ⟨rfl, hB2⟩
end Go.Proofs.YtkdoigibpaempaaGreatDoor
