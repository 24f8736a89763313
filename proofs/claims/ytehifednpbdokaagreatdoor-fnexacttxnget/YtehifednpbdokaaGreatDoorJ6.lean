/- Texts of stores, joined: So. -/
import Derived.Test.YtehifednpbdokaaGreatDoorJ3
namespace Go.Proofs.YtehifednpbdokaaGreatDoor
open Go.RowKit
set_option linter.unusedSimpArgs false
set_option linter.unusedVariables false
set_option maxRecDepth 100000 in
set_option maxHeartbeats 4000000 in
theorem txnget_w (now0 : Int) (a0 : Option Addr) (cap0 : Nat) (rs0 : List Rw) (ta0 : Option Addr) (tcap0 : Nat) (ts0 : List Tx) (a1 a2 : Int) (w : World) (wnow0 : True) (hl0 : rs0.length ≤ 9223372036854775807) (w0 : RwsL w a0 rs0) (htl0 : ts0.length ≤ 9223372036854775807) (wt0 : Txs (fun _ => True) 9223372036854775807 w ta0 ts0) (w1 w2 : True) (et : TypeId) (ev : Value) (hL : w.cell? ⟨0, 0, none⟩ = some (.iface et ev)) : Calls Tryz.prog 3 #[.agg #[.int .i64 now0, .slice a0 rs0.length cap0, .slice ta0 ts0.length tcap0], .int .i64 a1, .int .i64 a2] w fun e w' => e = .returned (.bool true) ∧ Below w.heap.size w w' := by
  clear wnow0 w1 w2
  have HR0 := hid w0
  have HT0 := hid wt0
  clear w0 wt0
  have hg0 : 0 < w.heap.size := by have := World.block_lt_of_cell? w _ hL; simp only at this; omega
  go_enter Tryz.func3, Tryz.ntmps3
  go_wp2_with fail
  refine (sz_store now0 a0 ta0 cap0 tcap0 rs0 ts0 _ hl0 htl0 (HR0.out.below (by show Below _ _ _; (repeat (first | with_reducible exact Below.refl _ _ | with_reducible assumption | (with_reducible refine btrans ?_ (by with_reducible assumption)) | with_reducible refine bdrew ?_ | with_reducible refine balloc ?_ _)))) (HT0.out.below (by show Below _ _ _; (repeat (first | with_reducible exact Below.refl _ _ | with_reducible assumption | (with_reducible refine btrans ?_ (by with_reducible assumption)) | with_reducible refine bdrew ?_ | with_reducible refine balloc ?_ _))))).mono ?_
  rintro e y0 ⟨⟨v, rfl, hv⟩, hb1⟩
  have c0 : y0.cell? ⟨0, 0, none⟩ = some (.iface et ev) := by (repeat (first | with_reducible assumption | (refine newcell _ _ _ _ _ _ ?_ rfl; simp; done) | refine keepcell (by with_reducible assumption) ?_ | refine keepdrew ?_ | refine keepalloc ?_ _))
  have c1 : y0.cell? ⟨w.heap.size, 0, none⟩ = some (.int .i64 now0) := by (repeat (first | with_reducible assumption | (refine newcell _ _ _ _ _ _ ?_ rfl; simp; done) | refine keepcell (by with_reducible assumption) ?_ | refine keepdrew ?_ | refine keepalloc ?_ _))
  have c2 : y0.cell? ⟨w.heap.size, 1, none⟩ = some (.slice a0 rs0.length cap0) := by (repeat (first | with_reducible assumption | (refine newcell _ _ _ _ _ _ ?_ rfl; simp; done) | refine keepcell (by with_reducible assumption) ?_ | refine keepdrew ?_ | refine keepalloc ?_ _))
  have c3 : y0.cell? ⟨w.heap.size, 2, none⟩ = some (.slice ta0 ts0.length tcap0) := by (repeat (first | with_reducible assumption | (refine newcell _ _ _ _ _ _ ?_ rfl; simp; done) | refine keepcell (by with_reducible assumption) ?_ | refine keepdrew ?_ | refine keepalloc ?_ _))
  have hB2 : Below w.heap.size w y0 := by (repeat (first | with_reducible exact Below.refl _ _ | with_reducible assumption | (with_reducible refine btrans ?_ (by with_reducible assumption)) | with_reducible refine bdrew ?_ | with_reducible refine balloc ?_ _))
  rcases hv with rfl | ⟨hv0, hv1, HV⟩
  · go_wp2_with fail
    go_ret
    exact ⟨rfl, hB2⟩
  have hv2 : ¬ v < 0 := by omega
  have HP := hid (HR0.out.rws HV.out.1.2)
  have HQ := hid (HT0.out.small HV.out.2)
  have hm' : rs0.length ≤ 1099511627776 := by have := HV.out.1.1; omega
  have hn' : ts0.length ≤ 1099511627776 := by have := HV.out.2.1; omega
  clear hb1 HR0 HT0 hL
  have CS := hid (fun (b t : Nat) w' (hw : Rws (fun c => b < c) w' (some ⟨b, 0, none⟩) rs0) (hx : Txs (fun c => t < c) 1099511627776 w' (some ⟨t, 0, none⟩) ts0) => spec_TxnGet now0 (some ⟨b, 0, none⟩) (some ⟨t, 0, none⟩) rs0.length ts0.length rs0 ts0 a1 a2 w' hm' hn' hw hx)
  have CI := hid (fun (b t : Nat) w' (hw : Rws (fun c => b < c) w' (some ⟨b, 0, none⟩) rs0) (hx : Txs (fun c => t < c) 1099511627776 w' (some ⟨t, 0, none⟩) ts0) (hg : w'.cell? ⟨0, 0, none⟩ = some (.iface et ev)) => impl_TxnGet now0 (some ⟨b, 0, none⟩) (some ⟨t, 0, none⟩) rs0.length ts0.length rs0 ts0 a1 a2 w' hm' hn' hw hx et ev hg)
  have hql : (gtP now0 rs0 ts0 a1 a2).length ≤ 1048576 := gtp_len HV.out.1.2 HV.out.2
  unfold RA at CS CI
  generalize gtP now0 rs0 ts0 a1 a2 = qs at *
  generalize gtK now0 rs0 ts0 a1 a2 = kq at *
  generalize gtB now0 rs0 ts0 a1 a2 = ok at *
  have hqm : qs.length ≤ 1099511627776 := by omega
  have Q0 := hid (HP.out.below hB2)
  have QT := hid (HQ.out.below hB2)
  have hw0 : w.heap.size < y0.heap.size := World.block_lt_of_cell? y0 _ c1
  go_wp2_with fail
  refine (to_store now0 a0 ta0 cap0 tcap0 rs0 ts0 _ hm' hn' Q0.out QT.out).mono ?_
  rintro e y1 ⟨b1, t1, rfl, ho1, hx1, hc1⟩
  replace Q0 : Hid (Rws (fun _ => True) y1 a0 rs0) := hid (Q0.out.below (show Below y0.heap.size y0 y1 by (repeat (first | with_reducible exact Below.refl _ _ | with_reducible assumption | (with_reducible refine btrans ?_ (by with_reducible assumption)) | with_reducible refine bdrew ?_ | with_reducible refine balloc ?_ _))))
  replace QT : Hid (Txs (fun _ => True) 1099511627776 y1 ta0 ts0) := hid (QT.out.below (show Below y0.heap.size y0 y1 by (repeat (first | with_reducible exact Below.refl _ _ | with_reducible assumption | (with_reducible refine btrans ?_ (by with_reducible assumption)) | with_reducible refine bdrew ?_ | with_reducible refine balloc ?_ _))))
  have n1_0 := keepcell hc1 c0
  have n1_1 := keepcell hc1 c1
  have n1_2 := keepcell hc1 c2
  have n1_3 := keepcell hc1 c3
  replace hB2 := btrans hB2 hc1
  clear hc1 c0 c1 c2 c3
  have R1 := hid ho1
  have X1 := hid hx1
  clear ho1 hx1
  have hw1 : w.heap.size < y1.heap.size := World.block_lt_of_cell? y1 _ n1_1
  go_wp2_with fail
  refine (CS.out b1 t1 _ R1.out X1.out).mono ?_
  rintro e y2 ⟨sa, sc, rfl, hsc, hso, hsb, hc2⟩
  replace Q0 : Hid (Rws (fun _ => True) y2 a0 rs0) := hid (Q0.out.below (show Below y1.heap.size y1 y2 by (repeat (first | with_reducible exact Below.refl _ _ | with_reducible assumption | (with_reducible refine btrans ?_ (by with_reducible assumption)) | with_reducible refine bdrew ?_ | with_reducible refine balloc ?_ _))))
  replace QT : Hid (Txs (fun _ => True) 1099511627776 y2 ta0 ts0) := hid (QT.out.below (show Below y1.heap.size y1 y2 by (repeat (first | with_reducible exact Below.refl _ _ | with_reducible assumption | (with_reducible refine btrans ?_ (by with_reducible assumption)) | with_reducible refine bdrew ?_ | with_reducible refine balloc ?_ _))))
  have n2_0 := keepcell hc2 n1_0
  have n2_1 := keepcell hc2 n1_1
  have n2_2 := keepcell hc2 n1_2
  have n2_3 := keepcell hc2 n1_3
  replace hB2 := btrans hB2 hc2
  clear hc2 n1_0 n1_1 n1_2 n1_3
  have S0 : Hid (OwnP y2 sa qs) := hid hso
  have hw2 : w.heap.size < y2.heap.size := World.block_lt_of_cell? y2 _ n2_1
  clear hso hsb R1 X1
  have hsal := hid (S0.out.lt)
  have r2_0 := keepalloc n2_0 (.cells #[.int .i64 kq, .slice sa qs.length sc] 31)
  have r2_1 := keepalloc n2_1 (.cells #[.int .i64 kq, .slice sa qs.length sc] 31)
  have r2_2 := keepalloc n2_2 (.cells #[.int .i64 kq, .slice sa qs.length sc] 31)
  have r2_3 := keepalloc n2_3 (.cells #[.int .i64 kq, .slice sa qs.length sc] 31)
  go_wp2_with fail
  refine (to_storeO now0 a0 ta0 cap0 tcap0 rs0 ts0 _ hm' hn' (Q0.out.below (balloc (Below.refl _ _) _)) (QT.out.below (balloc (Below.refl _ _) _))).mono ?_
  rintro e y3 ⟨b3, t3, hR, rfl, ho3, hx3, hss, hc3⟩
  replace Q0 : Hid (Rws (fun _ => True) y3 a0 rs0) := hid (Q0.out.below (show Below y2.heap.size y2 y3 by (repeat (first | with_reducible exact Below.refl _ _ | with_reducible assumption | (with_reducible refine btrans ?_ (by with_reducible assumption)) | with_reducible refine bdrew ?_ | with_reducible refine balloc ?_ _))))
  replace QT : Hid (Txs (fun _ => True) 1099511627776 y3 ta0 ts0) := hid (QT.out.below (show Below y2.heap.size y2 y3 by (repeat (first | with_reducible exact Below.refl _ _ | with_reducible assumption | (with_reducible refine btrans ?_ (by with_reducible assumption)) | with_reducible refine bdrew ?_ | with_reducible refine balloc ?_ _))))
  replace S0 : Hid (OwnP y3 sa qs) := hid (S0.out.below (show Below y2.heap.size y2 y3 by (repeat (first | with_reducible exact Below.refl _ _ | with_reducible assumption | (with_reducible refine btrans ?_ (by with_reducible assumption)) | with_reducible refine bdrew ?_ | with_reducible refine balloc ?_ _))))
  have n3_0 : y3.cell? ⟨0, 0, none⟩ = some (.iface et ev) := by (repeat (first | with_reducible assumption | (refine newcell _ _ _ _ _ _ ?_ rfl; simp; done) | refine keepcell (by with_reducible assumption) ?_ | refine keepdrew ?_ | refine keepalloc ?_ _))
  have n3_1 : y3.cell? ⟨w.heap.size, 0, none⟩ = some (.int .i64 now0) := by (repeat (first | with_reducible assumption | (refine newcell _ _ _ _ _ _ ?_ rfl; simp; done) | refine keepcell (by with_reducible assumption) ?_ | refine keepdrew ?_ | refine keepalloc ?_ _))
  have n3_2 : y3.cell? ⟨w.heap.size, 1, none⟩ = some (.slice a0 rs0.length cap0) := by (repeat (first | with_reducible assumption | (refine newcell _ _ _ _ _ _ ?_ rfl; simp; done) | refine keepcell (by with_reducible assumption) ?_ | refine keepdrew ?_ | refine keepalloc ?_ _))
  have n3_3 : y3.cell? ⟨w.heap.size, 2, none⟩ = some (.slice ta0 ts0.length tcap0) := by (repeat (first | with_reducible assumption | (refine newcell _ _ _ _ _ _ ?_ rfl; simp; done) | refine keepcell (by with_reducible assumption) ?_ | refine keepdrew ?_ | refine keepalloc ?_ _))
  have n3_4 : y3.cell? ⟨y2.heap.size, 0, none⟩ = some (.int .i64 kq) := by (repeat (first | with_reducible assumption | (refine newcell _ _ _ _ _ _ ?_ rfl; simp; done) | refine keepcell (by with_reducible assumption) ?_ | refine keepdrew ?_ | refine keepalloc ?_ _))
  have n3_5 : y3.cell? ⟨y2.heap.size, 1, none⟩ = some (.slice sa qs.length sc) := by (repeat (first | with_reducible assumption | (refine newcell _ _ _ _ _ _ ?_ rfl; simp; done) | refine keepcell (by with_reducible assumption) ?_ | refine keepdrew ?_ | refine keepalloc ?_ _))
  replace hB2 : Below w.heap.size w y3 := by (repeat (first | with_reducible exact Below.refl _ _ | with_reducible assumption | (with_reducible refine btrans ?_ (by with_reducible assumption)) | with_reducible refine bdrew ?_ | with_reducible refine balloc ?_ _))
  clear hc3 n2_0 n2_1 n2_2 n2_3
  have R3 := hid ho3
  have X3' := hid hx3
  obtain ⟨hg3, hl3, hl3', hl4, ht3, hr3, hx3'⟩ := hss
  have O3 : Hid (OwnS y3.heap.size hR y3 b3 t3 rs0 ts0) := hid ⟨hl3, hl3', hl4, Nat.le_refl _, ht3, hr3, hx3'⟩
  have hg3' : y2.heap.size < b3 := by simp at hg3; omega
  have hl5 : b3 < y3.heap.size := by omega
  clear ho3 hx3 hg3 ht3 hr3 hx3'
  have r3_0 := keepalloc n3_0 (.cells #[.int .i64 now0, .slice (some ⟨b3, 0, none⟩) rs0.length rs0.length, .slice (some ⟨t3, 0, none⟩) ts0.length ts0.length] 39)
  have r3_1 := keepalloc n3_1 (.cells #[.int .i64 now0, .slice (some ⟨b3, 0, none⟩) rs0.length rs0.length, .slice (some ⟨t3, 0, none⟩) ts0.length ts0.length] 39)
  have r3_2 := keepalloc n3_2 (.cells #[.int .i64 now0, .slice (some ⟨b3, 0, none⟩) rs0.length rs0.length, .slice (some ⟨t3, 0, none⟩) ts0.length ts0.length] 39)
  have r3_3 := keepalloc n3_3 (.cells #[.int .i64 now0, .slice (some ⟨b3, 0, none⟩) rs0.length rs0.length, .slice (some ⟨t3, 0, none⟩) ts0.length ts0.length] 39)
  have r3_4 := keepalloc n3_4 (.cells #[.int .i64 now0, .slice (some ⟨b3, 0, none⟩) rs0.length rs0.length, .slice (some ⟨t3, 0, none⟩) ts0.length ts0.length] 39)
  have r3_5 := keepalloc n3_5 (.cells #[.int .i64 now0, .slice (some ⟨b3, 0, none⟩) rs0.length rs0.length, .slice (some ⟨t3, 0, none⟩) ts0.length ts0.length] 39)
  go_wp2_with fail
  refine (CI.out b3 t3 _ (R3.out.below (balloc (Below.refl _ _) _)) (X3'.out.below (balloc (Below.refl _ _) _)) (keepalloc n3_0 _)).mono ?_
  rintro e y4 ⟨ga, gc, rfl, hgc, hgo, hgb, hc4⟩
  replace Q0 : Hid (Rws (fun _ => True) y4 a0 rs0) := hid (Q0.out.below (show Below y3.heap.size y3 y4 by (repeat (first | with_reducible exact Below.refl _ _ | with_reducible assumption | (with_reducible refine btrans ?_ (by with_reducible assumption)) | with_reducible refine bdrew ?_ | with_reducible refine balloc ?_ _))))
  replace QT : Hid (Txs (fun _ => True) 1099511627776 y4 ta0 ts0) := hid (QT.out.below (show Below y3.heap.size y3 y4 by (repeat (first | with_reducible exact Below.refl _ _ | with_reducible assumption | (with_reducible refine btrans ?_ (by with_reducible assumption)) | with_reducible refine bdrew ?_ | with_reducible refine balloc ?_ _))))
  replace S0 : Hid (OwnP y4 sa qs) := hid (S0.out.below (show Below y3.heap.size y3 y4 by (repeat (first | with_reducible exact Below.refl _ _ | with_reducible assumption | (with_reducible refine btrans ?_ (by with_reducible assumption)) | with_reducible refine bdrew ?_ | with_reducible refine balloc ?_ _))))
  replace R3 : Hid (Rws (fun c => b3 < c) y4 (some ⟨b3, 0, none⟩) rs0) := hid (R3.out.below (show Below y3.heap.size y3 y4 by (repeat (first | with_reducible exact Below.refl _ _ | with_reducible assumption | (with_reducible refine btrans ?_ (by with_reducible assumption)) | with_reducible refine bdrew ?_ | with_reducible refine balloc ?_ _))))
  replace X3' : Hid (Txs (fun c => t3 < c) 1099511627776 y4 (some ⟨t3, 0, none⟩) ts0) := hid (X3'.out.below (show Below y3.heap.size y3 y4 by (repeat (first | with_reducible exact Below.refl _ _ | with_reducible assumption | (with_reducible refine btrans ?_ (by with_reducible assumption)) | with_reducible refine bdrew ?_ | with_reducible refine balloc ?_ _))))
  replace O3 : Hid (OwnS y3.heap.size hR y4 b3 t3 rs0 ts0) := hid (O3.out.below (show Below y3.heap.size y3 y4 by (repeat (first | with_reducible exact Below.refl _ _ | with_reducible assumption | (with_reducible refine btrans ?_ (by with_reducible assumption)) | with_reducible refine bdrew ?_ | with_reducible refine balloc ?_ _))))
  have n4_0 : y4.cell? ⟨0, 0, none⟩ = some (.iface et ev) := by (repeat (first | with_reducible assumption | (refine newcell _ _ _ _ _ _ ?_ rfl; simp; done) | refine keepcell (by with_reducible assumption) ?_ | refine keepdrew ?_ | refine keepalloc ?_ _))
  have n4_1 : y4.cell? ⟨w.heap.size, 0, none⟩ = some (.int .i64 now0) := by (repeat (first | with_reducible assumption | (refine newcell _ _ _ _ _ _ ?_ rfl; simp; done) | refine keepcell (by with_reducible assumption) ?_ | refine keepdrew ?_ | refine keepalloc ?_ _))
  have n4_2 : y4.cell? ⟨w.heap.size, 1, none⟩ = some (.slice a0 rs0.length cap0) := by (repeat (first | with_reducible assumption | (refine newcell _ _ _ _ _ _ ?_ rfl; simp; done) | refine keepcell (by with_reducible assumption) ?_ | refine keepdrew ?_ | refine keepalloc ?_ _))
  have n4_3 : y4.cell? ⟨w.heap.size, 2, none⟩ = some (.slice ta0 ts0.length tcap0) := by (repeat (first | with_reducible assumption | (refine newcell _ _ _ _ _ _ ?_ rfl; simp; done) | refine keepcell (by with_reducible assumption) ?_ | refine keepdrew ?_ | refine keepalloc ?_ _))
  have n4_4 : y4.cell? ⟨y2.heap.size, 0, none⟩ = some (.int .i64 kq) := by (repeat (first | with_reducible assumption | (refine newcell _ _ _ _ _ _ ?_ rfl; simp; done) | refine keepcell (by with_reducible assumption) ?_ | refine keepdrew ?_ | refine keepalloc ?_ _))
  have n4_5 : y4.cell? ⟨y2.heap.size, 1, none⟩ = some (.slice sa qs.length sc) := by (repeat (first | with_reducible assumption | (refine newcell _ _ _ _ _ _ ?_ rfl; simp; done) | refine keepcell (by with_reducible assumption) ?_ | refine keepdrew ?_ | refine keepalloc ?_ _))
  have n4_6 : y4.cell? ⟨y3.heap.size, 0, none⟩ = some (.int .i64 now0) := by (repeat (first | with_reducible assumption | (refine newcell _ _ _ _ _ _ ?_ rfl; simp; done) | refine keepcell (by with_reducible assumption) ?_ | refine keepdrew ?_ | refine keepalloc ?_ _))
  have n4_7 : y4.cell? ⟨y3.heap.size, 1, none⟩ = some (.slice (some ⟨b3, 0, none⟩) rs0.length rs0.length) := by (repeat (first | with_reducible assumption | (refine newcell _ _ _ _ _ _ ?_ rfl; simp; done) | refine keepcell (by with_reducible assumption) ?_ | refine keepdrew ?_ | refine keepalloc ?_ _))
  have n4_8 : y4.cell? ⟨y3.heap.size, 2, none⟩ = some (.slice (some ⟨t3, 0, none⟩) ts0.length ts0.length) := by (repeat (first | with_reducible assumption | (refine newcell _ _ _ _ _ _ ?_ rfl; simp; done) | refine keepcell (by with_reducible assumption) ?_ | refine keepdrew ?_ | refine keepalloc ?_ _))
  replace hB2 : Below w.heap.size w y4 := by (repeat (first | with_reducible exact Below.refl _ _ | with_reducible assumption | (with_reducible refine btrans ?_ (by with_reducible assumption)) | with_reducible refine bdrew ?_ | with_reducible refine balloc ?_ _))
  clear hc4 n3_0 n3_1 n3_2 n3_3 n3_4 n3_5
  have G0 : Hid (OwnP y4 ga qs) := hid hgo
  have hw4 : y3.heap.size < y4.heap.size := World.block_lt_of_cell? y4 _ n4_6
  have hgal := hid (G0.out.lt)
  have hgbl := hid hgb
  clear hgo hgb
  have r4_0 := keepalloc n4_0 (.cells #[.int .i64 kq, .slice ga qs.length gc] 31)
  have r4_1 := keepalloc n4_1 (.cells #[.int .i64 kq, .slice ga qs.length gc] 31)
  have r4_2 := keepalloc n4_2 (.cells #[.int .i64 kq, .slice ga qs.length gc] 31)
  have r4_3 := keepalloc n4_3 (.cells #[.int .i64 kq, .slice ga qs.length gc] 31)
  have r4_4 := keepalloc n4_4 (.cells #[.int .i64 kq, .slice ga qs.length gc] 31)
  have r4_5 := keepalloc n4_5 (.cells #[.int .i64 kq, .slice ga qs.length gc] 31)
  have r4_6 := keepalloc n4_6 (.cells #[.int .i64 kq, .slice ga qs.length gc] 31)
  have r4_7 := keepalloc n4_7 (.cells #[.int .i64 kq, .slice ga qs.length gc] 31)
  have r4_8 := keepalloc n4_8 (.cells #[.int .i64 kq, .slice ga qs.length gc] 31)
  go_wp2_with fail
  refine (eq_shape kq ga sa gc sc qs _ hqm hgc hsc (G0.out.below (balloc (Below.refl _ _) _)).pts (S0.out.below (balloc (Below.refl _ _) _)).pts).mono ?_
  rintro e y5 ⟨rfl, hc5⟩
  replace Q0 : Hid (Rws (fun _ => True) y5 a0 rs0) := hid (Q0.out.below (show Below y4.heap.size y4 y5 by (repeat (first | with_reducible exact Below.refl _ _ | with_reducible assumption | (with_reducible refine btrans ?_ (by with_reducible assumption)) | with_reducible refine bdrew ?_ | with_reducible refine balloc ?_ _))))
  replace QT : Hid (Txs (fun _ => True) 1099511627776 y5 ta0 ts0) := hid (QT.out.below (show Below y4.heap.size y4 y5 by (repeat (first | with_reducible exact Below.refl _ _ | with_reducible assumption | (with_reducible refine btrans ?_ (by with_reducible assumption)) | with_reducible refine bdrew ?_ | with_reducible refine balloc ?_ _))))
  replace S0 : Hid (OwnP y5 sa qs) := hid (S0.out.below (show Below y4.heap.size y4 y5 by (repeat (first | with_reducible exact Below.refl _ _ | with_reducible assumption | (with_reducible refine btrans ?_ (by with_reducible assumption)) | with_reducible refine bdrew ?_ | with_reducible refine balloc ?_ _))))
  replace R3 : Hid (Rws (fun c => b3 < c) y5 (some ⟨b3, 0, none⟩) rs0) := hid (R3.out.below (show Below y4.heap.size y4 y5 by (repeat (first | with_reducible exact Below.refl _ _ | with_reducible assumption | (with_reducible refine btrans ?_ (by with_reducible assumption)) | with_reducible refine bdrew ?_ | with_reducible refine balloc ?_ _))))
  replace X3' : Hid (Txs (fun c => t3 < c) 1099511627776 y5 (some ⟨t3, 0, none⟩) ts0) := hid (X3'.out.below (show Below y4.heap.size y4 y5 by (repeat (first | with_reducible exact Below.refl _ _ | with_reducible assumption | (with_reducible refine btrans ?_ (by with_reducible assumption)) | with_reducible refine bdrew ?_ | with_reducible refine balloc ?_ _))))
  replace O3 : Hid (OwnS y3.heap.size hR y5 b3 t3 rs0 ts0) := hid (O3.out.below (show Below y4.heap.size y4 y5 by (repeat (first | with_reducible exact Below.refl _ _ | with_reducible assumption | (with_reducible refine btrans ?_ (by with_reducible assumption)) | with_reducible refine bdrew ?_ | with_reducible refine balloc ?_ _))))
  replace G0 : Hid (OwnP y5 ga qs) := hid (G0.out.below (show Below y4.heap.size y4 y5 by (repeat (first | with_reducible exact Below.refl _ _ | with_reducible assumption | (with_reducible refine btrans ?_ (by with_reducible assumption)) | with_reducible refine bdrew ?_ | with_reducible refine balloc ?_ _))))
  have n5_0 : y5.cell? ⟨0, 0, none⟩ = some (.iface et ev) := by (repeat (first | with_reducible assumption | (refine newcell _ _ _ _ _ _ ?_ rfl; simp; done) | refine keepcell (by with_reducible assumption) ?_ | refine keepdrew ?_ | refine keepalloc ?_ _))
  have n5_1 : y5.cell? ⟨w.heap.size, 0, none⟩ = some (.int .i64 now0) := by (repeat (first | with_reducible assumption | (refine newcell _ _ _ _ _ _ ?_ rfl; simp; done) | refine keepcell (by with_reducible assumption) ?_ | refine keepdrew ?_ | refine keepalloc ?_ _))
  have n5_2 : y5.cell? ⟨w.heap.size, 1, none⟩ = some (.slice a0 rs0.length cap0) := by (repeat (first | with_reducible assumption | (refine newcell _ _ _ _ _ _ ?_ rfl; simp; done) | refine keepcell (by with_reducible assumption) ?_ | refine keepdrew ?_ | refine keepalloc ?_ _))
  have n5_3 : y5.cell? ⟨w.heap.size, 2, none⟩ = some (.slice ta0 ts0.length tcap0) := by (repeat (first | with_reducible assumption | (refine newcell _ _ _ _ _ _ ?_ rfl; simp; done) | refine keepcell (by with_reducible assumption) ?_ | refine keepdrew ?_ | refine keepalloc ?_ _))
  have n5_4 : y5.cell? ⟨y2.heap.size, 0, none⟩ = some (.int .i64 kq) := by (repeat (first | with_reducible assumption | (refine newcell _ _ _ _ _ _ ?_ rfl; simp; done) | refine keepcell (by with_reducible assumption) ?_ | refine keepdrew ?_ | refine keepalloc ?_ _))
  have n5_5 : y5.cell? ⟨y2.heap.size, 1, none⟩ = some (.slice sa qs.length sc) := by (repeat (first | with_reducible assumption | (refine newcell _ _ _ _ _ _ ?_ rfl; simp; done) | refine keepcell (by with_reducible assumption) ?_ | refine keepdrew ?_ | refine keepalloc ?_ _))
  have n5_6 : y5.cell? ⟨y3.heap.size, 0, none⟩ = some (.int .i64 now0) := by (repeat (first | with_reducible assumption | (refine newcell _ _ _ _ _ _ ?_ rfl; simp; done) | refine keepcell (by with_reducible assumption) ?_ | refine keepdrew ?_ | refine keepalloc ?_ _))
  have n5_7 : y5.cell? ⟨y3.heap.size, 1, none⟩ = some (.slice (some ⟨b3, 0, none⟩) rs0.length rs0.length) := by (repeat (first | with_reducible assumption | (refine newcell _ _ _ _ _ _ ?_ rfl; simp; done) | refine keepcell (by with_reducible assumption) ?_ | refine keepdrew ?_ | refine keepalloc ?_ _))
  have n5_8 : y5.cell? ⟨y3.heap.size, 2, none⟩ = some (.slice (some ⟨t3, 0, none⟩) ts0.length ts0.length) := by (repeat (first | with_reducible assumption | (refine newcell _ _ _ _ _ _ ?_ rfl; simp; done) | refine keepcell (by with_reducible assumption) ?_ | refine keepdrew ?_ | refine keepalloc ?_ _))
  have n5_9 : y5.cell? ⟨y4.heap.size, 0, none⟩ = some (.int .i64 kq) := by (repeat (first | with_reducible assumption | (refine newcell _ _ _ _ _ _ ?_ rfl; simp; done) | refine keepcell (by with_reducible assumption) ?_ | refine keepdrew ?_ | refine keepalloc ?_ _))
  have n5_10 : y5.cell? ⟨y4.heap.size, 1, none⟩ = some (.slice ga qs.length gc) := by (repeat (first | with_reducible assumption | (refine newcell _ _ _ _ _ _ ?_ rfl; simp; done) | refine keepcell (by with_reducible assumption) ?_ | refine keepdrew ?_ | refine keepalloc ?_ _))
  replace hB2 : Below w.heap.size w y5 := by (repeat (first | with_reducible exact Below.refl _ _ | with_reducible assumption | (with_reducible refine btrans ?_ (by with_reducible assumption)) | with_reducible refine bdrew ?_ | with_reducible refine balloc ?_ _))
  clear hc5 n4_0 n4_1 n4_2 n4_3 n4_4 n4_5 n4_6 n4_7 n4_8
  go_wp2_with fail
  have hgm : ∀ c off, ga = some ⟨c, off, none⟩ → y3.heap.size < c ∧ c < y4.heap.size := by
    intro c off e
    have h1 := hgbl.out c off e
    have h2 := hgal.out c off e
    simp at h1; omega
  have hsm : ∀ c off, sa = some ⟨c, off, none⟩ → c < y2.heap.size := hsal.out
  have HGM := hid hgm
  have HSM := hid hsm
  clear hgm hsm hgal hgbl hsal
  generalize y2.heap.size = X2 at *
  generalize y3.heap.size = X3 at *
  generalize y4.heap.size = X4 at *
  refine wp_region_held_drew (S := (fun w' => w'.cell? ⟨0, 0, none⟩ = some (.iface et ev) ∧ w'.cell? ⟨w.heap.size, 0, none⟩ = some (.int .i64 now0) ∧ w'.cell? ⟨w.heap.size, 1, none⟩ = some (.slice a0 rs0.length cap0) ∧ w'.cell? ⟨w.heap.size, 2, none⟩ = some (.slice ta0 ts0.length tcap0) ∧ w'.cell? ⟨X2, 0, none⟩ = some (.int .i64 kq) ∧ w'.cell? ⟨X2, 1, none⟩ = some (.slice sa qs.length sc) ∧ w'.cell? ⟨X3, 0, none⟩ = some (.int .i64 now0) ∧ w'.cell? ⟨X3, 1, none⟩ = some (.slice (some ⟨b3, 0, none⟩) rs0.length rs0.length) ∧ w'.cell? ⟨X3, 2, none⟩ = some (.slice (some ⟨t3, 0, none⟩) ts0.length ts0.length) ∧ w'.cell? ⟨X4, 0, none⟩ = some (.int .i64 kq) ∧ w'.cell? ⟨X4, 1, none⟩ = some (.slice ga qs.length gc))) (by kernel_rfl) ?_ (fun hHeld => ?_)
  · (repeat' apply And.intro) <;> (repeat (first | with_reducible assumption | with_reducible refine keepdrew ?_ | with_reducible refine keepcell (by with_reducible assumption) ?_ | with_reducible refine keepalloc ?_ _))
  refine wpAnyH_take (i := 0) (v := ?_) rfl (by kernel_rfl) (by kernel_rfl) (by kernel_rfl) (fun _ _ _ h => h) (Or.inl ⟨by rfl, ?_⟩) hHeld ?_
  rotate_left
  · intro w hSw; (try dsimp only at hSw); go_simp; try (with_reducible rfl)
  try simp only [sq]
  refine wpAnyH_take (i := 1) (v := ?_) rfl (by kernel_rfl) (by kernel_rfl) (by kernel_rfl) (fun _ _ _ h => h) (Or.inl ⟨by rfl, ?_⟩) hHeld ?_
  rotate_left
  · intro w hSw; (try dsimp only at hSw); go_simp; try (with_reducible rfl)
  try simp only [sq]
  refine wpAnyH_ready (rs := [2]) (by kernel_rfl) (by simp) ?_
  refine AllReadyH.cons rfl (fun K hK => ?_) AllReadyH.nil
  try simp only [sq]
  go_simp
  (first
      | (go_at_call 10; refine (to_store now0 a0 ta0 cap0 tcap0 rs0 ts0 _ hm' hn' (Q0.out.below (by (repeat (first | with_reducible exact Below.refl _ _ | with_reducible assumption | (with_reducible refine btrans ?_ (by with_reducible assumption)) | with_reducible refine bdrew ?_ | with_reducible refine balloc ?_ _)))) (QT.out.below (by (repeat (first | with_reducible exact Below.refl _ _ | with_reducible assumption | (with_reducible refine btrans ?_ (by with_reducible assumption)) | with_reducible refine bdrew ?_ | with_reducible refine balloc ?_ _))))).mono ?_; rintro e m1 ⟨c1', d1', rfl, ho1, hx1, hm1⟩; have T1 := hid ho1; have T2 := hid hx1; clear ho1 hx1; have Z := hid (R3.out.below (show Below y5.heap.size y5 m1 by (repeat (first | with_reducible exact Below.refl _ _ | with_reducible assumption | (with_reducible refine btrans ?_ (by with_reducible assumption)) | with_reducible refine bdrew ?_ | with_reducible refine balloc ?_ _)))); have Z2 := hid (X3'.out.below (show Below y5.heap.size y5 m1 by (repeat (first | with_reducible exact Below.refl _ _ | with_reducible assumption | (with_reducible refine btrans ?_ (by with_reducible assumption)) | with_reducible refine bdrew ?_ | with_reducible refine balloc ?_ _))))))
  go_wp2_with fail
  refine hK.out _ _ ?_ (fun hHeld => ?_)
  · (repeat' apply And.intro) <;> (repeat (first | with_reducible assumption | with_reducible refine keepdrew ?_ | with_reducible refine keepcell (by with_reducible assumption) ?_ | with_reducible refine keepalloc ?_ _))
  clear hK K
  try simp only [sq]
  refine wpAnyH_ready (rs := [3]) (by kernel_rfl) (by simp) ?_
  refine AllReadyH.cons rfl (fun K hK => ?_) AllReadyH.nil
  try simp only [sq]
  go_simp
  (first
      | (go_at_call 13; refine (eq_store now0 _ _ _ _ _ _ _ _ rs0 ts0 _ hm' hn' Z.out T1.out Z2.out T2.out).mono ?_; rintro e m2 ⟨rfl, hm2⟩))
  go_wp2_with fail
  refine hK.out _ _ ?_ (fun hHeld => ?_)
  · (repeat' apply And.intro) <;> (repeat (first | with_reducible assumption | with_reducible refine keepdrew ?_ | with_reducible refine keepcell (by with_reducible assumption) ?_ | with_reducible refine keepalloc ?_ _))
  clear hK K
  try simp only [sq]
  refine wpAnyH_take (i := 4) (v := ?_) rfl (by kernel_rfl) (by kernel_rfl) (by kernel_rfl) (fun _ _ _ h => h) (Or.inl ⟨by rfl, ?_⟩) hHeld ?_
  rotate_left
  · intro w hSw; (try dsimp only at hSw); go_simp; try (with_reducible rfl)
  try simp only [sq]
  refine wpAnyH_done (by kernel_rfl) ?_ _
  have hY : Below y5.heap.size y5 m2 := by (repeat (first | with_reducible exact Below.refl _ _ | with_reducible assumption | (with_reducible refine btrans ?_ (by with_reducible assumption)) | with_reducible refine bdrew ?_ | with_reducible refine balloc ?_ _))
  replace n5_0 := keepcell hY n5_0
  replace n5_1 := keepcell hY n5_1
  replace n5_2 := keepcell hY n5_2
  replace n5_3 := keepcell hY n5_3
  replace n5_4 := keepcell hY n5_4
  replace n5_5 := keepcell hY n5_5
  replace n5_6 := keepcell hY n5_6
  replace n5_7 := keepcell hY n5_7
  replace n5_8 := keepcell hY n5_8
  replace n5_9 := keepcell hY n5_9
  replace n5_10 := keepcell hY n5_10
  replace hB2 := btrans hB2 hY
  replace Q0 := hid (Q0.out.below hY)
  replace QT := hid (QT.out.below hY)
  replace S0 := hid (S0.out.below hY)
  replace R3 := hid (R3.out.below hY)
  replace X3' := hid (X3'.out.below hY)
  replace O3 := hid (O3.out.below hY)
  replace G0 := hid (G0.out.below hY)
  clear hY hm1 hm2 hHeld T1 T2 Z Z2
  go_wp2_with fail
  obtain ⟨s1, s2, s3, s4, s5, s6, s7⟩ := O3.out
  refine (mark_store b3 X3 hR b3 t3 now0 rs0 ts0 _ (Nat.le_refl _) s1 s2 s3 s4 HV.out.1.1 HV.out.1.2 HV.out.2 s5 s6 s7).mono ?_
  rintro e k1 ⟨⟨kv, rfl, hkv⟩, hmid⟩
  clear s5 s6 s7
  replace n5_0 := mid_cell hmid n5_0 (by omega)
  replace n5_1 := mid_cell hmid n5_1 (by omega)
  replace n5_2 := mid_cell hmid n5_2 (by omega)
  replace n5_3 := mid_cell hmid n5_3 (by omega)
  replace n5_4 := mid_cell hmid n5_4 (by omega)
  replace n5_5 := mid_cell hmid n5_5 (by omega)
  replace n5_6 := mid_cell hmid n5_6 (by omega)
  replace n5_7 := mid_cell hmid n5_7 (by omega)
  replace n5_8 := mid_cell hmid n5_8 (by omega)
  replace n5_9 := mid_cell hmid n5_9 (by omega)
  replace n5_10 := mid_cell hmid n5_10 (by omega)
  replace hB2 := mid_B hB2 hmid (by omega) hB2.size
  replace Q0 : Hid (Rws (fun _ => True) k1 a0 rs0) := hid (HP.out.below hB2)
  replace QT : Hid (Txs (fun _ => True) 1099511627776 k1 ta0 ts0) := hid (HQ.out.below hB2)
  replace S0 : Hid (OwnP k1 sa qs) := hid (mid_own hmid S0.out (fun c off e => by have := HSM.out c off e; omega))
  replace G0 : Hid (OwnP k1 ga qs) := hid (mid_own hmid G0.out (fun c off e => by have := HGM.out c off e; omega))
  clear hmid R3 X3' O3
  have hk0 : ¬ (kv < 0) := by omega
  have hk1 : ¬ ((1 : Int) + 2 * (qs.length : Int) < 0) := by omega
  go_wp2_with fail
  refine (eq_shape kq ga sa gc sc qs _ hqm hgc hsc G0.out.pts S0.out.pts).mono ?_
  rintro e y6 ⟨rfl, hc6⟩
  replace Q0 : Hid (Rws (fun _ => True) y6 a0 rs0) := hid (Q0.out.below (show Below k1.heap.size k1 y6 by (repeat (first | with_reducible exact Below.refl _ _ | with_reducible assumption | (with_reducible refine btrans ?_ (by with_reducible assumption)) | with_reducible refine bdrew ?_ | with_reducible refine balloc ?_ _))))
  replace QT : Hid (Txs (fun _ => True) 1099511627776 y6 ta0 ts0) := hid (QT.out.below (show Below k1.heap.size k1 y6 by (repeat (first | with_reducible exact Below.refl _ _ | with_reducible assumption | (with_reducible refine btrans ?_ (by with_reducible assumption)) | with_reducible refine bdrew ?_ | with_reducible refine balloc ?_ _))))
  replace S0 : Hid (OwnP y6 sa qs) := hid (S0.out.below (show Below k1.heap.size k1 y6 by (repeat (first | with_reducible exact Below.refl _ _ | with_reducible assumption | (with_reducible refine btrans ?_ (by with_reducible assumption)) | with_reducible refine bdrew ?_ | with_reducible refine balloc ?_ _))))
  replace G0 : Hid (OwnP y6 ga qs) := hid (G0.out.below (show Below k1.heap.size k1 y6 by (repeat (first | with_reducible exact Below.refl _ _ | with_reducible assumption | (with_reducible refine btrans ?_ (by with_reducible assumption)) | with_reducible refine bdrew ?_ | with_reducible refine balloc ?_ _))))
  have n6_0 := keepcell hc6 n5_0
  have n6_1 := keepcell hc6 n5_1
  have n6_2 := keepcell hc6 n5_2
  have n6_3 := keepcell hc6 n5_3
  have n6_4 := keepcell hc6 n5_4
  have n6_5 := keepcell hc6 n5_5
  have n6_6 := keepcell hc6 n5_6
  have n6_7 := keepcell hc6 n5_7
  have n6_8 := keepcell hc6 n5_8
  have n6_9 := keepcell hc6 n5_9
  have n6_10 := keepcell hc6 n5_10
  replace hB2 := btrans hB2 hc6
  clear hc6 n5_0 n5_1 n5_2 n5_3 n5_4 n5_5 n5_6 n5_7 n5_8 n5_9 n5_10
  go_wp2_with fail
  refine (mark_shape _ kq ga gc qs hqm hgc G0.out).mono ?_
  rintro e k2 ⟨rfl, hmo, hmg⟩
  replace n6_0 := hmg.cell n6_0 (fun e => by have := HGM.out _ _ (map_blk G0.out e.symm); dsimp only at this; omega)
  replace n6_1 := hmg.cell n6_1 (fun e => by have := HGM.out _ _ (map_blk G0.out e.symm); dsimp only at this; omega)
  replace n6_2 := hmg.cell n6_2 (fun e => by have := HGM.out _ _ (map_blk G0.out e.symm); dsimp only at this; omega)
  replace n6_3 := hmg.cell n6_3 (fun e => by have := HGM.out _ _ (map_blk G0.out e.symm); dsimp only at this; omega)
  replace n6_4 := hmg.cell n6_4 (fun e => by have := HGM.out _ _ (map_blk G0.out e.symm); dsimp only at this; omega)
  replace n6_5 := hmg.cell n6_5 (fun e => by have := HGM.out _ _ (map_blk G0.out e.symm); dsimp only at this; omega)
  replace n6_6 := hmg.cell n6_6 (fun e => by have := HGM.out _ _ (map_blk G0.out e.symm); dsimp only at this; omega)
  replace n6_7 := hmg.cell n6_7 (fun e => by have := HGM.out _ _ (map_blk G0.out e.symm); dsimp only at this; omega)
  replace n6_8 := hmg.cell n6_8 (fun e => by have := HGM.out _ _ (map_blk G0.out e.symm); dsimp only at this; omega)
  replace n6_9 := hmg.cell n6_9 (fun e => by have := HGM.out _ _ (map_blk G0.out e.symm); dsimp only at this; omega)
  replace n6_10 := hmg.cell n6_10 (fun e => by have := HGM.out _ _ (map_blk G0.out e.symm); dsimp only at this; omega)
  replace hB2 := bgrownr hB2 hmg (fun c e => by have := HGM.out _ _ (map_blk G0.out e); omega)
  replace Q0 : Hid (Rws (fun _ => True) k2 a0 rs0) := hid (HP.out.below hB2)
  replace QT : Hid (Txs (fun _ => True) 1099511627776 k2 ta0 ts0) := hid (HQ.out.below hB2)
  replace S0 : Hid (OwnP k2 sa qs) := hid (S0.out.grown hmg (fun c off e e2 => by have h1 := HGM.out _ _ (map_blk G0.out e2.symm); have h2 := HSM.out c off e; omega))
  replace G0 : Hid (OwnP k2 ga (tk mk qs.length)) := hid hmo
  clear hmo hmg
  go_wp2_with fail
  refine (held_shape _ kq ga gc qs.length hqm hgc G0.out.pts).mono ?_
  rintro e y7 ⟨rfl, hc7⟩
  replace Q0 : Hid (Rws (fun _ => True) y7 a0 rs0) := hid (Q0.out.below (show Below k2.heap.size k2 y7 by (repeat (first | with_reducible exact Below.refl _ _ | with_reducible assumption | (with_reducible refine btrans ?_ (by with_reducible assumption)) | with_reducible refine bdrew ?_ | with_reducible refine balloc ?_ _))))
  replace QT : Hid (Txs (fun _ => True) 1099511627776 y7 ta0 ts0) := hid (QT.out.below (show Below k2.heap.size k2 y7 by (repeat (first | with_reducible exact Below.refl _ _ | with_reducible assumption | (with_reducible refine btrans ?_ (by with_reducible assumption)) | with_reducible refine bdrew ?_ | with_reducible refine balloc ?_ _))))
  replace S0 : Hid (OwnP y7 sa qs) := hid (S0.out.below (show Below k2.heap.size k2 y7 by (repeat (first | with_reducible exact Below.refl _ _ | with_reducible assumption | (with_reducible refine btrans ?_ (by with_reducible assumption)) | with_reducible refine bdrew ?_ | with_reducible refine balloc ?_ _))))
  replace G0 : Hid (OwnP y7 ga (tk mk qs.length)) := hid (G0.out.below (show Below k2.heap.size k2 y7 by (repeat (first | with_reducible exact Below.refl _ _ | with_reducible assumption | (with_reducible refine btrans ?_ (by with_reducible assumption)) | with_reducible refine bdrew ?_ | with_reducible refine balloc ?_ _))))
  have n7_0 := keepcell hc7 n6_0
  have n7_1 := keepcell hc7 n6_1
  have n7_2 := keepcell hc7 n6_2
  have n7_3 := keepcell hc7 n6_3
  have n7_4 := keepcell hc7 n6_4
  have n7_5 := keepcell hc7 n6_5
  have n7_6 := keepcell hc7 n6_6
  have n7_7 := keepcell hc7 n6_7
  have n7_8 := keepcell hc7 n6_8
  have n7_9 := keepcell hc7 n6_9
  have n7_10 := keepcell hc7 n6_10
  replace hB2 := btrans hB2 hc7
  clear hc7 n6_0 n6_1 n6_2 n6_3 n6_4 n6_5 n6_6 n6_7 n6_8 n6_9 n6_10
  go_wp2_with fail
  refine (to_store now0 a0 ta0 cap0 tcap0 rs0 ts0 _ hm' hn' Q0.out QT.out).mono ?_
  rintro e y8 ⟨b9, t9, rfl, ho9, hx9, hc8⟩
  replace Q0 : Hid (Rws (fun _ => True) y8 a0 rs0) := hid (Q0.out.below (show Below y7.heap.size y7 y8 by (repeat (first | with_reducible exact Below.refl _ _ | with_reducible assumption | (with_reducible refine btrans ?_ (by with_reducible assumption)) | with_reducible refine bdrew ?_ | with_reducible refine balloc ?_ _))))
  replace QT : Hid (Txs (fun _ => True) 1099511627776 y8 ta0 ts0) := hid (QT.out.below (show Below y7.heap.size y7 y8 by (repeat (first | with_reducible exact Below.refl _ _ | with_reducible assumption | (with_reducible refine btrans ?_ (by with_reducible assumption)) | with_reducible refine bdrew ?_ | with_reducible refine balloc ?_ _))))
  replace S0 : Hid (OwnP y8 sa qs) := hid (S0.out.below (show Below y7.heap.size y7 y8 by (repeat (first | with_reducible exact Below.refl _ _ | with_reducible assumption | (with_reducible refine btrans ?_ (by with_reducible assumption)) | with_reducible refine bdrew ?_ | with_reducible refine balloc ?_ _))))
  replace G0 : Hid (OwnP y8 ga (tk mk qs.length)) := hid (G0.out.below (show Below y7.heap.size y7 y8 by (repeat (first | with_reducible exact Below.refl _ _ | with_reducible assumption | (with_reducible refine btrans ?_ (by with_reducible assumption)) | with_reducible refine bdrew ?_ | with_reducible refine balloc ?_ _))))
  have n8_0 := keepcell hc8 n7_0
  have n8_1 := keepcell hc8 n7_1
  have n8_2 := keepcell hc8 n7_2
  have n8_3 := keepcell hc8 n7_3
  have n8_4 := keepcell hc8 n7_4
  have n8_5 := keepcell hc8 n7_5
  have n8_6 := keepcell hc8 n7_6
  have n8_7 := keepcell hc8 n7_7
  have n8_8 := keepcell hc8 n7_8
  have n8_9 := keepcell hc8 n7_9
  have n8_10 := keepcell hc8 n7_10
  replace hB2 := btrans hB2 hc8
  clear hc8 n7_0 n7_1 n7_2 n7_3 n7_4 n7_5 n7_6 n7_7 n7_8 n7_9 n7_10
  have R9 := hid ho9
  have X9 := hid hx9
  clear ho9 hx9
  go_wp2_with fail
  refine (CI.out b9 t9 _ R9.out X9.out n8_0).mono ?_
  rintro e y9 ⟨ha, hcp, rfl, hhc, hho, hhb, hc9⟩
  replace Q0 : Hid (Rws (fun _ => True) y9 a0 rs0) := hid (Q0.out.below (show Below y8.heap.size y8 y9 by (repeat (first | with_reducible exact Below.refl _ _ | with_reducible assumption | (with_reducible refine btrans ?_ (by with_reducible assumption)) | with_reducible refine bdrew ?_ | with_reducible refine balloc ?_ _))))
  replace QT : Hid (Txs (fun _ => True) 1099511627776 y9 ta0 ts0) := hid (QT.out.below (show Below y8.heap.size y8 y9 by (repeat (first | with_reducible exact Below.refl _ _ | with_reducible assumption | (with_reducible refine btrans ?_ (by with_reducible assumption)) | with_reducible refine bdrew ?_ | with_reducible refine balloc ?_ _))))
  replace S0 : Hid (OwnP y9 sa qs) := hid (S0.out.below (show Below y8.heap.size y8 y9 by (repeat (first | with_reducible exact Below.refl _ _ | with_reducible assumption | (with_reducible refine btrans ?_ (by with_reducible assumption)) | with_reducible refine bdrew ?_ | with_reducible refine balloc ?_ _))))
  replace G0 : Hid (OwnP y9 ga (tk mk qs.length)) := hid (G0.out.below (show Below y8.heap.size y8 y9 by (repeat (first | with_reducible exact Below.refl _ _ | with_reducible assumption | (with_reducible refine btrans ?_ (by with_reducible assumption)) | with_reducible refine bdrew ?_ | with_reducible refine balloc ?_ _))))
  have n9_0 := keepcell hc9 n8_0
  have n9_1 := keepcell hc9 n8_1
  have n9_2 := keepcell hc9 n8_2
  have n9_3 := keepcell hc9 n8_3
  have n9_4 := keepcell hc9 n8_4
  have n9_5 := keepcell hc9 n8_5
  have n9_6 := keepcell hc9 n8_6
  have n9_7 := keepcell hc9 n8_7
  have n9_8 := keepcell hc9 n8_8
  have n9_9 := keepcell hc9 n8_9
  have n9_10 := keepcell hc9 n8_10
  replace hB2 := btrans hB2 hc9
  clear hc9 n8_0 n8_1 n8_2 n8_3 n8_4 n8_5 n8_6 n8_7 n8_8 n8_9 n8_10
  have H0 : Hid (OwnP y9 ha qs) := hid hho
  clear hho hhb R9 X9
  have r9_0 := keepalloc n9_0 (.cells #[.int .i64 kq, .slice ha qs.length hcp] 31)
  have r9_1 := keepalloc n9_1 (.cells #[.int .i64 kq, .slice ha qs.length hcp] 31)
  have r9_2 := keepalloc n9_2 (.cells #[.int .i64 kq, .slice ha qs.length hcp] 31)
  have r9_3 := keepalloc n9_3 (.cells #[.int .i64 kq, .slice ha qs.length hcp] 31)
  have r9_4 := keepalloc n9_4 (.cells #[.int .i64 kq, .slice ha qs.length hcp] 31)
  have r9_5 := keepalloc n9_5 (.cells #[.int .i64 kq, .slice ha qs.length hcp] 31)
  have r9_6 := keepalloc n9_6 (.cells #[.int .i64 kq, .slice ha qs.length hcp] 31)
  have r9_7 := keepalloc n9_7 (.cells #[.int .i64 kq, .slice ha qs.length hcp] 31)
  have r9_8 := keepalloc n9_8 (.cells #[.int .i64 kq, .slice ha qs.length hcp] 31)
  have r9_9 := keepalloc n9_9 (.cells #[.int .i64 kq, .slice ha qs.length hcp] 31)
  have r9_10 := keepalloc n9_10 (.cells #[.int .i64 kq, .slice ha qs.length hcp] 31)
  go_wp2_with fail
  refine (eq_shape kq ha sa hcp sc qs _ hqm hhc hsc (H0.out.below (balloc (Below.refl _ _) _)).pts (S0.out.below (balloc (Below.refl _ _) _)).pts).mono ?_
  rintro e y10 ⟨rfl, hc10⟩
  replace Q0 : Hid (Rws (fun _ => True) y10 a0 rs0) := hid (Q0.out.below (show Below y9.heap.size y9 y10 by (repeat (first | with_reducible exact Below.refl _ _ | with_reducible assumption | (with_reducible refine btrans ?_ (by with_reducible assumption)) | with_reducible refine bdrew ?_ | with_reducible refine balloc ?_ _))))
  replace QT : Hid (Txs (fun _ => True) 1099511627776 y10 ta0 ts0) := hid (QT.out.below (show Below y9.heap.size y9 y10 by (repeat (first | with_reducible exact Below.refl _ _ | with_reducible assumption | (with_reducible refine btrans ?_ (by with_reducible assumption)) | with_reducible refine bdrew ?_ | with_reducible refine balloc ?_ _))))
  replace S0 : Hid (OwnP y10 sa qs) := hid (S0.out.below (show Below y9.heap.size y9 y10 by (repeat (first | with_reducible exact Below.refl _ _ | with_reducible assumption | (with_reducible refine btrans ?_ (by with_reducible assumption)) | with_reducible refine bdrew ?_ | with_reducible refine balloc ?_ _))))
  replace G0 : Hid (OwnP y10 ga (tk mk qs.length)) := hid (G0.out.below (show Below y9.heap.size y9 y10 by (repeat (first | with_reducible exact Below.refl _ _ | with_reducible assumption | (with_reducible refine btrans ?_ (by with_reducible assumption)) | with_reducible refine bdrew ?_ | with_reducible refine balloc ?_ _))))
  replace H0 : Hid (OwnP y10 ha qs) := hid (H0.out.below (show Below y9.heap.size y9 y10 by (repeat (first | with_reducible exact Below.refl _ _ | with_reducible assumption | (with_reducible refine btrans ?_ (by with_reducible assumption)) | with_reducible refine bdrew ?_ | with_reducible refine balloc ?_ _))))
  have n10_0 : y10.cell? ⟨0, 0, none⟩ = some (.iface et ev) := by (repeat (first | with_reducible assumption | (refine newcell _ _ _ _ _ _ ?_ rfl; simp; done) | refine keepcell (by with_reducible assumption) ?_ | refine keepdrew ?_ | refine keepalloc ?_ _))
  have n10_1 : y10.cell? ⟨w.heap.size, 0, none⟩ = some (.int .i64 now0) := by (repeat (first | with_reducible assumption | (refine newcell _ _ _ _ _ _ ?_ rfl; simp; done) | refine keepcell (by with_reducible assumption) ?_ | refine keepdrew ?_ | refine keepalloc ?_ _))
  have n10_2 : y10.cell? ⟨w.heap.size, 1, none⟩ = some (.slice a0 rs0.length cap0) := by (repeat (first | with_reducible assumption | (refine newcell _ _ _ _ _ _ ?_ rfl; simp; done) | refine keepcell (by with_reducible assumption) ?_ | refine keepdrew ?_ | refine keepalloc ?_ _))
  have n10_3 : y10.cell? ⟨w.heap.size, 2, none⟩ = some (.slice ta0 ts0.length tcap0) := by (repeat (first | with_reducible assumption | (refine newcell _ _ _ _ _ _ ?_ rfl; simp; done) | refine keepcell (by with_reducible assumption) ?_ | refine keepdrew ?_ | refine keepalloc ?_ _))
  have n10_4 : y10.cell? ⟨X2, 0, none⟩ = some (.int .i64 kq) := by (repeat (first | with_reducible assumption | (refine newcell _ _ _ _ _ _ ?_ rfl; simp; done) | refine keepcell (by with_reducible assumption) ?_ | refine keepdrew ?_ | refine keepalloc ?_ _))
  have n10_5 : y10.cell? ⟨X2, 1, none⟩ = some (.slice sa qs.length sc) := by (repeat (first | with_reducible assumption | (refine newcell _ _ _ _ _ _ ?_ rfl; simp; done) | refine keepcell (by with_reducible assumption) ?_ | refine keepdrew ?_ | refine keepalloc ?_ _))
  have n10_6 : y10.cell? ⟨X3, 0, none⟩ = some (.int .i64 now0) := by (repeat (first | with_reducible assumption | (refine newcell _ _ _ _ _ _ ?_ rfl; simp; done) | refine keepcell (by with_reducible assumption) ?_ | refine keepdrew ?_ | refine keepalloc ?_ _))
  have n10_7 : y10.cell? ⟨X3, 1, none⟩ = some (.slice (some ⟨b3, 0, none⟩) rs0.length rs0.length) := by (repeat (first | with_reducible assumption | (refine newcell _ _ _ _ _ _ ?_ rfl; simp; done) | refine keepcell (by with_reducible assumption) ?_ | refine keepdrew ?_ | refine keepalloc ?_ _))
  have n10_8 : y10.cell? ⟨X3, 2, none⟩ = some (.slice (some ⟨t3, 0, none⟩) ts0.length ts0.length) := by (repeat (first | with_reducible assumption | (refine newcell _ _ _ _ _ _ ?_ rfl; simp; done) | refine keepcell (by with_reducible assumption) ?_ | refine keepdrew ?_ | refine keepalloc ?_ _))
  have n10_9 : y10.cell? ⟨X4, 0, none⟩ = some (.int .i64 kq) := by (repeat (first | with_reducible assumption | (refine newcell _ _ _ _ _ _ ?_ rfl; simp; done) | refine keepcell (by with_reducible assumption) ?_ | refine keepdrew ?_ | refine keepalloc ?_ _))
  have n10_10 : y10.cell? ⟨X4, 1, none⟩ = some (.slice ga qs.length gc) := by (repeat (first | with_reducible assumption | (refine newcell _ _ _ _ _ _ ?_ rfl; simp; done) | refine keepcell (by with_reducible assumption) ?_ | refine keepdrew ?_ | refine keepalloc ?_ _))
  replace hB2 : Below w.heap.size w y10 := by (repeat (first | with_reducible exact Below.refl _ _ | with_reducible assumption | (with_reducible refine btrans ?_ (by with_reducible assumption)) | with_reducible refine bdrew ?_ | with_reducible refine balloc ?_ _))
  clear hc10 n9_0 n9_1 n9_2 n9_3 n9_4 n9_5 n9_6 n9_7 n9_8 n9_9 n9_10
  go_wp2_with fail
  refine (held_shape _ kq ga gc qs.length hqm hgc G0.out.pts).mono ?_
  rintro e y11 ⟨rfl, hc11⟩
  replace Q0 : Hid (Rws (fun _ => True) y11 a0 rs0) := hid (Q0.out.below (show Below y10.heap.size y10 y11 by (repeat (first | with_reducible exact Below.refl _ _ | with_reducible assumption | (with_reducible refine btrans ?_ (by with_reducible assumption)) | with_reducible refine bdrew ?_ | with_reducible refine balloc ?_ _))))
  replace QT : Hid (Txs (fun _ => True) 1099511627776 y11 ta0 ts0) := hid (QT.out.below (show Below y10.heap.size y10 y11 by (repeat (first | with_reducible exact Below.refl _ _ | with_reducible assumption | (with_reducible refine btrans ?_ (by with_reducible assumption)) | with_reducible refine bdrew ?_ | with_reducible refine balloc ?_ _))))
  replace S0 : Hid (OwnP y11 sa qs) := hid (S0.out.below (show Below y10.heap.size y10 y11 by (repeat (first | with_reducible exact Below.refl _ _ | with_reducible assumption | (with_reducible refine btrans ?_ (by with_reducible assumption)) | with_reducible refine bdrew ?_ | with_reducible refine balloc ?_ _))))
  replace G0 : Hid (OwnP y11 ga (tk mk qs.length)) := hid (G0.out.below (show Below y10.heap.size y10 y11 by (repeat (first | with_reducible exact Below.refl _ _ | with_reducible assumption | (with_reducible refine btrans ?_ (by with_reducible assumption)) | with_reducible refine bdrew ?_ | with_reducible refine balloc ?_ _))))
  replace H0 : Hid (OwnP y11 ha qs) := hid (H0.out.below (show Below y10.heap.size y10 y11 by (repeat (first | with_reducible exact Below.refl _ _ | with_reducible assumption | (with_reducible refine btrans ?_ (by with_reducible assumption)) | with_reducible refine bdrew ?_ | with_reducible refine balloc ?_ _))))
  have n11_0 := keepcell hc11 n10_0
  have n11_1 := keepcell hc11 n10_1
  have n11_2 := keepcell hc11 n10_2
  have n11_3 := keepcell hc11 n10_3
  have n11_4 := keepcell hc11 n10_4
  have n11_5 := keepcell hc11 n10_5
  have n11_6 := keepcell hc11 n10_6
  have n11_7 := keepcell hc11 n10_7
  have n11_8 := keepcell hc11 n10_8
  have n11_9 := keepcell hc11 n10_9
  have n11_10 := keepcell hc11 n10_10
  replace hB2 := btrans hB2 hc11
  clear hc11 n10_0 n10_1 n10_2 n10_3 n10_4 n10_5 n10_6 n10_7 n10_8 n10_9 n10_10
  go_wp2_with fail
  go_ret
  exact ⟨rfl, hB2⟩
end Go.Proofs.YtehifednpbdokaaGreatDoor
