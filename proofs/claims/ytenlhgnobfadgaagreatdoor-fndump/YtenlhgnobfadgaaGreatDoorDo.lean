import Derived.Test.YtenlhgnobfadgaaGreatDoorDn
import Derived.Test.YtenlhgnobfadgaaGreatDoorJ25
set_option maxRecDepth 100000
set_option maxHeartbeats 8000000
set_option linter.unusedSimpArgs false
set_option linter.unusedVariables false
namespace Go.Proofs.YtenlhgnobfadgaaGreatDoor
open Go.RowKit
theorem dump_facts (now : Int) (rs : List Rw) (t : Int) : ∃ (sd : ByteArray) (n : Nat) (cs : List Ch), dmT rs t (idsb now rs t) (idsb now rs t).length = sd ∧ (idsb now rs t).length = n ∧ sd.size ≤ 1048576 ∧ n ≤ 300 ∧ (100 < n → ld sd sd.size 0 0 [] = ([], 101)) ∧
  (n ≤ 100 → ld sd sd.size 0 0 [] = (cs, 0) ∧ cs.length = n ∧ apb 0 [] cs = true ∧ apnow 0 [] cs = 1 ∧ (aprs 0 [] cs).length ≤ 300 ∧ dmT (aprs 0 [] cs) 1 (idsb 1 (aprs 0 [] cs) 1) (idsb 1 (aprs 0 [] cs) 1).length = sd) := by
 have h2 := idsb_len now rs t
 refine ⟨_, _, cgD rs t (idsb now rs t) (idsb now rs t).length, rfl, rfl, ?_, h2, fun h => ld_dumpN (idsb_all now rs t) (idsb_lt now rs t) h, fun h => ?_⟩
 ·have h1 := dmT_size (rs := rs) (t := t) (fun id h => idsb_id (now := now) (rs := rs) (t := t) h) (idsb now rs t).length (Nat.le_refl _)
  have h3 : (idsb now rs t).length * 2668 ≤ 300 * 2668 := Nat.mul_le_mul_right _ h2
  omega
 ·obtain ⟨d1, d2, d3⟩ := dump_again h
  refine ⟨ld_dump (idsb_all now rs t) (idsb_lt now rs t) h, cgD_len (Nat.le_refl _), d1, by unfold apnow; rw [if_pos d1]; rfl, aprs_le 0 [] _ (by simp), ?_⟩
  rw [d2, d3 _ (Nat.le_refl _)]
theorem dump_w (a0 : Option Addr) (len0 cap0 : Nat) (z0 : List Int) (w : World) (w0 : IsRow .u8 w a0 len0 cap0 z0) (hLb : LibsR w) (hKw : KWr w) (hCu : CutAll w) (hg : w.cell? ⟨2, 0, none⟩ = some (.iface 235 (.agg #[.pointer (some ⟨10, 67, none⟩)]))) :
  Calls Tryz.prog 4 #[.slice a0 len0 cap0] w fun e w' => e = .returned (.bool true) ∧ Below w.heap.size w w' := by
 have hit : ItoaA w := fun w' hb n h0 h1 => hLb.2.1 n w' h0 h1 hb
 have hkw : KW w := fun k hk => by
  rw [hKw k hk]
  match k, hk with
  | 0, _ => rfl
  | 1, _ => rfl
  | 2, _ => rfl
  | 3, _ => rfl
 have hlen := len_of w0
 by_cases hbig : len0 ≤ 1048576
 rotate_left
 ·have hd : 1048576 < (len0 : Int) := by omega
  clear w0 hg hLb hKw hCu hit hkw
  go_enter Tryz.func4, Tryz.ntmps4
  go_wp2_with (go_at_call 10; go_in)
  go_ret
  exact ⟨rfl, Below.refl _ _⟩
 have hc := code_of w0 hbig
 have hd : (len0 : Int) ≤ 1048576 := by omega
 have HC := hid hc
 have HIT := hid hit
 have HKW := hid hkw
 have CI := hid (fun (s : ByteArray) (hs : s.size ≤ 1048576) (W : World) (hb : Below w.heap.size w W) => impl_Load s hs W (hLb.below hb) (hKw.below hb) (hCu.below hb) (keepcell hb hg))
 have CS := hid (fun (s : ByteArray) (hs : s.size ≤ 1048576) (W : World) => spec_Load s hs W)
 unfold LDA at CI CS
 clear hc w0 hg hLb hKw hCu hit hkw
 go_enter Tryz.func4, Tryz.ntmps4
 go_wp2_with (go_at_call 10; go_in)
 refine (draw_dump _ a0 len0 cap0 HC.out).mono ?_
 rintro e v1 ⟨now, ra, rc, rs, xs, t, rfl, ⟨hn0, hn1⟩, hl, hX, ⟨ht0, ht1⟩, hb⟩
 go_upto_region 4 with fail
 have gQ := heap_alloc_new v1 (.cells #[.int .i64 now, .slice ra rs.length rc] 32)
 have hal : Below v1.heap.size v1 (v1.alloc (.cells #[.int .i64 now, .slice ra rs.length rc] 32)) := balloc (Below.refl _ _) _
 have B0 := hid (btrans hb hal)
 have HR := hid ((hX.below hal).rws)
 clear hb hX hal
 generalize v1.alloc (.cells #[.int .i64 now, .slice ra rs.length rc] 32) = V at *
 generalize v1.heap.size = Q at *
 have HD := hid (fun (W : World) (h : Rws (fun _ => True) W ra rs) (hb : Below w.heap.size w W) => impl_Dump now ra rc rs t W (by omega) h (HIT.out.below hb) (HKW.out.below hb))
 have HSD := hid (fun (W : World) (h : Rws (fun _ => True) W ra rs) => spec_Dump now ra rc rs t W (by omega) h)
 have HID := hid (fun (W : World) (h : Rws (fun _ => True) W ra rs) => impl_IdsAt now ra rc rs t W (by omega) h)
 unfold IA at HID
 obtain ⟨sd, n, cs, e1, e2, hsz, hn, F1, F2⟩ := dump_facts now rs t
 replace F1 := hid F1
 replace F2 := hid F2
 rw [e1] at HD HSD
 rw [e2] at HID
 clear e1 e2
 generalize rs.length = nr at *
 have hq1 : (sd.toList == sd.toList) = true := by simp
 have hq2 : (sd.toList != sd.toList) = false := by simp
 obtain ⟨q0, q1, _, _⟩ := cell2f gQ
 go_wp2_with fail
 refine (HD.out _ HR.out B0.out).mono ?_
 rintro e v2 ⟨rfl, hb⟩
 replace gQ := keepheap2 hb gQ
 replace HR := hid (HR.out.below hb)
 replace B0 := hid (btrans B0.out hb)
 clear hb q0 q1 HD
 go_wp2_with fail
 refine (draw_load _ a0 len0 cap0 ((HC.out.below B0.out).mono B0.out.size)).mono ?_
 rintro e v3 ⟨u, rfl, hu, hb⟩
 replace gQ := keepheap2 hb gQ
 replace HR := hid (HR.out.below hb)
 replace B0 := hid (btrans B0.out hb)
 clear hb
 have hS := (ld_chS u).2
 have CIU := hid (fun (W : World) (hb : Below w.heap.size w W) => CI.out u (by omega) W hb)
 have CSU := hid (fun (W : World) => CS.out u (by omega) W)
 generalize (ld u u.size 0 0 []).1 = xl at *
 generalize (ld u u.size 0 0 []).2 = st at *
 clear CS
 go_wp2_with fail
 refine (CIU.out _ B0.out).mono ?_
 rintro e v4 ⟨xa, xc, rfl, hX, hb⟩
 replace gQ := keepheap2 hb gQ
 replace HR := hid (HR.out.below hb)
 replace B0 := hid (btrans B0.out hb)
 clear hb CIU
 have HX := hid hX.chsN
 clear hX
 go_wp2_with fail
 refine (CSU.out _).mono ?_
 rintro e v5 ⟨ya, yc, rfl, hY, hb⟩
 replace gQ := keepheap2 hb gQ
 replace HR := hid (HR.out.below hb)
 replace HX := hid (HX.out.below hb)
 replace B0 := hid (btrans B0.out hb)
 clear hb CSU
 have HY := hid hY.chsN
 clear hY
 have hin : ((st : Int) != st) = false := by simp
 have SC := hid (fun (W : World) (hb : Below v5.heap.size v5 W) => same_chs xa ya xc yc xl W (by omega) (HX.out.below hb) (HY.out.below hb))
 generalize xl.length = nx at *
 obtain ⟨q0, q1, _, _⟩ := cell2f gQ
 go_wp2_with fail
 refine (HSD.out _ HR.out).mono ?_
 rintro e v6 ⟨rfl, hb⟩
 replace gQ := keepheap2 hb gQ
 replace HR := hid (HR.out.below hb)
 replace B0 := hid (btrans B0.out hb)
 replace SC := hid (SC.out _ hb)
 clear hb q0 q1 HSD HX HY
 go_wp2_with fail
 refine SC.out.mono ?_
 rintro e v7 ⟨rfl, hb⟩
 replace gQ := keepheap2 hb gQ
 replace HR := hid (HR.out.below hb)
 replace B0 := hid (btrans B0.out hb)
 clear hb SC hin
 have CID := hid (fun (W : World) (hb : Below w.heap.size w W) => CI.out sd hsz W hb)
 clear CI
 by_cases hmany : 100 < n
 ·have c1 : (100 : Int) < (n : Int) := by omega
  have hld := F1.out hmany
  rw [hld] at CID
  clear hld F1 F2
  go_wp2_with fail
  refine (CID.out _ B0.out).mono ?_
  rintro e v8 ⟨za, zc, rfl, _, hb⟩
  replace gQ := keepheap2 hb gQ
  replace HR := hid (HR.out.below hb)
  replace B0 := hid (btrans B0.out hb)
  clear hb
  obtain ⟨q0, q1, _, _⟩ := cell2f gQ
  go_wp2_with fail
  refine (HID.out _ HR.out).mono ?_
  rintro e v9 ⟨ia', ic', rfl, _, _, hb⟩
  replace B0 := hid (btrans B0.out hb)
  clear hb
  go_wp2_with fail
  go_ret
  exact ⟨rfl, B0.out⟩
 ·have c1 : ¬ (100 : Int) < (n : Int) := by omega
  obtain ⟨hld, hcl, hap, han, hal, hdm⟩ := F2.out (by omega)
  rw [hld] at CID
  have AP := hid (fun (a : Option Addr) (cap : Nat) (N' : Nat → Prop) (W : World) (hC : Chs N' 1099511627776 W a cs) => impl_ApplyG (N := fun _ => True) 0 none 0 [] a cap cs W (by simp) (.inl rfl) (.inl rfl) (by omega) hC)
  unfold APR at AP
  rw [hap, han] at AP
  have HD2 := hid (fun (va : Option Addr) (vc : Nat) (W : World) (h : Rws (fun _ => True) W va (aprs 0 [] cs)) (hb : Below w.heap.size w W) => impl_Dump 1 va vc (aprs 0 [] cs) 1 W (by omega) h (HIT.out.below hb) (HKW.out.below hb))
  rw [hdm] at HD2
  simp only [hcl] at CID AP
  simp only [List.length_nil] at AP
  generalize aprs 0 [] cs = rs2 at *
  clear hld hap han hdm F1 F2 HIT HKW
  go_wp2_with fail
  refine (CID.out _ B0.out).mono ?_
  rintro e v8 ⟨za, zc, rfl, hZ, hb⟩
  replace gQ := keepheap2 hb gQ
  replace HR := hid (HR.out.below hb)
  replace B0 := hid (btrans B0.out hb)
  have HZ := hid hZ.chsN
  clear hb hZ CID
  obtain ⟨q0, q1, _, _⟩ := cell2f gQ
  go_wp2_with fail
  refine (HID.out _ HR.out).mono ?_
  rintro e v9 ⟨ia', ic', rfl, _, _, hb⟩
  replace gQ := keepheap2 hb gQ
  replace HR := hid (HR.out.below hb)
  replace HZ := hid (HZ.out.below hb)
  replace B0 := hid (btrans B0.out hb)
  clear hb q0 q1
  go_wp2_with fail
  refine (AP.out za zc _ _ HZ.out).mono ?_
  rintro e y ⟨v, xs2, rfl, hX2, hb⟩
  obtain ⟨va, vc, ev⟩ := kept_form hX2
  subst ev
  replace gQ := keepheap2 hb gQ
  replace HR := hid (HR.out.below hb)
  replace B0 := hid (btrans B0.out hb)
  clear hb HZ AP
  go_upto_region 16 with fail
  have gP := heap_alloc_new y (.cells #[.int .i64 1, .slice va rs2.length vc] 32)
  have hal2 : Below y.heap.size y (y.alloc (.cells #[.int .i64 1, .slice va rs2.length vc] 32)) := balloc (Below.refl _ _) _
  have HR2 := hid ((hX2.below hal2).rws)
  replace gQ := keepheap2 hal2 gQ
  replace HR := hid (HR.out.below hal2)
  replace B0 := hid (btrans B0.out hal2)
  clear hal2 hX2
  generalize y.alloc (.cells #[.int .i64 1, .slice va rs2.length vc] 32) = Y at *
  generalize y.heap.size = P at *
  replace HD2 := hid (fun (W : World) => HD2.out va vc W)
  generalize rs2.length = n2 at *
  obtain ⟨p0, p1, _, _⟩ := cell2f gP
  go_wp2_with fail
  refine (HD2.out _ HR2.out B0.out).mono ?_
  rintro e v10 ⟨rfl, hb⟩
  replace gQ := keepheap2 hb gQ
  replace HR := hid (HR.out.below hb)
  replace B0 := hid (btrans B0.out hb)
  clear hb p0 p1 gP HR2 HD2
  obtain ⟨q0, q1, _, _⟩ := cell2f gQ
  have hnn : ((n : Int) == (n : Int)) = true := by simp
  go_wp2_with fail
  refine (HID.out _ HR.out).mono ?_
  rintro e v11 ⟨ia2, ic2, rfl, _, _, hb⟩
  replace B0 := hid (btrans B0.out hb)
  clear hb
  go_wp2_with fail
  go_ret
  exact ⟨rfl, B0.out⟩
end Go.Proofs.YtenlhgnobfadgaaGreatDoor
