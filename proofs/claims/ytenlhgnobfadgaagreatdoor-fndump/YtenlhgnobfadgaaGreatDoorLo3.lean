import Derived.Test.YtenlhgnobfadgaaGreatDoorLo2
import Derived.Deep.AppendLies
set_option maxRecDepth 100000
set_option maxHeartbeats 8000000
set_option linter.unusedSimpArgs false
set_option linter.unusedVariables false
namespace Go.Proofs.YtenlhgnobfadgaaGreatDoor
open Go.RowKit
theorem lin_ws {x : ByteArray} {ws : List ByteArray} (hw : rest x x.size 0 0 = ws) : (ws.length < 2 → lin x = none) ∧ (idb (riN (ws.getD 0 ⟨#[]⟩)) = false → lin x = none) ∧ (rso (ws.drop 1) = none → lin x = none) ∧ (∀ k l, 2 ≤ ws.length → idb (riN (ws.getD 0 ⟨#[]⟩)) = true → rso (ws.drop 1) = some (k, l) → lin x = some (riN (ws.getD 0 ⟨#[]⟩), false, k, l)) ∧ ∀ acc : List Ch, acc.length ≠ 0 → riN (ws.getD 0 ⟨#[]⟩) ≤ lastI acc → ldo acc x = none := by
 subst hw
 exact ⟨lin_short, lin_id, lin_sh, fun k l => lin_yes, fun acc => ldo_lastN⟩
theorem Texts.cap {w : World} {g cap : Nat} {l : List ByteArray} (h : Texts w g cap l) : l.length ≤ cap := by
 rcases h.2 with ⟨q, _⟩ | ⟨g', c', cur, q0, q1, q2, q3, _⟩
 ·cases q
 ·cases q0; exact q3
theorem lx_id {t : TypeId} {base hi c : Nat} {w : World} {a : Option Addr} {xs : List Ch} {ps : List (Ch × Value)} (h : LX KN t base hi w (.slice a xs.length c) xs ps) (j : Nat) (hj : j < xs.length) : ∃ g, a = some ⟨g, 0, none⟩ ∧ w.cell? ⟨g, j * 4, none⟩ = some (.int .i64 xs[j].1) := by
 rcases h.lc.2 with ⟨e, _⟩ | ⟨g, cap, ss, lo, up, e, h1, h2, h3, h4, h5, h6⟩
 ·rw [e] at hj; simp at hj
 ·cases e
  exact ⟨g, rfl, (h5 j hj).1.1 0 (by decide)⟩
theorem own_inL {w : World} {a : Option Addr} {ps : List (Int × Int)} (h : OwnP w a ps) (h0 : 0 < ps.length) : ∃ b, a = some ⟨b, 0, none⟩ ∧ PtsOwn w b ps := by
 rcases h with ⟨_, rfl⟩ | ⟨b, rfl, h⟩
 ·simp at h0
 ·exact ⟨b, rfl, h⟩
theorem rso_pos {ws : List ByteArray} {k : Int} {l : List (Int × Int)} (h : rso ws = some (k, l)) : 0 < l.length ∧ l.length ≤ 60 := by
 unfold rso at h
 split at h
 ·cases h
 ·split at h
  ·cases h
  ·split at h
   ·rename_i hk
    cases h
    exact ⟨(kind_natr hk).2.1, (kind_natr hk).2.2⟩
   ·cases h
theorem spec_Load (s : ByteArray) (hs : s.size ≤ 1048576) (w : World) : Calls Tryz.prog 5 #[.string s] w fun e w' => LDA w (ld s s.size 0 0 []) e w' := by
 have hsI : (s.size : Int) ≤ 1048576 := by omega
 obtain ⟨i0, hi0, hz0, hz1, hz2⟩ := info_parts Tryz.infoCh
 obtain ⟨og, hog⟩ : ∃ og, og = ld s s.size 0 0 [] := ⟨_, rfl⟩
 rw [← hog]
 have HOG := hid hog
 clear hog
 go_enter Tryz.func5, Tryz.ntmps5
 go_wp2_with fail
 have HI := hid (lx_noneL w w (Nat.le_refl _))
 have HB0 := hid (balloc (Below.refl w.heap.size w) (.cells #[] 50))
 generalize w.alloc (.cells #[] 50) = W0 at *
 go_loopw [4, 5, 6, 7] (fun tv ta tl ti wr => ∃ (a i L : Nat) (cs : List Ch) (us : List (Ch × Value)), ti = .int .i64 i ∧ ta = .int .i64 a ∧ tl = .int .i64 L ∧ a ≤ i ∧ i ≤ s.size ∧ L ≤ 101 ∧ Hid (L = cs.length + 1) ∧ Hid (og = ld s (s.size - i) a i cs) ∧ Hid (LX KN 50 w.heap.size wr.heap.size wr tv cs us) ∧ Hid (Below w.heap.size w wr)) (fun _ _ _ ti _ => s.size - (intOf ti).toNat)
 case atStart => exact ⟨0, 0, 1, [], [], rfl, rfl, rfl, Nat.le_refl _, Nat.zero_le _, by omega, hid rfl, HOG, HI, HB0⟩
 case round =>
  clear HI HB0 HOG
  obtain ⟨a, i, L, cs, us, rfl, rfl, rfl, hai, his, hL, HL, HLD, HV, HB⟩ := hrel
  have hci : cs.length ≤ 100 := by have := HL.out; omega
  obtain ⟨av, cv, ev, hlv, hvr⟩ := HV.out.lc.form
  have HVR := hid hvr
  clear hvr
  subst ev
  have hwX := HB.out.size
  by_cases hlt : i < s.size
  ·have c1 : (i : Int) < (s.size : Int) := by omega
   have c2 : (0 : Int) ≤ (a : Int) := by omega
   have c3 : (a : Int) ≤ (i : Int) := by omega
   have c4 : (i : Int) ≤ (s.size : Int) := by omega
   have e8 := by8_at s i hlt
   by_cases h8 : by8 s i = 10
   ·have HNO : Hid (ldo cs (s.extract a i) = none → og = ([], L)) := hid (fun ho => HLD.out.trans ((ld_no (f' := s.size - (i + 1)) (by omega) h8 ho).trans (by rw [HL.out])))
    have HYE : Hid (∀ l, ldo cs (s.extract a i) = some l → og = ld s (s.size - (i + 1)) (i + 1) (i + 1) l) := hid (fun l ho => HLD.out.trans (ld_yes (f' := s.size - (i + 1)) (by omega) h8 ho))
    have hxs : (s.extract a i).size ≤ 1048576 := by simp; omega
    have HW := hid (fun w => spec_words (s.extract a i) hxs w)
    obtain ⟨hw0, hw1⟩ := rest_len (s.extract a i) (s.extract a i).size 0 0
    have hrs := rest_size (s.extract a i) (s.extract a i).size 0 0
    obtain ⟨hl1, hl2, hl3, hl4, hl5⟩ := lin_ws (x := s.extract a i) rfl
    generalize rest (s.extract a i) (s.extract a i).size 0 0 = ws at *
    have HL4 := hid hl4
    have HL5 := hid (hl5 cs)
    have HL3 := hid hl3
    have HL2 := hid hl2
    have HL1 := hid hl1
    obtain ⟨x0, hx0⟩ : ∃ x0, x0 = ws.getD 0 ⟨#[]⟩ := ⟨_, rfl⟩
    have hx0m : x0.size ≤ 1048576 := by
     have h0 : 0 < ws.length := hw0
     have e : x0 = ws[0] := by rw [hx0, List.getD_eq_getElem?_getD, List.getElem?_eq_getElem h0]; rfl
     rw [e]
     exact Nat.le_trans (hrs _ (List.getElem_mem h0)) hxs
    have HRS := hid (fun x (hx : x ∈ ws.drop 1) => Nat.le_trans (hrs x (List.mem_of_mem_drop hx)) hxs)
    have HX0 := hid hx0
    rw [← hx0] at HL2 HL4 HL5
    clear hx0 hl1 hl2 hl3 hl4 hl5 hrs
    obtain ⟨n, hn⟩ : ∃ n, n = ws.length := ⟨_, rfl⟩
    have HNL := hid hn.symm
    rw [← hn] at HW hw0 hw1 HL1 HL4
    clear hn
    have hni : (0 : Int) < (n : Int) := by omega
    have R0 := hid (fun w => spec_ri x0 hx0m w)
    have hbi : idb (riN x0) = true → riB x0 = true := ri_idb
    have hbz : riB x0 = false → idb (riN x0) = false := fun h => by rw [ri_zero h]; rfl
    have HBI := hid hbi
    have HBZ := hid hbz
    clear hbi hbz
    generalize riN x0 = iv at *
    generalize riB x0 = ib at *
    have hn48 : n ≤ 1048577 := by omega
    clear hw1
    go_wp2_with fail
    refine (HW.out _).mono ?_
    rintro e y1 ⟨g, cap, rfl, hgg, hT, hB1⟩
    have hc0 : y1.cell? ⟨g, 0, none⟩ = some (.string x0) := by
     have h0 : 0 < ws.length := by rw [HNL.out]; exact hw0
     rw [HX0.out, List.getD_eq_getElem?_getD, List.getElem?_eq_getElem h0]; exact hT.cell 0 h0
    have hcap := hT.cap
    rw [HNL.out] at hcap
    have HT := hid hT
    replace HV := hid (HV.out.growsL hB1)
    replace HB := hid (btrans HB.out hB1)
    clear hT hB1 HW hgg
    go_wp2_with fail
    refine (R0.out _).mono ?_
    rintro e y2 ⟨rfl, hw⟩
    replace hw := hw.symm
    subst hw
    clear R0 HX0
    cases ib
    ·have HO := hid (HNO.out (ldo_no (HL2.out (HBZ.out rfl))))
     clear HNO HYE HL1 HL2 HL3 HL4 HL5 HBI HBZ HRS HLD
     go_wp2_with fail
     go_ret2
     exact lda_no HO.out HB.out
    clear HBI HBZ
    have HID := hid (fun w => spec_id iv w)
    cases hidb : idb iv
    ·have HO := hid (HNO.out (ldo_no (HL2.out hidb)))
     rw [hidb] at HID
     clear HNO HYE HL1 HL2 HL3 HL4 HL5 HRS hidb HLD
     go_wp2_with fail
     refine (HID.out _).mono ?_
     rintro e y2 ⟨rfl, hw⟩
     replace hw := hw.symm
     subst hw
     go_wp2_with fail
     go_ret2
     exact lda_no HO.out HB.out
    have HIB := hid hidb
    rw [hidb] at HID
    clear hidb HL2
    by_cases hn2 : n < 2
    ·have c5 : (n : Int) < 2 := by omega
     have HO := hid (HNO.out (ldo_no (HL1.out hn2)))
     clear HNO HYE HL1 HL3 HL4 HL5 HRS HLD
     go_wp2_with fail
     refine (HID.out _).mono ?_
     rintro e y2 ⟨rfl, hw⟩
     replace hw := hw.symm
     subst hw
     go_wp2_with fail
     go_ret2
     exact lda_no HO.out HB.out
    have c5 : ¬ (n : Int) < 2 := by omega
    have c5' : (2 : Int) ≤ (n : Int) := by omega
    by_cases h100 : 100 ≤ cs.length
    ·have c6 : (100 : Int) ≤ (cs.length : Int) := by omega
     have HO := hid (HNO.out (ldo_full h100))
     clear HNO HYE HL1 HL3 HL4 HL5 HRS HLD
     go_wp2_with fail
     refine (HID.out _).mono ?_
     rintro e y2 ⟨rfl, hw⟩
     replace hw := hw.symm
     subst hw
     go_wp2_with fail
     go_ret2
     exact lda_no HO.out HB.out
    have c6 : ¬ (100 : Int) ≤ (cs.length : Int) := by omega
    have c6' : (cs.length : Int) < 100 := by omega
    have HC0 := hid (show cs.length < 100 by omega)
    clear h100 HL1
    by_cases h0 : cs.length = 0
    ·have c7 : (cs.length : Int) = 0 := by omega
     have c7' : ¬ (0 : Int) < (cs.length : Int) := by omega
     have HLS := hid (show cs.length = 0 ∨ lastI cs < iv from .inl h0)
     clear h0
     have hcap2 : ¬ cap - 1 = 0 := by omega
     have hcapI : (1 : Int) ≤ (cap : Int) := by omega
     have HR := hid (fun (W : World) (hw : W = y1) => spec_l03ReadO (ws.drop 1) g 1 (cap - 1) (n - 1) W (by rw [List.length_drop, HNL.out]) (by omega) (by omega) HRS.out (by rw [hw]; exact HT.out.txo 1))
     cases ho : rso (ws.drop 1) with
     | none =>
      have HO := hid (HNO.out (ldo_no (HL3.out ho)))
      rw [ho] at HR
      unfold RSA at HR
      simp only [roK, roP, Option.isSome_none] at HR
      clear HNO HYE HL3 HL4 HL5 HRS HLD ho
      go_wp2_with fail
      refine (HID.out _).mono ?_
      rintro e y2 ⟨rfl, hw⟩
      replace hw := hw.symm
      subst hw
      go_wp2_with fail
      refine (HR.out _ rfl).mono ?_
      rintro e y3 ⟨sa, sc, rfl, hsc, hso, _, hB3⟩
      have HB5 := hid (balloc (btrans HB.out hB3) (.cells #[.int .i64 0, .slice sa 0 sc] 48))
      clear hB3 hso HR HB
      go_upto_region 12 with fail
      generalize y3.alloc (.cells #[.int .i64 0, .slice sa 0 sc] 48) = W5 at *
      go_wp2_with fail
      go_ret2
      exact lda_no HO.out HB5.out
     | some r =>
      obtain ⟨k, l⟩ := r
      obtain ⟨hl0, hl1⟩ := rso_pos ho
      have HO := hid (HYE.out _ (ldo_yes (HL4.out k l (by omega) HIB.out ho) HC0.out HLS.out))
      rw [ho] at HR
      unfold RSA at HR
      simp only [roK, roP, Option.isSome_some] at HR
      clear HNO HYE HL3 HL4 HL5 HRS HLD ho HLS
      go_wp2_with fail
      refine (HID.out _).mono ?_
      rintro e y2 ⟨rfl, hw⟩
      replace hw := hw.symm
      subst hw
      go_wp2_with fail
      refine (HR.out _ rfl).mono ?_
      rintro e y3 ⟨sa, sc, rfl, hsc, hso, hsb, hB3⟩
      obtain ⟨b, rfl, hpo⟩ := own_inL hso hl0
      have hbW := hsb b 0 rfl
      have hbl := hpo.1
      have hA := balloc (Below.refl y3.heap.size y3) (.cells #[.int .i64 k, .slice (some ⟨b, 0, none⟩) l.length sc] 48)
      have gS := new_alloc y3 y3.heap.size (.cells #[.int .i64 k, .slice (some ⟨b, 0, none⟩) l.length sc] 48) rfl
      have HV4 := hid ((HV.out.below hB3).below hA)
      have HB4 := hid (btrans (btrans HB.out hB3) hA)
      have HPS : Hid (PtsOwn (y3.alloc (.cells #[.int .i64 k, .slice (some ⟨b, 0, none⟩) l.length sc] 48)) b l) := hid (own_blk hpo (hA.block b hbl) (Nat.lt_of_lt_of_le hbl hA.size))
      have hy1 := HB.out.size
      have hz4 : y3.heap.size < (y3.alloc (.cells #[.int .i64 k, .slice (some ⟨b, 0, none⟩) l.length sc] 48)).heap.size := by simp
      have HS4 : Hid (KN.sub b (y3.alloc (.cells #[.int .i64 k, .slice (some ⟨b, 0, none⟩) l.length sc] 48)).heap.size (y3.alloc (.cells #[.int .i64 k, .slice (some ⟨b, 0, none⟩) l.length sc] 48)) (.slice (some ⟨b, 0, none⟩) l.length sc) (iv, false, k, l)) := hid (.inl ⟨Nat.le_refl _, b, sc, rfl, hsc, by show l.length ≤ _; omega, Nat.le_refl _, by omega, HPS.out⟩)
      have hs3 := hB3.size
      clear HV HB hB3 hso hsb hpo HR hA
      go_upto_region 12 with fail
      generalize y3.alloc (.cells #[.int .i64 k, .slice (some ⟨b, 0, none⟩) l.length sc] 48) = W4 at *
      obtain ⟨x0', x1', _, _⟩ := cell2g gS
      clear gS
      have hownZ : W4.ownsRow w.heap.size 50 4 (.slice av cs.length cv) cs.length (flatK KN us) := HV4.out.2.1
      have hm4 := HV4.out.2.2.2.1
      go_wp2_with (at_builtin; (refine wpList_append_lies _ rfl (.tmp 81) (.tmp 85) 22 rfl w.heap.size 50 i0 _ 4 48 Tryz.underlying22 hi0 hz0 hz1 hz2 rfl (by decide) (.slice av cs.length cv) cs.length (flatK KN us) rfl (hownZ.alloc _) ⟨W4.heap.size, 0, none⟩ 1 1 [.int .i64 iv, .bool false, .int .i64 k, .slice (some ⟨b, 0, none⟩) l.length sc] rfl rfl (World.news_of_block (cs := #[.int .i64 iv, .bool false, .int .i64 k, .slice (some ⟨b, 0, none⟩) l.length sc]) (t := 50) (fr := (0, 0)) (heap_alloc_new W4 _)) (by simp [Value.oneCell']) (by omega) (by unfold maxLen; omega) (by omega) (by simp; omega) (W4.heap.size + 1) (by simp) ?_; intro gg cq w2 hown2 hgrow hat hlt2))
      have hal2 : Below W4.heap.size W4 (W4.alloc (.cells #[.int .i64 iv, .bool false, .int .i64 k, .slice (some ⟨b, 0, none⟩) l.length sc] 50)) := balloc (Below.refl _ _) _
      have hsn := LX.snoc (x := (iv, false, k, l)) (sv := .slice (some ⟨b, 0, none⟩) l.length sc) (l := b) (u := W4.heap.size) (g := gg) (cap := cq) (HV4.out.below hal2) (by omega) (by omega) (KN.frame HS4.out (fun c _ hc => hal2.block c (by omega)) hal2.size) hown2 hgrow (by simpa using hat) hlt2
      have hbn : Below w.heap.size w w2 := bgrowL (balloc HB4.out _) hgrow (fun c e => (World.ownsRow.lt hownZ c e).1)
      have HSN := hid hsn
      have HBN := hid hbn
      have HLN : Hid (L + 1 = (cs ++ [(iv, false, k, l)]).length + 1) := hid (by rw [List.length_append, HL.out]; rfl)
      have hL2 : L + 1 ≤ 101 := by have := HL.out; have := HC0.out; omega
      clear hsn hbn hown2 hgrow hal2 hownZ x0' x1'
      go_wp2_with fail
      go_roundw
      case rel => exact ⟨i + 1, i + 1, L + 1, cs ++ [(iv, false, k, l)], _, by go_num, by go_num, by go_num, Nat.le_refl _, by omega, hL2, HLN, HO, hid (by simpa using HSN.out), HBN⟩
      case measure => simp [intOf]; omega
    ·have c7 : (0 : Int) < (cs.length : Int) := by omega
     obtain ⟨m, hm⟩ : ∃ m, m = cs.length - 1 := ⟨_, rfl⟩
     have hmc : m < cs.length := by omega
     have hwm : IntKind.i64.wrap ((cs.length : Int) - 1) = (m : Int) := by rw [IntKind.wrap_i64] <;> omega
     have hmI : (m : Int) < (cs.length : Int) := by omega
     obtain ⟨gl, rfl, hcl⟩ := lx_id HV.out m hmc
     have hla : lastI cs = (cs[m]).1 := by rw [lastI_at (by omega)]; congr 2; omega
     rw [← hla] at hcl
     clear hm
     generalize hll : lastI cs = la at *
     have HLL := hid hll
     clear hla hll
     by_cases hle : iv ≤ la
     ·have HO := hid (HNO.out (HL5.out h0 hle))
      clear HNO HYE HL3 HL4 HL5 HRS HLD
      go_wp2_with fail
      refine (HID.out _).mono ?_
      rintro e y2 ⟨rfl, hw⟩
      replace hw := hw.symm
      subst hw
      go_wp2_with fail
      go_ret2
      exact lda_no HO.out HB.out
     ·have c8 : ¬ iv ≤ la := hle
      have c8' : la < iv := by omega
      have HLS : Hid (cs.length = 0 ∨ lastI cs < iv) := hid (.inr (by rw [HLL.out]; exact c8'))
      clear h0 hle
      have hcap2 : ¬ cap - 1 = 0 := by omega
      have hcapI : (1 : Int) ≤ (cap : Int) := by omega
      have HR := hid (fun (W : World) (hw : W = y1) => spec_l03ReadO (ws.drop 1) g 1 (cap - 1) (n - 1) W (by rw [List.length_drop, HNL.out]) (by omega) (by omega) HRS.out (by rw [hw]; exact HT.out.txo 1))
      cases ho : rso (ws.drop 1) with
      | none =>
       have HO := hid (HNO.out (ldo_no (HL3.out ho)))
       rw [ho] at HR
       unfold RSA at HR
       simp only [roK, roP, Option.isSome_none] at HR
       clear HNO HYE HL3 HL4 HL5 HRS HLD ho
       go_wp2_with fail
       refine (HID.out _).mono ?_
       rintro e y2 ⟨rfl, hw⟩
       replace hw := hw.symm
       subst hw
       go_wp2_with fail
       refine (HR.out _ rfl).mono ?_
       rintro e y3 ⟨sa, sc, rfl, hsc, hso, _, hB3⟩
       have HB5 := hid (balloc (btrans HB.out hB3) (.cells #[.int .i64 0, .slice sa 0 sc] 48))
       clear hB3 hso HR HB
       go_upto_region 12 with fail
       generalize y3.alloc (.cells #[.int .i64 0, .slice sa 0 sc] 48) = W5 at *
       go_wp2_with fail
       go_ret2
       exact lda_no HO.out HB5.out
      | some r =>
       obtain ⟨k, l⟩ := r
       obtain ⟨hl0, hl1⟩ := rso_pos ho
       have HO := hid (HYE.out _ (ldo_yes (HL4.out k l (by omega) HIB.out ho) HC0.out HLS.out))
       rw [ho] at HR
       unfold RSA at HR
       simp only [roK, roP, Option.isSome_some] at HR
       clear HNO HYE HL3 HL4 HL5 HRS HLD ho HLS
       go_wp2_with fail
       refine (HID.out _).mono ?_
       rintro e y2 ⟨rfl, hw⟩
       replace hw := hw.symm
       subst hw
       go_wp2_with fail
       refine (HR.out _ rfl).mono ?_
       rintro e y3 ⟨sa, sc, rfl, hsc, hso, hsb, hB3⟩
       obtain ⟨b, rfl, hpo⟩ := own_inL hso hl0
       have hbW := hsb b 0 rfl
       have hbl := hpo.1
       have hA := balloc (Below.refl y3.heap.size y3) (.cells #[.int .i64 k, .slice (some ⟨b, 0, none⟩) l.length sc] 48)
       have gS := new_alloc y3 y3.heap.size (.cells #[.int .i64 k, .slice (some ⟨b, 0, none⟩) l.length sc] 48) rfl
       have HV4 := hid ((HV.out.below hB3).below hA)
       have HB4 := hid (btrans (btrans HB.out hB3) hA)
       have HPS : Hid (PtsOwn (y3.alloc (.cells #[.int .i64 k, .slice (some ⟨b, 0, none⟩) l.length sc] 48)) b l) := hid (own_blk hpo (hA.block b hbl) (Nat.lt_of_lt_of_le hbl hA.size))
       have hy1 := HB.out.size
       have hz4 : y3.heap.size < (y3.alloc (.cells #[.int .i64 k, .slice (some ⟨b, 0, none⟩) l.length sc] 48)).heap.size := by simp
       have HS4 : Hid (KN.sub b (y3.alloc (.cells #[.int .i64 k, .slice (some ⟨b, 0, none⟩) l.length sc] 48)).heap.size (y3.alloc (.cells #[.int .i64 k, .slice (some ⟨b, 0, none⟩) l.length sc] 48)) (.slice (some ⟨b, 0, none⟩) l.length sc) (iv, false, k, l)) := hid (.inl ⟨Nat.le_refl _, b, sc, rfl, hsc, by show l.length ≤ _; omega, Nat.le_refl _, by omega, HPS.out⟩)
       have hs3 := hB3.size
       clear HV HB hB3 hso hsb hpo HR hA
       go_upto_region 12 with fail
       generalize y3.alloc (.cells #[.int .i64 k, .slice (some ⟨b, 0, none⟩) l.length sc] 48) = W4 at *
       obtain ⟨x0', x1', _, _⟩ := cell2g gS
       clear gS
       have hownZ : W4.ownsRow w.heap.size 50 4 (.slice (some ⟨gl, 0, none⟩) cs.length cv) cs.length (flatK KN us) := HV4.out.2.1
       have hm4 := HV4.out.2.2.2.1
       go_wp2_with (at_builtin; (refine wpList_append_lies _ rfl (.tmp 81) (.tmp 85) 22 rfl w.heap.size 50 i0 _ 4 48 Tryz.underlying22 hi0 hz0 hz1 hz2 rfl (by decide) (.slice (some ⟨gl, 0, none⟩) cs.length cv) cs.length (flatK KN us) rfl (hownZ.alloc _) ⟨W4.heap.size, 0, none⟩ 1 1 [.int .i64 iv, .bool false, .int .i64 k, .slice (some ⟨b, 0, none⟩) l.length sc] rfl rfl (World.news_of_block (cs := #[.int .i64 iv, .bool false, .int .i64 k, .slice (some ⟨b, 0, none⟩) l.length sc]) (t := 50) (fr := (0, 0)) (heap_alloc_new W4 _)) (by simp [Value.oneCell']) (by omega) (by unfold maxLen; omega) (by omega) (by simp; omega) (W4.heap.size + 1) (by simp) ?_; intro gg cq w2 hown2 hgrow hat hlt2))
       have hal2 : Below W4.heap.size W4 (W4.alloc (.cells #[.int .i64 iv, .bool false, .int .i64 k, .slice (some ⟨b, 0, none⟩) l.length sc] 50)) := balloc (Below.refl _ _) _
       have hsn := LX.snoc (x := (iv, false, k, l)) (sv := .slice (some ⟨b, 0, none⟩) l.length sc) (l := b) (u := W4.heap.size) (g := gg) (cap := cq) (HV4.out.below hal2) (by omega) (by omega) (KN.frame HS4.out (fun c _ hc => hal2.block c (by omega)) hal2.size) hown2 hgrow (by simpa using hat) hlt2
       have hbn : Below w.heap.size w w2 := bgrowL (balloc HB4.out _) hgrow (fun c e => (World.ownsRow.lt hownZ c e).1)
       have HSN := hid hsn
       have HBN := hid hbn
       have HLN : Hid (L + 1 = (cs ++ [(iv, false, k, l)]).length + 1) := hid (by rw [List.length_append, HL.out]; rfl)
       have hL2 : L + 1 ≤ 101 := by have := HL.out; have := HC0.out; omega
       clear hsn hbn hown2 hgrow hal2 hownZ x0' x1'
       go_wp2_with fail
       go_roundw
       case rel => exact ⟨i + 1, i + 1, L + 1, cs ++ [(iv, false, k, l)], _, by go_num, by go_num, by go_num, Nat.le_refl _, by omega, hL2, HLN, HO, hid (by simpa using HSN.out), HBN⟩
       case measure => simp [intOf]; omega
   ·have h80 : ¬ ((by8 s i : Nat) : Int) = 10 := by omega
    have h81 : (((by8 s i : Nat) : Int) == 10) = false := by rw [beq_eq_false_iff_ne]; exact h80
    have HLN := hid (HLD.out.trans (ld_miss (f' := s.size - (i + 1)) (by omega) h8))
    clear HLD
    go_wp2_with fail
    go_roundw
    case rel => exact ⟨a, i + 1, L, cs, us, by go_num, rfl, rfl, by omega, by omega, hL, HL, HLN, HV, HB⟩
    case measure => simp [intOf]; omega
  ·have c1 : (s.size : Int) ≤ (i : Int) := by omega
   have HLE := HLD.out
   rw [show s.size - i = 0 by omega] at HLE
   by_cases ha : a < s.size
   ·have HO := hid (HLE.trans ((ld_open ha).trans (by rw [← HL.out] : ([], cs.length + 1) = (([], L) : List Ch × Nat))))
    have c2 : (a : Int) < (s.size : Int) := by omega
    clear HLE HLD
    go_wp2_with fail
    go_ret2
    exact lda_no HO.out HB.out
   ·have HO := hid (HLE.trans (ld_end ha))
    have c2 : (s.size : Int) ≤ (a : Int) := by omega
    clear HLE HLD
    go_wp2_with fail
    go_ret2
    exact lda_yes HO.out HV.out.lc rfl HB.out
end Go.Proofs.YtenlhgnobfadgaaGreatDoor
