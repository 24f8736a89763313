/- Texts of stores, joined: Lo5, RwF2, Code. -/
import Derived.Test.YtenlhgnobfadgaaGreatDoorLo4
import Derived.Deep.AppendLies
import Derived.ProofKit
import Derived.OpenShut
set_option maxRecDepth 100000
set_option maxHeartbeats 8000000
set_option linter.unusedSimpArgs false
set_option linter.unusedVariables false
namespace Go.Proofs.YtenlhgnobfadgaaGreatDoor
open Go.RowKit
theorem impl_follows (iv k : Int) (bg : Bool) (n ccap hi base : Nat) (ca av : Option Addr) (cv : Nat) (cs : List Ch) (us : List (Ch × Value)) (w : World) (hn : cs.length ≤ 100) (h : LX KN 50 base hi w (.slice av cs.length cv) cs us) : Calls Tryz.prog 24 #[.agg #[.int .i64 iv, .bool bg, .int .i64 k, .slice ca n ccap], .slice av cs.length cv] w fun e w' => e = .returned (.bool (decide (cs.length = 0) || decide (lastI cs < iv))) ∧ Below w.heap.size w w' := by
 have hA := balloc (Below.refl w.heap.size w) (.cells #[.int .i64 iv, .bool bg, .int .i64 k, .slice ca n ccap] 50)
 by_cases h0 : cs.length = 0
 ·have HR := hid (show (decide (cs.length = 0) || decide (lastI cs < iv)) = true by rw [h0]; rfl)
  rw [HR.out]
  clear HR
  rw [h0]
  have HA := hid hA
  clear hA h hn h0
  go_enter Tryz.func24, Tryz.ntmps24
  go_wp2_with fail
  go_quiet (fail)
  go_wp2_with fail
  go_ret
  exact ⟨rfl, btrans HA.out (below_drewN _ _ _)⟩
 ·obtain ⟨m, hm⟩ : ∃ m, m = cs.length - 1 := ⟨_, rfl⟩
  have hmc : m < cs.length := by omega
  obtain ⟨gl, rfl, hcl⟩ := lx_id h m hmc
  have hla : lastI cs = (cs[m]).1 := by rw [lastI_at (by omega)]; congr 2; omega
  rw [← hla] at hcl
  replace hcl := keepcell hA hcl
  have HR := hid (show (decide (cs.length = 0) || decide (lastI cs < iv)) = decide (lastI cs < iv) by simp [h0])
  rw [HR.out]
  clear HR
  have hx0 : (w.alloc (.cells #[.int .i64 iv, .bool bg, .int .i64 k, .slice ca n ccap] 50)).cell? ⟨w.heap.size, 0, none⟩ = some (.int .i64 iv) := by rw [World.cell?_alloc_at _ _ _ _ rfl]; rfl
  generalize lastI cs = la at *
  obtain ⟨q, hq⟩ : ∃ q, q = cs.length := ⟨_, rfl⟩
  rw [← hq] at hmc h0 hn ⊢
  clear hla h
  have c2 : ((q : Int) == 0) = false := by rw [beq_eq_false_iff_ne]; omega
  have c3 : ¬ (q : Int) = 0 := by omega
  have hwm : IntKind.i64.wrap ((q : Int) - 1) = (m : Int) := by rw [IntKind.wrap_i64] <;> omega
  have hmI : (m : Int) < (q : Int) := by omega
  have hm0 : (0 : Int) ≤ (m : Int) := by omega
  clear hm hq h0
  have HA := hid hA
  clear hA
  go_enter Tryz.func24, Tryz.ntmps24
  go_upto_region 1 with fail
  generalize w.alloc (.cells #[.int .i64 iv, .bool bg, .int .i64 k, .slice ca n ccap] 50) = Y at *
  go_quiet (fail)
  go_wp2_with fail
  go_ret
  exact ⟨rfl, btrans HA.out (below_drewN _ _ _)⟩
theorem impl_Load (s : ByteArray) (hs : s.size ≤ 1048576) (w : World) (hLb : LibsR w) (hKw : KWr w) (hCu : CutAll w) (hg : w.cell? ⟨2, 0, none⟩ = some (.iface 235 (.agg #[.pointer (some ⟨10, 67, none⟩)]))) : Calls Tryz.prog 6 #[.string s] w fun e w' => LDA w (ld s s.size 0 0 []) e w' := by
 have hsI : (s.size : Int) ≤ 1048576 := by omega
 obtain ⟨i0, hi0, hz0, hz1, hz2⟩ := info_parts Tryz.infoCh
 obtain ⟨og, hog⟩ : ∃ og, og = ld s s.size 0 0 [] := ⟨_, rfl⟩
 rw [← hog]
 have HOG := hid hog
 have HLB := hid hLb
 have HKW := hid hKw
 have HCU := hid hCu
 have HG := hid hg
 clear hog hLb hKw hCu hg
 go_enter Tryz.func6, Tryz.ntmps6
 go_wp2_with fail
 have HI := hid (lx_noneL w w (Nat.le_refl _))
 have HB0 := hid (balloc (Below.refl w.heap.size w) (.cells #[] 50))
 generalize w.alloc (.cells #[] 50) = W0 at *
 go_loopw [0, 4] (fun tt tv wr => ∃ (a : Nat) (cs : List Ch) (us : List (Ch × Value)), tt = .string (s.extract a s.size) ∧ a ≤ s.size ∧ cs.length ≤ 100 ∧ Hid (og = ld s (s.size - a) a a cs) ∧ Hid (LX KN 50 w.heap.size wr.heap.size wr tv cs us) ∧ Hid (Below w.heap.size w wr)) (fun tt _ _ => match tt with | .string x => x.size | _ => 0)
 case atStart => exact ⟨0, [], [], by rw [ext_all], Nat.zero_le _, by simp, HOG, HI, HB0⟩
 case round =>
  clear HI HB0 HOG
  obtain ⟨a, cs, us, rfl, has, hci, HLD, HV, HB⟩ := hrel
  obtain ⟨av, cv, ev, hlv, hvr⟩ := HV.out.lc.form
  have HVR := hid hvr
  clear hvr
  subst ev
  have hwX := HB.out.size
  obtain ⟨q, hq⟩ : ∃ q, q = cs.length + 1 := ⟨_, rfl⟩
  have hwl : IntKind.i64.wrap ((cs.length : Int) + 1) = (q : Int) := by rw [hq, IntKind.wrap_i64] <;> omega
  have HQ := hid hq
  clear hq
  have hts : (s.extract a s.size).size ≤ 1048576 := by simp; omega
  by_cases ha : a < s.size
  ·have hE : (s.extract a s.size).toList.isEmpty = false := some_of _ (by simp; omega)
   rcases first_at s 10 a with ⟨i, h1, h2, h3, h4⟩ | h4
   ·obtain ⟨e1, e2, e3⟩ := cut_hit s 10 10 a i rfl h1 h2 h4 h3
    have CC := hid (fun (W : World) (hb : Below w.heap.size w W) => cut_at (s.extract a s.size) 10 10 rfl hts HCU.out hb e1 e2 e3)
    have hlx : (s.extract a i).size ≤ 1048576 := by simp; omega
    have CP := hid (fun (W : World) (hb : Below w.heap.size w W) => impl_readPut (s.extract a i) hlx W (HLB.out.below hb) (HKW.out.below hb) (HCU.out.below hb) (keepcell hb HG.out))
    have HLD2 := hid (HLD.out.trans (ld_at h1 h2 h4))
    have HNO : Hid (ldo cs (s.extract a i) = none → og = ([], q)) := hid (fun ho => HLD2.out.trans ((ld_no (f' := s.size - (i + 1)) (by omega) h3 ho).trans (by rw [HQ.out])))
    have HYE : Hid (∀ l, ldo cs (s.extract a i) = some l → og = ld s (s.size - (i + 1)) (i + 1) (i + 1) l) := hid (fun l ho => HLD2.out.trans (ld_yes (f' := s.size - (i + 1)) (by omega) h3 ho))
    have hmes : (s.extract (i + 1) s.size).size < (s.extract a s.size).size := by simp; omega
    have HMES := hid hmes
    clear HLD HLD2 e1 e2 e3 h3 h4 hmes
    generalize s.extract a i = x at *
    generalize s.extract a s.size = t at *
    cases hl : lin x with
    | none =>
     have HO := hid (HNO.out (ldo_no hl))
     rw [hl] at CP
     unfold RPA at CP
     simp only [Option.isSome_none] at CP
     clear HNO HYE hl
     go_wp2_with fail
     refine (CC.out _ HB.out).mono ?_
     rintro e y1 ⟨rfl, hb1⟩
     replace HB := hid (btrans HB.out hb1)
     clear hb1 CC
     go_wp2_with fail
     refine (CP.out _ HB.out).mono ?_
     rintro e y2 ⟨iv, k, l, sa, sc, rfl, _, _, _, _, _, hb1⟩
     replace HB := hid (balloc (btrans HB.out hb1) (.cells #[.int .i64 iv, .bool false, .int .i64 k, .slice sa l.length sc] 50))
     clear hb1 CP
     go_upto_region 5 with fail
     generalize y2.alloc (.cells #[.int .i64 iv, .bool false, .int .i64 k, .slice sa l.length sc] 50) = Y5 at *
     go_wp2_with fail
     go_ret2
     exact lda_no HO.out HB.out
    | some c =>
     have HL := hid hl
     rw [hl] at CP
     unfold RPA at CP
     simp only [Option.isSome_some] at CP
     clear hl
     obtain ⟨fb, hfb⟩ : ∃ fb, fb = (decide (cs.length = 0) || decide (lastI cs < c.1)) := ⟨_, rfl⟩
     have HFB := hid hfb
     clear hfb
     have HP2 : Hid (∀ (y2 : World), Below w.heap.size w y2 → True) := hid (fun _ _ => trivial)
     clear HP2
     cases fb
     ·have hz : cs.length ≠ 0 ∧ c.1 ≤ lastI cs := by
       have := HFB.out
       simp only [Bool.false_eq, Bool.or_eq_false_iff, decide_eq_false_iff_not] at this
       exact ⟨this.1, by omega⟩
      have HO := hid (HNO.out (ldo_last HL.out hz.1 hz.2))
      clear HNO HYE hz
      go_wp2_with fail
      refine (CC.out _ HB.out).mono ?_
      rintro e y1 ⟨rfl, hb1⟩
      replace HB := hid (btrans HB.out hb1)
      replace HV := hid (HV.out.below hb1)
      have hs1 := hb1.size
      clear hb1 CC
      go_wp2_with fail
      have hwy := HB.out.size
      refine (CP.out _ HB.out).mono ?_
      rintro e y2 ⟨iv, k, l, sa, sc, rfl, hyc, hl60, hsc, hso, hsb, hb1⟩
      obtain ⟨rfl, hl0⟩ := hyc _ rfl
      obtain ⟨b, rfl, hpo⟩ := own_inL hso hl0
      have hbW := hsb b 0 rfl
      have hA := balloc (Below.refl y2.heap.size y2) (.cells #[.int .i64 iv, .bool false, .int .i64 k, .slice (some ⟨b, 0, none⟩) l.length sc] 50)
      have gB := new_alloc y2 y2.heap.size (.cells #[.int .i64 iv, .bool false, .int .i64 k, .slice (some ⟨b, 0, none⟩) l.length sc] 50) rfl
      replace HV := hid ((HV.out.below hb1).below hA)
      replace HB := hid (btrans (btrans HB.out hb1) hA)
      replace hpo : PtsOwn (y2.alloc (.cells #[.int .i64 iv, .bool false, .int .i64 k, .slice (some ⟨b, 0, none⟩) l.length sc] 50)) b l := own_blk hpo (hA.block b hpo.1) (Nat.lt_of_lt_of_le hpo.1 hA.size)
      have hs2 := hb1.size
      have hs4 := hA.size
      simp only [] at HFB
      clear hb1 CP hA hso hsb
      go_upto_region 5 with fail
      generalize y2.alloc (.cells #[.int .i64 iv, .bool false, .int .i64 k, .slice (some ⟨b, 0, none⟩) l.length sc] 50) = Y at *
      have CF := hid (fun (W : World) (hb : Below Y.heap.size Y W) => impl_follows iv k false l.length sc _ _ (some ⟨b, 0, none⟩) av cv cs us W hci (HV.out.below hb))
      obtain ⟨⟨d0, d1, d2, d3⟩, _⟩ := cell4p gB
      go_wp2_with fail
      refine (CF.out _ (Below.refl _ _)).mono ?_
      rintro e y3 ⟨rfl, hb3⟩
      replace HB := hid (btrans HB.out hb3)
      clear hb3
      rw [← HFB.out]
      go_wp2_with fail
      go_ret2
      exact lda_no HO.out HB.out
     ·have hz : cs.length = 0 ∨ lastI cs < c.1 := by
       have := HFB.out
       simp only [Bool.true_eq, Bool.or_eq_true, decide_eq_true_eq] at this
       exact this
      by_cases h100 : cs.length = 100
      ·have c6 : (cs.length : Int) = 100 := by omega
       have c7 : ((cs.length : Int) == 100) = true := by rw [c6]; rfl
       have HO := hid (HNO.out (ldo_full (by omega)))
       clear HNO HYE hz c6 h100
       go_wp2_with fail
       refine (CC.out _ HB.out).mono ?_
       rintro e y1 ⟨rfl, hb1⟩
       replace HB := hid (btrans HB.out hb1)
       replace HV := hid (HV.out.below hb1)
       have hs1 := hb1.size
       clear hb1 CC
       go_wp2_with fail
       have hwy := HB.out.size
       refine (CP.out _ HB.out).mono ?_
       rintro e y2 ⟨iv, k, l, sa, sc, rfl, hyc, hl60, hsc, hso, hsb, hb1⟩
       obtain ⟨rfl, hl0⟩ := hyc _ rfl
       obtain ⟨b, rfl, hpo⟩ := own_inL hso hl0
       have hbW := hsb b 0 rfl
       have hA := balloc (Below.refl y2.heap.size y2) (.cells #[.int .i64 iv, .bool false, .int .i64 k, .slice (some ⟨b, 0, none⟩) l.length sc] 50)
       have gB := new_alloc y2 y2.heap.size (.cells #[.int .i64 iv, .bool false, .int .i64 k, .slice (some ⟨b, 0, none⟩) l.length sc] 50) rfl
       replace HV := hid ((HV.out.below hb1).below hA)
       replace HB := hid (btrans (btrans HB.out hb1) hA)
       replace hpo : PtsOwn (y2.alloc (.cells #[.int .i64 iv, .bool false, .int .i64 k, .slice (some ⟨b, 0, none⟩) l.length sc] 50)) b l := own_blk hpo (hA.block b hpo.1) (Nat.lt_of_lt_of_le hpo.1 hA.size)
       have hs2 := hb1.size
       have hs4 := hA.size
       simp only [] at HFB
       clear hb1 CP hA hso hsb
       go_upto_region 5 with fail
       generalize y2.alloc (.cells #[.int .i64 iv, .bool false, .int .i64 k, .slice (some ⟨b, 0, none⟩) l.length sc] 50) = Y at *
       have CF := hid (fun (W : World) (hb : Below Y.heap.size Y W) => impl_follows iv k false l.length sc _ _ (some ⟨b, 0, none⟩) av cv cs us W hci (HV.out.below hb))
       obtain ⟨⟨d0, d1, d2, d3⟩, _⟩ := cell4p gB
       go_wp2_with fail
       refine (CF.out _ (Below.refl _ _)).mono ?_
       rintro e y3 ⟨rfl, hb3⟩
       replace HB := hid (btrans HB.out hb3)
       clear hb3
       rw [← HFB.out]
       go_wp2_with fail
       go_ret2
       exact lda_no HO.out HB.out
      ·have c6 : ¬ (cs.length : Int) = 100 := by omega
       have c7 : ((cs.length : Int) == 100) = false := by rw [beq_eq_false_iff_ne]; exact c6
       have HC0 := hid (show cs.length < 100 by omega)
       have HO := hid (HYE.out _ (ldo_yes HL.out (by omega) hz))
       clear HNO HYE hz h100
       go_wp2_with fail
       refine (CC.out _ HB.out).mono ?_
       rintro e y1 ⟨rfl, hb1⟩
       replace HB := hid (btrans HB.out hb1)
       replace HV := hid (HV.out.below hb1)
       have hs1 := hb1.size
       clear hb1 CC
       go_wp2_with fail
       have hwy := HB.out.size
       refine (CP.out _ HB.out).mono ?_
       rintro e y2 ⟨iv, k, l, sa, sc, rfl, hyc, hl60, hsc, hso, hsb, hb1⟩
       obtain ⟨rfl, hl0⟩ := hyc _ rfl
       obtain ⟨b, rfl, hpo⟩ := own_inL hso hl0
       have hbW := hsb b 0 rfl
       have hA := balloc (Below.refl y2.heap.size y2) (.cells #[.int .i64 iv, .bool false, .int .i64 k, .slice (some ⟨b, 0, none⟩) l.length sc] 50)
       have gB := new_alloc y2 y2.heap.size (.cells #[.int .i64 iv, .bool false, .int .i64 k, .slice (some ⟨b, 0, none⟩) l.length sc] 50) rfl
       replace HV := hid ((HV.out.below hb1).below hA)
       replace HB := hid (btrans (btrans HB.out hb1) hA)
       replace hpo : PtsOwn (y2.alloc (.cells #[.int .i64 iv, .bool false, .int .i64 k, .slice (some ⟨b, 0, none⟩) l.length sc] 50)) b l := own_blk hpo (hA.block b hpo.1) (Nat.lt_of_lt_of_le hpo.1 hA.size)
       have hs2 := hb1.size
       have hs4 := hA.size
       simp only [] at HFB
       clear hb1 CP hA hso hsb
       go_upto_region 5 with fail
       generalize y2.alloc (.cells #[.int .i64 iv, .bool false, .int .i64 k, .slice (some ⟨b, 0, none⟩) l.length sc] 50) = Y at *
       have CF := hid (fun (W : World) (hb : Below Y.heap.size Y W) => impl_follows iv k false l.length sc _ _ (some ⟨b, 0, none⟩) av cv cs us W hci (HV.out.below hb))
       obtain ⟨⟨d0, d1, d2, d3⟩, _⟩ := cell4p gB
       go_wp2_with fail
       refine (CF.out _ (Below.refl _ _)).mono ?_
       rintro e y3 ⟨rfl, hb3⟩
       replace HB := hid (btrans HB.out hb3)
       replace HV := hid (HV.out.below hb3)
       have hs3 := hb3.size
       have gB3 := keepheap hb3 gB
       have hpo3 : PtsOwn y3 b l := own_blk hpo (hb3.block b hpo.1) (Nat.lt_of_lt_of_le hpo.1 hb3.size)
       clear hb3 gB hpo
       have HS4 : Hid (KN.sub b y3.heap.size y3 (.slice (some ⟨b, 0, none⟩) l.length sc) (iv, false, k, l)) := hid (.inl ⟨Nat.le_refl _, b, sc, rfl, hsc, by show l.length ≤ _; omega, Nat.le_refl _, hpo3.1, hpo3⟩)
       have hbl3 := hpo3.1
       clear hpo3
       rw [← HFB.out]
       obtain ⟨⟨x0, x1, x2, x3⟩, _⟩ := cell4p gB3
       have hownZ : y3.ownsRow w.heap.size 50 4 (.slice av cs.length cv) cs.length (flatK KN us) := HV.out.2.1
       have hm4 := HV.out.2.2.2.1
       go_wp2_with (at_builtin; (refine wpList_append_lies _ rfl (.tmp 45) (.tmp 47) 22 rfl w.heap.size 50 i0 _ 4 48 Tryz.underlying22 hi0 hz0 hz1 hz2 rfl (by decide) (.slice av cs.length cv) cs.length (flatK KN us) rfl (hownZ.alloc _) ⟨y3.heap.size, 0, none⟩ 1 1 [.int .i64 iv, .bool false, .int .i64 k, .slice (some ⟨b, 0, none⟩) l.length sc] rfl rfl (World.news_of_block (cs := #[.int .i64 iv, .bool false, .int .i64 k, .slice (some ⟨b, 0, none⟩) l.length sc]) (t := 50) (fr := (0, 0)) (heap_alloc_new y3 _)) (by simp [Value.oneCell']) (by omega) (by unfold maxLen; omega) (by omega) (by simp; omega) (y3.heap.size + 1) (by simp) ?_; intro gg cq w2 hown2 hgrow hat hlt2))
       have hal2 : Below y3.heap.size y3 (y3.alloc (.cells #[.int .i64 iv, .bool false, .int .i64 k, .slice (some ⟨b, 0, none⟩) l.length sc] 50)) := balloc (Below.refl _ _) _
       have hsn := LX.snoc (x := (iv, false, k, l)) (sv := .slice (some ⟨b, 0, none⟩) l.length sc) (l := b) (u := y3.heap.size) (g := gg) (cap := cq) (HV.out.below hal2) (by omega) (by omega) (KN.frame HS4.out (fun c _ hc => hal2.block c (by omega)) hal2.size) hown2 hgrow (by simpa using hat) hlt2
       have hbn : Below w.heap.size w w2 := bgrowL (balloc HB.out _) hgrow (fun c e => (World.ownsRow.lt hownZ c e).1)
       have HSN := hid hsn
       have HBN := hid hbn
       clear hsn hbn hown2 hgrow hal2 hownZ x0 x1 x2 x3
       go_wp2_with fail
       go_roundw
       case rel => exact ⟨i + 1, cs ++ [(iv, false, k, l)], _, rfl, by omega, by rw [List.length_append]; have := HC0.out; simp; omega, HO, hid (by simpa using HSN.out), HBN⟩
       case measure => exact HMES.out
   ·obtain ⟨e1, e2, e3⟩ := cut_miss s 10 10 a rfl h4
    have CC := hid (fun (W : World) (hb : Below w.heap.size w W) => cut_at (s.extract a s.size) 10 10 rfl hts HCU.out hb e1 e2 e3)
    have CP := hid (fun (W : World) (hb : Below w.heap.size w W) => impl_readPut (s.extract a s.size) hts W (HLB.out.below hb) (HKW.out.below hb) (HCU.out.below hb) (keepcell hb HG.out))
    have HO := hid (HLD.out.trans ((ld_none ha h4).trans (by rw [← HQ.out] : ([], cs.length + 1) = (([], q) : List Ch × Nat))))
    unfold RPA at CP
    clear HLD e1 e2 e3 h4
    generalize (lin (s.extract a s.size)).isSome = ob at *
    generalize s.extract a s.size = t at *
    go_wp2_with fail
    refine (CC.out _ HB.out).mono ?_
    rintro e y1 ⟨rfl, hb1⟩
    replace HB := hid (btrans HB.out hb1)
    clear hb1 CC
    go_wp2_with fail
    refine (CP.out _ HB.out).mono ?_
    rintro e y2 ⟨iv, k, l, sa, sc, rfl, _, _, _, _, _, hb1⟩
    replace HB := hid (balloc (btrans HB.out hb1) (.cells #[.int .i64 iv, .bool false, .int .i64 k, .slice sa l.length sc] 50))
    clear hb1 CP
    go_upto_region 5 with fail
    generalize y2.alloc (.cells #[.int .i64 iv, .bool false, .int .i64 k, .slice sa l.length sc] 50) = Y5 at *
    go_wp2_with fail
    go_ret2
    exact lda_no HO.out HB.out
  ·have hE : (s.extract a s.size).toList.isEmpty = true := empty_of _ (by simp; omega)
   have hla := HLD.out
   rw [show s.size - a = 0 by omega] at hla
   have HO := hid (hla.trans (ld_end ha))
   clear hla HLD
   go_wp2_with fail
   go_ret2
   exact lda_yes HO.out HV.out.lc rfl HB.out
theorem ids_1 (r : Rw) (a' : Option Addr) (cap' : Nat) (t : Int) (p : Nat) (w : World) (c1 : w.cell? ⟨p, 0, none⟩ = some (.int .i64 t)) : Calls Tryz.prog 47 #[rwv r a' cap', .pointer (some ⟨p, 0, none⟩)] w fun e w' => e = .returned (.tuple #[.int .i64 r.1, .bool (thr (tr r) t)]) ∧ Below w.heap.size w w' := by
 have TH := hid (fun w' => impl_there r a' cap' t w')
 generalize thr (tr r) t = q2 at *
 obtain ⟨id2, fr, te, kd, ps⟩ := r
 unfold rwv at *
 simp only at *
 generalize ps.length = np at *
 go_enter Tryz.func47, Tryz.ntmps47
 go_upto_region 1 with fail
 have hB : Below w.heap.size w (w.alloc (.cells #[.int .i64 id2, .int .i64 fr, .int .i64 te, .int .i64 kd, .slice a' np cap'] 65)) := balloc (Below.refl _ _) _
 have gx := new_alloc w w.heap.size (.cells #[.int .i64 id2, .int .i64 fr, .int .i64 te, .int .i64 kd, .slice a' np cap'] 65) rfl
 replace c1 := keepalloc c1 (.cells #[.int .i64 id2, .int .i64 fr, .int .i64 te, .int .i64 kd, .slice a' np cap'] 65)
 generalize w.alloc (.cells #[.int .i64 id2, .int .i64 fr, .int .i64 te, .int .i64 kd, .slice a' np cap'] 65) = W at *
 obtain ⟨⟨x0, x1, x2, x3, x4⟩, _⟩ := cell5g gx
 clear gx
 go_region_held3 (fun w' => w'.cell? ⟨w.heap.size, 0, none⟩ = some (.int .i64 id2) ∧ w'.cell? ⟨w.heap.size, 1, none⟩ = some (.int .i64 fr) ∧ w'.cell? ⟨w.heap.size, 2, none⟩ = some (.int .i64 te) ∧ w'.cell? ⟨w.heap.size, 3, none⟩ = some (.int .i64 kd) ∧ w'.cell? ⟨w.heap.size, 4, none⟩ = some (.slice a' np cap') ∧ w'.cell? ⟨p, 0, none⟩ = some (.int .i64 t)) ((go_split_ands; (repeat' apply And.intro) <;> (with_reducible repeat (first | assumption | refine keepset3 ?_ (by dsimp only; omega) | refine keepdrew ?_ | refine keepcell (by assumption) ?_ | refine keepalloc ?_ _))))
  (first
   | (go_at_call 48; refine (TH.out _).mono ?_; rintro e z ⟨rfl, hz⟩))
 go_wp2_with fail
 exact bodyPost_ret (v := .tuple #[.int .i64 id2, .bool q2]) (by simp [results, Tryz.results47, go_sem]) rfl ⟨rfl, by (with_reducible repeat (first | exact Below.refl _ _ | assumption | (refine btrans ?_ (by assumption)) | refine bdrew ?_ | refine balloc ?_ _))⟩
theorem kept_ids {N : Nat → Prop} (a : Option Addr) (cap : Nat) (rs : List Rw) (t : Int) (p : Nat) (w : World) (hm : rs.length ≤ 1099511627776) (h : Rws N w a rs) (c1 : w.cell? ⟨p, 0, none⟩ = some (.int .i64 t)) : Calls Tryz.prog 46 #[.slice a rs.length cap, .func (.func 47) #[] #[.pointer (some ⟨p, 0, none⟩)]] w fun e w' => ∃ v, e = .returned v ∧ IRow w.heap.size w' v (idsT rs t) ∧ Below w.heap.size w w' := by
 obtain ⟨i0, hi0, hz0, hz1, hz2⟩ := info_parts Tryz.infoI
 have HR := hid h
 have HC := hid c1
 clear h c1
 have hmk := make_ints rs.length hm
 obtain ⟨n, hn⟩ : ∃ n, n = rs.length := ⟨_, rfl⟩
 have HN := hid hn.symm
 rw [← hn] at hm hmk ⊢
 clear hn
 have hB0 : Below w.heap.size w (w.alloc (.cells (madeCells #[.int .i64 0] n) 3)) := balloc (Below.refl _ _) _
 have HI : Hid (IRow w.heap.size (w.alloc (.cells (madeCells #[.int .i64 0] n) 3)) (.slice (some ⟨w.heap.size, 0, none⟩) 0 n) []) := hid (by
  have := World.ownsRow_made (base := w.heap.size) (e := 3) (size := 1) w (madeCells #[.int .i64 0] n) n (Nat.le_refl _) (by unfold maxLen; omega) (by rw [size_madeCells, Nat.mul_one])
  exact ⟨w.heap.size, n, rfl, by simp, Nat.zero_le _, by simpa [fli] using this⟩)
 go_enter Tryz.func46, Tryz.ntmps46
 go_upto_region 2 with fail
 generalize w.alloc (.cells (madeCells #[.int .i64 0] n) 3) = W0 at *
 clear hmk
 go_wp2_with fail
 go_loopw [5, 15] (fun tv ti wr => ∃ i : Nat, ti = .int .i64 i ∧ i ≤ n ∧ Hid (IRow w.heap.size wr tv (idsT (rs.take i) t)) ∧ Hid (Below w.heap.size w wr)) (fun _ ti _ => n - (intOf ti).toNat)
 case atStart => exact ⟨0, rfl, Nat.zero_le _, HI, hid hB0⟩
 case round =>
  clear HI hB0
  obtain ⟨i, rfl, hi, HV, HBW⟩ := hrel
  by_cases hlt : i < n
  ·have d1 : (i : Int) < (n : Int) := by omega
   have hir : i < rs.length := by rw [HN.out]; exact hlt
   obtain ⟨b, o, rfl, hbs, a', cap', k0, k1, k2, k3, k4, k5, k6, k7, _⟩ := (HR.out.below HBW.out).at i hir
   have hbx : Below wr.heap.size wr (wr.alloc (.cells #[.int .i64 rs[i].1, .int .i64 rs[i].2.1, .int .i64 rs[i].2.2.1, .int .i64 rs[i].2.2.2.1, .slice a' rs[i].2.2.2.2.length cap'] 65)) := balloc (Below.refl _ _) _
   have HT := hid (fun (W : World) (hb : Below wr.heap.size wr W) => ids_1 rs[i] a' cap' t p W (keepcell (btrans HBW.out hb) HC.out))
   have HX := hid (ids_next (t := t) hir)
   have hil : (idsT (rs.take i) t).length ≤ i := by have := ids_len (rs.take i) t; simp at this; omega
   clear k5 k6 k7
   unfold rwv at HT
   generalize thr (tr rs[i]) t = q2 at *
   generalize rs[i].1 = id2 at *
   generalize rs[i].2.1 = fr at *
   generalize rs[i].2.2.1 = te at *
   generalize rs[i].2.2.2.1 = kd at *
   generalize rs[i].2.2.2.2.length = np at *
   generalize idsT (rs.take i) t = zs at *
   obtain ⟨g, c, rfl, hgl, hgc, hown⟩ := HV.out
   have HO := hid hown
   clear hown HV
   go_upto_region 5 with fail
   have gx := new_alloc wr wr.heap.size (.cells #[.int .i64 id2, .int .i64 fr, .int .i64 te, .int .i64 kd, .slice a' np cap'] 65) rfl
   have HI1 := hid ((irow_of HO.out rfl).below hbx)
   have HB1 := hid (btrans HBW.out hbx)
   have HT1 := hid (HT.out _ hbx)
   clear k0 k1 k2 k3 k4 HT hbx
   generalize wr.alloc (.cells #[.int .i64 id2, .int .i64 fr, .int .i64 te, .int .i64 kd, .slice a' np cap'] 65) = W1 at *
   generalize wr.heap.size = X at *
   obtain ⟨⟨x0, x1, x2, x3, x4⟩, _⟩ := cell5g gx
   clear gx
   go_wp2_with fail
   refine HT1.out.mono ?_
   rintro e z ⟨rfl, hz⟩
   have HBz := hid (btrans HB1.out hz)
   have HIz := hid (HI1.out.below hz)
   clear hz x0 x1 x2 x3 x4 HT1 HI1 HB1
   cases q2
   ·have HV2 : Hid (IRow w.heap.size z (.slice (some ⟨g, 0, none⟩) zs.length c) (idsT (rs.take (i + 1)) t)) := hid (by rw [HX.out]; simpa using HIz.out)
    go_wp2_with fail
    go_roundw
    case rel => exact ⟨i + 1, by go_num, by omega, HV2, HBz⟩
    case measure => simp [intOf]; omega
   ·have HX2 : Hid (idsT (rs.take (i + 1)) t = zs ++ [id2]) := hid (by rw [HX.out]; simp)
    obtain ⟨g', c', e', hgl', hgc', hown'⟩ := HIz.out
    cases e'
    have hzw := HBz.out.size
    clear HX HIz
    go_wp2_with (at_builtin; refine wpList_append_lies _ rfl (.tmp 26) (.tmp 28) 37 rfl w.heap.size 3 i0 _ 1 8 Tryz.underlying37 hi0 hz0 hz1 hz2 rfl (by decide) _ _ _ rfl (hown'.alloc _) ⟨z.heap.size, 0, none⟩ 1 1 [.int .i64 id2] rfl rfl (World.news_of_block (cs := #[.int .i64 id2]) (t := 3) (fr := (0, 0)) (heap_alloc_new z _)) (by simp [Value.oneCell']) (by omega) (by unfold maxLen; omega) (by omega) (by simp; omega) (z.heap.size + 1) (by simp) ?_; intro gg cp w2 hown2 hgrow hat hlt2)
    go_roundw
    case rel =>
     refine ⟨i + 1, by go_num, by omega, hid ?_, hid ?_⟩
     ·rw [HX2.out]
      exact irow_of (by simpa [fli] using hown2) (by simp)
     ·exact Below.grown (balloc HBz.out _) hgrow (by simp; omega) (fun k e => (hown'.lt k e).1)
    case measure => simp [intOf]; omega
  ·have d1 : (n : Int) ≤ (i : Int) := by omega
   have hin : i = rs.length := by have := HN.out; omega
   have HF : Hid (IRow w.heap.size wr u5 (idsT rs t)) := hid (by have := HV.out; rw [hin, List.take_length] at this; exact this)
   clear hin HV
   go_wp2_with fail
   go_ret
   exact ⟨_, rfl, HF.out, HBW.out⟩
theorem impl_IdsAt {N : Nat → Prop} (now : Int) (a : Option Addr) (cap : Nat) (rs : List Rw) (t : Int) (w : World) (hm : rs.length ≤ 1099511627776) (h : Rws N w a rs) : Calls Tryz.prog 16 #[.agg #[.int .i64 now, .slice a rs.length cap], .int .i64 t] w fun e w' => IA w (idsb now rs t) e w' := by
 have HOK := hid (fun (W : World) (hb : Below w.heap.size w W) => impl_RowsOk now a cap rs W hm (h.below hb))
 have HKP := hid (fun (W : World) (hb : Below w.heap.size w W) (p : Nat) (c1 : W.cell? ⟨p, 0, none⟩ = some (.int .i64 t)) => kept_ids a cap rs t p W hm (h.below hb) c1)
 clear h
 have HNO : Hid (rowsb now rs = false → idsb now rs t = []) := hid (fun e => by unfold idsb; rw [if_neg (by rw [e]; simp)])
 have HYE : Hid (rowsb now rs = true → idsb now rs t = srt (idsT rs t)) := hid (fun e => by unfold idsb; rw [if_pos e])
 have HL := hid (ids_len rs t)
 generalize idsb now rs t = ib at *
 generalize rowsb now rs = ob at *
 generalize idsT rs t = zs at *
 generalize rs.length = n at *
 have hmf : ∀ (fn : Fn) (first cp : Array Value) (w : World), (Instr.makeFunc fn first cp).run Tryz.prog w = .ok (.func fn first cp) w := fun _ _ _ _ => rfl
 go_enter Tryz.func16, Tryz.ntmps16
 go_upto_region 1 with fail
 have hBx : Below w.heap.size w ((w.alloc (.cells #[.int .i64 now, .slice a n cap] 32)).alloc (.cells #[.int .i64 t] 3)) := balloc (balloc (Below.refl _ _) _) _
 have g0 := old_alloc (o' := .cells #[.int .i64 t] 3) (new_alloc w w.heap.size (.cells #[.int .i64 now, .slice a n cap] 32) rfl)
 have g1 := new_alloc (w.alloc (.cells #[.int .i64 now, .slice a n cap] 32)) (w.heap.size + 1) (.cells #[.int .i64 t] 3) (by simp)
 generalize (w.alloc (.cells #[.int .i64 now, .slice a n cap] 32)).alloc (.cells #[.int .i64 t] 3) = W0 at *
 obtain ⟨d0, d1, _, _⟩ := cell2r g0
 go_wp2_with fail
 refine (HOK.out _ hBx).mono ?_
 rintro e W ⟨rfl, hz⟩
 replace g0 := keepheap2 hz g0
 replace g1 := keepheap2 hz g1
 have hB := btrans hBx hz
 clear hBx hz d0 d1 HOK
 cases ob
 ·have HF := hid (HNO.out rfl)
  have HB := hid hB
  clear HNO HYE HKP g0 g1 hB
  go_wp2_with fail
  go_ret
  rw [HF.out]
  exact ⟨some ⟨W.heap.size, 0, none⟩, 0, rfl, .inr ⟨_, rfl, by simp, fun k hk => absurd hk (by simp), fun j hj => absurd hj (by simp)⟩, fun b off e => (by cases e; exact HB.out.size), balloc HB.out _⟩
 have HF := hid (HYE.out rfl)
 have c1 : W.cell? ⟨w.heap.size + 1, 0, none⟩ = some (.int .i64 t) := by simp [World.cell?, g1]
 have KP := hid (HKP.out W hB (w.heap.size + 1) c1)
 have HB := hid hB
 clear HNO HYE HKP c1 g1 hB
 obtain ⟨d0, d1, _, _⟩ := cell2r g0
 go_wp2_with fail
 refine KP.out.mono ?_
 rintro e y ⟨v, rfl, hI, hy⟩
 obtain ⟨g, c, rfl, hgl, hgc, hown⟩ := hI
 have hgw := (hown.lt g rfl).1
 have hWs := HB.out.size
 have HS := hid (sort_ids W.heap.size g c zs y (by have := HL.out; omega) hgl hown)
 have HBy := hid (btrans HB.out hy)
 clear hown hy d0 d1 KP g0
 go_wp2_with fail
 refine HS.out.mono ?_
 rintro e u ⟨rfl, hI2, hgr⟩
 have HBu := hid (Below.grown HBy.out hgr HBy.out.size (fun k e => by cases e; omega))
 have HI2 := hid hI2
 clear hI2 hgr HS
 go_wp2_with fail
 go_ret
 rw [HF.out]
 exact ⟨some ⟨g, 0, none⟩, c, by rw [srt_len]; rfl, HI2.out, fun b off e => (by cases e; omega), HBu.out⟩
def IsRow (k : IntKind) (w : World) (a : Option Addr) (len cap : Nat) (zs : List Int) : Prop :=
 (a = none ∧ len = 0 ∧ cap = 0 ∧ zs = []) ∨
 ∃ x, a = some x ∧ len ≤ cap ∧ cap ≤ maxLen ∧ zs.length = cap ∧ (∀ i, i < zs.length → w.cell? (x.add i) = some (.int k (zs.getD i 0))) ∧ ∀ n ∈ zs, (Lit.int k n).wf = true
theorem code_of {w : World} {a : Option Addr} {len cap : Nat} {zs : List Int} (h : IsRow .u8 w a len cap zs) (hl : len ≤ 1048576) : CodeAt w a len w.heap.size := by
 refine ⟨hl, ?_⟩
 rcases h with ⟨_, h, _⟩ | ⟨x, rfl, h1, h2, h3, h4, h5⟩
 ·exact .inl h
 ·by_cases h0 : len = 0
  ·exact .inl h0
  ·obtain ⟨b, off, spot⟩ := x
   have hspot : spot = none := by simpa [Addr.add] using World.cell?_spot (h4 0 (by omega))
   subst hspot
   have hb := World.block_lt_of_cell? w _ (h4 0 (by omega))
   refine .inr ⟨b, off, rfl, by simpa [Addr.add] using hb, fun k hk => ?_⟩
   have hk' : k < zs.length := by omega
   have hw := bounds_u8 (h5 zs[k] (List.getElem_mem hk'))
   refine ⟨zs[k], hw.1, hw.2, ?_⟩
   have hc := h4 k hk'
   rw [Addr.add_lit] at hc
   simpa [List.getD, List.getElem?_eq_getElem hk'] using hc
theorem len_of {k : IntKind} {w : World} {a : Option Addr} {len cap : Nat} {zs : List Int} (h : IsRow k w a len cap zs) : len ≤ 9223372036854775807 := by
 rcases h with ⟨_, h, _⟩ | ⟨x, rfl, h1, h2, _⟩
 ·omega
 ·unfold maxLen at h2; omega
end Go.Proofs.YtenlhgnobfadgaaGreatDoor
