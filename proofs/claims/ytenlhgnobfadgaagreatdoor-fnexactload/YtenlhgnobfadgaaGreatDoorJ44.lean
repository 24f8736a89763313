/- Texts of stores, joined: Lo5, Lo6. -/
import Derived.Test.YtenlhgnobfadgaaGreatDoorJ43
import Derived.Deep.AppendLies
namespace Go.Proofs.YtenlhgnobfadgaaGreatDoor
open Go.RowKit
set_option linter.unusedSimpArgs false
set_option linter.unusedVariables false
set_option maxRecDepth 100000 in
set_option maxHeartbeats 2000000 in
theorem impl_follows (iv k : Int) (bg : Bool) (n ccap hi base : Nat) (ca av : Option Addr) (cv : Nat) (cs : List Ch) (us : List (Ch × Value)) (w : World) (hn : cs.length ≤ 100) (h : LX KN 50 base hi w (.slice av cs.length cv) cs us) : Calls Tryz.prog 24 #[.agg #[.int .i64 iv, .bool bg, .int .i64 k, .slice ca n ccap], .slice av cs.length cv] w fun e w' => e = .returned (.bool (decide (cs.length = 0) || decide (lastI cs < iv))) ∧ Below w.heap.size w w' := by
  have hA := balloc (Below.refl w.heap.size w) (.cells #[.int .i64 iv, .bool bg, .int .i64 k, .slice ca n ccap] 50)
  by_cases h0 : cs.length = 0
  · have HR := hid (show (decide (cs.length = 0) || decide (lastI cs < iv)) = true by rw [h0]; rfl)
    rw [HR.out]
    clear HR
    rw [h0]
    have HA := hid hA
    clear hA h hn h0
    go_enter Tryz.func24, Tryz.ntmps24
    go_wp2_with fail
    go_quiet (fail)
    go_wp2_with fail
    go_ret
    exact ⟨rfl, btrans HA.out (below_drewN _ _ _)⟩
  · obtain ⟨m, hm⟩ : ∃ m, m = cs.length - 1 := ⟨_, rfl⟩
    have hmc : m < cs.length := by omega
    obtain ⟨gl, rfl, hcl⟩ := lx_id h m hmc
    have hla : lastI cs = (cs[m]).1 := by rw [lastI_at (by omega)]; congr 2; omega
    rw [← hla] at hcl
    replace hcl := keepcell hA hcl
    have HR := hid (show (decide (cs.length = 0) || decide (lastI cs < iv)) = decide (lastI cs < iv) by simp [h0])
    rw [HR.out]
    clear HR
    have hx0 : (w.alloc (.cells #[.int .i64 iv, .bool bg, .int .i64 k, .slice ca n ccap] 50)).cell? ⟨w.heap.size, 0, none⟩ = some (.int .i64 iv) := by rw [World.cell?_alloc_at _ _ _ _ rfl]; rfl
    generalize lastI cs = la at *
    obtain ⟨q, hq⟩ : ∃ q, q = cs.length := ⟨_, rfl⟩
    rw [← hq] at hmc h0 hn ⊢
    clear hla h
    have c2 : ((q : Int) == 0) = false := by rw [beq_eq_false_iff_ne]; omega
    have c3 : ¬ (q : Int) = 0 := by omega
    have hwm : IntKind.i64.wrap ((q : Int) - 1) = (m : Int) := by rw [IntKind.wrap_i64] <;> omega
    have hmI : (m : Int) < (q : Int) := by omega
    have hm0 : (0 : Int) ≤ (m : Int) := by omega
    clear hm hq h0
    have HA := hid hA
    clear hA
    go_enter Tryz.func24, Tryz.ntmps24
    go_upto_region 1 with fail
    generalize w.alloc (.cells #[.int .i64 iv, .bool bg, .int .i64 k, .slice ca n ccap] 50) = Y at *
    go_quiet (fail)
    go_wp2_with fail
    go_ret
    exact ⟨rfl, btrans HA.out (below_drewN _ _ _)⟩
set_option maxRecDepth 100000 in
set_option maxHeartbeats 8000000 in
theorem impl_Load (s : ByteArray) (hs : s.size ≤ 1048576) (w : World) (hLb : LibsR w) (hKw : KWr w) (hCu : CutAll w) (hg : w.cell? ⟨2, 0, none⟩ = some (.iface 235 (.agg #[.pointer (some ⟨10, 67, none⟩)]))) : Calls Tryz.prog 6 #[.string s] w fun e w' => LDA w (ld s s.size 0 0 []) e w' := by
  have hsI : (s.size : Int) ≤ 1048576 := by omega
  obtain ⟨i0, hi0, hz0, hz1, hz2⟩ := info_parts Tryz.infoCh
  obtain ⟨og, hog⟩ : ∃ og, og = ld s s.size 0 0 [] := ⟨_, rfl⟩
  rw [← hog]
  have HOG := hid hog
  have HLB := hid hLb
  have HKW := hid hKw
  have HCU := hid hCu
  have HG := hid hg
  clear hog hLb hKw hCu hg
  go_enter Tryz.func6, Tryz.ntmps6
  go_wp2_with fail
  have HI := hid (lx_noneL w w (Nat.le_refl _))
  have HB0 := hid (balloc (Below.refl w.heap.size w) (.cells #[] 50))
  generalize w.alloc (.cells #[] 50) = W0 at *
  go_loopw [0, 4] (fun tt tv wr => ∃ (a : Nat) (cs : List Ch) (us : List (Ch × Value)), tt = .string (s.extract a s.size) ∧ a ≤ s.size ∧ cs.length ≤ 100 ∧ Hid (og = ld s (s.size - a) a a cs) ∧ Hid (LX KN 50 w.heap.size wr.heap.size wr tv cs us) ∧ Hid (Below w.heap.size w wr)) (fun tt _ _ => match tt with | .string x => x.size | _ => 0)
  case atStart => exact ⟨0, [], [], by rw [ext_all], Nat.zero_le _, by simp, HOG, HI, HB0⟩
  case round =>
    clear HI HB0 HOG
    obtain ⟨a, cs, us, rfl, has, hci, HLD, HV, HB⟩ := hrel
    obtain ⟨av, cv, ev, hlv, hvr⟩ := HV.out.lc.form
    have HVR := hid hvr
    clear hvr
    subst ev
    have hwX := HB.out.size
    obtain ⟨q, hq⟩ : ∃ q, q = cs.length + 1 := ⟨_, rfl⟩
    have hwl : IntKind.i64.wrap ((cs.length : Int) + 1) = (q : Int) := by rw [hq, IntKind.wrap_i64] <;> omega
    have HQ := hid hq
    clear hq
    have hts : (s.extract a s.size).size ≤ 1048576 := by simp; omega
    by_cases ha : a < s.size
    · have hE : (s.extract a s.size).toList.isEmpty = false := some_of _ (by simp; omega)
      rcases first_at s 10 a with ⟨i, h1, h2, h3, h4⟩ | h4
      · obtain ⟨e1, e2, e3⟩ := cut_hit s 10 10 a i rfl h1 h2 h4 h3
        have CC := hid (fun (W : World) (hb : Below w.heap.size w W) => cut_at (s.extract a s.size) 10 10 rfl hts HCU.out hb e1 e2 e3)
        have hlx : (s.extract a i).size ≤ 1048576 := by simp; omega
        have CP := hid (fun (W : World) (hb : Below w.heap.size w W) => impl_readPut (s.extract a i) hlx W (HLB.out.below hb) (HKW.out.below hb) (HCU.out.below hb) (keepcell hb HG.out))
        have HLD2 := hid (HLD.out.trans (ld_at h1 h2 h4))
        have HNO : Hid (ldo cs (s.extract a i) = none → og = ([], q)) := hid (fun ho => HLD2.out.trans ((ld_no (f' := s.size - (i + 1)) (by omega) h3 ho).trans (by rw [HQ.out])))
        have HYE : Hid (∀ l, ldo cs (s.extract a i) = some l → og = ld s (s.size - (i + 1)) (i + 1) (i + 1) l) := hid (fun l ho => HLD2.out.trans (ld_yes (f' := s.size - (i + 1)) (by omega) h3 ho))
        have hmes : (s.extract (i + 1) s.size).size < (s.extract a s.size).size := by simp; omega
        have HMES := hid hmes
        clear HLD HLD2 e1 e2 e3 h3 h4 hmes
        generalize s.extract a i = x at *
        generalize s.extract a s.size = t at *
        cases hl : lin x with
        | none =>
          have HO := hid (HNO.out (ldo_no hl))
          rw [hl] at CP
          unfold RPA at CP
          simp only [Option.isSome_none] at CP
          clear HNO HYE hl
          go_wp2_with fail
          refine (CC.out _ HB.out).mono ?_
          rintro e y1 ⟨rfl, hb1⟩
          replace HB := hid (btrans HB.out hb1)
          clear hb1 CC
          go_wp2_with fail
          refine (CP.out _ HB.out).mono ?_
          rintro e y2 ⟨iv, k, l, sa, sc, rfl, _, _, _, _, _, hb1⟩
          replace HB := hid (balloc (btrans HB.out hb1) (.cells #[.int .i64 iv, .bool false, .int .i64 k, .slice sa l.length sc] 50))
          clear hb1 CP
          go_upto_region 5 with fail
          generalize y2.alloc (.cells #[.int .i64 iv, .bool false, .int .i64 k, .slice sa l.length sc] 50) = Y5 at *
          go_wp2_with fail
          go_ret2
          exact lda_no HO.out HB.out
        | some c =>
          have HL := hid hl
          rw [hl] at CP
          unfold RPA at CP
          simp only [Option.isSome_some] at CP
          clear hl
          obtain ⟨fb, hfb⟩ : ∃ fb, fb = (decide (cs.length = 0) || decide (lastI cs < c.1)) := ⟨_, rfl⟩
          have HFB := hid hfb
          clear hfb
          have HP2 : Hid (∀ (y2 : World), Below w.heap.size w y2 → True) := hid (fun _ _ => trivial)
          clear HP2
          cases fb
          · have hz : cs.length ≠ 0 ∧ c.1 ≤ lastI cs := by
              have := HFB.out
              simp only [Bool.false_eq, Bool.or_eq_false_iff, decide_eq_false_iff_not] at this
              exact ⟨this.1, by omega⟩
            have HO := hid (HNO.out (ldo_last HL.out hz.1 hz.2))
            clear HNO HYE hz
            go_wp2_with fail
            refine (CC.out _ HB.out).mono ?_
            rintro e y1 ⟨rfl, hb1⟩
            replace HB := hid (btrans HB.out hb1)
            replace HV := hid (HV.out.below hb1)
            have hs1 := hb1.size
            clear hb1 CC
            go_wp2_with fail
            have hwy := HB.out.size
            refine (CP.out _ HB.out).mono ?_
            rintro e y2 ⟨iv, k, l, sa, sc, rfl, hyc, hl60, hsc, hso, hsb, hb1⟩
            obtain ⟨rfl, hl0⟩ := hyc _ rfl
            obtain ⟨b, rfl, hpo⟩ := own_inL hso hl0
            have hbW := hsb b 0 rfl
            have hA := balloc (Below.refl y2.heap.size y2) (.cells #[.int .i64 iv, .bool false, .int .i64 k, .slice (some ⟨b, 0, none⟩) l.length sc] 50)
            have gB := new_alloc y2 y2.heap.size (.cells #[.int .i64 iv, .bool false, .int .i64 k, .slice (some ⟨b, 0, none⟩) l.length sc] 50) rfl
            replace HV := hid ((HV.out.below hb1).below hA)
            replace HB := hid (btrans (btrans HB.out hb1) hA)
            replace hpo : PtsOwn (y2.alloc (.cells #[.int .i64 iv, .bool false, .int .i64 k, .slice (some ⟨b, 0, none⟩) l.length sc] 50)) b l := own_blk hpo (hA.block b hpo.1) (Nat.lt_of_lt_of_le hpo.1 hA.size)
            have hs2 := hb1.size
            have hs4 := hA.size
            simp only [] at HFB
            clear hb1 CP hA hso hsb
            go_upto_region 5 with fail
            generalize y2.alloc (.cells #[.int .i64 iv, .bool false, .int .i64 k, .slice (some ⟨b, 0, none⟩) l.length sc] 50) = Y at *
            have CF := hid (fun (W : World) (hb : Below Y.heap.size Y W) => impl_follows iv k false l.length sc _ _ (some ⟨b, 0, none⟩) av cv cs us W hci (HV.out.below hb))
            obtain ⟨⟨d0, d1, d2, d3⟩, _⟩ := cell4p gB
            go_wp2_with fail
            refine (CF.out _ (Below.refl _ _)).mono ?_
            rintro e y3 ⟨rfl, hb3⟩
            replace HB := hid (btrans HB.out hb3)
            clear hb3
            rw [← HFB.out]
            go_wp2_with fail
            go_ret2
            exact lda_no HO.out HB.out
          · have hz : cs.length = 0 ∨ lastI cs < c.1 := by
              have := HFB.out
              simp only [Bool.true_eq, Bool.or_eq_true, decide_eq_true_eq] at this
              exact this
            by_cases h100 : cs.length = 100
            · have c6 : (cs.length : Int) = 100 := by omega
              have c7 : ((cs.length : Int) == 100) = true := by rw [c6]; rfl
              have HO := hid (HNO.out (ldo_full (by omega)))
              clear HNO HYE hz c6 h100
              go_wp2_with fail
              refine (CC.out _ HB.out).mono ?_
              rintro e y1 ⟨rfl, hb1⟩
              replace HB := hid (btrans HB.out hb1)
              replace HV := hid (HV.out.below hb1)
              have hs1 := hb1.size
              clear hb1 CC
              go_wp2_with fail
              have hwy := HB.out.size
              refine (CP.out _ HB.out).mono ?_
              rintro e y2 ⟨iv, k, l, sa, sc, rfl, hyc, hl60, hsc, hso, hsb, hb1⟩
              obtain ⟨rfl, hl0⟩ := hyc _ rfl
              obtain ⟨b, rfl, hpo⟩ := own_inL hso hl0
              have hbW := hsb b 0 rfl
              have hA := balloc (Below.refl y2.heap.size y2) (.cells #[.int .i64 iv, .bool false, .int .i64 k, .slice (some ⟨b, 0, none⟩) l.length sc] 50)
              have gB := new_alloc y2 y2.heap.size (.cells #[.int .i64 iv, .bool false, .int .i64 k, .slice (some ⟨b, 0, none⟩) l.length sc] 50) rfl
              replace HV := hid ((HV.out.below hb1).below hA)
              replace HB := hid (btrans (btrans HB.out hb1) hA)
              replace hpo : PtsOwn (y2.alloc (.cells #[.int .i64 iv, .bool false, .int .i64 k, .slice (some ⟨b, 0, none⟩) l.length sc] 50)) b l := own_blk hpo (hA.block b hpo.1) (Nat.lt_of_lt_of_le hpo.1 hA.size)
              have hs2 := hb1.size
              have hs4 := hA.size
              simp only [] at HFB
              clear hb1 CP hA hso hsb
              go_upto_region 5 with fail
              generalize y2.alloc (.cells #[.int .i64 iv, .bool false, .int .i64 k, .slice (some ⟨b, 0, none⟩) l.length sc] 50) = Y at *
              have CF := hid (fun (W : World) (hb : Below Y.heap.size Y W) => impl_follows iv k false l.length sc _ _ (some ⟨b, 0, none⟩) av cv cs us W hci (HV.out.below hb))
              obtain ⟨⟨d0, d1, d2, d3⟩, _⟩ := cell4p gB
              go_wp2_with fail
              refine (CF.out _ (Below.refl _ _)).mono ?_
              rintro e y3 ⟨rfl, hb3⟩
              replace HB := hid (btrans HB.out hb3)
              clear hb3
              rw [← HFB.out]
              go_wp2_with fail
              go_ret2
              exact lda_no HO.out HB.out
            · have c6 : ¬ (cs.length : Int) = 100 := by omega
              have c7 : ((cs.length : Int) == 100) = false := by rw [beq_eq_false_iff_ne]; exact c6
              have HC0 := hid (show cs.length < 100 by omega)
              have HO := hid (HYE.out _ (ldo_yes HL.out (by omega) hz))
              clear HNO HYE hz h100
              go_wp2_with fail
              refine (CC.out _ HB.out).mono ?_
              rintro e y1 ⟨rfl, hb1⟩
              replace HB := hid (btrans HB.out hb1)
              replace HV := hid (HV.out.below hb1)
              have hs1 := hb1.size
              clear hb1 CC
              go_wp2_with fail
              have hwy := HB.out.size
              refine (CP.out _ HB.out).mono ?_
              rintro e y2 ⟨iv, k, l, sa, sc, rfl, hyc, hl60, hsc, hso, hsb, hb1⟩
              obtain ⟨rfl, hl0⟩ := hyc _ rfl
              obtain ⟨b, rfl, hpo⟩ := own_inL hso hl0
              have hbW := hsb b 0 rfl
              have hA := balloc (Below.refl y2.heap.size y2) (.cells #[.int .i64 iv, .bool false, .int .i64 k, .slice (some ⟨b, 0, none⟩) l.length sc] 50)
              have gB := new_alloc y2 y2.heap.size (.cells #[.int .i64 iv, .bool false, .int .i64 k, .slice (some ⟨b, 0, none⟩) l.length sc] 50) rfl
              replace HV := hid ((HV.out.below hb1).below hA)
              replace HB := hid (btrans (btrans HB.out hb1) hA)
              replace hpo : PtsOwn (y2.alloc (.cells #[.int .i64 iv, .bool false, .int .i64 k, .slice (some ⟨b, 0, none⟩) l.length sc] 50)) b l := own_blk hpo (hA.block b hpo.1) (Nat.lt_of_lt_of_le hpo.1 hA.size)
              have hs2 := hb1.size
              have hs4 := hA.size
              simp only [] at HFB
              clear hb1 CP hA hso hsb
              go_upto_region 5 with fail
              generalize y2.alloc (.cells #[.int .i64 iv, .bool false, .int .i64 k, .slice (some ⟨b, 0, none⟩) l.length sc] 50) = Y at *
              have CF := hid (fun (W : World) (hb : Below Y.heap.size Y W) => impl_follows iv k false l.length sc _ _ (some ⟨b, 0, none⟩) av cv cs us W hci (HV.out.below hb))
              obtain ⟨⟨d0, d1, d2, d3⟩, _⟩ := cell4p gB
              go_wp2_with fail
              refine (CF.out _ (Below.refl _ _)).mono ?_
              rintro e y3 ⟨rfl, hb3⟩
              replace HB := hid (btrans HB.out hb3)
              replace HV := hid (HV.out.below hb3)
              have hs3 := hb3.size
              have gB3 := keepheap hb3 gB
              have hpo3 : PtsOwn y3 b l := own_blk hpo (hb3.block b hpo.1) (Nat.lt_of_lt_of_le hpo.1 hb3.size)
              clear hb3 gB hpo
              have HS4 : Hid (KN.sub b y3.heap.size y3 (.slice (some ⟨b, 0, none⟩) l.length sc) (iv, false, k, l)) := hid (.inl ⟨Nat.le_refl _, b, sc, rfl, hsc, by show l.length ≤ _; omega, Nat.le_refl _, hpo3.1, hpo3⟩)
              have hbl3 := hpo3.1
              clear hpo3
              rw [← HFB.out]
              obtain ⟨⟨x0, x1, x2, x3⟩, _⟩ := cell4p gB3
              have hownZ : y3.ownsRow w.heap.size 50 4 (.slice av cs.length cv) cs.length (flatK KN us) := HV.out.2.1
              have hm4 := HV.out.2.2.2.1
              go_wp2_with (at_builtin; (refine wpList_append_lies _ rfl (.tmp 45) (.tmp 47) 22 rfl w.heap.size 50 i0 _ 4 48 Tryz.underlying22 hi0 hz0 hz1 hz2 rfl (by decide) (.slice av cs.length cv) cs.length (flatK KN us) rfl (hownZ.alloc _) ⟨y3.heap.size, 0, none⟩ 1 1 [.int .i64 iv, .bool false, .int .i64 k, .slice (some ⟨b, 0, none⟩) l.length sc] rfl rfl (World.news_of_block (cs := #[.int .i64 iv, .bool false, .int .i64 k, .slice (some ⟨b, 0, none⟩) l.length sc]) (t := 50) (fr := (0, 0)) (heap_alloc_new y3 _)) (by simp [Value.oneCell']) (by omega) (by unfold maxLen; omega) (by omega) (by simp; omega) (y3.heap.size + 1) (by simp) ?_; intro gg cq w2 hown2 hgrow hat hlt2))
              have hal2 : Below y3.heap.size y3 (y3.alloc (.cells #[.int .i64 iv, .bool false, .int .i64 k, .slice (some ⟨b, 0, none⟩) l.length sc] 50)) := balloc (Below.refl _ _) _
              have hsn := LX.snoc (x := (iv, false, k, l)) (sv := .slice (some ⟨b, 0, none⟩) l.length sc) (l := b) (u := y3.heap.size) (g := gg) (cap := cq) (HV.out.below hal2) (by omega) (by omega) (KN.frame HS4.out (fun c _ hc => hal2.block c (by omega)) hal2.size) hown2 hgrow (by simpa using hat) hlt2
              have hbn : Below w.heap.size w w2 := bgrowL (balloc HB.out _) hgrow (fun c e => (World.ownsRow.lt hownZ c e).1)
              have HSN := hid hsn
              have HBN := hid hbn
              clear hsn hbn hown2 hgrow hal2 hownZ x0 x1 x2 x3
              go_wp2_with fail
              go_roundw
              case rel => exact ⟨i + 1, cs ++ [(iv, false, k, l)], _, rfl, by omega, by rw [List.length_append]; have := HC0.out; simp; omega, HO, hid (by simpa using HSN.out), HBN⟩
              case measure => exact HMES.out
      · obtain ⟨e1, e2, e3⟩ := cut_miss s 10 10 a rfl h4
        have CC := hid (fun (W : World) (hb : Below w.heap.size w W) => cut_at (s.extract a s.size) 10 10 rfl hts HCU.out hb e1 e2 e3)
        have CP := hid (fun (W : World) (hb : Below w.heap.size w W) => impl_readPut (s.extract a s.size) hts W (HLB.out.below hb) (HKW.out.below hb) (HCU.out.below hb) (keepcell hb HG.out))
        have HO := hid (HLD.out.trans ((ld_none ha h4).trans (by rw [← HQ.out] : ([], cs.length + 1) = (([], q) : List Ch × Nat))))
        unfold RPA at CP
        clear HLD e1 e2 e3 h4
        generalize (lin (s.extract a s.size)).isSome = ob at *
        generalize s.extract a s.size = t at *
        go_wp2_with fail
        refine (CC.out _ HB.out).mono ?_
        rintro e y1 ⟨rfl, hb1⟩
        replace HB := hid (btrans HB.out hb1)
        clear hb1 CC
        go_wp2_with fail
        refine (CP.out _ HB.out).mono ?_
        rintro e y2 ⟨iv, k, l, sa, sc, rfl, _, _, _, _, _, hb1⟩
        replace HB := hid (balloc (btrans HB.out hb1) (.cells #[.int .i64 iv, .bool false, .int .i64 k, .slice sa l.length sc] 50))
        clear hb1 CP
        go_upto_region 5 with fail
        generalize y2.alloc (.cells #[.int .i64 iv, .bool false, .int .i64 k, .slice sa l.length sc] 50) = Y5 at *
        go_wp2_with fail
        go_ret2
        exact lda_no HO.out HB.out
    · have hE : (s.extract a s.size).toList.isEmpty = true := empty_of _ (by simp; omega)
      have hla := HLD.out
      rw [show s.size - a = 0 by omega] at hla
      have HO := hid (hla.trans (ld_end ha))
      clear hla HLD
      go_wp2_with fail
      go_ret2
      exact lda_yes HO.out HV.out.lc rfl HB.out
end Go.Proofs.YtenlhgnobfadgaaGreatDoor
namespace Go.Proofs.YtenlhgnobfadgaaGreatDoor
open Go.RowKit
set_option linter.unusedSimpArgs false
set_option linter.unusedVariables false
theorem mid_belowL {lo hi B : Nat} {w w' : World} (h : Mid lo hi w w') (hb : B ≤ lo) (hs : B ≤ w.heap.size) : Below B w w' := by
  obtain ⟨h1, h2, h3, h4, h5⟩ := h
  exact ⟨h1, h2, h3, h4, fun k hk => h5 k (by omega) (.inl (by omega))⟩
set_option maxRecDepth 100000 in
set_option maxHeartbeats 4000000 in
theorem load_w (s : ByteArray) (hm : s.size ≤ maxLen) (w : World) (hLb : LibsR w) (hKw : KWr w) (hCu : CutAll w) (hg : w.cell? ⟨2, 0, none⟩ = some (.iface 235 (.agg #[.pointer (some ⟨10, 67, none⟩)]))) : Calls Tryz.prog 3 #[.string s] w fun e w' => e = .returned (.bool true) ∧ Below w.heap.size w w' := by
  unfold maxLen at hm
  by_cases hbig : 1048576 < s.size
  · have hd : 1048576 < (s.size : Int) := by omega
    clear hg hLb hKw hCu
    go_enter Tryz.func3, Tryz.ntmps3
    go_wp2_with fail
    go_ret
    exact ⟨rfl, Below.refl _ _⟩
  have hd : (s.size : Int) ≤ 1048576 := by omega
  have hs : s.size ≤ 1048576 := by omega
  have CS := hid (fun w => spec_Load s hs w)
  have CI := hid (fun (W : World) (hb : Below w.heap.size w W) => impl_Load s hs W (hLb.below hb) (hKw.below hb) (hCu.below hb) (keepcell hb hg))
  obtain ⟨hS', hlen⟩ := ld_chS s
  have hS := hid hS'
  clear hS'
  unfold LDA at CS CI
  generalize (ld s s.size 0 0 []).1 = cs at *
  generalize (ld s s.size 0 0 []).2 = ok at *
  have HK := hid (kkc_bound (k0 := 1) hS.out.2 cs.length (Nat.le_refl _))
  clear hg hbig hLb hKw hCu
  go_enter Tryz.func3, Tryz.ntmps3
  go_wp2_with fail
  refine (CS.out _).mono ?_
  rintro e y1 ⟨sa, sc, rfl, hSL, hB⟩
  have S0 := hid hSL
  have B0 := hid hB
  have hz1 := hB.size
  clear hSL hB
  go_wp2_with fail
  refine (CI.out _ B0.out).mono ?_
  rintro e y2 ⟨ga, gc, rfl, hGL, hb2⟩
  have G0 := hid hGL
  replace S0 := hid (S0.out.below hb2)
  replace B0 := hid (btrans B0.out hb2)
  have hz2 := hb2.size
  clear hGL hb2
  generalize y1.heap.size = x1 at *
  go_wp2_with fail
  refine (eq_chs ga sa gc sc cs _ (by omega) G0.out.chsN S0.out.chsN).mono ?_
  rintro e y3 ⟨rfl, hb3⟩
  replace S0 := hid (S0.out.below hb3)
  replace G0 := hid (G0.out.below hb3)
  replace B0 := hid (btrans B0.out hb3)
  have hz3 := hb3.size
  clear hb3
  generalize y2.heap.size = x2 at *
  obtain ⟨k0, k1⟩ := HK.out
  generalize hkz : kkc 1 cs cs.length = kz at *
  have HKZ := hid hkz
  clear hkz
  have hkp : ¬ kz < 0 := by omega
  go_wp2_with fail
  refine (mark_chsH x1 x2 0 0 _ cs 1 _ hS.out (by omega) (by omega) (G0.out.hole (.inr (by omega)))).mono ?_
  rintro e y4 ⟨rfl, hM, hmid⟩
  rw [HKZ.out]
  have hmd := hmid.1
  replace S0 := hid (S0.out.frame (w' := y4) (fun c c1 c2 => hmd.2.2.2.2 c (by omega) (.inl c2)) hmd.2.2.2.1)
  replace B0 := hid (B0.out.trans (mid_belowL hmd (B := w.heap.size) (by omega) (by omega)))
  have M0 := hid hM.lc
  have hz4 := hmd.2.2.2.1
  clear hM hmid hmd G0
  go_wp2_with fail
  refine (held_chsX ga cs.length gc cs 1 _ rfl hS.out (by omega) (by omega) M0.out.chsN).mono ?_
  rintro e y5 ⟨rfl, hw5⟩
  replace hw5 := hw5.symm
  subst hw5
  rw [HKZ.out]
  go_wp2_with fail
  refine (CI.out _ B0.out).mono ?_
  rintro e y6 ⟨ha, hc, rfl, hHL, hb6⟩
  have N0 := hid hHL
  replace S0 := hid (S0.out.below hb6)
  replace M0 := hid (M0.out.below hb6)
  replace B0 := hid (btrans B0.out hb6)
  clear hHL hb6
  go_wp2_with fail
  refine (eq_chs ha sa hc sc cs _ (by omega) N0.out.chsN S0.out.chsN).mono ?_
  rintro e y7 ⟨rfl, hb7⟩
  replace M0 := hid (M0.out.below hb7)
  replace B0 := hid (btrans B0.out hb7)
  clear hb7 N0 S0
  go_wp2_with fail
  refine (held_chsX ga cs.length gc cs 1 _ rfl hS.out (by omega) (by omega) M0.out.chsN).mono ?_
  rintro e y8 ⟨rfl, hw8⟩
  replace hw8 := hw8.symm
  subst hw8
  rw [HKZ.out]
  go_wp2_with fail
  go_ret
  exact ⟨rfl, B0.out⟩
end Go.Proofs.YtenlhgnobfadgaaGreatDoor
