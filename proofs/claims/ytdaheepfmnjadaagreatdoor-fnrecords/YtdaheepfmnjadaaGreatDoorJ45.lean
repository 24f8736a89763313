/- Texts of stores, joined: Lb, Lc, Ld, Lg, Li, Le. -/
import Derived.Test.YtdaheepfmnjadaaGreatDoorJ42
import Derived.Test.YtdaheepfmnjadaaGreatDoorJ43
import Derived.Deep.AppendLies
import Derived.Deep.RegionHeld3
import Derived.Laws.BytesArg
import Derived.Test.YtdaheepfmnjadaaGreatDoorJ44
import Derived.Lib.ConvBytes
namespace Go.Proofs.YtdaheepfmnjadaaGreatDoor
open Go.RowKit
set_option linter.unusedSimpArgs false
set_option linter.unusedVariables false
/-- A list of changes as an element. -/
def KL : Kd (List Ch) where
  sz := 1
  vals := fun x v => [v]
  sub := fun lo up w v x => LC KN lo up w v x
  len := fun _ _ => rfl
  one := by
    rintro lo up w v x h u hu
    obtain ⟨a, c, e, _⟩ := h.form
    simp at hu
    subst hu
    rw [e]; rfl
  frame := fun h hb hs => h.frame hb hs
  top := fun h => h.1
/-- Lists of changes in memory, as they are read. -/
def CsL (w : World) (a : Option Addr) (xss : List (List Ch)) : Prop := xss = [] ∨ ∃ b o, a = some ⟨b, o, none⟩ ∧ b < w.heap.size ∧ ∀ j (h : j < xss.length), ∃ (a' : Option Addr) (cap' : Nat) (N : Nat → Prop), w.cell? ⟨b, o + j, none⟩ = some (.slice a' xss[j].length cap') ∧ Chs N 1099511627776 w a' xss[j]
theorem CsL.below {w w' : World} {a : Option Addr} {xss : List (List Ch)} (h : CsL w a xss) (H : Below w.heap.size w w') : CsL w' a xss := by
  rcases h with h | ⟨b, o, e, hb, h⟩
  · exact .inl h
  · exact .inr ⟨b, o, e, Nat.lt_of_lt_of_le hb H.size, fun j hj => by
      obtain ⟨a', cap', N, h1, h2⟩ := h j hj
      exact ⟨a', cap', N, keepcell H h1, h2.below H⟩⟩
theorem LC.csl {base hi : Nat} {w : World} {a : Option Addr} {n cap : Nat} {xss : List (List Ch)} (h : LC KL base hi w (.slice a n cap) xss) : CsL w a xss := by
  obtain ⟨h0, h⟩ := h
  rcases h with ⟨rfl, _⟩ | ⟨g, cp, ss, lo, up, e, h1, h2, h3, h4, h5, h6⟩
  · exact .inl rfl
  · cases e
    refine .inr ⟨g, 0, rfl, by omega, fun j hj => ?_⟩
    obtain ⟨⟨b1, hb⟩, a2, a3, a4⟩ := h5 j hj
    have k0 := b1 0 (by decide)
    obtain ⟨a', c', e', _⟩ := LC.form (K := KN) hb
    have hb2 : LC KN (lo j) (up j) w (ss j) xss[j] := hb
    rw [e'] at hb2
    refine ⟨a', c', _, ?_, hb2.chsN⟩
    rw [Nat.zero_add]
    have k1 : w.cell? ⟨g, j * 1 + 0, none⟩ = some (ss j) := k0
    rw [show j * 1 + 0 = j by omega] at k1
    rw [k1, e']
def kks (k0 : Int) (xss : List (List Ch)) : Nat → Int
  | 0 => k0
  | j + 1 => kkc (kks k0 xss j) (xss.getD j []) (xss.getD j []).length
theorem getL {xss : List (List Ch)} {j : Nat} (h : j < xss.length) : xss.getD j [] = xss[j] := by
  simp [List.getD_eq_getElem?_getD, List.getElem?_eq_getElem h]
theorem kks_next {k0 : Int} {xss : List (List Ch)} {j : Nat} (h : j < xss.length) : kks k0 xss (j + 1) = kkc (kks k0 xss j) xss[j] xss[j].length := by
  simp only [kks, getL h]
theorem kks_bound {k0 : Int} {xss : List (List Ch)} (hl : ∀ m (h : m < xss.length), chS xss[m]) : ∀ j, j ≤ xss.length → k0 ≤ kks k0 xss j ∧ kks k0 xss j ≤ k0 + (j : Int) * 2199026401280 := by
  intro j
  induction j with
  | zero => intro _; simp [kks]
  | succ j ih =>
    intro hj
    obtain ⟨h1, h2⟩ := ih (by omega)
    have h3 := hl j (by omega)
    obtain ⟨h4, h5⟩ := kkc_bound (k0 := kks k0 xss j) h3.2 xss[j].length (Nat.le_refl _)
    have h6 := h3.1
    rw [kks_next (by omega)]
    constructor <;> omega
def mkS (k0 : Int) (xss : List (List Ch)) : List (List Ch) := xss.mapIdx (fun j x => mkc (kks k0 xss j) x)
theorem mkS_len (k0 : Int) (xss : List (List Ch)) : (mkS k0 xss).length = xss.length := by simp [mkS]
theorem mkS_at {k0 : Int} {xss : List (List Ch)} {j : Nat} (h : j < xss.length) : (mkS k0 xss)[j]'(by rw [mkS_len]; exact h) = mkc (kks k0 xss j) xss[j] := by simp [mkS]
theorem mid_widen {lo hi l u : Nat} {w w' : World} (h : Mid l u w w') (h1 : lo ≤ l) (h2 : u ≤ hi) : Mid lo hi w w' := mid_wide h h1 h2
end Go.Proofs.YtdaheepfmnjadaaGreatDoor
namespace Go.Proofs.YtdaheepfmnjadaaGreatDoor
open Go.RowKit
set_option linter.unusedSimpArgs false
set_option linter.unusedVariables false
theorem Tryz.infoCL : (Tryz.prog.info? 24).map (fun i => (i.zero, i.size, i.bytes)) = some (some (.slice none 0 0), 1, 24) := by kernel_rfl
theorem wrap4 (a : Nat) (h : a ≤ 1048576) : IntKind.i64.wrap ((a : Int) + 4) = (a : Int) + 4 := by
  rw [IntKind.wrap_i64]
  omega
/-- What Records answers. -/
def GRA (w : World) (r : List (List Ch) × Nat) (e : Ending) (w' : World) : Prop :=
  ∃ a cap, e = .returned (.tuple #[.slice a r.1.length cap, .int .i64 r.2]) ∧ LC KL w.heap.size w'.heap.size w' (.slice a r.1.length cap) r.1 ∧ Below w.heap.size w w'
theorem lx_noneL (w w1 : World) (hb : w.heap.size ≤ w1.heap.size) : LX KL 24 w.heap.size (w1.alloc (.cells #[] 24)).heap.size (w1.alloc (.cells #[] 24)) (.slice (some ⟨w1.heap.size, 0, none⟩) 0 0) [] [] := by
  have := World.ownsRow_made (base := w1.heap.size) (e := 24) (size := 1) w1 #[] 0 (Nat.le_refl _) (by unfold maxLen; omega) rfl
  exact (LX.nil (hi := (w1.alloc (.cells #[] 24)).heap.size) this (fun g e => by simp [Value.ownBlock] at e; subst e; simp) (Nat.le_refl _)).mono hb (Nat.le_refl _) (Nat.le_refl _)
theorem gra_mk {w w1 : World} {r : List (List Ch) × Nat} {xss : List (List Ch)} {a : Nat} {av : Option Addr} {cv hi : Nat} (h : r = (xss, a)) (hl : LC KL w.heap.size hi w1 (.slice av xss.length cv) xss) (hb : Below w.heap.size w w1) : GRA w r (.returned (.tuple #[.slice av xss.length cv, .int .i64 a])) w1 := by
  subst h
  exact ⟨_, _, rfl, lc_up hl hl.1 (Nat.le_refl _), hb⟩
theorem RR.len {s : ByteArray} {xss : List (List Ch)} {a : Nat} (h : RR s xss a) : xss.length ≤ s.size := by
  have := (rcs_len s s.size 0).1
  unfold RR at h
  rw [h] at this
  simp at this
  omega
theorem ba_ne {a b : ByteArray} (h : a ≠ b) : (a.toList == b.toList) = false := by
  rw [beq_eq_false_iff_ne]
  intro e
  rw [ByteArray.toList_eq, ByteArray.toList_eq] at e
  exact h (ByteArray.ext (Array.ext' e))
theorem ba_eq {a b : ByteArray} (h : a = b) : (a.toList == b.toList) = true := by rw [h]; simp
theorem recs_small {s : ByteArray} (h : s.size ≤ 100000) : recs s = rcs s s.size 0 := if_pos h
theorem recs_great {s : ByteArray} (h : 100000 < s.size) : recs s = ([], 0) := if_neg (by omega)
set_option maxRecDepth 100000 in
set_option maxHeartbeats 8000000 in
theorem spec_Records (s : ByteArray) (hs : s.size ≤ 1048576) (w : World) : Calls Tryz.prog 7 #[.string s] w fun e w' => GRA w (recs s) e w' := by
  have hmx : s.size ≤ maxLen := by unfold maxLen; omega
  have HI := hid (lx_noneL w w (Nat.le_refl _))
  have HB0 := hid (balloc (Below.refl w.heap.size w) (.cells #[] 24))
  obtain ⟨i0, hi0, hz0, hz1, hz2⟩ := info_parts Tryz.infoCL
  by_cases hgr : 100000 < s.size
  · have HO := hid (recs_great hgr)
    have c0 : ¬ (s.size : Int) ≤ 100000 := by omega
    go_enter Tryz.func7, Tryz.ntmps7
    go_wp2_with fail
    go_loopw [4, 5] (fun tv ti wr => tv = .slice (some ⟨w.heap.size, 0, none⟩) 0 0 ∧ ti = .int .i64 0 ∧ wr = w.alloc (.cells #[] 24)) (fun _ _ _ => 0)
    case atStart => exact ⟨rfl, rfl, rfl⟩
    case round =>
      obtain ⟨rfl, rfl, rfl⟩ := hrel
      go_wp2_with fail
      go_ret2
      exact gra_mk HO.out HI.out.lc HB0.out
  have hsm : s.size ≤ 100000 := by omega
  have c0 : (s.size : Int) ≤ 100000 := by omega
  have HO := hid (recs_small hsm)
  clear hgr
  generalize recs s = rr at *
  go_enter Tryz.func7, Tryz.ntmps7
  go_wp2_with fail
  generalize w.alloc (.cells #[] 24) = W0 at *
  go_loopw [4, 5] (fun tv ti wr => ∃ (a : Nat) (xss : List (List Ch)) (us : List (List Ch × Value)), ti = .int .i64 a ∧ a ≤ s.size ∧ Hid (RR s xss a) ∧ Hid (LX KL 24 w.heap.size wr.heap.size wr tv xss us) ∧ Hid (Below w.heap.size w wr)) (fun _ ti _ => s.size - (intOf ti).toNat)
  case atStart => exact ⟨0, [], [], rfl, Nat.zero_le _, hid (RR.zero s), HI, HB0⟩
  case round =>
    clear HI HB0
    obtain ⟨a, xss, us, rfl, ha, HRR, HV, HB⟩ := hrel
    have hxl := HRR.out.len
    obtain ⟨av, cv, ev, hlv, hvr⟩ := HV.out.lc.form
    clear hvr
    subst ev
    have hwX := HB.out.size
    have ca : (a : Int) ≤ (s.size : Int) := by omega
    have HDN := hid (fun (h : rc1 s a = none) => HO.out.trans (HRR.out.done h))
    by_cases h4 : a + 4 < s.size
    · have c4 : (4 : Int) < (s.size : Int) - (a : Int) := by omega
      have M1 := hid (fun w => spec_rd s ((a : Int) + 4) hmx (by omega) (by omega) w)
      cases h1 : rd s ((a : Int) + 4) with
      | none =>
        rw [h1] at M1
        have HQ := hid (HDN.out (rc1_1 h1))
        clear h1 HRR HDN
        go_wp2_with fail
        refine (M1.out _).mono ?_
        rintro e y2 ⟨rfl, hB2⟩
        simp only [gnN, gnK]
        go_wp2_with fail
        go_ret2
        exact gra_mk HQ.out (HV.out.below hB2).lc (btrans HB.out hB2)
      | some r =>
        obtain ⟨n, fr⟩ := r
        rw [h1] at M1
        have hfr := rd_small s _ n fr h1
        have hpos := rd_pos s (a + 4) n fr h1
        by_cases hn : s.size < fr + n
        · have cn : (s.size : Int) - (fr : Int) < (n : Int) := by omega
          have HQ := hid (HDN.out (rc1_2 h1 hn))
          clear h1 HRR HDN
          go_wp2_with fail
          refine (M1.out _).mono ?_
          rintro e y2 ⟨rfl, hB2⟩
          simp only [gnN, gnK]
          go_wp2_with fail
          go_ret2
          exact gra_mk HQ.out (HV.out.below hB2).lc (btrans HB.out hB2)
        have hn' : fr + n ≤ s.size := by omega
        have cn : ¬ (s.size : Int) - (fr : Int) < (n : Int) := by omega
        have cn1 : (fr : Int) + (n : Int) ≤ (s.size : Int) := by omega
        have cn2 : ¬ (fr : Int) + (n : Int) < (fr : Int) := by omega
        have cn3 : (((fr : Int) + (n : Int))).toNat = fr + n := by omega
        have hbz : (s.extract fr (fr + n)).size ≤ 1048576 := by rw [ext_size s fr (fr + n) hn']; omega
        have M2 := hid (fun w => spec_GetChanges (s.extract fr (fr + n)) hbz w)
        have HC4 := hid (fun hg => HDN.out (rc1_4 h1 hn' hg))
        have HC3 := hid (fun hw => HDN.out (rc1_3 h1 hn' hw))
        have HC5 := hid (fun cs hw hg => HRR.out.next (rc1_5 (cs := cs) h1 hn' hw hg))
        have MS := hid (fun w => spec_sum (s.extract fr (fr + n)) (by unfold maxLen; omega) w)
        have MW := hid (fun w => spec_word (sum (s.extract fr (fr + n))) (sum_lt _) w)
        cases hg : gcS (s.extract fr (fr + n)) with
        | none =>
          have HQ := hid (HC4.out hg)
          rw [hg] at M2
          clear h1 HRR HDN HC3 HC4 HC5 hg MS MW
          unfold GCA at M2
          simp only [Option.getD_none, Option.isSome_none, List.length_nil] at M2
          go_wp2_with fail
          refine (M1.out _).mono ?_
          rintro e y2 ⟨rfl, hB2⟩
          simp only [gnN, gnK]
          go_wp2_with fail
          refine (M2.out _).mono ?_
          rintro e y3 ⟨ga, gc, rfl, hgl, hB3⟩
          have HV3 := hid ((HV.out.below hB2).below hB3)
          have HB3 := hid (btrans (btrans HB.out hB2) hB3)
          have HBd := hid (fun q => Go.RowKit.Below.trans HB3.out (show Below w.heap.size y3 (y3.drewN q) from ⟨rfl, rfl, rfl, Nat.le_refl _, fun _ _ => rfl⟩))
          have HVd := hid (fun q => HV3.out.below (show Below y3.heap.size y3 (y3.drewN q) from ⟨rfl, rfl, rfl, Nat.le_refl _, fun _ _ => rfl⟩))
          clear hgl hB2 hB3
          go_wp2_with fail
          go_quiet (fail)
          go_wp2_with fail
          go_ret2
          exact gra_mk HQ.out (HVd.out _).lc (HBd.out _)
        | some cs =>
          rw [hg] at M2
          unfold GCA at M2
          simp only [Option.getD_some, Option.isSome_some] at M2
          have ce1 : ((a : Int) + 4).toNat = a + 4 := by omega
          have ce2 : (a : Int) + 4 ≤ (s.size : Int) := by omega
          have ce3 : IntKind.i64.wrap ((a : Int) + 4) = (a : Int) + 4 := wrap4 a (by omega)
          have ce4 : (0 : Int) ≤ (a : Int) + 4 := by omega
          have ce5 : ¬ (s.size : Int) < (a : Int) + 4 := by omega
          have ce6 : ¬ (a : Int) + 4 < (a : Int) := by omega
          have ce7 : (a : Int) ≤ (a : Int) + 4 := by omega
          have ce8 : (0 : Int) ≤ (a : Int) := by omega
          have ce9 : a + 4 ≤ s.size := by omega
          by_cases hw : s.extract a (a + 4) = strOfNums (wdL (sum (s.extract fr (fr + n))))
          · have HRN := hid (HC5.out cs hw hg)
            have hww := ba_eq hw
            clear h1 HRR HDN HC3 HC4 HC5 hg hw
            generalize strOfNums (wdL (sum (s.extract fr (fr + n)))) = tw at *
            generalize sum (s.extract fr (fr + n)) = sm at *
            go_wp2_with fail
            refine (M1.out _).mono ?_
            rintro e y2 ⟨rfl, hB2⟩
            simp only [gnN, gnK]
            go_wp2_with fail
            refine (M2.out _).mono ?_
            rintro e y3 ⟨ga, gc, rfl, hgl, hB3⟩
            have HV3 := hid ((HV.out.below hB2).below hB3)
            have HB3 := hid (btrans (btrans HB.out hB2) hB3)
            have hz2' := hB2.size
            have hz3 := hB3.size
            have HG3 := hid hgl
            clear hgl hB2 hB3 HV HB
            go_upto_region 8 with fail
            go_region_held3 (fun _ => True) (trivial)
              (first
                | (go_at_call 25; refine (MS.out _).mono ?_; rintro e z1 ⟨rfl, hz1'⟩; replace hz1' := hz1'.symm; subst hz1')
                | (go_at_call 24; refine (MW.out _).mono ?_; rintro e z2 ⟨rfl, hB4⟩))
            all_goals
              have hB5 := btrans (bdrew (Below.refl y3.heap.size y3)) hB4
              have HV4 := hid (HV3.out.below hB5)
              have HB4 := hid (btrans HB3.out hB5)
              have hz5 := hB5.size
              have HS4 : Hid (KL.sub y2.heap.size y3.heap.size _ (.slice ga cs.length gc) cs) := hid (HG3.out.below hB5)
              clear hB5 hB4 HV3 HB3 HG3
              generalize y2.heap.size = gl at *
              generalize y3.heap.size = gu at *
              go_upto_region 9 with fail
              generalize z2 = W4 at *
              have hownZ : W4.ownsRow w.heap.size 24 1 (.slice av xss.length cv) xss.length (flatK KL us) := HV4.out.2.1
              have hm := HV4.out.2.2.2.1
              go_wp2_with (at_builtin; (refine wpList_append_lies _ rfl (.tmp 63) (.tmp 65) 27 rfl w.heap.size 24 i0 _ 1 24 Tryz.underlying27 hi0 hz0 hz1 hz2 rfl (by decide) (.slice av xss.length cv) xss.length (flatK KL us) rfl (hownZ.alloc _) ⟨W4.heap.size, 0, none⟩ 1 1 [.slice ga cs.length gc] rfl rfl (World.news_of_block (cs := #[.slice ga cs.length gc]) (t := 24) (fr := (0, 0)) (heap_alloc_new W4 _)) (by simp [Value.oneCell']) (by omega) (by unfold maxLen; omega) (by omega) (by simp; omega) (W4.heap.size + 1) (by simp) ?_; intro gg cq w2 hown2 hgrow hat hlt2))
              have hal2 : Below W4.heap.size W4 (W4.alloc (.cells #[.slice ga cs.length gc] 24)) := balloc (Below.refl _ _) _
              have hsn := LX.snoc (K := KL) (x := cs) (sv := .slice ga cs.length gc) (l := gl) (u := gu) (g := gg) (cap := cq) (HV4.out.below hal2) (by omega) (by omega) (KL.frame HS4.out (fun c _ hc => hal2.block c (by have := HS4.out.1; omega)) hal2.size) hown2 hgrow (by simpa using hat) hlt2
              have hbn : Below w.heap.size w w2 := bgrow (balloc HB4.out _) hgrow (fun c e => (World.ownsRow.lt hownZ c e).1)
              have HSN := hid hsn
              have HBN := hid hbn
              clear hsn hbn hown2 hgrow hal2 hownZ
              go_wp2_with fail
              go_roundw
              case rel => exact ⟨fr + n, xss ++ [cs], _, by go_num, by omega, HRN, hid (by simpa using HSN.out), HBN⟩
              case measure => simp [intOf]; omega
          · have HQ := hid (HC3.out hw)
            have hww := ba_ne hw
            clear h1 HRR HDN HC3 HC4 HC5 hg hw
            generalize strOfNums (wdL (sum (s.extract fr (fr + n)))) = tw at *
            generalize sum (s.extract fr (fr + n)) = sm at *
            go_wp2_with fail
            refine (M1.out _).mono ?_
            rintro e y2 ⟨rfl, hB2⟩
            simp only [gnN, gnK]
            go_wp2_with fail
            refine (M2.out _).mono ?_
            rintro e y3 ⟨ga, gc, rfl, hgl, hB3⟩
            have HV3 := hid ((HV.out.below hB2).below hB3)
            have HB3 := hid (btrans (btrans HB.out hB2) hB3)
            clear hgl hB2 hB3 HV HB
            go_upto_region 8 with fail
            go_region_held3 (fun _ => True) (trivial)
              (first
                | (go_at_call 25; refine (MS.out _).mono ?_; rintro e z1 ⟨rfl, hz1'⟩; replace hz1' := hz1'.symm; subst hz1')
                | (go_at_call 24; refine (MW.out _).mono ?_; rintro e z2 ⟨rfl, hB4⟩))
            all_goals
              have hB5 := btrans (bdrew (Below.refl y3.heap.size y3)) hB4
              have HV4 := hid (HV3.out.below hB5)
              have HB4 := hid (btrans HB3.out hB5)
              clear hB5 hB4 HV3 HB3
              go_wp2_with fail
              go_ret2
              exact gra_mk HQ.out HV4.out.lc HB4.out
    · have c4 : ¬ (4 : Int) < (s.size : Int) - (a : Int) := by omega
      have HQ := hid (HDN.out (rc1_short (by omega)))
      clear HRR HDN
      go_wp2_with fail
      go_ret2
      exact gra_mk HQ.out HV.out.lc HB.out
end Go.Proofs.YtdaheepfmnjadaaGreatDoor
namespace Go.Proofs.YtdaheepfmnjadaaGreatDoor
open Go.RowKit
set_option linter.unusedSimpArgs false
set_option linter.unusedVariables false
/-- The bytes of s from e on lie at off of the block g. -/
def BS (w : World) (g off : Nat) (s : ByteArray) (e : Nat) : Prop := ∀ i, e + i < s.size → w.cell? ⟨g, off + i, none⟩ = some (.int .u8 (by8 s (e + i)))
theorem BS.below {w w' : World} {g off : Nat} {s : ByteArray} {e : Nat} (h : BS w g off s e) (hb : Below w.heap.size w w') : BS w' g off s e := fun i hi => keepcell hb (h i hi)
theorem BS.drew {w : World} {g off : Nat} {s : ByteArray} {e : Nat} (h : BS w g off s e) : BS w.drew g off s e := h
theorem nums_ext (s : ByteArray) (a b : Nat) (hab : a ≤ b) (hb : b ≤ s.size) : strOfNums ((List.range (b - a)).map (fun i => ((by8 s (a + i) : Nat) : Int))) = s.extract a b := by
  apply ByteArray.ext
  apply Array.ext'
  rw [Lib.extract_data]
  have hd : (strOfNums ((List.range (b - a)).map (fun i => ((by8 s (a + i) : Nat) : Int)))).data.toList = (List.range (b - a)).map (fun i => UInt8.ofNat (by8 s (a + i))) := by
    simp [strOfNums, Function.comp_def]
  rw [hd]
  have hs : s.data.toList.length = s.size := Array.length_toList
  apply List.ext_getElem?
  intro k
  rw [List.getElem?_map, List.getElem?_take]
  by_cases hk : k < b - a
  · have h1 := byte_at s (a + k) (by omega)
    rw [if_pos hk, List.getElem?_drop, h1, List.getElem?_eq_getElem (by simpa using hk)]
    simp only [List.getElem_range, Option.map_some, Option.some.injEq]
    rw [← by8_at s (a + k) (by omega)]
    simp
  · rw [if_neg hk, List.getElem?_eq_none (by simpa using hk)]; rfl
/-- A part of the log as a text. -/
theorem conv_part {w : World} {g off : Nat} {s : ByteArray} {e : Nat} (h : BS w g off s e) (a b cap : Nat) (hae : e ≤ a) (hab : a ≤ b) (hb : b ≤ s.size) : (convert 22 9 (.slice (some ⟨g, off + (a - e), none⟩) (b - a) cap)).run Tryz.prog w = .ok (.string (s.extract a b)) w := by
  have := run_convert_bytes_arg (P := Tryz.prog) w 22 5 Tryz.underlying22 Tryz.underlying5 g (off + (a - e)) (b - a) cap ((List.range (b - a)).map (fun i => ((by8 s (a + i) : Nat) : Int))) (by simp) (fun i hi => by
    have h1 := h ((a - e) + i) (by omega)
    rw [show off + (a - e) + i = off + ((a - e) + i) by omega, h1, show e + ((a - e) + i) = a + i by omega]
    simp [List.getD_eq_getElem?_getD, List.getElem?_map, List.getElem?_range hi]) 9 Tryz.underlying9
  rw [nums_ext s a b hab hb] at this
  exact this
/-- What cutRecord answers. -/
def CRA (w : World) (o : Option (List Ch × Nat)) (e : Nat) (en : Ending) (w' : World) : Prop :=
  Below w.heap.size w w' ∧ ((o = none ∧ en = .returned (.tuple #[.slice none 0 0, .int .i64 0])) ∨ ∃ cs b a cap, o = some (cs, b) ∧ en = .returned (.tuple #[.slice a cs.length cap, .int .i64 ((b : Int) - (e : Int))]) ∧ LC KN w.heap.size w'.heap.size w' (.slice a cs.length cap) cs)
theorem cra_no {w w' : World} {o : Option (List Ch × Nat)} {e : Nat} (h : o = none) (hb : Below w.heap.size w w') : CRA w o e (.returned (.tuple #[.slice none 0 0, .int .i64 0])) w' := ⟨hb, .inl ⟨h, rfl⟩⟩
theorem wrap2 (f z : Nat) (h1 : f ≤ 1048576) (h2 : z ≤ 1048576) : IntKind.i64.wrap ((f : Int) + (z : Int)) = (f : Int) + (z : Int) := by
  rw [IntKind.wrap_i64]
  omega
theorem ext_none (s : ByteArray) (a : Nat) : s.extract a (a + 0) = ⟨#[]⟩ := by
  apply ByteArray.ext
  apply Array.ext'
  rw [Lib.extract_data]
  simp
theorem conv_none (a : Addr) (c : Nat) (W : World) : (convert 22 9 (.slice (some a) 0 c)).run Tryz.prog W = .ok (.string ⟨#[]⟩) W := by
  rw [run_convert_bytes_string (P := Tryz.prog) W 22 9 5 (some a) 0 c Tryz.underlying22 Tryz.underlying5 Tryz.underlying9, run_bytesToString W _ 0 c [] (by simpa using run_loadCells_list (P := Tryz.prog) W a [] (fun j v hj => by simp at hj)), foldl_push_bytes]
  rfl
set_option maxRecDepth 100000 in
set_option maxHeartbeats 8000000 in
theorem cut_one (s : ByteArray) (e g off cap : Nat) (hs : s.size ≤ 100000) (he : e ≤ s.size) (hcap : s.size - e ≤ cap) (hcb : cap ≤ 9223372036854775807) (w : World) (hB : BS w g off s e) (hg : w.cell? ⟨0, 0, none⟩ = some (.iface 150 (.agg #[.pointer (some ⟨1, 55, none⟩)]))) : Calls Tryz.prog 22 #[.slice (some ⟨g, off, none⟩) (s.size - e : Nat) cap] w fun en w' => CRA w (rc1 s e) e en w' := by
  obtain ⟨n, hn⟩ : ∃ n, n = s.size - e := ⟨_, rfl⟩
  have hne : s.size = e + n := by omega
  rw [← hn]
  rw [← hn] at hcap
  have HNE := hid hne
  obtain ⟨m9, hm9⟩ : ∃ m9, m9 = min n 9 := ⟨_, rfl⟩
  have hmin : min (n : Int) 9 = (m9 : Int) := by omega
  have hm1 : m9 = 9 ∨ (m9 = n ∧ n ≤ 9) := by omega
  have HM9 := hid hm1
  clear hm9
  have hm2 : (m9 : Int) ≤ (cap : Int) := by omega
  have hm3 : (0 : Int) ≤ (m9 : Int) := by omega
  have hcv : (convert 22 9 (.slice (some ⟨g, off, none⟩) m9 cap)).run Tryz.prog w = .ok (.string (s.extract e (e + m9))) w := by
    have := conv_part hB e (e + m9) cap (Nat.le_refl _) (by omega) (by omega)
    rw [show off + (e - e) = off by omega, show e + m9 - e = m9 by omega] at this
    exact this
  have hx9 : (s.extract e (e + m9)).size ≤ maxLen := by rw [ext_size s e (e + m9) (by omega)]; unfold maxLen; omega
  have MR := hid (fun W => impl_rd (s.extract e (e + m9)) 4 hx9 W)
  rw [rd_sub s e (e + m9) (by omega) (by omega) (by omega)] at MR
  clear hx9
  generalize s.extract e (e + m9) = hd at *
  cases h1 : rd s ((e : Int) + 4) with
  | none =>
    have HO := hid (rc1_1 h1)
    rw [h1] at MR
    simp only [Option.map_none, gnN, gnK] at MR
    clear h1 hn hne hm1
    go_enter Tryz.func22, Tryz.ntmps22
    go_wp2_with fail
    refine (MR.out _).mono ?_
    rintro e1 y1 ⟨rfl, hy⟩
    replace hy := hy.symm
    subst hy
    go_wp2_with fail
    go_ret2
    exact cra_no HO.out (Below.refl _ _)
  | some r =>
    obtain ⟨z, fr⟩ := r
    rw [h1] at MR
    have hfs := rd_small s _ z fr h1
    have hpos := rd_pos s (e + 4) z fr h1
    simp only [Option.map_some, gnN, gnK] at MR
    obtain ⟨f, hf⟩ : ∃ f, f = fr - e := ⟨_, rfl⟩
    rw [← hf] at MR
    have hfe : fr = e + f := by omega
    have hf5 : 5 ≤ f := by omega
    have hfn : f ≤ n := by omega
    clear hf
    by_cases hgr : s.size < fr + z
    · have HO := hid (rc1_2 h1 hgr)
      have c1 : (n : Int) - (f : Int) < (z : Int) := by omega
      clear h1 hn hne hfe hm1
      go_enter Tryz.func22, Tryz.ntmps22
      go_wp2_with fail
      refine (MR.out _).mono ?_
      rintro e1 y1 ⟨rfl, hy⟩
      replace hy := hy.symm
      subst hy
      go_wp2_with fail
      go_ret2
      exact cra_no HO.out (Below.refl _ _)
    have hle : fr + z ≤ s.size := by omega
    have c1 : ¬ (n : Int) - (f : Int) < (z : Int) := by omega
    have HC6 : Hid (∀ W, Below w.heap.size w W → (convert 22 9 (.slice (some ⟨g, off + f, none⟩) z z)).run Tryz.prog W = .ok (.string (s.extract fr (fr + z))) W) := hid (fun W hb => by
      have := conv_part (hB.below hb) fr (fr + z) z (by omega) (by omega) hle
      rw [show off + (fr - e) = off + f by omega, show fr + z - fr = z by omega] at this
      exact this)
    have HC7 : Hid (∀ W, Below w.heap.size w W → (convert 22 9 (.slice (some ⟨g, off, none⟩) 4 4)).run Tryz.prog W = .ok (.string (s.extract e (e + 4))) W) := hid (fun W hb => by
      have := conv_part (hB.below hb) e (e + 4) 4 (by omega) (by omega) (by omega)
      rw [show off + (e - e) = off by omega, show e + 4 - e = 4 by omega] at this
      exact this)
    have hbz : (s.extract fr (fr + z)).size ≤ 1048576 := by rw [ext_size s fr (fr + z) hle]; omega
    have HCZ : Hid (z = 0 → ∀ W, ∀ a c, (convert 22 9 (.slice (some a) 0 c)).run Tryz.prog W = .ok (.string (s.extract fr (fr + z))) W) := hid (fun hz W a c => by
      subst hz
      rw [ext_none s fr]
      exact conv_none a c W)
    have MW := hid (fun W => impl_word (s.extract fr (fr + z)) (by unfold maxLen; omega) W)
    have MC := hid (fun (W : World) (hb : Below w.heap.size w W) => impl_GetChanges (s.extract fr (fr + z)) hbz W (keepcell hb hg))
    rw [gc_same] at MC
    have HC3 := hid (fun hw => rc1_3 h1 hle hw)
    have HC4 := hid (fun hq => rc1_4 h1 hle hq)
    have HC5 := hid (fun cs hw hq => rc1_5 (cs := cs) h1 hle hw hq)
    have ci1 : (4 : Int) ≤ (cap : Int) := by omega
    have ci2 : (f : Int) ≤ (f : Int) + (z : Int) := by omega
    have ci3 : (f : Int) + (z : Int) ≤ (cap : Int) := by omega
    have ci4 : IntKind.i64.wrap ((f : Int) + (z : Int)) = (f : Int) + (z : Int) := wrap2 f z (by omega) (by omega)
    have ci5 : ((f : Int) + (z : Int)).toNat = f + z := by omega
    have ci6 : f + z - f = z := by omega
    have ci7 : (0 : Int) ≤ (f : Int) + (z : Int) := by omega
    have ci8 : (0 : Int) ≤ (f : Int) := by omega
    have ci9 : (f : Int) ≤ (cap : Int) := by omega
    have cz : (((fr + z : Nat) : Int)) - (e : Int) = (f : Int) + (z : Int) := by omega
    have HCZ2 := hid cz
    clear h1 cz hbz hle hgr hfs hpos hn hne hfe hm1
    generalize rc1 s e = ro at *
    generalize hbd : s.extract fr (fr + z) = bd at *
    generalize htt : s.extract e (e + 4) = t4 at *
    clear hbd htt
    generalize gcS bd = go at *
    go_enter Tryz.func22, Tryz.ntmps22
    go_wp2_with fail
    refine (MR.out _).mono ?_
    rintro e1 y1 ⟨rfl, hy⟩
    replace hy := hy.symm
    subst hy
    go_upto_region 6 with fail
    go_cut [8, 9] (fun t8 t9 wx => t8 = .slice (some ⟨g, off, none⟩) 4 4 ∧ t9 = .string bd ∧ Below w.heap.size w wx)
    case first =>
      by_cases hz : z = 0
      · replace HCZ := hid (HCZ.out hz)
        subst hz
        clear HC6
        refine wp_region_held_drew (S := (fun w' => ∀ a c, (convert 22 9 (.slice (some a) 0 c)).run Tryz.prog w' = .ok (.string bd) w')) (by kernel_rfl) ?_ (fun hHeld => ?_)
        · exact HCZ.out _
        refine wpAnyH_take (i := 0) (v := ?_) rfl (by kernel_rfl) (by kernel_rfl) (by kernel_rfl) (fun _ _ _ h => h) (Or.inl ⟨by rfl, ?_⟩) hHeld ?_
        rotate_left
        · intro w hSw; (try dsimp only at hSw); go_simp; try (with_reducible rfl)
        try simp only [sq]
        refine wpAnyH_take (i := 1) (v := ?_) rfl (by kernel_rfl) (by kernel_rfl) (by kernel_rfl) (fun _ _ _ h => h) (Or.inl ⟨by rfl, ?_⟩) hHeld ?_
        rotate_left
        · intro w hSw; (try dsimp only at hSw); go_simp; try (with_reducible rfl)
        try simp only [sq]
        refine wpAnyH_take (i := 2) (v := ?_) rfl (by kernel_rfl) (by kernel_rfl) (by kernel_rfl) (fun _ _ _ h => h) (Or.inl ⟨by rfl, ?_⟩) hHeld ?_
        rotate_left
        · intro w hSw; (try dsimp only at hSw); go_simp; try (with_reducible rfl)
        try simp only [sq]
        refine wpAnyH_take (i := 3) (v := ?_) rfl (by kernel_rfl) (by kernel_rfl) (by kernel_rfl) (fun _ _ _ h => h) (Or.inl ⟨by rfl, ?_⟩) hHeld ?_
        rotate_left
        · intro w hSw; (try dsimp only at hSw); go_simp; try (with_reducible rfl)
        try simp only [sq]
        refine wpAnyH_take (i := 4) (v := ?_) rfl (by kernel_rfl) (by kernel_rfl) (by kernel_rfl) (fun _ _ _ h => h) (Or.inl ⟨by rfl, ?_⟩) hHeld ?_
        rotate_left
        · intro w hSw; (try dsimp only at hSw); go_simp; try (with_reducible rfl)
        try simp only [sq]
        refine wpAnyH_take (i := 5) (v := ?_) rfl (by kernel_rfl) (by kernel_rfl) (by kernel_rfl) (fun _ _ _ h => h) (Or.inl ⟨by rfl, ?_⟩) hHeld ?_
        rotate_left
        · intro w hSw; (try dsimp only at hSw); go_simp; try (with_reducible rfl)
        try simp only [sq]
        refine wpAnyH_take (i := 6) (v := ?_) rfl (by kernel_rfl) (by kernel_rfl) (by kernel_rfl) (fun _ _ _ h => h) (Or.inl ⟨by rfl, ?_⟩) hHeld ?_
        rotate_left
        · intro w hSw; (try dsimp only at hSw); go_simp; try (with_reducible rfl)
        try simp only [sq]
        refine wpAnyH_take (i := 7) (v := ?_) rfl (by kernel_rfl) (by kernel_rfl) (by kernel_rfl) (fun _ _ _ h => h) (Or.inl ⟨by rfl, ?_⟩) hHeld ?_
        rotate_left
        · intro w hSw; (try dsimp only at hSw); go_simp; try (with_reducible rfl)
        try simp only [sq]
        refine wpAnyH_take (i := 8) (v := ?_) rfl (by kernel_rfl) (by kernel_rfl) (by kernel_rfl) (fun _ _ _ h => h) (Or.inl ⟨by rfl, ?_⟩) hHeld ?_
        rotate_left
        · intro w hSw; (try dsimp only at hSw); go_simp; try (with_reducible rfl)
        try simp only [sq]
        refine wpAnyH_take (i := 9) (v := ?_) rfl (by kernel_rfl) (by kernel_rfl) (by kernel_rfl) (fun _ _ _ h => h) (Or.inl ⟨by rfl, ?_⟩) hHeld ?_
        rotate_left
        · intro w hSw; (try dsimp only at hSw); go_simp; try (with_reducible rfl)
        try simp only [sq]
        refine wpAnyH_done (by kernel_rfl) ?_ _
        go_wp2_with fail
        go_meet
        exact ⟨rfl, rfl, bdrew (Below.refl _ _)⟩
      · have hz1 : ¬ (f + z - f = 0) := by omega
        have hz2 : ¬ f + z = f := by omega
        have hz3 : ¬ f = f + z := by omega
        refine wp_region_held_drew (S := (fun w' => (convert 22 9 (.slice (some ⟨g, off + f, none⟩) z z)).run Tryz.prog w' = .ok (.string bd) w')) (by kernel_rfl) ?_ (fun hHeld => ?_)
        · exact HC6.out _ (bdrew (Below.refl _ _))
        refine wpAnyH_take (i := 0) (v := ?_) rfl (by kernel_rfl) (by kernel_rfl) (by kernel_rfl) (fun _ _ _ h => h) (Or.inl ⟨by rfl, ?_⟩) hHeld ?_
        rotate_left
        · intro w hSw; (try dsimp only at hSw); go_simp; try (with_reducible rfl)
        try simp only [sq]
        refine wpAnyH_take (i := 1) (v := ?_) rfl (by kernel_rfl) (by kernel_rfl) (by kernel_rfl) (fun _ _ _ h => h) (Or.inl ⟨by rfl, ?_⟩) hHeld ?_
        rotate_left
        · intro w hSw; (try dsimp only at hSw); go_simp; try (with_reducible rfl)
        try simp only [sq]
        refine wpAnyH_take (i := 2) (v := ?_) rfl (by kernel_rfl) (by kernel_rfl) (by kernel_rfl) (fun _ _ _ h => h) (Or.inl ⟨by rfl, ?_⟩) hHeld ?_
        rotate_left
        · intro w hSw; (try dsimp only at hSw); go_simp; try (with_reducible rfl)
        try simp only [sq]
        refine wpAnyH_take (i := 3) (v := ?_) rfl (by kernel_rfl) (by kernel_rfl) (by kernel_rfl) (fun _ _ _ h => h) (Or.inl ⟨by rfl, ?_⟩) hHeld ?_
        rotate_left
        · intro w hSw; (try dsimp only at hSw); go_simp; try (with_reducible rfl)
        try simp only [sq]
        refine wpAnyH_take (i := 4) (v := ?_) rfl (by kernel_rfl) (by kernel_rfl) (by kernel_rfl) (fun _ _ _ h => h) (Or.inl ⟨by rfl, ?_⟩) hHeld ?_
        rotate_left
        · intro w hSw; (try dsimp only at hSw); go_simp; try (with_reducible rfl)
        try simp only [sq]
        refine wpAnyH_take (i := 5) (v := ?_) rfl (by kernel_rfl) (by kernel_rfl) (by kernel_rfl) (fun _ _ _ h => h) (Or.inl ⟨by rfl, ?_⟩) hHeld ?_
        rotate_left
        · intro w hSw; (try dsimp only at hSw); go_simp; try (with_reducible rfl)
        try simp only [sq]
        refine wpAnyH_take (i := 6) (v := ?_) rfl (by kernel_rfl) (by kernel_rfl) (by kernel_rfl) (fun _ _ _ h => h) (Or.inl ⟨by rfl, ?_⟩) hHeld ?_
        rotate_left
        · intro w hSw; (try dsimp only at hSw); go_simp; try (with_reducible rfl)
        try simp only [sq]
        refine wpAnyH_take (i := 7) (v := ?_) rfl (by kernel_rfl) (by kernel_rfl) (by kernel_rfl) (fun _ _ _ h => h) (Or.inl ⟨by rfl, ?_⟩) hHeld ?_
        rotate_left
        · intro w hSw; (try dsimp only at hSw); go_simp; try (with_reducible rfl)
        try simp only [sq]
        refine wpAnyH_take (i := 8) (v := ?_) rfl (by kernel_rfl) (by kernel_rfl) (by kernel_rfl) (fun _ _ _ h => h) (Or.inl ⟨by rfl, ?_⟩) hHeld ?_
        rotate_left
        · intro w hSw; (try dsimp only at hSw); go_simp; try (with_reducible rfl)
        try simp only [sq]
        refine wpAnyH_take (i := 9) (v := ?_) rfl (by kernel_rfl) (by kernel_rfl) (by kernel_rfl) (fun _ _ _ h => h) (Or.inl ⟨by rfl, ?_⟩) hHeld ?_
        rotate_left
        · intro w hSw; (try dsimp only at hSw); go_simp; try (with_reducible rfl)
        try simp only [sq]
        refine wpAnyH_done (by kernel_rfl) ?_ _
        go_wp2_with fail
        go_meet
        exact ⟨rfl, rfl, bdrew (Below.refl _ _)⟩
    case rest =>
      obtain ⟨rfl, rfl, hBc⟩ := hcut
      by_cases hw : t4 = strOfNums (wdL (sum bd))
      · have hww := ba_eq hw
        have HW := hid hw
        clear hw
        generalize strOfNums (wdL (sum bd)) = tw at *
        go_upto_region 7 with fail
        refine wp_region_held_drew (S := (fun w' => (convert 22 9 (.slice (some ⟨g, off, none⟩) 4 4)).run Tryz.prog w' = .ok (.string t4) w')) (by kernel_rfl) ?_ (fun hHeld => ?_)
        · exact HC7.out _ (bdrew hBc)
        refine wpAnyH_take (i := 0) (v := ?_) rfl (by kernel_rfl) (by kernel_rfl) (by kernel_rfl) (fun _ _ _ h => h) (Or.inl ⟨by rfl, ?_⟩) hHeld ?_
        rotate_left
        · intro w hSw; (try dsimp only at hSw); go_simp; try (with_reducible rfl)
        try simp only [sq]
        refine wpAnyH_take (i := 1) (v := ?_) rfl (by kernel_rfl) (by kernel_rfl) (by kernel_rfl) (fun _ _ _ h => h) (Or.inl ⟨by rfl, ?_⟩) hHeld ?_
        rotate_left
        · intro w hSw; (try dsimp only at hSw); go_simp; try (with_reducible rfl)
        try simp only [sq]
        refine wpAnyH_take (i := 2) (v := ?_) rfl (by kernel_rfl) (by kernel_rfl) (by kernel_rfl) (fun _ _ _ h => h) (Or.inl ⟨by rfl, ?_⟩) hHeld ?_
        rotate_left
        · intro w hSw; (try dsimp only at hSw); go_simp; try (with_reducible rfl)
        try simp only [sq]
        refine wpAnyH_ready (rs := [3]) (by kernel_rfl) (by simp) ?_
        refine AllReadyH.cons rfl (fun K hK => ?_) AllReadyH.nil
        try simp only [sq]
        go_simp
        go_at_call 33
        refine (MW.out _).mono ?_
        rintro e2 y5 ⟨rfl, hB5⟩
        go_wp2_with fail
        refine hK.out _ _ ?_ (fun hHeld => ?_)
        · exact HC7.out _ (btrans (bdrew hBc) hB5)
        clear hK K
        try simp only [sq]
        refine wpAnyH_take (i := 4) (v := ?_) rfl (by kernel_rfl) (by kernel_rfl) (by kernel_rfl) (fun _ _ _ h => h) (Or.inl ⟨by rfl, ?_⟩) hHeld ?_
        rotate_left
        · intro w hSw; (try dsimp only at hSw); go_simp; try (with_reducible rfl)
        try simp only [sq]
        refine wpAnyH_done (by kernel_rfl) ?_ _
        have HB6 := hid (btrans (bdrew hBc) hB5)
        replace MC := hid (MC.out _ HB6.out)
        unfold GCA at MC
        cases hgo : go with
        | none =>
          have HQ := hid (HC4.out hgo)
          rw [hgo] at MC
          simp only [Option.getD_none, Option.isSome_none, List.length_nil] at MC
          clear hgo
          go_wp2_with fail
          refine MC.out.mono ?_
          rintro e3 y6 ⟨ga, gc, rfl, hgl, hB6⟩
          have HB7 := hid (btrans HB6.out hB6)
          clear hgl hB6
          go_wp2_with fail
          go_ret2
          exact cra_no HQ.out HB7.out
        | some cs =>
          have HQ := hid (HC5.out cs HW.out hgo)
          rw [hgo] at MC
          simp only [Option.getD_some, Option.isSome_some] at MC
          clear hgo
          go_wp2_with fail
          refine MC.out.mono ?_
          rintro e3 y6 ⟨ga, gc, rfl, hgl, hB6⟩
          have HB7 := hid (btrans HB6.out hB6)
          have HL7 := hid (lc_mono hgl HB6.out.size)
          clear hgl hB6
          go_wp2_with fail
          go_ret2
          exact ⟨HB7.out, .inr ⟨cs, fr + z, ga, gc, HQ.out, by rw [HCZ2.out]; rfl, HL7.out⟩⟩
      · have HQ := hid (HC3.out hw)
        have hww := ba_ne hw
        clear hw
        generalize strOfNums (wdL (sum bd)) = tw at *
        go_upto_region 7 with fail
        refine wp_region_held_drew (S := (fun w' => (convert 22 9 (.slice (some ⟨g, off, none⟩) 4 4)).run Tryz.prog w' = .ok (.string t4) w')) (by kernel_rfl) ?_ (fun hHeld => ?_)
        · exact HC7.out _ (bdrew hBc)
        refine wpAnyH_take (i := 0) (v := ?_) rfl (by kernel_rfl) (by kernel_rfl) (by kernel_rfl) (fun _ _ _ h => h) (Or.inl ⟨by rfl, ?_⟩) hHeld ?_
        rotate_left
        · intro w hSw; (try dsimp only at hSw); go_simp; try (with_reducible rfl)
        try simp only [sq]
        refine wpAnyH_take (i := 1) (v := ?_) rfl (by kernel_rfl) (by kernel_rfl) (by kernel_rfl) (fun _ _ _ h => h) (Or.inl ⟨by rfl, ?_⟩) hHeld ?_
        rotate_left
        · intro w hSw; (try dsimp only at hSw); go_simp; try (with_reducible rfl)
        try simp only [sq]
        refine wpAnyH_take (i := 2) (v := ?_) rfl (by kernel_rfl) (by kernel_rfl) (by kernel_rfl) (fun _ _ _ h => h) (Or.inl ⟨by rfl, ?_⟩) hHeld ?_
        rotate_left
        · intro w hSw; (try dsimp only at hSw); go_simp; try (with_reducible rfl)
        try simp only [sq]
        refine wpAnyH_ready (rs := [3]) (by kernel_rfl) (by simp) ?_
        refine AllReadyH.cons rfl (fun K hK => ?_) AllReadyH.nil
        try simp only [sq]
        go_simp
        go_at_call 33
        refine (MW.out _).mono ?_
        rintro e2 y5 ⟨rfl, hB5⟩
        go_wp2_with fail
        refine hK.out _ _ ?_ (fun hHeld => ?_)
        · exact HC7.out _ (btrans (bdrew hBc) hB5)
        clear hK K
        try simp only [sq]
        refine wpAnyH_take (i := 4) (v := ?_) rfl (by kernel_rfl) (by kernel_rfl) (by kernel_rfl) (fun _ _ _ h => h) (Or.inl ⟨by rfl, ?_⟩) hHeld ?_
        rotate_left
        · intro w hSw; (try dsimp only at hSw); go_simp; try (with_reducible rfl)
        try simp only [sq]
        refine wpAnyH_done (by kernel_rfl) ?_ _
        have HB6 := hid (btrans (bdrew hBc) hB5)
        go_wp2_with fail
        go_ret2
        exact cra_no HQ.out HB6.out
end Go.Proofs.YtdaheepfmnjadaaGreatDoor
namespace Go.Proofs.YtdaheepfmnjadaaGreatDoor
open Go.RowKit
set_option linter.unusedSimpArgs false
set_option linter.unusedVariables false
/-- Two texts that begin alike. -/
def Agree (s t : ByteArray) (e : Nat) : Prop := e ≤ s.size ∧ e ≤ t.size ∧ ∀ k, k < e → by8 s k = by8 t k
theorem Agree.less {s t : ByteArray} {e d : Nat} (h : Agree s t e) (hd : d ≤ e) : Agree s t d := ⟨by have := h.1; omega, by have := h.2.1; omega, fun k hk => h.2.2 k (by omega)⟩
theorem ext_agree {s t : ByteArray} {e a b : Nat} (h : Agree s t e) (hab : a ≤ b) (hb : b ≤ e) : s.extract a b = t.extract a b := by
  obtain ⟨h1, h2, h3⟩ := h
  rw [← nums_ext s a b hab (by omega), ← nums_ext t a b hab (by omega)]
  congr 1
  apply List.map_congr_left
  intro i hi
  rw [List.mem_range] at hi
  rw [h3 (a + i) (by omega)]
theorem acc_agree {s t : ByteArray} {e i : Nat} (h : Agree s t e) : ∀ j, i + j ≤ e → acc s i j = acc t i j
  | 0, _ => rfl
  | j + 1, hj => by
    simp only [acc]
    rw [acc_agree h j (by omega), h.2.2 (i + j) (by omega)]
theorem gn_endA (s : ByteArray) (i : Nat) : ∀ (f j n k : Nat), gn s i f j = some (n, k) → i + j < k
  | 0, j, n, k, h => by simp [gn] at h
  | f + 1, j, n, k, h => by
    simp only [gn] at h
    split at h
    · split at h
      · split at h
        · cases h
        · simp at h; omega
      · have := gn_endA s i f (j + 1) n k h; omega
    · cases h
theorem gn_agree {s t : ByteArray} {e i : Nat} (h : Agree s t e) : ∀ (f j n k : Nat), gn s i f j = some (n, k) → k ≤ e → gn t i f j = some (n, k)
  | 0, j, n, k, hg, hk => by simp [gn] at hg
  | f + 1, j, n, k, hg, hk => by
    have hlt := gn_endA s i (f + 1) j n k hg
    have h8 := h.2.2 (i + j) (by omega)
    simp only [gn] at hg ⊢
    rw [if_pos (by have := h.1; omega)] at hg
    rw [if_pos (by have := h.2.1; omega), ← h8, ← acc_agree h (j + 1) (by omega)]
    split at hg
    · rename_i q
      rw [if_pos q]
      exact hg
    · rename_i q
      rw [if_neg q]
      exact gn_agree h f (j + 1) n k hg hk
theorem rd_agree {s t : ByteArray} {e : Nat} (h : Agree s t e) (i n k : Nat) (hr : rd s (i : Int) = some (n, k)) (hk : k ≤ e) : rd t (i : Int) = some (n, k) := by
  have hlt := rd_pos s i n k hr
  rw [rd_in s i (by have := h.1; omega)] at hr
  rw [rd_in t i (by have := h.2.1; omega)]
  exact gn_agree h 5 0 n k hr hk
theorem rc1_inv {s : ByteArray} {a b : Nat} {cs : List Ch} (h : rc1 s a = some (cs, b)) : ∃ n fr, rd s ((a : Int) + 4) = some (n, fr) ∧ fr + n ≤ s.size ∧ s.extract a (a + 4) = strOfNums (wdL (sum (s.extract fr (fr + n)))) ∧ gcS (s.extract fr (fr + n)) = some cs ∧ b = fr + n := by
  unfold rc1 at h
  split at h
  · cases h
  · rename_i n fr h1
    split at h
    · cases h
    · split at h
      · rename_i hn hw
        rw [Option.map_eq_some_iff] at h
        obtain ⟨x, hx, hx2⟩ := h
        simp only [Prod.mk.injEq] at hx2
        obtain ⟨rfl, rfl⟩ := hx2
        exact ⟨n, fr, h1, by omega, hw, hx, rfl⟩
      · cases h
theorem rc1_agree {s t : ByteArray} {e a b : Nat} {cs : List Ch} (h : Agree s t e) (hr : rc1 s a = some (cs, b)) (hb : b ≤ e) : rc1 t a = some (cs, b) := by
  obtain ⟨n, fr, h1, h2, h3, h4, rfl⟩ := rc1_inv hr
  have hp := rd_pos s (a + 4) n fr h1
  have h1' := rd_agree h (a + 4) n fr h1 (by omega)
  have e1 := ext_agree h (a := fr) (b := fr + n) (by omega) hb
  have e2 := ext_agree h (a := a) (b := a + 4) (by omega) (by omega)
  rw [e1, e2] at h3
  rw [e1] at h4
  exact rc1_5 h1' (by have := h.2.1; omega) h3 h4
theorem rcs_ge (s : ByteArray) : ∀ f a, a ≤ (rcs s f a).2
  | 0, a => by simp [rcs]
  | f + 1, a => by
    simp only [rcs]
    cases hr : rc1 s a with
    | none => exact Nat.le_refl _
    | some r =>
      obtain ⟨cs, b⟩ := r
      have := rc1_facts hr
      have := rcs_ge s f b
      simp only
      omega
theorem rcs_agree {s t : ByteArray} : ∀ (f a : Nat), Agree s t (rcs s f a).2 → rcs t t.size a = ((rcs s f a).1 ++ (rcs t t.size (rcs s f a).2).1, (rcs t t.size (rcs s f a).2).2)
  | 0, a, h => by simp [rcs]
  | f + 1, a, h => by
    cases hr : rc1 s a with
    | none =>
      have e : rcs s (f + 1) a = ([], a) := by simp only [rcs, hr]
      rw [e]; simp
    | some r =>
      obtain ⟨cs, b⟩ := r
      have e : rcs s (f + 1) a = (cs :: (rcs s f b).1, (rcs s f b).2) := by simp only [rcs, hr]
      rw [e] at h ⊢
      have hge := rcs_ge s f b
      have ih := rcs_agree f b h
      rw [rcs_yes (rc1_agree h hr hge), ih]
      rfl
theorem ext_at {s : ByteArray} {p : Nat} {l : List UInt8} (h : At s p l) : s.extract p (p + l.length) = ⟨l.toArray⟩ := by
  obtain ⟨a, b, h1, h2⟩ := h
  apply ByteArray.ext
  apply Array.ext'
  rw [Lib.extract_data, h1, show p + l.length - p = l.length by omega]
  subst h2
  simp
theorem nums_inj {xs ys : List Int} (hx : ∀ x ∈ xs, 0 ≤ x ∧ x < 256) (hy : ∀ x ∈ ys, 0 ≤ x ∧ x < 256) (h : strOfNums xs = strOfNums ys) : xs = ys := by
  have h1 : (strOfNums xs).data.toList = (strOfNums ys).data.toList := by rw [h]
  rw [strOfNums_data, strOfNums_data] at h1
  have h2 := congrArg (List.map (fun u : UInt8 => (u.toNat : Int))) h1
  rw [back_nums xs hx, back_nums ys hy] at h2
  exact h2
theorem wdL_in {n : Nat} (h : n < 4294967296) : ∀ x ∈ wdL n, 0 ≤ x ∧ x < 256 := by
  intro x hx
  simp only [wdL, List.mem_cons, List.not_mem_nil, or_false] at hx
  rcases hx with rfl | rfl | rfl | rfl <;> omega
theorem word_inj {n m : Nat} (hn : n < 4294967296) (hm : m < 4294967296) (h : strOfNums (wdL n) = strOfNums (wdL m)) : n = m := by
  have := nums_inj (wdL_in hn) (wdL_in hm) h
  simp only [wdL, List.cons.injEq, and_true] at this
  omega
theorem word_len (n : Nat) : (strOfNums (wdL n)).data.toList.length = 4 := by rw [strOfNums_data]; simp [wdL]
/-- The bytes of a record lie at the end of a log: what is read there. -/
theorem rec_at {s : ByteArray} {a : Nat} {cs : List Ch} (hp : pcb cs = true) (h : At s a (recT cs).data.toList) (hz : s.size = a + (recT cs).size) : ∃ fr, rd s ((a : Int) + 4) = some ((pcT cs).size, fr) ∧ fr + (pcT cs).size = s.size ∧ a + 4 < fr ∧ s.extract a (a + 4) = strOfNums (wdL (sum (pcT cs))) ∧ s.extract fr (fr + (pcT cs).size) = pcT cs ∧ 0 < (pcT cs).size := by
  have hps := pcT_size cs
  have h0 := hps.2 hp
  have ht : (recT cs).data.toList = (strOfNums (wdL (sum (pcT cs)))).data.toList ++ (tx (pcT cs).size ++ (pcT cs).data.toList) := by
    unfold recT
    rw [if_pos hp, ByteArray.data_append, ByteArray.data_append]
    simp [tx]
  have hl : (recT cs).size = 4 + ((tx (pcT cs).size).length + (pcT cs).size) := by
    have e : (recT cs).data.toList.length = (recT cs).size := Array.length_toList
    have e2 : (pcT cs).data.toList.length = (pcT cs).size := Array.length_toList
    rw [← e, ht, List.length_append, List.length_append, word_len, e2]
  rw [ht] at h
  have hw := h.left
  have hr := h.right
  rw [word_len] at hr
  have h1 := rd_tx (pcT cs).size (by omega) hr.left
  have h2 := hr.right
  have e2 : (pcT cs).data.toList.length = (pcT cs).size := Array.length_toList
  have x1 := ext_at hw
  rw [word_len] at x1
  have x2 := ext_at h2
  rw [e2] at x2
  refine ⟨a + 4 + (tx (pcT cs).size).length, h1, by omega, ?_, x1, x2, h0⟩
  have := (put_size (pcT cs).size).1
  have e3 : (tx (pcT cs).size).length = (strOfNums (G 5 (pcT cs).size)).size := by unfold tx; exact Array.length_toList
  omega
theorem rc_more {s : ByteArray} {a : Nat} {cs : List Ch} (hp : pcb cs = true) (h : At s a (recT cs).data.toList) (hz : s.size = a + (recT cs).size) : rc1 s a = some (cs, s.size) := by
  obtain ⟨fr, h1, h2, h3, h4, h5, h6⟩ := rec_at hp h hz
  have h7 := rc1_5 (cs := cs) h1 (by omega) (by rw [h5]; exact h4) (by rw [h5]; exact (gc_back rfl h6).1)
  rw [h2] at h7
  exact h7
theorem rc_cut {s t : ByteArray} {a : Nat} {cs : List Ch} (hp : pcb cs = true) (h : At s a (recT cs).data.toList) (hz : s.size = a + (recT cs).size) (ht : t.size + 1 = s.size) (ha : Agree s t t.size) : rc1 t a = none := by
  obtain ⟨fr, h1, h2, h3, h4, h5, h6⟩ := rec_at hp h hz
  exact rc1_2 (rd_agree ha (a + 4) _ _ h1 (by omega)) (by omega)
theorem rc_spoilt {s t : ByteArray} {a i : Nat} {cs : List Ch} (hp : pcb cs = true) (h : At s a (recT cs).data.toList) (hz : s.size = a + (recT cs).size) (ht : t.size = s.size) (hi : i < s.size) (hi2 : s.size ≤ i + (pcT cs).size) (hne : by8 s i ≠ by8 t i) (hsm : ∀ k, k ≠ i → by8 s k = by8 t k) : rc1 t a = none := by
  obtain ⟨fr, h1, h2, h3, h4, h5, h6⟩ := rec_at hp h hz
  have hag : Agree s t fr := ⟨by omega, by omega, fun k hk => hsm k (by omega)⟩
  have h1' := rd_agree hag (a + 4) _ _ h1 (Nat.le_refl _)
  refine rc1_3 h1' (by omega) ?_
  rw [← ext_agree hag (a := a) (b := a + 4) (by omega) (by omega), h4]
  intro he
  have hs := word_inj (sum_lt _) (sum_lt _) he
  have hz1 : (t.extract fr (fr + (pcT cs).size)).size = (pcT cs).size := by rw [ext_size t fr (fr + (pcT cs).size) (by omega)]; omega
  have hb1 : ∀ k, k < (pcT cs).size → by8 (pcT cs) k = by8 s (fr + k) := fun k hk => by
    rw [← h5]; exact ext_by8 s fr (fr + (pcT cs).size) k (by omega) (by omega)
  have hb2 : ∀ k, k < (pcT cs).size → by8 (t.extract fr (fr + (pcT cs).size)) k = by8 t (fr + k) := fun k hk => ext_by8 t fr (fr + (pcT cs).size) k (by omega) (by omega)
  refine sum_other (pcT cs) (t.extract fr (fr + (pcT cs).size)) hz1.symm (i - fr) (by omega) ?_ ?_ hs
  · rw [hb1 _ (by omega), hb2 _ (by omega), show fr + (i - fr) = i by omega]; exact hne
  · intro k hk
    by_cases hkl : k < (pcT cs).size
    · rw [hb1 k hkl, hb2 k hkl]; exact hsm _ (by omega)
    · unfold by8
      rw [dif_neg hkl, dif_neg (by rw [hz1]; exact hkl)]
/-- The first part of a log, as it is told, and a record behind it. -/
theorem recs_log {s : ByteArray} (hs : s.size ≤ 100000) : (recs s).2 ≤ s.size ∧ ∀ t : ByteArray, t.size ≤ 100000 → Agree s t (recs s).2 → (rc1 t (recs s).2 = none → recs t = recs s) ∧ ∀ cs, rc1 t (recs s).2 = some (cs, t.size) → recs t = ((recs s).1 ++ [cs], t.size) := by
  rw [recs_small hs]
  refine ⟨(rcs_len s s.size 0).2.1 (Nat.zero_le _), fun t ht ha => ⟨fun hn => ?_, fun cs hc => ?_⟩⟩
  · rw [recs_small ht, rcs_agree s.size 0 ha, rcs_no hn]; simp
  · rw [recs_small ht, rcs_agree s.size 0 ha, rcs_yes hc, rcs_no (s := t) (a := t.size) (rc1_short (by omega))]
end Go.Proofs.YtdaheepfmnjadaaGreatDoor
namespace Go.Proofs.YtdaheepfmnjadaaGreatDoor
open Go.RowKit
set_option linter.unusedSimpArgs false
set_option linter.unusedVariables false
theorem pcT_small (cs : List Ch) : (pcT cs).size ≤ 612 * cs.length + 5 := by
  unfold pcT
  cases h : pcb cs
  · rw [if_neg (by simp)]; exact Nat.zero_le _
  · rw [if_pos rfl]
    unfold pcb at h
    rw [Bool.and_eq_true, decide_eq_true_eq] at h
    have h1 := bodyC_len (cgs_all h.1) cs.length (Nat.le_refl _)
    have e : (⟨(bodyC cs cs.length).toArray⟩ : ByteArray).size = (bodyC cs cs.length).length := List.size_toArray
    omega
theorem recT_small (cs : List Ch) : (recT cs).size ≤ 612 * cs.length + 14 := by
  have h1 := pcT_small cs
  have h2 := put_size (pcT cs).size
  unfold recT
  cases h : pcb cs
  · rw [if_neg (by simp)]; exact Nat.zero_le _
  · rw [if_pos rfl, ByteArray.size_append, ByteArray.size_append, strOfNums_size]
    have : (wdL (sum (pcT cs))).length = 4 := rfl
    rw [this]
    omega
theorem apT_small (s : ByteArray) (cs : List Ch) : (apT s cs).size ≤ s.size + (612 * cs.length + 14) := by
  have := recT_small cs
  unfold apT
  split
  · rw [ByteArray.size_append]; omega
  · omega
theorem by8_get (t : ByteArray) (j : Nat) (hj : j < t.size) : (t.data.toList.getD j 0).toNat = by8 t j := by
  unfold by8
  rw [dif_pos hj]
  simp [List.getD, hj]
  rfl
theorem bytes_at (w : World) (e : TypeId) (t : ByteArray) : ∀ j, j < t.size → (Lib.bytesWorld w e t).cell? ⟨w.heap.size, j, none⟩ = some (.int .u8 ((by8 t j : Nat) : Int)) ∧ (Lib.bytesWorld w e t).frozen? ⟨w.heap.size, j, none⟩ = false := by
  intro j hj
  refine ⟨?_, ?_⟩
  · rw [Lib.bytesWorld_cell w e t j hj, by8_get t j hj]
  · have h := Lib.bytesWorld_at_new w e t
    have hs : t.size ≤ (Lib.bytesCells w e t).size := by simp [Lib.bytesCells]
    simp only [World.frozen?, h]
    simp
    omega
theorem xor_other (b c : Nat) (hb : b < 256) (hc : c < 256) (h0 : c ≠ 0) : ∃ X : Nat, bits .xor .u8 (b : Int) (c : Int) = (X : Int) ∧ X < 256 ∧ X ≠ b := by
  refine ⟨b ^^^ c, u8_xor_nat b c hb hc, Nat.xor_lt_two_pow (n := 8) hb hc, fun h => h0 ?_⟩
  have e : b ^^^ (b ^^^ c) = c := by rw [← Nat.xor_assoc, Nat.xor_self, Nat.zero_xor]
  rw [h, Nat.xor_self] at e
  exact e.symm
theorem xor_q (b q : Nat) (hb : b < 256) : ∃ X : Nat, bits .xor .u8 (b : Int) (IntKind.u8.wrap (IntKind.i64.wrap (1 + (q : Int).tmod 255))) = (X : Int) ∧ X < 256 ∧ X ≠ b := by
  have e : IntKind.u8.wrap (IntKind.i64.wrap (1 + (q : Int).tmod 255)) = ((1 + q % 255 : Nat) : Int) := by
    have e0 : (q : Int).tmod 255 = ((q % 255 : Nat) : Int) := rfl
    rw [e0, IntWalk.i64_in _ ⟨by omega, by omega⟩, IntWalk.u8_in _ ⟨by omega, by omega⟩]
    omega
  rw [e]
  exact xor_other b (1 + q % 255) hb (by omega) (by omega)
/-- The text t with X for the byte at i. -/
def chg (t : ByteArray) (i X : Nat) : ByteArray := strOfNums ((List.range t.size).map (fun j => if j = i then (X : Int) else (by8 t j : Int)))
theorem chg_size (t : ByteArray) (i X : Nat) : (chg t i X).size = t.size := by unfold chg; rw [strOfNums_size]; simp
theorem chg_by8 (t : ByteArray) (i X k : Nat) (hX : X < 256) (hi : i < t.size) : by8 (chg t i X) k = if k = i then X else by8 t k := by
  by_cases hk : k < t.size
  · have h1 : k < (chg t i X).size := by rw [chg_size]; exact hk
    rw [← by8_get (chg t i X) k h1]
    have h2 := by8_lt t k
    unfold chg
    rw [strOfNums_data]
    simp only [List.getD, List.getElem?_map, List.getElem?_range hk, Option.map_some, Option.getD_some]
    split
    · simp only [Int.toNat_natCast, UInt8.toNat_ofNat']; omega
    · simp only [Int.toNat_natCast, UInt8.toNat_ofNat']; omega
  · have h1 : ¬ k < (chg t i X).size := by rw [chg_size]; exact hk
    unfold by8
    rw [dif_neg h1, dif_neg hk, if_neg (by omega)]
theorem chg_sum (t : ByteArray) (i X : Nat) (hX : X < 256) (hi : i < t.size) (hne : X ≠ by8 t i) : sum (chg t i X) ≠ sum t := by
  refine sum_other (chg t i X) t (chg_size t i X) i (by rw [chg_size]; exact hi) ?_ (fun k hk => ?_)
  · rw [chg_by8 t i X i hX hi, if_pos rfl]; exact hne
  · rw [chg_by8 t i X k hX hi, if_neg hk]
theorem chg_conv (t : ByteArray) (i X G cp : Nat) (y : World) (hi : i < t.size) (hc : ∀ j, j < t.size → y.cell? ⟨G, j, none⟩ = some (.int .u8 ((by8 t j : Nat) : Int)) ∧ y.frozen? ⟨G, j, none⟩ = false) :
    (convert 22 9 (.slice (some ⟨G, 0, none⟩) t.size cp)).run Tryz.prog (y.setCell ⟨G, i, none⟩ (.int .u8 (X : Int))) = .ok (.string (chg t i X)) (y.setCell ⟨G, i, none⟩ (.int .u8 (X : Int))) := by
  refine run_convert_bytes_arg _ 22 5 Tryz.underlying22 Tryz.underlying5 G 0 t.size cp _ (by simp) (fun j hj => ?_) 9 Tryz.underlying9
  simp only [List.getD, List.getElem?_map, List.getElem?_range hj, Option.map_some, Option.getD_some, Nat.zero_add]
  by_cases h : j = i
  · subst h
    rw [if_pos rfl]
    exact World.cell?_setCell_same _ _ _ (hc j hj).1
  · rw [if_neg h]
    exact (World.cell?_setCell_other _ _ _ _ (by intro e; injection e with e1 e2 e3; omega)).trans (hc j hj).1
set_option maxRecDepth 100000 in
set_option maxHeartbeats 4000000 in
theorem log_r (w : World) (p : Nat) (a : Option Addr) (len cap : Nat) (h : Ready w p a len cap) : Calls Tryz.prog 19 #[.pointer (some ⟨p, 0, none⟩)] w fun e w' => ∃ t : ByteArray, e = .returned (.string t) ∧ t.size ≤ 9300 ∧ Ready w' p a len cap ∧ w.grownBy w' (some p) := by
  go_enter Tryz.func19, Tryz.ntmps19
  go_wp2_with fail
  refine (below_r _ p a len cap 6 (by omega) (by omega) h).mono ?_
  rintro e w1 ⟨x, rfl, x0, x1, hr1, hg1⟩
  obtain ⟨m, rfl⟩ := Int.eq_ofNat_of_zero_le x0
  have hm : m ≤ 5 := by omega
  have HR1 := hid hr1
  have HG1 := hid hg1
  clear hr1 hg1 h x0 x1
  go_wp2_with fail
  go_loopw [3, 5] (fun tv ti wr => ∃ (i : Nat) (s : ByteArray), tv = .string s ∧ ti = .int .i64 i ∧ i ≤ m ∧ s.size ≤ 1850 * i ∧ Hid (Ready wr p a len cap) ∧ Hid (w.grownBy wr (some p))) (fun _ ti _ => m - (intOf ti).toNat)
  case atStart => exact ⟨0, _, rfl, rfl, Nat.zero_le _, by decide, HR1, HG1⟩
  case round =>
    clear HR1 HG1
    obtain ⟨i, s, rfl, rfl, hi, hs, HR, HG⟩ := hrel
    by_cases hlt : i < m
    · have c1 : (i : Int) < (m : Int) := by omega
      go_wp2_with fail
      refine (below_r _ p a len cap 3 (by omega) (by omega) HR.out).mono ?_
      rintro e w2 ⟨y, rfl, y0, y1, hr2, hg2⟩
      obtain ⟨k, rfl⟩ := Int.eq_ofNat_of_zero_le y0
      have CH := hid (changes_r w2 p a len cap (1 + k) (by omega) hr2)
      rw [show ((1 + k : Nat) : Int) = 1 + (k : Int) by omega] at CH
      have hk : k ≤ 2 := by omega
      have HG2 := hid (grown_trans HG.out hg2)
      clear hr2 hg2 y0 y1 HR HG
      go_wp2_with fail
      refine CH.out.mono ?_
      rintro e w3 ⟨cs, ao, cp, rfl, hcl, hch, hao, hr3, hg3⟩
      have HG3 := hid (grown_trans HG2.out hg3)
      have AP := hid (spec_Append s (by unfold maxLen; omega) ao cp cs w3 (by omega) hch)
      have hsm := apT_small s cs
      clear CH HG2 hch hao hg3
      generalize apT s cs = t at *
      generalize apb s cs = ab at *
      go_wp2_with fail
      refine AP.out.mono ?_
      rintro e w4 ⟨rfl, hb4⟩
      have HR4 := hid (hr3.bel hb4)
      have HG4 := hid (grown_bel HG3.out hb4)
      clear hb4 hr3 HG3 AP
      go_wp2_with fail
      go_roundw
      case rel => exact ⟨i + 1, t, rfl, by go_num, by omega, by omega, HR4, HG4⟩
      case measure => simp [intOf]; omega
    · have c1 : (m : Int) ≤ (i : Int) := by omega
      go_wp2_with fail
      refine (spoil_r _ p a len cap s (by omega) HR.out).mono ?_
      rintro e w5 ⟨t, rfl, ht, hr5, hg5⟩
      have HG5 := hid (grown_trans HG.out hg5)
      clear hg5 HG
      go_wp2_with fail
      go_ret
      exact ⟨t, rfl, by omega, hr5, HG5.out⟩
set_option maxRecDepth 100000 in
set_option maxHeartbeats 4000000 in
theorem draw_append (w : World) (a : Option Addr) (len cap : Nat) (hc : CodeAt w a len w.heap.size) : Calls Tryz.prog 5 #[.slice a len cap] w fun e w' => ∃ (t : ByteArray) (cs : List Ch) (ao : Option Addr) (cp : Nat) (N : Nat → Prop), e = .returned (.tuple #[.string t, .slice ao cs.length cp]) ∧ t.size ≤ 9300 ∧ cs.length ≤ 3 ∧ Chs N 1099511627776 w' ao cs ∧ Below w.heap.size w w' := by
  go_enter Tryz.func5, Tryz.ntmps5
  go_wp2_with fail
  refine (new_q _ a len cap hc).mono ?_
  rintro e v1 ⟨p, rfl, hp0, hr, hold, hb0⟩
  clear hold hc
  go_wp2_with fail
  refine (log_r _ p a len cap hr).mono ?_
  rintro e v2 ⟨t, rfl, ht, hr2, hg2⟩
  have hb2 := bgrown hb0 hg2 (by omega)
  clear hg2 hb0 hr
  go_wp2_with fail
  refine (below_r _ p a len cap 4 (by omega) (by omega) hr2).mono ?_
  rintro e v3 ⟨y, rfl, y0, y1, hr3, hg3⟩
  obtain ⟨k, rfl⟩ := Int.eq_ofNat_of_zero_le y0
  have hb3 := bgrown hb2 hg3 (by omega)
  clear hg3 hb2 hr2
  go_wp2_with fail
  refine (changes_r _ p a len cap k (by omega) hr3).mono ?_
  rintro e v4 ⟨cs, ao, cp, rfl, hcl, hch, hao, hr4, hg4⟩
  have hb4 := bgrown hb3 hg4 (by omega)
  clear hg4 hb3 hr3
  go_wp2_with fail
  go_ret2
  exact ⟨t, cs, ao, cp, _, rfl, ht, by omega, hch, hb4⟩
set_option maxRecDepth 100000 in
set_option maxHeartbeats 4000000 in
theorem draw_getch (w : World) (a : Option Addr) (len cap : Nat) (hc : CodeAt w a len w.heap.size) : Calls Tryz.prog 10 #[.slice a len cap] w fun e w' => ∃ t : ByteArray, e = .returned (.string t) ∧ t.size ≤ 9300 ∧ Below w.heap.size w w' := by
  go_enter Tryz.func10, Tryz.ntmps10
  go_wp2_with fail
  refine (new_q _ a len cap hc).mono ?_
  rintro e v1 ⟨p, rfl, hp0, hr, hold, hb0⟩
  clear hold hc
  go_wp2_with fail
  refine (below_r _ p a len cap 5 (by omega) (by omega) hr).mono ?_
  rintro e v3 ⟨y, rfl, y0, y1, hr3, hg3⟩
  obtain ⟨k, rfl⟩ := Int.eq_ofNat_of_zero_le y0
  have hb3 := bgrown hb0 hg3 (by omega)
  clear hg3 hb0 hr
  go_wp2_with fail
  refine (changes_r _ p a len cap k (by omega) hr3).mono ?_
  rintro e v4 ⟨cs, ao, cp, rfl, hcl, hch, hao, hr4, hg4⟩
  have hb4 := bgrown hb3 hg4 (by omega)
  have hsm := pcT_small cs
  have PC := hid (spec_PutChanges ao cp cs v4 (by omega) hch)
  clear hg4 hb3 hr3 hch hao
  generalize pcT cs = tt at *
  go_wp2_with fail
  refine PC.out.mono ?_
  rintro e v5 ⟨rfl, hb5⟩
  have hr5 := hr4.bel hb5
  have hb6 := btrans hb4 hb5
  clear hb5 hb4 hr4 PC
  go_wp2_with fail
  refine (spoil_r _ p a len cap tt (by omega) hr5).mono ?_
  rintro e v6 ⟨t, rfl, ht, hr6, hg6⟩
  have hb7 := bgrown hb6 hg6 (by omega)
  clear hg6 hb6
  go_wp2_with fail
  go_ret
  exact ⟨t, rfl, by omega, hb7⟩
end Go.Proofs.YtdaheepfmnjadaaGreatDoor
namespace Go.Proofs.YtdaheepfmnjadaaGreatDoor
open Go.RowKit
set_option linter.unusedSimpArgs false
set_option linter.unusedVariables false
theorem bw_below (w : World) (e : TypeId) (s : ByteArray) : Below w.heap.size w (Lib.bytesWorld w e s) := ⟨rfl, rfl, rfl, by rw [Lib.bytesWorld_size]; omega, fun k hk => Lib.bytesWorld_at_old w e s k hk⟩
theorem bw_bs (w : World) (s : ByteArray) : BS (Lib.bytesWorld w 5 s) w.heap.size 0 s 0 := by
  intro i hi
  rw [Nat.zero_add] at hi
  rw [Nat.zero_add, Lib.bytesWorld_cell w 5 s i hi]
  have h1 := byte_at s i hi
  rw [List.getD_eq_getElem?_getD, h1, ← by8_at s i hi]
  rfl
theorem BS.from {w : World} {g : Nat} {s : ByteArray} {e : Nat} (h : BS w g 0 s 0) : BS w g e s e := fun i hi => by
  have := h (e + i) (by omega)
  simpa using this
theorem BS.none {w : World} {g off : Nat} {s : ByteArray} {e : Nat} (h : s.size ≤ e) : BS w g off s e := fun i hi => absurd hi (by omega)
theorem own_ne {w : World} {B c : Nat} {t T : TypeId} {sz n : Nat} {v : Value} {xs : List Value} {C : Array Value} {F : Nat × Nat} (h : w.ownsRow B t sz v n xs) (hc : w.heap[c]? = some (.cells C T F)) (hT : T ≠ t) : v.ownBlock ≠ some c := by
  intro e
  rcases h.2 with ⟨rfl, hn⟩ | ⟨g, cap, cur, rfl, hb, hgk, hc', _⟩
  · simp [Value.ownBlock] at e
  · simp [Value.ownBlock] at e
    subst e
    rw [hgk] at hc
    cases hc
    exact hT rfl
theorem BS.blk {w w' : World} {g off : Nat} {s : ByteArray} {e : Nat} (h : BS w g off s e) (hb : w'.heap[g]? = w.heap[g]?) : BS w' g off s e := fun i hi => by
  rw [World.cell?_of_block (w := w) hb]; exact h i hi
set_option maxRecDepth 100000 in
set_option maxHeartbeats 8000000 in
theorem impl_Records (s : ByteArray) (hs : s.size ≤ 1048576) (w : World) (hg : w.cell? ⟨0, 0, none⟩ = some (.iface 150 (.agg #[.pointer (some ⟨1, 55, none⟩)]))) : Calls Tryz.prog 6 #[.string s] w fun e w' => GRA w (recs s) e w' := by
  have HI := hid (lx_noneL w w (Nat.le_refl _))
  have HB0 := hid (balloc (Below.refl w.heap.size w) (.cells #[] 24))
  obtain ⟨i0, hi0, hz0, hz1, hz2⟩ := info_parts Tryz.infoCL
  by_cases hgr : 100000 < s.size
  · have HO := hid (recs_great hgr)
    have c0 : (100000 : Int) < (s.size : Int) := by omega
    clear hg
    go_enter Tryz.func6, Tryz.ntmps6
    go_wp2_with fail
    go_ret2
    exact gra_mk HO.out HI.out.lc HB0.out
  have hsm : s.size ≤ 100000 := by omega
  have c0 : ¬ (100000 : Int) < (s.size : Int) := by omega
  have HO := hid (recs_small hsm)
  have HG := hid hg
  clear hgr hg
  generalize recs s = rr at *
  have hcv := Lib.run_convert_string_bytes (P := Tryz.prog) (w.alloc (.cells #[] 24)) 9 22 5 s Tryz.underlying9 Tryz.underlying22 Tryz.underlying5
  have hcge := grownCap_ge (w.alloc (.cells #[] 24)) s.size 0 5
  have hcle : grownCap (w.alloc (.cells #[] 24)) s.size 0 5 ≤ maxLen := grownCap_le_maxLen _ _ _ _ (by unfold maxLen; omega)
  unfold maxLen at hcle
  have hbb := bw_below (w.alloc (.cells #[] 24)) 5 s
  have HBS : Hid (BS (Lib.bytesWorld (w.alloc (.cells #[] 24)) 5 s) (w.heap.size + 1) 0 s 0) := hid (by simpa using bw_bs (w.alloc (.cells #[] 24)) s)
  have HBT : Hid (∃ C F, (Lib.bytesWorld (w.alloc (.cells #[] 24)) 5 s).heap[w.heap.size + 1]? = some (.cells C 5 F)) := hid (by
    have := Lib.bytesWorld_at_new (w.alloc (.cells #[] 24)) 5 s
    rw [show (w.alloc (.cells #[] 24)).heap.size = w.heap.size + 1 by simp] at this
    exact ⟨_, _, this⟩)
  go_enter Tryz.func6, Tryz.ntmps6
  go_wp2_with fail
  replace HI := hid (HI.out.grows hbb)
  replace HB0 := hid (btrans HB0.out hbb)
  clear hbb hcv
  generalize grownCap (w.alloc (.cells #[] 24)) s.size 0 5 = cap at *
  generalize Lib.bytesWorld (w.alloc (.cells #[] 24)) 5 s = W0 at *
  go_loopw [4, 5] (fun tv ti wr => ∃ (a : Nat) (xss : List (List Ch)) (us : List (List Ch × Value)), ti = .int .i64 a ∧ a ≤ s.size ∧ Hid (RR s xss a) ∧ Hid (LX KL 24 w.heap.size wr.heap.size wr tv xss us) ∧ Hid (Below w.heap.size w wr) ∧ Hid (wr.heap[w.heap.size + 1]? = W0.heap[w.heap.size + 1]?)) (fun _ ti _ => s.size - (intOf ti).toNat)
  case atStart => exact ⟨0, [], [], rfl, Nat.zero_le _, hid (RR.zero s), HI, HB0, hid rfl⟩
  case round =>
    clear HI HB0
    obtain ⟨a, xss, us, rfl, ha, HRR, HV, HB, HSK⟩ := hrel
    have HS := hid (HBS.out.blk HSK.out)
    have hxl := HRR.out.len
    obtain ⟨av, cv, ev, hlv, hvr⟩ := HV.out.lc.form
    clear hvr
    subst ev
    have hwX := HB.out.size
    have ca : (a : Int) ≤ (s.size : Int) := by omega
    have ca2 : (a : Int) ≤ (cap : Int) := by omega
    have ca3 : (s.size : Int) ≤ (cap : Int) := by omega
    have HDN := hid (fun (h : rc1 s a = none) => HO.out.trans (HRR.out.done h))
    by_cases hca : cap = a
    · have hsa : s.size = a := by omega
      have HQ := hid (HDN.out (rc1_short (by omega)))
      have HC0 : Hid (Calls Tryz.prog 22 #[.slice (some ⟨w.heap.size + 1, 0, none⟩) 0 0] wr fun en w' => CRA wr (rc1 s a) a en w') := hid (by
        have := cut_one s a (w.heap.size + 1) 0 (cap - a) hsm ha (by omega) (by omega) wr (BS.none (by omega)) (keepcell HB.out HG.out)
        rw [show s.size - a = 0 by omega, show cap - a = 0 by omega] at this
        exact this)
      have HRN := hid (rc1_short (s := s) (a := a) (by omega))
      clear HDN HRR hsa HS HSK
      subst hca
      go_wp2_with fail
      refine HC0.out.mono ?_
      rintro en W4 ⟨hB1, ⟨hno, rfl⟩ | ⟨cs, b, ga, gc, hyes, rfl, hgl⟩⟩
      · go_wp2_with fail
        go_ret2
        exact gra_mk HQ.out (HV.out.below hB1).lc (btrans HB.out hB1)
      · rw [HRN.out] at hyes; cases hyes
    · have HCO := hid (cut_one s a (w.heap.size + 1) a (cap - a) hsm ha (by omega) (by omega) wr HS.out.from (keepcell HB.out HG.out))
      have HRN := hid (fun cs b (h : rc1 s a = some (cs, b)) => HRR.out.next h)
      have HRF := hid (fun cs b (h : rc1 s a = some (cs, b)) => rc1_facts h)
      have hne : ¬ (cap : Int) = (a : Int) := by omega
      clear HRR
      go_wp2_with fail
      refine HCO.out.mono ?_
      rintro en W4 ⟨hB1, ⟨hno, rfl⟩ | ⟨cs, b, ga, gc, hyes, rfl, hgl⟩⟩
      · have HQ := hid (HDN.out hno)
        clear HCO HDN HRN HRF
        go_wp2_with fail
        go_ret2
        exact gra_mk HQ.out (HV.out.below hB1).lc (btrans HB.out hB1)
      · have HRN2 := HRN.out cs b hyes
        obtain ⟨hab, hbs⟩ := HRF.out cs b hyes
        obtain ⟨d, hd⟩ : ∃ d, d = b - a := ⟨_, rfl⟩
        have hd1 : (b : Int) - (a : Int) = (d : Int) := by omega
        have hd2 : 0 < d := by omega
        obtain rfl : b = a + d := by omega
        have HRN3 := hid HRN2
        have hd3 : ¬ (d : Int) = 0 := by omega
        have hd4 : ((d : Int) == 0) = false := by rw [beq_eq_false_iff_ne]; omega
        clear HCO HDN HRN HRF hd hyes HRN2
        rw [hd1]
        clear hd1
        have hz4 := hB1.size
        have HV4 := hid (HV.out.below hB1)
        have HB4 := hid (btrans HB.out hB1)
        have hlt0 : w.heap.size + 1 < wr.heap.size := by
          obtain ⟨C, F, hC⟩ := HBT.out
          exact lt_of_block (HSK.out.trans hC)
        have HK4 := hid ((hB1.block (w.heap.size + 1) hlt0).trans HSK.out)
        have hlt4 : w.heap.size + 1 < W4.heap.size := by omega
        have HS4 : Hid (KL.sub wr.heap.size W4.heap.size W4 (.slice ga cs.length gc) cs) := hid hgl
        clear hB1 hgl HV HB HS HSK
        generalize wr.heap.size = gl at *
        have hgu : W4.heap.size ≤ W4.heap.size := Nat.le_refl _
        go_upto_region 8 with fail
        have hownZ : W4.ownsRow w.heap.size 24 1 (.slice av xss.length cv) xss.length (flatK KL us) := HV4.out.2.1
        have hm := HV4.out.2.2.2.1
        go_wp2_with (at_builtin; (refine wpList_append_lies _ rfl (.tmp 28) (.tmp 30) 27 rfl w.heap.size 24 i0 _ 1 24 Tryz.underlying27 hi0 hz0 hz1 hz2 rfl (by decide) (.slice av xss.length cv) xss.length (flatK KL us) rfl (hownZ.alloc _) ⟨W4.heap.size, 0, none⟩ 1 1 [.slice ga cs.length gc] rfl rfl (World.news_of_block (cs := #[.slice ga cs.length gc]) (t := 24) (fr := (0, 0)) (heap_alloc_new W4 _)) (by simp [Value.oneCell']) (by omega) (by unfold maxLen; omega) (by omega) (by simp; omega) (W4.heap.size + 1) (by simp) ?_; intro gg cq w2 hown2 hgrow hat hlt2))
        have hal2 : Below W4.heap.size W4 (W4.alloc (.cells #[.slice ga cs.length gc] 24)) := balloc (Below.refl _ _) _
        have hsn := LX.snoc (K := KL) (x := cs) (sv := .slice ga cs.length gc) (l := gl) (u := W4.heap.size) (g := gg) (cap := cq) (HV4.out.below hal2) (by omega) (by omega) (KL.frame HS4.out (fun c _ hc => hal2.block c (by have := HS4.out.1; omega)) hal2.size) hown2 hgrow (by simpa using hat) hlt2
        have hbn : Below w.heap.size w w2 := bgrow (balloc HB4.out _) hgrow (fun c e => (World.ownsRow.lt hownZ c e).1)
        have HSN := hid hsn
        have HBSN : Hid (w2.heap[w.heap.size + 1]? = W0.heap[w.heap.size + 1]?) := hid (by
          obtain ⟨C, F, hC⟩ := HBT.out
          have hne2 := own_ne hownZ (HK4.out.trans hC) (by decide)
          exact (hgrow.block (w.heap.size + 1) (by simp; omega) (fun e => hne2 e.symm)).trans ((hal2.block (w.heap.size + 1) hlt4).trans HK4.out))
        have HBN := hid hbn
        clear hsn hbn hown2 hgrow hal2 hownZ
        go_wp2_with fail
        go_roundw
        case rel => exact ⟨a + d, xss ++ [cs], _, by go_num, by omega, HRN3, hid (by simpa using HSN.out), HBN, HBSN⟩
        case measure => simp [intOf]; omega
end Go.Proofs.YtdaheepfmnjadaaGreatDoor
