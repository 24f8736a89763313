/- Texts of stores, joined: Gs, Gt. -/
import Derived.Test.YtldeknphfddlfaaGreatDoorJ48
namespace Go.Proofs.YtldeknphfddlfaaGreatDoor
open Go.RowKit
set_option linter.unusedSimpArgs false
set_option linter.unusedVariables false
theorem lc_up {α : Type} {K : Kd α} {base hi hi' : Nat} {w : World} {v : Value} {xs : List α} (h : LC K base hi w v xs) (hh : hi ≤ hi') (hs : hi' ≤ w.heap.size) : LC K base hi' w v xs := by
  obtain ⟨h0, h⟩ := h
  rcases h with h | ⟨g, cap, ss, lo, up, e, h1, h2, h3, h4, h5, h6⟩
  · exact ⟨hs, .inl h⟩
  · exact ⟨hs, .inr ⟨g, cap, ss, lo, up, e, h1, h2, by omega, h4, fun j hj => ⟨(h5 j hj).1, (h5 j hj).2.1, by have := (h5 j hj).2.2.1; omega, (h5 j hj).2.2.2⟩, h6⟩⟩
theorem rcI_len (s : ByteArray) : ∀ (n : Nat) (i : Int) (l : List Ch) (e : Int), rcI s n i = some (l, e) → l.length = n
  | 0, i, l, e, h => by simp only [rcI, Option.some.injEq, Prod.mk.injEq] at h; rw [← h.1]; rfl
  | n + 1, i, l, e, h => by
    simp only [rcI] at h
    split at h
    · cases h
    · split at h
      · cases h
      · split at h
        · rw [Option.map_eq_some_iff] at h
          obtain ⟨r, hr, h⟩ := h
          simp only [Prod.mk.injEq] at h
          rw [← h.1, List.length_cons, rcI_len s n _ _ _ hr]
        · split at h
          · cases h
          · rw [Option.map_eq_some_iff] at h
            obtain ⟨r, hr, h⟩ := h
            simp only [Prod.mk.injEq] at h
            rw [← h.1, List.length_cons, rcI_len s n _ _ _ hr]
theorem gcP_len {s : ByteArray} {cs : List Ch} (h : gcP s = some cs) : cs.length ≤ 100 := by
  unfold gcP at h
  split at h
  · cases h
  · rename_i n p h1
    split at h
    · cases h
    · cases hr : rcI s n p with
      | none => rw [hr] at h; simp at h
      | some r =>
        obtain ⟨l, e⟩ := r
        rw [hr] at h
        simp only [Option.map_some, Option.some.injEq] at h
        subst h
        have := rcI_len s n _ _ _ hr
        omega
theorem gcS_S (s : ByteArray) : chS ((gcS s).getD []) ∧ ((gcS s).getD []).length ≤ 100 := by
  cases h : gcS s with
  | none => exact ⟨⟨by simp, fun m hm => absurd hm (by simp)⟩, by simp⟩
  | some cs =>
    obtain ⟨h1, h2⟩ := gcS_of h
    have hp : pcb cs = true := by
      cases hp : pcb cs
      · unfold pcT at h1; rw [hp, if_neg (by simp)] at h1; subst h1; exact absurd h2 (by decide)
      · rfl
    unfold pcb at hp
    rw [Bool.and_eq_true, decide_eq_true_eq] at hp
    refine ⟨⟨by show cs.length ≤ _; omega, fun m hm => ?_⟩, hp.2⟩
    have hm' : m < cs.length := hm
    have hb := cgs_all hp.1 m hm'
    show (cs[m]).2.2.2.length ≤ _
    cases hg : (cs[m]).2.1
    · have := (cgb_parts hb).2 hg
      rcases shok_kind this with q | q | q | q <;> omega
    · rw [cgb_gone hb hg]; simp
set_option maxRecDepth 100000 in
set_option maxHeartbeats 4000000 in
theorem impl_GetChanges (s : ByteArray) (hs : s.size ≤ 1048576) (w : World) (hg : w.cell? ⟨0, 0, none⟩ = some (.iface 112 (.agg #[.pointer (some ⟨1, 62, none⟩)]))) : Calls Tryz.prog 6 #[.string s] w fun e w' => GCA w (gcI s) e w' := by
  have hmf : ∀ (fn : Fn) (first cap : Array Value) (w : World), (Instr.makeFunc fn first cap).run Tryz.prog w = .ok (.func fn first cap) w := fun _ _ _ _ => rfl
  cases hn : gcP s with
  | none =>
    have HO := hid (gcI_no hn)
    have HW := hid (fun (W : World) (h : CB w W s (.slice none 0 0)) => whole_no_c _ W _ (gc1_no s hs w W h hn) (fun w' h' => keepcell (h'.2.2) hg))
    clear hn
    go_enter Tryz.func6, Tryz.ntmps6
    go_wp2_with fail
    have hG : CB w ((w.alloc (.cells #[.string s] 9)).alloc (.cells #[.slice none 0 0] 22)) s (.slice none 0 0) := ⟨old_alloc (new_alloc _ _ _ rfl), new_alloc _ _ _ (by simp), balloc (balloc (Below.refl _ _) _) _⟩
    generalize ((w.alloc (.cells #[.string s] 9)).alloc (.cells #[.slice none 0 0] 22)) = W at *
    refine (HW.out _ hG).mono ?_
    rintro e w1 ⟨rfl, w2, hZ', hb⟩
    have hZ := hZ'.below hb
    clear hZ' hb hG HW
    obtain ⟨h0, h1, h2⟩ := hZ
    have HB := hid h2
    clear h0 h1 h2
    have HBd := hid (fun q => Go.RowKit.Below.trans HB.out (show Below w.heap.size w1 (w1.drewN q) from ⟨rfl, rfl, rfl, Nat.le_refl _, fun _ _ => rfl⟩))
    go_wp2_with fail
    go_quiet (fail)
    go_wp2_with fail
    go_ret2
    exact gca_no HO.out (HBd.out _)
  | some cs =>
    have HO := hid (gcI_yes hn)
    have hlen := gcP_len hn
    have HW := hid (fun (W : World) (h : CB w W s (.slice none 0 0)) => whole_ok_c _ W _ (gc1_yes s hs w W h cs hn))
    clear hn
    generalize gcI s = og at *
    go_enter Tryz.func6, Tryz.ntmps6
    go_wp2_with fail
    have hG : CB w ((w.alloc (.cells #[.string s] 9)).alloc (.cells #[.slice none 0 0] 22)) s (.slice none 0 0) := ⟨old_alloc (new_alloc _ _ _ rfl), new_alloc _ _ _ (by simp), balloc (balloc (Below.refl _ _) _) _⟩
    generalize ((w.alloc (.cells #[.string s] 9)).alloc (.cells #[.slice none 0 0] 22)) = W at *
    refine (HW.out _ hG).mono ?_
    rintro e w1 ⟨rfl, b, hZ, hL⟩
    clear hG HW
    obtain ⟨h0, h1, h2⟩ := hZ
    have HB := hid h2
    have HL := hid hL
    obtain ⟨x0, _⟩ := cell1c h0
    obtain ⟨x1, _⟩ := cell1c h1
    have MP := hid (fun (W : World) (hb : Below w1.heap.size w1 W) => impl_PutChanges (some ⟨b, 0, none⟩) cs.length cs W (by omega) (HL.out.chsN.below hb))
    have HH1 := hid h1
    clear h0 h1 h2 hL
    by_cases hq2 : pcT cs = s
    · rw [if_pos hq2] at HO
      have hne : ((pcT cs).toList == s.toList) = true := by rw [hq2]; simp
      clear hq2
      generalize pcT cs = tt at *
      go_wp2_with fail
      go_region_held3 (fun w' => w'.cell? ⟨w.heap.size + 1, 0, none⟩ = some (.slice (some ⟨b, 0, none⟩) cs.length cs.length) ∧ w'.cell? ⟨w.heap.size, 0, none⟩ = some (.string s)) ((go_split_ands; (repeat' apply And.intro) <;> (repeat (first | with_reducible assumption | with_reducible refine keepdrew ?_ | with_reducible refine keepcell (by with_reducible assumption) ?_ | with_reducible refine keepalloc ?_ _))))
        (first
          | (go_at_call 21; refine (MP.out _ (bdrew (Below.refl _ _))).mono ?_; rintro e y5 ⟨rfl, hB5⟩))
      all_goals
        have hB6 := btrans (bdrew (Below.refl w1.heap.size w1)) hB5
        have g1 := keepheap2 hB6 HH1.out
        have HB6 := hid (btrans HB.out hB6)
        have HL6 : Hid (LC KN w.heap.size y5.heap.size y5 (.slice (some ⟨b, 0, none⟩) cs.length cs.length) cs) := hid (lc_mono (lc_up (HL.out.below hB6) hB6.size (Nat.le_refl _)) (by omega))
        clear x0 x1
        obtain ⟨x1, _⟩ := cell1c g1
        go_wp2_with fail
        go_ret2
        exact gca_yes HO.out HL6.out rfl HB6.out
    · rw [if_neg hq2] at HO
      have hne : ((pcT cs).toList == s.toList) = false := by
        rw [beq_eq_false_iff_ne]
        intro e
        rw [ByteArray.toList_eq, ByteArray.toList_eq] at e
        exact hq2 (ByteArray.ext (Array.ext' e))
      clear hq2
      generalize pcT cs = tt at *
      go_wp2_with fail
      go_region_held3 (fun w' => w'.cell? ⟨w.heap.size + 1, 0, none⟩ = some (.slice (some ⟨b, 0, none⟩) cs.length cs.length) ∧ w'.cell? ⟨w.heap.size, 0, none⟩ = some (.string s)) ((go_split_ands; (repeat' apply And.intro) <;> (repeat (first | with_reducible assumption | with_reducible refine keepdrew ?_ | with_reducible refine keepcell (by with_reducible assumption) ?_ | with_reducible refine keepalloc ?_ _))))
        (first
          | (go_at_call 21; refine (MP.out _ (bdrew (Below.refl _ _))).mono ?_; rintro e y5 ⟨rfl, hB5⟩))
      all_goals
        have hB6 := btrans (bdrew (Below.refl w1.heap.size w1)) hB5
        have HB6 := hid (btrans HB.out hB6)
        go_wp2_with fail
        go_ret2
        exact gca_no HO.out HB6.out
end Go.Proofs.YtldeknphfddlfaaGreatDoor
namespace Go.Proofs.YtldeknphfddlfaaGreatDoor
open Go.RowKit
set_option linter.unusedSimpArgs false
set_option linter.unusedVariables false
theorem mid_belowG {lo hi B : Nat} {w w' : World} (h : Mid lo hi w w') (hb : B ≤ lo) (hs : B ≤ w.heap.size) : Below B w w' := by
  obtain ⟨h1, h2, h3, h4, h5⟩ := h
  exact ⟨h1, h2, h3, h4, fun k hk => h5 k (by omega) (.inl (by omega))⟩
set_option maxRecDepth 100000 in
set_option maxHeartbeats 4000000 in
theorem getc_w (s : ByteArray) (hm : s.size ≤ maxLen) (w : World) (hg : w.cell? ⟨0, 0, none⟩ = some (.iface 112 (.agg #[.pointer (some ⟨1, 62, none⟩)]))) : Calls Tryz.prog 3 #[.string s] w fun e w' => e = .returned (.bool true) ∧ Below w.heap.size w w' := by
  unfold maxLen at hm
  by_cases hbig : 1048576 < s.size
  · have hd : 1048576 < (s.size : Int) := by omega
    clear hg
    go_enter Tryz.func3, Tryz.ntmps3
    go_wp2_with fail
    go_ret
    exact ⟨rfl, Below.refl _ _⟩
  have hd : (s.size : Int) ≤ 1048576 := by omega
  have hs : s.size ≤ 1048576 := by omega
  have CS := hid (fun w => spec_GetChanges s hs w)
  have CI := hid (fun (W : World) (hb : Below w.heap.size w W) => impl_GetChanges s hs W (keepcell hb hg))
  rw [gc_same] at CI
  obtain ⟨hS', hlen⟩ := gcS_S s
  have hS := hid hS'
  clear hS'
  unfold GCA at CS CI
  generalize (gcS s).getD [] = cs at *
  generalize (gcS s).isSome = ok at *
  have hbb := bnes ok
  have HK := hid (kkc_bound (k0 := 1) hS.out.2 cs.length (Nat.le_refl _))
  clear hg hbig
  go_enter Tryz.func3, Tryz.ntmps3
  go_wp2_with fail
  refine (CS.out _).mono ?_
  rintro e y1 ⟨sa, sc, rfl, hSL, hB⟩
  have S0 := hid hSL
  have B0 := hid hB
  have hz1 := hB.size
  clear hSL hB
  go_wp2_with fail
  refine (CI.out _ B0.out).mono ?_
  rintro e y2 ⟨ga, gc, rfl, hGL, hb2⟩
  have G0 := hid hGL
  replace S0 := hid (S0.out.below hb2)
  replace B0 := hid (btrans B0.out hb2)
  have hz2 := hb2.size
  clear hGL hb2
  generalize y1.heap.size = x1 at *
  go_wp2_with fail
  refine (eq_chs ga sa gc sc cs _ (by omega) G0.out.chsN S0.out.chsN).mono ?_
  rintro e y3 ⟨rfl, hb3⟩
  replace S0 := hid (S0.out.below hb3)
  replace G0 := hid (G0.out.below hb3)
  replace B0 := hid (btrans B0.out hb3)
  have hz3 := hb3.size
  clear hb3
  generalize y2.heap.size = x2 at *
  obtain ⟨k0, k1⟩ := HK.out
  generalize hkz : kkc 1 cs cs.length = kz at *
  have HKZ := hid hkz
  clear hkz
  have hkp : ¬ kz < 0 := by omega
  go_wp2_with fail
  refine (mark_chsH x1 x2 0 0 _ cs 1 _ hS.out (by omega) (by omega) (G0.out.hole (.inr (by omega)))).mono ?_
  rintro e y4 ⟨rfl, hM, hmid⟩
  rw [HKZ.out]
  have hmd := hmid.1
  replace S0 := hid (S0.out.frame (w' := y4) (fun c c1 c2 => hmd.2.2.2.2 c (by omega) (.inl c2)) hmd.2.2.2.1)
  replace B0 := hid (B0.out.trans (mid_belowG hmd (B := w.heap.size) (by omega) (by omega)))
  have M0 := hid hM.lc
  have hz4 := hmd.2.2.2.1
  clear hM hmid hmd G0
  go_wp2_with fail
  refine (held_chsX ga cs.length gc cs 1 _ rfl hS.out (by omega) (by omega) M0.out.chsN).mono ?_
  rintro e y5 ⟨rfl, hw5⟩
  replace hw5 := hw5.symm
  subst hw5
  rw [HKZ.out]
  go_wp2_with fail
  refine (CI.out _ B0.out).mono ?_
  rintro e y6 ⟨ha, hc, rfl, hHL, hb6⟩
  have N0 := hid hHL
  replace S0 := hid (S0.out.below hb6)
  replace M0 := hid (M0.out.below hb6)
  replace B0 := hid (btrans B0.out hb6)
  clear hHL hb6
  go_wp2_with fail
  refine (eq_chs ha sa hc sc cs _ (by omega) N0.out.chsN S0.out.chsN).mono ?_
  rintro e y7 ⟨rfl, hb7⟩
  replace M0 := hid (M0.out.below hb7)
  replace B0 := hid (btrans B0.out hb7)
  clear hb7 N0 S0
  go_wp2_with fail
  refine (held_chsX ga cs.length gc cs 1 _ rfl hS.out (by omega) (by omega) M0.out.chsN).mono ?_
  rintro e y8 ⟨rfl, hw8⟩
  replace hw8 := hw8.symm
  subst hw8
  rw [HKZ.out]
  go_wp2_with fail
  go_ret
  exact ⟨rfl, B0.out⟩
end Go.Proofs.YtldeknphfddlfaaGreatDoor
