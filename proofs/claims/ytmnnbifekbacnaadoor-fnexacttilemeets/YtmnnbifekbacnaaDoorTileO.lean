/- Whether a figure meets the square of a tile: the landed metBy. -/
import Derived.Test.YtmnnbifekbacnaaDoorTileN
import Derived.Deep.AppendLies
import Derived.OwnWalk
namespace Go.Proofs.YtmnnbifekbacnaaDoor
open Go.RowKit
set_option linter.unusedVariables false
set_option linter.unusedSimpArgs false
/-- A row of sides in a block. -/
def SdB (w : World) (b : Nat) (qs : List Sd) : Prop := b < w.heap.size ∧ SdAt w b 0 qs
theorem SdB.below {w w' : World} {b : Nat} {qs : List Sd} (h : SdB w b qs) (H : Below w.heap.size w w') : SdB w' b qs := ⟨Nat.lt_of_lt_of_le h.1 H.size, h.2.below h.1 H⟩
theorem anySat_take (X : List Sd) (x0 y0 x1 y1 : Int) (i : Nat) (hi : i < X.length) : anySat (X.take (i + 1)) x0 y0 x1 y1 = (anySat (X.take i) x0 y0 x1 y1 || satq (X.getD i (0, 0, 0, 0)) x0 y0 x1 y1) := by
  unfold anySat
  rw [List.take_add_one, List.getElem?_eq_getElem hi, List.any_append, List.getD_eq_getElem?_getD, List.getElem?_eq_getElem hi]
  simp
theorem row_slice {w : World} {B : Nat} {e : TypeId} {s : Nat} {v : Value} {m : Nat} {xs : List Value} (h : w.ownsRow B e s v m xs) : ∃ a cap, v = .slice a m cap := by
  obtain ⟨_, ⟨rfl, rfl⟩ | ⟨g, cap, cur, rfl, _⟩⟩ := h
  · exact ⟨_, _, rfl⟩
  · exact ⟨_, _, rfl⟩
theorem Tryd.infoSide : (Tryd.prog.info? 80).map (fun i => (i.zero, i.size, i.bytes)) = some (some (.agg #[.int .i64 0, .int .i64 0, .int .i64 0, .int .i64 0]), 4, 32) := by kernel_rfl
set_option maxRecDepth 100000 in
set_option maxHeartbeats 4000000 in
theorem impl_metBy (l c r k : Int) (a : Option Addr) (cap : Nat) (ps : List (Int × Int)) (sb : Nat) (w : World) (hm : ps.length ≤ 1099511627776) (hc : ps.length ≤ cap) (ht : Tab w) (hp : Pts w a ps) (hs : shok k ps = true) (hsd : SdB w sb (sdl k ps)) : Calls Tryd.prog 19 #[.agg #[.int .i64 l, .int .i64 c, .int .i64 r], figv k a ps.length cap, .slice (some ⟨sb, 0, none⟩) (sdl k ps).length (sdl k ps).length] w fun e w' => ∃ v, e = .returned (.tuple #[v, .bool (bok (qa l c r) (qb l c r) (qc l c r) (qd l c r) && (anySat (sdl k ps) (qa l c r) (qb l c r) (qc l c r) (qd l c r) || hasP k ps (qa l c r) (qb l c r)))]) ∧ Below w.heap.size w w' := by
  have hB := Below.refl w.heap.size w
  have HT := hid ht
  have HP := hid hp
  have HSD := hid hsd
  have SQ := hid (fun w' (h : Tab w') => impl_square l c r w' h)
  obtain ⟨hx0, hx6⟩ := sdl_len hs
  have HXI := hid (sdl_in hs)
  have HS := hid hs
  have hv1 : Hid (∃ F, F = figv k a ps.length cap) := hid ⟨_, rfl⟩
  obtain ⟨F1, e1⟩ := hv1.out
  rw [← e1]
  have E1 := hid e1
  clear hv1 e1 ht hp hsd hs
  generalize hX : sdl k ps = X at *
  have HX := hid hX
  clear hX
  generalize qa l c r = x0 at *
  generalize qb l c r = y0 at *
  generalize qc l c r = x1 at *
  generalize qd l c r = y1 at *
  have BO := hid (fun w' => impl_boxok x0 y0 x1 y1 w')
  go_enter Tryd.func19, Tryd.ntmps19
  go_wp2_with fail
  have gT := (new_alloc w (w.heap.size) (.cells #[.int .i64 l, .int .i64 c, .int .i64 r] 29) (by simp))
  have hal : Below w.heap.size w (w.alloc (.cells #[.int .i64 l, .int .i64 c, .int .i64 r] 29)) := (balloc (Below.refl _ _) (.cells #[.int .i64 l, .int .i64 c, .int .i64 r] 29))
  replace HT := hid (HT.out.below hal)
  replace HP := hid (HP.out.below hal)
  replace HSD := hid (HSD.out.below hal)
  replace hB := btrans hB hal
  clear hal
  generalize (w.alloc (.cells #[.int .i64 l, .int .i64 c, .int .i64 r] 29)) = yw1 at *
  refine (SQ.out _ HT.out).mono ?_
  rintro e yw2 ⟨rfl, hcl⟩
  replace gT := keepheap hcl gT
  replace HT := hid (HT.out.below hcl)
  replace HP := hid (HP.out.below hcl)
  replace HSD := hid (HSD.out.below hcl)
  replace hB := btrans hB hcl
  clear hcl
  obtain ⟨k1_0, k1_1, k1_2, _, _, _⟩ := cellT gT
  have ak1_0 := (keepalloc k1_0 (.cells #[.int .i64 x0, .int .i64 y0, .int .i64 x1, .int .i64 y1] 76))
  have ak1_1 := (keepalloc k1_1 (.cells #[.int .i64 x0, .int .i64 y0, .int .i64 x1, .int .i64 y1] 76))
  have ak1_2 := (keepalloc k1_2 (.cells #[.int .i64 x0, .int .i64 y0, .int .i64 x1, .int .i64 y1] 76))
  go_wp2_with fail
  clear k1_0 k1_1 k1_2 ak1_0 ak1_1 ak1_2
  replace gT := (old_alloc (o' := .cells #[.int .i64 x0, .int .i64 y0, .int .i64 x1, .int .i64 y1] 76) gT)
  have gX := (new_alloc yw2 (yw2.heap.size) (.cells #[.int .i64 x0, .int .i64 y0, .int .i64 x1, .int .i64 y1] 76) (by simp))
  have hal : Below yw2.heap.size yw2 (yw2.alloc (.cells #[.int .i64 x0, .int .i64 y0, .int .i64 x1, .int .i64 y1] 76)) := (balloc (Below.refl _ _) (.cells #[.int .i64 x0, .int .i64 y0, .int .i64 x1, .int .i64 y1] 76))
  replace HT := hid (HT.out.below hal)
  replace HP := hid (HP.out.below hal)
  replace HSD := hid (HSD.out.below hal)
  replace hB := btrans hB hal
  clear hal
  generalize (yw2.alloc (.cells #[.int .i64 x0, .int .i64 y0, .int .i64 x1, .int .i64 y1] 76)) = yw3 at *
  generalize yw2.heap.size = Q at *
  refine (BO.out _).mono ?_
  rintro e yw4 ⟨rfl, hcl⟩
  replace gT := keepheap hcl gT
  replace gX := keepheap hcl gX
  replace HT := hid (HT.out.below hcl)
  replace HP := hid (HP.out.below hcl)
  replace HSD := hid (HSD.out.below hcl)
  replace hB := btrans hB hcl
  clear hcl
  clear SQ BO HT
  cases hb : bok x0 y0 x1 y1
  · skip
    obtain ⟨k2_0, k2_1, k2_2, _, _, _⟩ := cellT gT
    obtain ⟨k3_0, k3_1, k3_2, k3_3, _, _, _, _⟩ := cell4 gX
    go_wp2_with fail
    clear k2_0 k2_1 k2_2 k3_0 k3_1 k3_2 k3_3
    exact bodyPost_ret (v := .tuple #[.slice none 0 0, .bool false]) (by simp [results, Tryd.results19, go_sem]) rfl ⟨.slice none 0 0, by rw [hb]; rfl, hB⟩
  · skip
    obtain ⟨i0, hi0, hz0, hz1, hz2⟩ := info_parts Tryd.infoSide
    obtain ⟨k2_0, k2_1, k2_2, _, _, _⟩ := cellT gT
    obtain ⟨k3_0, k3_1, k3_2, k3_3, _, _, _, _⟩ := cell4 gX
    go_wp2_with fail
    clear k2_0 k2_1 k2_2 k3_0 k3_1 k3_2 k3_3
    have HR := hid (show (yw4.alloc (.cells #[] 80)).ownsRow yw4.heap.size 80 4 (.slice (some ⟨yw4.heap.size, 0, none⟩) 0 0) 0 [] from by
      have := World.ownsRow_made (base := yw4.heap.size) (e := 80) (size := 4) yw4 #[] 0 (Nat.le_refl _) (by decide) rfl
      simpa using this)
    go_loopw [9, 20] (fun v ti wr => ∃ i m : Nat, ∃ xs : List Value, ti = .int .i64 i ∧ i ≤ X.length ∧ Hid (wr.ownsRow yw4.heap.size 80 4 v m xs) ∧ Hid (m ≤ i) ∧ Hid (decide (0 < m) = anySat (X.take i) x0 y0 x1 y1) ∧ Hid (BF yw4 wr)) (fun _ ti _ => X.length - (intOf ti).toNat)
    case atStart => exact ⟨0, 0, [], rfl, Nat.zero_le _, HR, hid (Nat.le_refl _), hid rfl, hid (BF.below (BF.refl _) (balloc (Below.refl _ _) _))⟩
    case round =>
      obtain ⟨i, m, xs, rfl, hi, HO, HM, HA, HL⟩ := hrel
      clear HR
      have hcl := HL.out
      unfold BF at hcl
      replace gT := keepheap hcl gT
      replace gX := keepheap hcl gX
      replace HP := hid (HP.out.below hcl)
      replace HSD := hid (HSD.out.below hcl)
      replace hB := btrans hB hcl
      clear hcl
      by_cases hlt : i < X.length
      · skip
        have hlt' : (i : Int) < (X.length : Int) := by omega
        have hlt0 : (0 : Int) ≤ (i : Int) := by omega
        obtain ⟨x0', x1', x2', x3'⟩ := HSD.out.2 i hlt
        simp only [Nat.zero_add] at x0' x1' x2' x3'
        obtain ⟨i1, i2, i3, i4⟩ := HXI.out i hlt
        have hat := anySat_take X x0 y0 x1 y1 i hlt
        generalize X.getD i (0, 0, 0, 0) = qq at *
        obtain ⟨ux, uy, vx, vy⟩ := qq
        dsimp only at x0' x1' x2' x3' i1 i2 i3 i4
        have MB := hid (fun w' => impl_meetsBox ux uy vx vy x0 y0 x1 y1 w' i1 i2 i3 i4 hb)
        have HAT := hid hat
        clear hat i1 i2 i3 i4
        generalize satq (ux, uy, vx, vy) x0 y0 x1 y1 = sat at *
        have ax0 := keepalloc x0' (.cells #[.int .i64 ux, .int .i64 uy, .int .i64 vx, .int .i64 vy] 80)
        have ax1 := keepalloc x1' (.cells #[.int .i64 ux, .int .i64 uy, .int .i64 vx, .int .i64 vy] 80)
        have ax2 := keepalloc x2' (.cells #[.int .i64 ux, .int .i64 uy, .int .i64 vx, .int .i64 vy] 80)
        have ax3 := keepalloc x3' (.cells #[.int .i64 ux, .int .i64 uy, .int .i64 vx, .int .i64 vy] 80)
        obtain ⟨k4_0, k4_1, k4_2, _, _, _⟩ := cellT gT
        obtain ⟨k5_0, k5_1, k5_2, k5_3, _, _, _, _⟩ := cell4 gX
        have ak4_0 := (keepalloc k4_0 (.cells #[.int .i64 ux, .int .i64 uy, .int .i64 vx, .int .i64 vy] 80))
        have ak4_1 := (keepalloc k4_1 (.cells #[.int .i64 ux, .int .i64 uy, .int .i64 vx, .int .i64 vy] 80))
        have ak4_2 := (keepalloc k4_2 (.cells #[.int .i64 ux, .int .i64 uy, .int .i64 vx, .int .i64 vy] 80))
        have ak5_0 := (keepalloc k5_0 (.cells #[.int .i64 ux, .int .i64 uy, .int .i64 vx, .int .i64 vy] 80))
        have ak5_1 := (keepalloc k5_1 (.cells #[.int .i64 ux, .int .i64 uy, .int .i64 vx, .int .i64 vy] 80))
        have ak5_2 := (keepalloc k5_2 (.cells #[.int .i64 ux, .int .i64 uy, .int .i64 vx, .int .i64 vy] 80))
        have ak5_3 := (keepalloc k5_3 (.cells #[.int .i64 ux, .int .i64 uy, .int .i64 vx, .int .i64 vy] 80))
        go_wp2_with fail
        have HO' := hid (World.ownsRow.alloc HO.out (.cells #[.int .i64 ux, .int .i64 uy, .int .i64 vx, .int .i64 vy] 80))
        clear HO ax0 ax1 ax2 ax3 x0' x1' x2' x3'
        clear k4_0 k4_1 k4_2 k5_0 k5_1 k5_2 k5_3 ak4_0 ak4_1 ak4_2 ak5_0 ak5_1 ak5_2 ak5_3
        replace gT := (old_alloc (o' := .cells #[.int .i64 ux, .int .i64 uy, .int .i64 vx, .int .i64 vy] 80) gT)
        replace gX := (old_alloc (o' := .cells #[.int .i64 ux, .int .i64 uy, .int .i64 vx, .int .i64 vy] 80) gX)
        have gC := (new_alloc wr (wr.heap.size) (.cells #[.int .i64 ux, .int .i64 uy, .int .i64 vx, .int .i64 vy] 80) (by simp))
        have hal : Below wr.heap.size wr (wr.alloc (.cells #[.int .i64 ux, .int .i64 uy, .int .i64 vx, .int .i64 vy] 80)) := (balloc (Below.refl _ _) (.cells #[.int .i64 ux, .int .i64 uy, .int .i64 vx, .int .i64 vy] 80))
        replace HP := hid (HP.out.below hal)
        replace HSD := hid (HSD.out.below hal)
        replace HL := hid (HL.out.below hal)
        replace hB := btrans hB hal
        clear hal
        generalize (wr.alloc (.cells #[.int .i64 ux, .int .i64 uy, .int .i64 vx, .int .i64 vy] 80)) = yw5 at *
        generalize wr.heap.size = C at *
        refine (MB.out _).mono ?_
        rintro e yw6 ⟨rfl, hcl⟩
        have HO := hid (World.ownsRow.kept (row := none) HO'.out ⟨hcl.os, hcl.tape, hcl.output, hcl.size, fun k hk _ => hcl.block k hk⟩ (by
          cases hob : u9.ownBlock with
          | none => exact .inl rfl
          | some z => exact .inr (by simp)))
        clear HO'
        replace gT := keepheap hcl gT
        replace gX := keepheap hcl gX
        replace gC := keepheap hcl gC
        replace HP := hid (HP.out.below hcl)
        replace HSD := hid (HSD.out.below hcl)
        replace HL := hid (HL.out.below hcl)
        replace hB := btrans hB hcl
        clear hcl
        clear MB
        cases sat
        · skip
          obtain ⟨k6_0, k6_1, k6_2, _, _, _⟩ := cellT gT
          obtain ⟨k7_0, k7_1, k7_2, k7_3, _, _, _, _⟩ := cell4 gX
          obtain ⟨k8_0, k8_1, k8_2, k8_3, _, _, _, _⟩ := cell4 gC
          go_wp2_with fail
          clear k6_0 k6_1 k6_2 k7_0 k7_1 k7_2 k7_3 k8_0 k8_1 k8_2 k8_3
          go_roundw
          case rel =>
            refine ⟨i + 1, m, xs, by go_num, by omega, HO, hid ?_, hid ?_, HL⟩
            · have := HM.out; omega
            · rw [HAT.out, HA.out, Bool.or_false]
          case measure => simp [intOf]; omega
        · skip
          have hszL : yw4.heap.size ≤ yw6.heap.size := by have := HL.out.size; exact this
          have hm60 : m ≤ 60 := by have := HM.out; omega
          have hown := HO.out
          obtain ⟨k6_0, k6_1, k6_2, _, _, _⟩ := cellT gT
          obtain ⟨k7_0, k7_1, k7_2, k7_3, _, _, _, _⟩ := cell4 gX
          obtain ⟨k8_0, k8_1, k8_2, k8_3, _, _, _, _⟩ := cell4 gC
          go_wp2_with (at_builtin; refine wpList_append_own _ rfl (.tmp 27) (.tmp 29) 46 rfl yw4.heap.size 80 i0 _ 4 32 Tryd.underlying46 hi0 hz0 hz1 hz2 rfl (by decide) _ _ _ rfl (hown.alloc _) ⟨yw6.heap.size, 0, none⟩ 1 1 [.int .i64 ux, .int .i64 uy, .int .i64 vx, .int .i64 vy] rfl rfl (World.news_of_block (cs := #[.int .i64 ux, .int .i64 uy, .int .i64 vx, .int .i64 vy]) (t := 80) (fr := (0, 0)) (heap_alloc_new yw6 _)) (by simp [Value.oneCell']) (by unfold maxLen; omega) (by omega) (by simp; omega) ?_; intro v' w2 hown' hgrow _)
          go_roundw
          case rel =>
            refine ⟨i + 1, m + 1, xs ++ [.int .i64 ux, .int .i64 uy, .int .i64 vx, .int .i64 vy], by go_num, by omega, hid hown', hid ?_, hid ?_, hid ?_⟩
            · have := HM.out; omega
            · rw [HAT.out]; simp
            · exact (HL.out.alloc hszL _).grown hgrow (by simp; omega) (fun y hy => (hown.lt y hy).1)
          case measure => simp [intOf]; omega
      · skip
        obtain rfl : i = X.length := by omega
        have ha := HA.out
        rw [List.take_length] at ha
        have HAA := hid ha
        clear ha HA
        obtain ⟨na, ncap, rfl⟩ := row_slice HO.out
        by_cases hm0 : 0 < m
        · skip
          have hmi : (0 : Int) < (m : Int) := by omega
          obtain ⟨k4_0, k4_1, k4_2, _, _, _⟩ := cellT gT
          obtain ⟨k5_0, k5_1, k5_2, k5_3, _, _, _, _⟩ := cell4 gX
          go_wp2_with fail
          clear k4_0 k4_1 k4_2 k5_0 k5_1 k5_2 k5_3
          refine bodyPost_ret (v := .tuple #[.slice na m ncap, .bool true]) (by simp [results, Tryd.results19, go_sem]) rfl ⟨.slice na m ncap, ?_, hB⟩
          rw [hb, ← HAA.out]; simp [hm0]
        · skip
          obtain rfl : m = 0 := by omega
          have hn0 : ¬ ((X.length : Int) = 0) := by omega
          have hn1 : ((X.length : Int) == 0) = false := by rw [beq_eq_false_iff_ne]; exact hn0
          have h3 : anySat X x0 y0 x1 y1 = false := by rw [← HAA.out]; simp
          have H3 := hid h3
          have hbi : In x0 ∧ In y0 := by
            simp only [bok, cok, Bool.and_eq_true, decide_eq_true_eq] at hb
            unfold In; omega
          obtain ⟨j0, j1⟩ := hbi
          clear h3 HAA hm0
          have med := me_dot
          have mep := me_path
          have meb := me_block
          have mer := me_ring
          have nad := na_dot
          have nap := na_path
          have nab := na_block
          have nar := na_ring
          rcases shok_kind HS.out with ⟨rfl, hl⟩ | ⟨rfl, hl, hl2⟩ | ⟨rfl, hl⟩ | ⟨rfl, hl, hl2⟩
          · skip
            have ee : F1 = .iface 69 (.slice a ps.length cap) := E1.out
            clear E1 hl
            subst ee
            have C1 := hid (fun w' (hw : Pts w' a ps) => hask0 a cap ps x0 y0 w' hm hc HS.out j0 j1 hw)
            generalize hh1 : hasP 0 ps x0 y0 = h1 at *
            have HH1 := hid hh1
            clear hh1
            obtain ⟨k4_0, k4_1, k4_2, _, _, _⟩ := cellT gT
            obtain ⟨k5_0, k5_1, k5_2, k5_3, _, _, _, _⟩ := cell4 gX
            go_wp2_with fail
            clear k4_0 k4_1 k4_2 k5_0 k5_1 k5_2 k5_3
            refine wp_region_held_drew (S := (fun w' => w'.heap[w.heap.size]? = some (.cells #[.int .i64 l, .int .i64 c, .int .i64 r] 29 (0, 0)) ∧ w'.heap[Q]? = some (.cells #[.int .i64 x0, .int .i64 y0, .int .i64 x1, .int .i64 y1] 76 (0, 0)))) (by kernel_rfl) ?_ (fun hHeld => ?_)
            · exact ⟨gT, gX⟩
            replace gT : wr.drew.heap[w.heap.size]? = some (.cells #[.int .i64 l, .int .i64 c, .int .i64 r] 29 (0, 0)) := gT
            replace gX : wr.drew.heap[Q]? = some (.cells #[.int .i64 x0, .int .i64 y0, .int .i64 x1, .int .i64 y1] 76 (0, 0)) := gX
            replace HP : Hid (Pts wr.drew a ps) := hid (HP.out.below (bdrew (Below.refl _ _)))
            replace HSD : Hid (SdB wr.drew sb X) := hid (HSD.out.below (bdrew (Below.refl _ _)))
            replace HL : Hid (BF yw4 wr.drew) := hid (HL.out.below (bdrew (Below.refl _ _)))
            replace hB := bdrew hB
            generalize wr.drew = yw5 at *
            refine wpAnyH_take (i := 0) (v := ?_) rfl (by kernel_rfl) (by kernel_rfl) (by kernel_rfl) (fun _ _ _ h => h) (Or.inl ⟨by rfl, ?_⟩) hHeld ?_
            rotate_left
            · intro w hSw; (try dsimp only at hSw); go_simp; try (with_reducible rfl)
            try simp only [sq]
            refine wpAnyH_take (i := 1) (v := ?_) rfl (by kernel_rfl) (by kernel_rfl) (by kernel_rfl) (fun _ _ _ h => h) (Or.inl ⟨by rfl, ?_⟩) hHeld ?_
            rotate_left
            · intro w hSw; (try dsimp only at hSw); go_simp; try (with_reducible rfl)
            try simp only [sq]
            refine wpAnyH_take (i := 2) (v := ?_) rfl (by kernel_rfl) (by kernel_rfl) (by kernel_rfl) (fun _ _ _ h => h) (Or.inl ⟨by rfl, ?_⟩) hHeld ?_
            rotate_left
            · intro w hSw; (try dsimp only at hSw); obtain ⟨_, _, _, _, _, _⟩ := cellT (hSw.1); obtain ⟨_, _, _, _, _, _, _, _⟩ := cell4 (hSw.2); go_simp; try (with_reducible rfl)
            try simp only [sq]
            refine wpAnyH_take (i := 4) (v := ?_) rfl (by kernel_rfl) (by kernel_rfl) (by kernel_rfl) (fun _ _ _ h => h) (Or.inl ⟨by rfl, ?_⟩) hHeld ?_
            rotate_left
            · intro w hSw; (try dsimp only at hSw); go_simp; try (with_reducible rfl)
            try simp only [sq]
            refine wpAnyH_take (i := 5) (v := ?_) rfl (by kernel_rfl) (by kernel_rfl) (by kernel_rfl) (fun _ _ _ h => h) (Or.inl ⟨by rfl, ?_⟩) hHeld ?_
            rotate_left
            · intro w hSw; (try dsimp only at hSw); go_simp; try (with_reducible rfl)
            try simp only [sq]
            refine wpAnyH_take (i := 6) (v := ?_) rfl (by kernel_rfl) (by kernel_rfl) (by kernel_rfl) (fun _ _ _ h => h) (Or.inl ⟨by rfl, ?_⟩) hHeld ?_
            rotate_left
            · intro w hSw; (try dsimp only at hSw); go_simp; try (with_reducible rfl)
            try simp only [sq]
            refine wpAnyH_ready (rs := [3]) (by kernel_rfl) (by simp) ?_
            refine AllReadyH.cons rfl (fun K hK => ?_) AllReadyH.nil
            try simp only [sq]
            go_simp
            go_at_call 39
            refine (lowB x0 y0 x1 y1 _).mono ?_
            rintro e yw6 ⟨rfl, hcl⟩
            replace gT := keepheap hcl gT
            replace gX := keepheap hcl gX
            replace HP := hid (HP.out.below hcl)
            replace HSD := hid (HSD.out.below hcl)
            replace HL := hid (HL.out.below hcl)
            replace hB := btrans hB hcl
            clear hcl
            go_wp2_with fail
            refine hK.out _ _ ?_ (fun hHeld => ?_)
            · exact ⟨gT, gX⟩
            clear hK K
            try simp only [sq]
            refine wpAnyH_ready (rs := [7]) (by kernel_rfl) (by simp) ?_
            refine AllReadyH.cons rfl (fun K hK => ?_) AllReadyH.nil
            try simp only [sq]
            go_simp
            go_at_call 80
            refine (C1.out _ HP.out).mono ?_
            rintro e yw7 ⟨rfl, hcl⟩
            replace gT := keepheap hcl gT
            replace gX := keepheap hcl gX
            replace HP := hid (HP.out.below hcl)
            replace HSD := hid (HSD.out.below hcl)
            replace HL := hid (HL.out.below hcl)
            replace hB := btrans hB hcl
            clear hcl
            go_wp2_with fail
            refine hK.out _ _ ?_ (fun hHeld => ?_)
            · exact ⟨gT, gX⟩
            clear hK K
            try simp only [sq]
            refine wpAnyH_take (i := 8) (v := ?_) rfl (by kernel_rfl) (by kernel_rfl) (by kernel_rfl) (fun _ _ _ h => h) (Or.inl ⟨by rfl, ?_⟩) hHeld ?_
            rotate_left
            · intro w hSw; (try dsimp only at hSw); go_simp; try (with_reducible rfl)
            try simp only [sq]
            refine wpAnyH_take (i := 9) (v := ?_) rfl (by kernel_rfl) (by kernel_rfl) (by kernel_rfl) (fun _ _ _ h => h) (Or.inl ⟨by rfl, ?_⟩) hHeld ?_
            rotate_left
            · intro w hSw; (try dsimp only at hSw); go_simp; try (with_reducible rfl)
            try simp only [sq]
            refine wpAnyH_done (by kernel_rfl) ?_ _
            clear hHeld
            go_wp2_with fail
            refine bodyPost_ret (v := .tuple #[.slice na 0 ncap, .bool h1]) (by simp [results, Tryd.results19, go_sem]) rfl ⟨.slice na 0 ncap, ?_, hB⟩
            rw [hb, H3.out, HH1.out]; rfl
          · skip
            have ee : F1 = .iface 70 (.slice a ps.length cap) := E1.out
            clear E1 hl hl2
            subst ee
            have C1 := hid (fun w' (hw : Pts w' a ps) => hask1 a cap ps x0 y0 w' hm hc HS.out j0 j1 hw)
            generalize hh1 : hasP 1 ps x0 y0 = h1 at *
            have HH1 := hid hh1
            clear hh1
            obtain ⟨k4_0, k4_1, k4_2, _, _, _⟩ := cellT gT
            obtain ⟨k5_0, k5_1, k5_2, k5_3, _, _, _, _⟩ := cell4 gX
            go_wp2_with fail
            clear k4_0 k4_1 k4_2 k5_0 k5_1 k5_2 k5_3
            refine wp_region_held_drew (S := (fun w' => w'.heap[w.heap.size]? = some (.cells #[.int .i64 l, .int .i64 c, .int .i64 r] 29 (0, 0)) ∧ w'.heap[Q]? = some (.cells #[.int .i64 x0, .int .i64 y0, .int .i64 x1, .int .i64 y1] 76 (0, 0)))) (by kernel_rfl) ?_ (fun hHeld => ?_)
            · exact ⟨gT, gX⟩
            replace gT : wr.drew.heap[w.heap.size]? = some (.cells #[.int .i64 l, .int .i64 c, .int .i64 r] 29 (0, 0)) := gT
            replace gX : wr.drew.heap[Q]? = some (.cells #[.int .i64 x0, .int .i64 y0, .int .i64 x1, .int .i64 y1] 76 (0, 0)) := gX
            replace HP : Hid (Pts wr.drew a ps) := hid (HP.out.below (bdrew (Below.refl _ _)))
            replace HSD : Hid (SdB wr.drew sb X) := hid (HSD.out.below (bdrew (Below.refl _ _)))
            replace HL : Hid (BF yw4 wr.drew) := hid (HL.out.below (bdrew (Below.refl _ _)))
            replace hB := bdrew hB
            generalize wr.drew = yw5 at *
            refine wpAnyH_take (i := 0) (v := ?_) rfl (by kernel_rfl) (by kernel_rfl) (by kernel_rfl) (fun _ _ _ h => h) (Or.inl ⟨by rfl, ?_⟩) hHeld ?_
            rotate_left
            · intro w hSw; (try dsimp only at hSw); go_simp; try (with_reducible rfl)
            try simp only [sq]
            refine wpAnyH_take (i := 1) (v := ?_) rfl (by kernel_rfl) (by kernel_rfl) (by kernel_rfl) (fun _ _ _ h => h) (Or.inl ⟨by rfl, ?_⟩) hHeld ?_
            rotate_left
            · intro w hSw; (try dsimp only at hSw); go_simp; try (with_reducible rfl)
            try simp only [sq]
            refine wpAnyH_take (i := 2) (v := ?_) rfl (by kernel_rfl) (by kernel_rfl) (by kernel_rfl) (fun _ _ _ h => h) (Or.inl ⟨by rfl, ?_⟩) hHeld ?_
            rotate_left
            · intro w hSw; (try dsimp only at hSw); obtain ⟨_, _, _, _, _, _⟩ := cellT (hSw.1); obtain ⟨_, _, _, _, _, _, _, _⟩ := cell4 (hSw.2); go_simp; try (with_reducible rfl)
            try simp only [sq]
            refine wpAnyH_take (i := 4) (v := ?_) rfl (by kernel_rfl) (by kernel_rfl) (by kernel_rfl) (fun _ _ _ h => h) (Or.inl ⟨by rfl, ?_⟩) hHeld ?_
            rotate_left
            · intro w hSw; (try dsimp only at hSw); go_simp; try (with_reducible rfl)
            try simp only [sq]
            refine wpAnyH_take (i := 5) (v := ?_) rfl (by kernel_rfl) (by kernel_rfl) (by kernel_rfl) (fun _ _ _ h => h) (Or.inl ⟨by rfl, ?_⟩) hHeld ?_
            rotate_left
            · intro w hSw; (try dsimp only at hSw); go_simp; try (with_reducible rfl)
            try simp only [sq]
            refine wpAnyH_take (i := 6) (v := ?_) rfl (by kernel_rfl) (by kernel_rfl) (by kernel_rfl) (fun _ _ _ h => h) (Or.inl ⟨by rfl, ?_⟩) hHeld ?_
            rotate_left
            · intro w hSw; (try dsimp only at hSw); go_simp; try (with_reducible rfl)
            try simp only [sq]
            refine wpAnyH_ready (rs := [3]) (by kernel_rfl) (by simp) ?_
            refine AllReadyH.cons rfl (fun K hK => ?_) AllReadyH.nil
            try simp only [sq]
            go_simp
            go_at_call 39
            refine (lowB x0 y0 x1 y1 _).mono ?_
            rintro e yw6 ⟨rfl, hcl⟩
            replace gT := keepheap hcl gT
            replace gX := keepheap hcl gX
            replace HP := hid (HP.out.below hcl)
            replace HSD := hid (HSD.out.below hcl)
            replace HL := hid (HL.out.below hcl)
            replace hB := btrans hB hcl
            clear hcl
            go_wp2_with fail
            refine hK.out _ _ ?_ (fun hHeld => ?_)
            · exact ⟨gT, gX⟩
            clear hK K
            try simp only [sq]
            refine wpAnyH_ready (rs := [7]) (by kernel_rfl) (by simp) ?_
            refine AllReadyH.cons rfl (fun K hK => ?_) AllReadyH.nil
            try simp only [sq]
            go_simp
            go_at_call 82
            refine (C1.out _ HP.out).mono ?_
            rintro e yw7 ⟨rfl, hcl⟩
            replace gT := keepheap hcl gT
            replace gX := keepheap hcl gX
            replace HP := hid (HP.out.below hcl)
            replace HSD := hid (HSD.out.below hcl)
            replace HL := hid (HL.out.below hcl)
            replace hB := btrans hB hcl
            clear hcl
            go_wp2_with fail
            refine hK.out _ _ ?_ (fun hHeld => ?_)
            · exact ⟨gT, gX⟩
            clear hK K
            try simp only [sq]
            refine wpAnyH_take (i := 8) (v := ?_) rfl (by kernel_rfl) (by kernel_rfl) (by kernel_rfl) (fun _ _ _ h => h) (Or.inl ⟨by rfl, ?_⟩) hHeld ?_
            rotate_left
            · intro w hSw; (try dsimp only at hSw); go_simp; try (with_reducible rfl)
            try simp only [sq]
            refine wpAnyH_take (i := 9) (v := ?_) rfl (by kernel_rfl) (by kernel_rfl) (by kernel_rfl) (fun _ _ _ h => h) (Or.inl ⟨by rfl, ?_⟩) hHeld ?_
            rotate_left
            · intro w hSw; (try dsimp only at hSw); go_simp; try (with_reducible rfl)
            try simp only [sq]
            refine wpAnyH_done (by kernel_rfl) ?_ _
            clear hHeld
            go_wp2_with fail
            refine bodyPost_ret (v := .tuple #[.slice na 0 ncap, .bool h1]) (by simp [results, Tryd.results19, go_sem]) rfl ⟨.slice na 0 ncap, ?_, hB⟩
            rw [hb, H3.out, HH1.out]; rfl
          · skip
            have ee : F1 = .iface 71 (.slice a ps.length cap) := E1.out
            clear E1 hl
            subst ee
            have C1 := hid (fun w' (hw : Pts w' a ps) => hask2 a cap ps x0 y0 w' hm hc HS.out j0 j1 hw)
            generalize hh1 : hasP 2 ps x0 y0 = h1 at *
            have HH1 := hid hh1
            clear hh1
            obtain ⟨k4_0, k4_1, k4_2, _, _, _⟩ := cellT gT
            obtain ⟨k5_0, k5_1, k5_2, k5_3, _, _, _, _⟩ := cell4 gX
            go_wp2_with fail
            clear k4_0 k4_1 k4_2 k5_0 k5_1 k5_2 k5_3
            refine wp_region_held_drew (S := (fun w' => w'.heap[w.heap.size]? = some (.cells #[.int .i64 l, .int .i64 c, .int .i64 r] 29 (0, 0)) ∧ w'.heap[Q]? = some (.cells #[.int .i64 x0, .int .i64 y0, .int .i64 x1, .int .i64 y1] 76 (0, 0)))) (by kernel_rfl) ?_ (fun hHeld => ?_)
            · exact ⟨gT, gX⟩
            replace gT : wr.drew.heap[w.heap.size]? = some (.cells #[.int .i64 l, .int .i64 c, .int .i64 r] 29 (0, 0)) := gT
            replace gX : wr.drew.heap[Q]? = some (.cells #[.int .i64 x0, .int .i64 y0, .int .i64 x1, .int .i64 y1] 76 (0, 0)) := gX
            replace HP : Hid (Pts wr.drew a ps) := hid (HP.out.below (bdrew (Below.refl _ _)))
            replace HSD : Hid (SdB wr.drew sb X) := hid (HSD.out.below (bdrew (Below.refl _ _)))
            replace HL : Hid (BF yw4 wr.drew) := hid (HL.out.below (bdrew (Below.refl _ _)))
            replace hB := bdrew hB
            generalize wr.drew = yw5 at *
            refine wpAnyH_take (i := 0) (v := ?_) rfl (by kernel_rfl) (by kernel_rfl) (by kernel_rfl) (fun _ _ _ h => h) (Or.inl ⟨by rfl, ?_⟩) hHeld ?_
            rotate_left
            · intro w hSw; (try dsimp only at hSw); go_simp; try (with_reducible rfl)
            try simp only [sq]
            refine wpAnyH_take (i := 1) (v := ?_) rfl (by kernel_rfl) (by kernel_rfl) (by kernel_rfl) (fun _ _ _ h => h) (Or.inl ⟨by rfl, ?_⟩) hHeld ?_
            rotate_left
            · intro w hSw; (try dsimp only at hSw); go_simp; try (with_reducible rfl)
            try simp only [sq]
            refine wpAnyH_take (i := 2) (v := ?_) rfl (by kernel_rfl) (by kernel_rfl) (by kernel_rfl) (fun _ _ _ h => h) (Or.inl ⟨by rfl, ?_⟩) hHeld ?_
            rotate_left
            · intro w hSw; (try dsimp only at hSw); obtain ⟨_, _, _, _, _, _⟩ := cellT (hSw.1); obtain ⟨_, _, _, _, _, _, _, _⟩ := cell4 (hSw.2); go_simp; try (with_reducible rfl)
            try simp only [sq]
            refine wpAnyH_take (i := 4) (v := ?_) rfl (by kernel_rfl) (by kernel_rfl) (by kernel_rfl) (fun _ _ _ h => h) (Or.inl ⟨by rfl, ?_⟩) hHeld ?_
            rotate_left
            · intro w hSw; (try dsimp only at hSw); go_simp; try (with_reducible rfl)
            try simp only [sq]
            refine wpAnyH_take (i := 5) (v := ?_) rfl (by kernel_rfl) (by kernel_rfl) (by kernel_rfl) (fun _ _ _ h => h) (Or.inl ⟨by rfl, ?_⟩) hHeld ?_
            rotate_left
            · intro w hSw; (try dsimp only at hSw); go_simp; try (with_reducible rfl)
            try simp only [sq]
            refine wpAnyH_take (i := 6) (v := ?_) rfl (by kernel_rfl) (by kernel_rfl) (by kernel_rfl) (fun _ _ _ h => h) (Or.inl ⟨by rfl, ?_⟩) hHeld ?_
            rotate_left
            · intro w hSw; (try dsimp only at hSw); go_simp; try (with_reducible rfl)
            try simp only [sq]
            refine wpAnyH_ready (rs := [3]) (by kernel_rfl) (by simp) ?_
            refine AllReadyH.cons rfl (fun K hK => ?_) AllReadyH.nil
            try simp only [sq]
            go_simp
            go_at_call 39
            refine (lowB x0 y0 x1 y1 _).mono ?_
            rintro e yw6 ⟨rfl, hcl⟩
            replace gT := keepheap hcl gT
            replace gX := keepheap hcl gX
            replace HP := hid (HP.out.below hcl)
            replace HSD := hid (HSD.out.below hcl)
            replace HL := hid (HL.out.below hcl)
            replace hB := btrans hB hcl
            clear hcl
            go_wp2_with fail
            refine hK.out _ _ ?_ (fun hHeld => ?_)
            · exact ⟨gT, gX⟩
            clear hK K
            try simp only [sq]
            refine wpAnyH_ready (rs := [7]) (by kernel_rfl) (by simp) ?_
            refine AllReadyH.cons rfl (fun K hK => ?_) AllReadyH.nil
            try simp only [sq]
            go_simp
            go_at_call 87
            refine (C1.out _ HP.out).mono ?_
            rintro e yw7 ⟨rfl, hcl⟩
            replace gT := keepheap hcl gT
            replace gX := keepheap hcl gX
            replace HP := hid (HP.out.below hcl)
            replace HSD := hid (HSD.out.below hcl)
            replace HL := hid (HL.out.below hcl)
            replace hB := btrans hB hcl
            clear hcl
            go_wp2_with fail
            refine hK.out _ _ ?_ (fun hHeld => ?_)
            · exact ⟨gT, gX⟩
            clear hK K
            try simp only [sq]
            refine wpAnyH_take (i := 8) (v := ?_) rfl (by kernel_rfl) (by kernel_rfl) (by kernel_rfl) (fun _ _ _ h => h) (Or.inl ⟨by rfl, ?_⟩) hHeld ?_
            rotate_left
            · intro w hSw; (try dsimp only at hSw); go_simp; try (with_reducible rfl)
            try simp only [sq]
            refine wpAnyH_take (i := 9) (v := ?_) rfl (by kernel_rfl) (by kernel_rfl) (by kernel_rfl) (fun _ _ _ h => h) (Or.inl ⟨by rfl, ?_⟩) hHeld ?_
            rotate_left
            · intro w hSw; (try dsimp only at hSw); go_simp; try (with_reducible rfl)
            try simp only [sq]
            refine wpAnyH_done (by kernel_rfl) ?_ _
            clear hHeld
            go_wp2_with fail
            refine bodyPost_ret (v := .tuple #[.slice na 0 ncap, .bool h1]) (by simp [results, Tryd.results19, go_sem]) rfl ⟨.slice na 0 ncap, ?_, hB⟩
            rw [hb, H3.out, HH1.out]; rfl
          · skip
            have ee : F1 = .iface 72 (.slice a ps.length cap) := E1.out
            clear E1 hl hl2
            subst ee
            have C1 := hid (fun w' (hw : Pts w' a ps) => hask3 a cap ps x0 y0 w' hm hc HS.out j0 j1 hw)
            generalize hh1 : hasP 3 ps x0 y0 = h1 at *
            have HH1 := hid hh1
            clear hh1
            obtain ⟨k4_0, k4_1, k4_2, _, _, _⟩ := cellT gT
            obtain ⟨k5_0, k5_1, k5_2, k5_3, _, _, _, _⟩ := cell4 gX
            go_wp2_with fail
            clear k4_0 k4_1 k4_2 k5_0 k5_1 k5_2 k5_3
            refine wp_region_held_drew (S := (fun w' => w'.heap[w.heap.size]? = some (.cells #[.int .i64 l, .int .i64 c, .int .i64 r] 29 (0, 0)) ∧ w'.heap[Q]? = some (.cells #[.int .i64 x0, .int .i64 y0, .int .i64 x1, .int .i64 y1] 76 (0, 0)))) (by kernel_rfl) ?_ (fun hHeld => ?_)
            · exact ⟨gT, gX⟩
            replace gT : wr.drew.heap[w.heap.size]? = some (.cells #[.int .i64 l, .int .i64 c, .int .i64 r] 29 (0, 0)) := gT
            replace gX : wr.drew.heap[Q]? = some (.cells #[.int .i64 x0, .int .i64 y0, .int .i64 x1, .int .i64 y1] 76 (0, 0)) := gX
            replace HP : Hid (Pts wr.drew a ps) := hid (HP.out.below (bdrew (Below.refl _ _)))
            replace HSD : Hid (SdB wr.drew sb X) := hid (HSD.out.below (bdrew (Below.refl _ _)))
            replace HL : Hid (BF yw4 wr.drew) := hid (HL.out.below (bdrew (Below.refl _ _)))
            replace hB := bdrew hB
            generalize wr.drew = yw5 at *
            refine wpAnyH_take (i := 0) (v := ?_) rfl (by kernel_rfl) (by kernel_rfl) (by kernel_rfl) (fun _ _ _ h => h) (Or.inl ⟨by rfl, ?_⟩) hHeld ?_
            rotate_left
            · intro w hSw; (try dsimp only at hSw); go_simp; try (with_reducible rfl)
            try simp only [sq]
            refine wpAnyH_take (i := 1) (v := ?_) rfl (by kernel_rfl) (by kernel_rfl) (by kernel_rfl) (fun _ _ _ h => h) (Or.inl ⟨by rfl, ?_⟩) hHeld ?_
            rotate_left
            · intro w hSw; (try dsimp only at hSw); go_simp; try (with_reducible rfl)
            try simp only [sq]
            refine wpAnyH_take (i := 2) (v := ?_) rfl (by kernel_rfl) (by kernel_rfl) (by kernel_rfl) (fun _ _ _ h => h) (Or.inl ⟨by rfl, ?_⟩) hHeld ?_
            rotate_left
            · intro w hSw; (try dsimp only at hSw); obtain ⟨_, _, _, _, _, _⟩ := cellT (hSw.1); obtain ⟨_, _, _, _, _, _, _, _⟩ := cell4 (hSw.2); go_simp; try (with_reducible rfl)
            try simp only [sq]
            refine wpAnyH_take (i := 4) (v := ?_) rfl (by kernel_rfl) (by kernel_rfl) (by kernel_rfl) (fun _ _ _ h => h) (Or.inl ⟨by rfl, ?_⟩) hHeld ?_
            rotate_left
            · intro w hSw; (try dsimp only at hSw); go_simp; try (with_reducible rfl)
            try simp only [sq]
            refine wpAnyH_take (i := 5) (v := ?_) rfl (by kernel_rfl) (by kernel_rfl) (by kernel_rfl) (fun _ _ _ h => h) (Or.inl ⟨by rfl, ?_⟩) hHeld ?_
            rotate_left
            · intro w hSw; (try dsimp only at hSw); go_simp; try (with_reducible rfl)
            try simp only [sq]
            refine wpAnyH_take (i := 6) (v := ?_) rfl (by kernel_rfl) (by kernel_rfl) (by kernel_rfl) (fun _ _ _ h => h) (Or.inl ⟨by rfl, ?_⟩) hHeld ?_
            rotate_left
            · intro w hSw; (try dsimp only at hSw); go_simp; try (with_reducible rfl)
            try simp only [sq]
            refine wpAnyH_ready (rs := [3]) (by kernel_rfl) (by simp) ?_
            refine AllReadyH.cons rfl (fun K hK => ?_) AllReadyH.nil
            try simp only [sq]
            go_simp
            go_at_call 39
            refine (lowB x0 y0 x1 y1 _).mono ?_
            rintro e yw6 ⟨rfl, hcl⟩
            replace gT := keepheap hcl gT
            replace gX := keepheap hcl gX
            replace HP := hid (HP.out.below hcl)
            replace HSD := hid (HSD.out.below hcl)
            replace HL := hid (HL.out.below hcl)
            replace hB := btrans hB hcl
            clear hcl
            go_wp2_with fail
            refine hK.out _ _ ?_ (fun hHeld => ?_)
            · exact ⟨gT, gX⟩
            clear hK K
            try simp only [sq]
            refine wpAnyH_ready (rs := [7]) (by kernel_rfl) (by simp) ?_
            refine AllReadyH.cons rfl (fun K hK => ?_) AllReadyH.nil
            try simp only [sq]
            go_simp
            go_at_call 90
            refine (C1.out _ HP.out).mono ?_
            rintro e yw7 ⟨rfl, hcl⟩
            replace gT := keepheap hcl gT
            replace gX := keepheap hcl gX
            replace HP := hid (HP.out.below hcl)
            replace HSD := hid (HSD.out.below hcl)
            replace HL := hid (HL.out.below hcl)
            replace hB := btrans hB hcl
            clear hcl
            go_wp2_with fail
            refine hK.out _ _ ?_ (fun hHeld => ?_)
            · exact ⟨gT, gX⟩
            clear hK K
            try simp only [sq]
            refine wpAnyH_take (i := 8) (v := ?_) rfl (by kernel_rfl) (by kernel_rfl) (by kernel_rfl) (fun _ _ _ h => h) (Or.inl ⟨by rfl, ?_⟩) hHeld ?_
            rotate_left
            · intro w hSw; (try dsimp only at hSw); go_simp; try (with_reducible rfl)
            try simp only [sq]
            refine wpAnyH_take (i := 9) (v := ?_) rfl (by kernel_rfl) (by kernel_rfl) (by kernel_rfl) (fun _ _ _ h => h) (Or.inl ⟨by rfl, ?_⟩) hHeld ?_
            rotate_left
            · intro w hSw; (try dsimp only at hSw); go_simp; try (with_reducible rfl)
            try simp only [sq]
            refine wpAnyH_done (by kernel_rfl) ?_ _
            clear hHeld
            go_wp2_with fail
            refine bodyPost_ret (v := .tuple #[.slice na 0 ncap, .bool h1]) (by simp [results, Tryd.results19, go_sem]) rfl ⟨.slice na 0 ncap, ?_, hB⟩
            rw [hb, H3.out, HH1.out]; rfl
end Go.Proofs.YtmnnbifekbacnaaDoor
