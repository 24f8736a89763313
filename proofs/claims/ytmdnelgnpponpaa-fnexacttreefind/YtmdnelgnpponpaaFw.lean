/- What is around a knot, as the landed code has it. -/
import Derived.Test.YtmdnelgnpponpaaFv
import Derived.Test.YtmdnelgnpponpaaGeo9
namespace Go.Proofs.Ytmdnelgnpponpaa
open Go.RowKit Go.Shelf
set_option linter.unusedSimpArgs false
set_option linter.unusedVariables false
def flp (qs : List (Int × Int)) : List Value := qs.flatMap fun q => [.int .i64 q.1, .int .i64 q.2]
theorem flp_app (a b : List (Int × Int)) : flp (a ++ b) = flp a ++ flp b := List.flatMap_append
theorem cell_flp {w : World} {b : Nat} : ∀ (l : List (Int × Int)) (o : Nat), Cs w b o (flp l) → ∀ j (h : j < l.length), w.cell? ⟨b, o + j * 2, none⟩ = some (.int .i64 l[j].1) ∧ w.cell? ⟨b, o + j * 2 + 1, none⟩ = some (.int .i64 l[j].2)
  | [], o, _, j, h => by cases h
  | x :: r, o, H, 0, h => by
    refine ⟨?_, ?_⟩
    · have := H 0 (.int .i64 x.1) rfl
      simpa using this
    · have := H 1 (.int .i64 x.2) rfl
      simpa using this
  | x :: r, o, H, j + 1, h => by
    have := cell_flp r (o + 2) (fun i v e => by
      have := H (i + 2) v (show ([Value.int .i64 x.1, .int .i64 x.2] ++ flp r)[i + 2]? = some v by
        rw [List.getElem?_append_right (by simp)]
        simpa using e)
      rwa [show o + (i + 2) = o + 2 + i by omega] at this) j (by simpa using h)
    rw [show o + (j + 1) * 2 = o + 2 + j * 2 by omega]
    exact this
/-- Points in a row that a call has grown. -/
def PtG (w : World) (B g c : Nat) (l : List (Int × Int)) : Prop := w.ownsRow B 86 2 (.slice (some ⟨g, 0, none⟩) l.length c) l.length (flp l)
theorem PtG.lt {w : World} {B g c : Nat} {l : List (Int × Int)} (h : PtG w B g c l) : B ≤ g ∧ g < w.heap.size := World.ownsRow.lt h g rfl
theorem PtG.typ {w : World} {B g c : Nat} {l : List (Int × Int)} (h : PtG w B g c l) : B ≤ g ∧ l.length ≤ c ∧ ∃ cur, w.heap[g]? = some (.cells cur 86 (0, 0)) := by
  rcases h.2 with ⟨e, _⟩ | ⟨g', c', cur, e, q1, q2, q3, _⟩
  · cases e
  · cases e; exact ⟨q1, q3, cur, q2⟩
theorem PtG.below {w w' : World} {B g c : Nat} {l : List (Int × Int)} (h : PtG w B g c l) (H : Below w.heap.size w w') : PtG w' B g c l :=
  World.ownsRow.kept h (row := none) ⟨H.os, H.tape, H.output, H.size, fun k hk _ => H.block k hk⟩ (.inr (by simp [Value.ownBlock]))
theorem PtG.pts {w : World} {B g c : Nat} {l : List (Int × Int)} (h : PtG w B g c l) : Pts w (some ⟨g, 0, none⟩) l := by
  have hc := World.ownsRow.cells h (g := g) rfl
  have hcs : Cs w g 0 (flp l) := by
    intro i v e
    have := hc i v e
    have ha : (⟨g, 0, none⟩ : Addr).add i = ⟨g, 0 + i, none⟩ := Addr.add_mid g 0 i
    rwa [ha] at this
  exact .inr ⟨g, 0, rfl, h.lt.2, fun j hj => by
    have := cell_flp l 0 hcs j hj
    have e : l.getD j (0, 0) = l[j] := by rw [List.getD_eq_getElem?_getD, List.getElem?_eq_getElem hj]; rfl
    rw [e]; exact this⟩
theorem ofP {w : World} {B g c n : Nat} {l : List (Int × Int)} {vs : List Value} (h : w.ownsRow B 86 2 (.slice (some ⟨g, 0, none⟩) n c) n vs) (hn : n = l.length) (hv : vs = flp l) : PtG w B g c l := by
  subst hn hv; exact h
theorem cor_len : ∀ l : List Bx, (cor l).length = 2 * l.length
  | [] => rfl
  | x :: r => by rw [cor_cons]; simp only [List.length_cons]; rw [cor_len r]; omega
theorem cor_next (l : List Bx) (x : Bx) : cor (l ++ [x]) = cor l ++ [(x.1, x.2.1), (x.2.2.1, x.2.2.2)] := by
  unfold cor
  rw [List.flatMap_append]; rfl
theorem Try.infoPo : (Try.prog.info? 86).map (fun i => (i.zero, i.size, i.bytes)) = some (some (.agg #[.int .i64 0, .int .i64 0]), 2, 16) := by kernel_rfl
theorem make_pts (n : Nat) (hn : n ≤ 1099511627776) (w : World) : (Instr.makeSlice 90 (.int .i64 0) (.int .i64 n)).run Try.prog w = .ok (.slice (some ⟨w.heap.size, 0, none⟩) 0 n) (w.alloc (.cells (madeCells #[.int .i64 0, .int .i64 0] (n * 2)) 86)) := by
  obtain ⟨i0, hi0, hz0, hz1, hz2⟩ := info_parts Try.infoPo
  have := run_make (P := Try.prog) w 90 86 i0 _ Try.underlying90 hi0 hz0 .i64 .i64 0 n (by omega) (by omega) (by rw [hz2]; omega) (by omega)
  rw [hz1] at this
  exact this
set_option maxRecDepth 100000 in
set_option maxHeartbeats 8000000 in
theorem impl_around (m lo : Nat) (t : KT) (ia ka : Option Addr) (w : World) (h : Kn lo m w ia ka t) (hz : ksz m t ≤ 1048576) : Calls Try.prog 55 #[kvo t ia ka] w fun e w' => e = .returned (.agg #[.int .i64 (arI t).1, .int .i64 (arI t).2.1, .int .i64 (arI t).2.2.1, .int .i64 (arI t).2.2.2]) ∧ Below w.heap.size w w' := by
  obtain ⟨i0, hi0, hz0, hz1, hzz⟩ := info_parts Try.infoPo
  have hks : t.bxs.length ≤ 1048576 := by
    cases m with
    | zero => exact h.elim
    | succ m =>
      unfold KT.bxs KT.ibs KT.kbs
      rw [List.length_append, List.length_map, List.length_map]
      exact Nat.le_trans (show t.its.length + t.kids.length ≤ t.its.length + t.kids.length + (t.kids.map (ksz m)).sum by omega) hz
  have CB := hid (fun (W : World) (hb : Below w.heap.size w W) => impl_boxes m lo t ia ka W (h.below hb) hz)
  obtain ⟨b0, b1, b2, b3, b4, ni, nk, hkf⟩ := kf t
  have hkv : kvo t ia ka = .agg #[.int .i64 b0, .int .i64 b1, .int .i64 b2, .int .i64 b3, .bool b4, .slice ia ni ni, .slice ka nk nk] := kvo_of hkf _ _
  rw [hkv] at CB ⊢
  have HAR : Hid (arI t = (aX (cor t.bxs), aY (cor t.bxs), bX (cor t.bxs), bY' (cor t.bxs))) := hid rfl
  generalize arI t = ar at *
  generalize t.bxs = L at *
  clear h hz hkv hkf
  have gT := hid (old_alloc (o' := (.cells #[.int .i64 0, .int .i64 0, .int .i64 0, .int .i64 0] 30)) (new_alloc w w.heap.size (.cells #[.int .i64 b0, .int .i64 b1, .int .i64 b2, .int .i64 b3, .bool b4, .slice ia ni ni, .slice ka nk nk] 34) rfl))
  have gZ := hid (new_alloc (w.alloc (.cells #[.int .i64 b0, .int .i64 b1, .int .i64 b2, .int .i64 b3, .bool b4, .slice ia ni ni, .slice ka nk nk] 34)) (w.heap.size + 1) (.cells #[.int .i64 0, .int .i64 0, .int .i64 0, .int .i64 0] 30) (by simp))
  have B0 := hid (balloc (balloc (Below.refl w.heap.size w) (.cells #[.int .i64 b0, .int .i64 b1, .int .i64 b2, .int .i64 b3, .bool b4, .slice ia ni ni, .slice ka nk nk] 34)) (.cells #[.int .i64 0, .int .i64 0, .int .i64 0, .int .i64 0] 30))
  have hmul : IntKind.i64.wrap (2 * (L.length : Int)) = ((2 * L.length : Nat) : Int) := by rw [IntKind.wrap_i64] <;> omega
  have hmk := make_pts (2 * L.length) (by omega)
  have hN2 : 2 * L.length ≤ 2097152 := by omega
  generalize hN : 2 * L.length = N at *
  have HN := hid hN
  clear hN
  go_enter Try.func55, Try.ntmps55
  go_wp2_with fail
  generalize (w.alloc (.cells #[.int .i64 b0, .int .i64 b1, .int .i64 b2, .int .i64 b3, .bool b4, .slice ia ni ni, .slice ka nk nk] 34)).alloc (.cells #[.int .i64 0, .int .i64 0, .int .i64 0, .int .i64 0] 30) = v0 at *
  refine (CB.out _ B0.out).mono ?_
  rintro e v1 ⟨g, c, rfl, hG, hb⟩
  have gZ1 := hid (keepheap hb gZ.out)
  have B1 := hid (btrans B0.out hb)
  have hs0 := B0.out.size
  have HG := hid hG
  clear hG hb CB gZ B0 gT
  go_wp2_with fail
  have hO0 := World.ownsRow_made (base := w.heap.size) (e := 86) (size := 2) v1 (madeCells #[.int .i64 0, .int .i64 0] (N * 2)) N B1.out.size (by unfold maxLen; omega) (size_madeCells _ _)
  have P0 : PtG (v1.alloc (.cells (madeCells #[.int .i64 0, .int .i64 0] (N * 2)) 86)) w.heap.size v1.heap.size N (cor (L.take 0)) := hO0
  have G0 := HG.out.below (balloc (Below.refl v1.heap.size v1) (.cells (madeCells #[.int .i64 0, .int .i64 0] (N * 2)) 86))
  have Z0 := old_alloc (o' := .cells (madeCells #[.int .i64 0, .int .i64 0] (N * 2)) 86) gZ1.out
  have BB0 := balloc B1.out (.cells (madeCells #[.int .i64 0, .int .i64 0] (N * 2)) 86)
  generalize v1.alloc (.cells (madeCells #[.int .i64 0, .int .i64 0] (N * 2)) 86) = v2 at *
  clear hO0 hmk HG gZ1 B1
  go_loopw [4, 17] (fun t4 t17 wr => ∃ k gp cp : Nat, k ≤ L.length ∧ t17 = .int .i64 k ∧ t4 = .slice (some ⟨gp, 0, none⟩) (cor (L.take k)).length cp ∧ Hid (PtG wr w.heap.size gp cp (cor (L.take k))) ∧ Hid (BxG wr v0.heap.size g c L) ∧ Hid (wr.heap[w.heap.size + 1]? = some (.cells #[.int .i64 0, .int .i64 0, .int .i64 0, .int .i64 0] 30 (0, 0))) ∧ Hid (Below w.heap.size w wr)) (fun _ t17 _ => L.length - (intOf t17).toNat)
  case atStart => exact ⟨0, v1.heap.size, N, Nat.zero_le _, rfl, rfl, hid P0, hid G0, hid Z0, hid BB0⟩
  case round =>
    clear P0 G0 Z0 BB0 v2
    obtain ⟨k, gp, cp, hk, rfl, rfl, HP, HG, HZ, HB⟩ := hrel
    by_cases hlt : k < L.length
    · have c1 : (k : Int) < (L.length : Int) := by omega
      obtain hcs := HG.out.at k hlt
      have y0 := hcs 0 _ rfl
      have y1 := hcs 1 _ rfl
      have y2 := hcs 2 _ rfl
      have y3 := hcs 3 _ rfl
      have hnx : cor (L.take (k + 1)) = cor (L.take k) ++ [(L[k].1, L[k].2.1), (L[k].2.2.1, L[k].2.2.2)] := by
        rw [List.take_add_one, List.getElem?_eq_getElem hlt, Option.toList_some, cor_next]
      have hpl : (cor (L.take k)).length ≤ 2097152 := by rw [cor_len, List.length_take]; omega
      have HNX := hid hnx
      clear hnx hcs
      generalize cor (L.take k) = P at *
      generalize hxx : L[k] = xx at *
      clear hxx
      obtain ⟨x0, x1, x2, x3⟩ := xx
      simp only [Nat.add_zero] at y0 y1 y2 y3
      have hgg := HG.out.lt
      obtain ⟨hgl, hgc, cur, hgt⟩ := HP.out.typ
      obtain ⟨_, curb, hgb⟩ := HG.out.typ
      have hgpl := lt_of_heap hgt
      have hne : gp ≠ g := fun e => by rw [e, hgb] at hgt; cases hgt
      have hnz : gp ≠ w.heap.size + 1 := fun e => by rw [e, HZ.out] at hgt; cases hgt
      have hsX := HB.out.size
      go_upto_region 6 with fail
      have r0 := (cell4b (new_alloc wr wr.heap.size (.cells #[.int .i64 x0, .int .i64 x1, .int .i64 x2, .int .i64 x3] 30) rfl)).1
      have r1 := (cell4b (new_alloc wr wr.heap.size (.cells #[.int .i64 x0, .int .i64 x1, .int .i64 x2, .int .i64 x3] 30) rfl)).2.1
      have r2 := (cell4b (new_alloc wr wr.heap.size (.cells #[.int .i64 x0, .int .i64 x1, .int .i64 x2, .int .i64 x3] 30) rfl)).2.2.1
      have r3 := (cell4b (new_alloc wr wr.heap.size (.cells #[.int .i64 x0, .int .i64 x1, .int .i64 x2, .int .i64 x3] 30) rfl)).2.2.2.1
      have hBx := balloc (Below.refl wr.heap.size wr) (.cells #[.int .i64 x0, .int .i64 x1, .int .i64 x2, .int .i64 x3] 30)
      have HPF : Hid (∀ W, Below (wr.alloc (.cells #[.int .i64 x0, .int .i64 x1, .int .i64 x2, .int .i64 x3] 30)).heap.size (wr.alloc (.cells #[.int .i64 x0, .int .i64 x1, .int .i64 x2, .int .i64 x3] 30)) W → PtG W w.heap.size gp cp P) := hid (fun W hb => (HP.out.below hBx).below hb)
      have HGF : Hid (∀ W, Below (wr.alloc (.cells #[.int .i64 x0, .int .i64 x1, .int .i64 x2, .int .i64 x3] 30)).heap.size (wr.alloc (.cells #[.int .i64 x0, .int .i64 x1, .int .i64 x2, .int .i64 x3] 30)) W → BxG W v0.heap.size g c L) := hid (fun W hb => (HG.out.below hBx).below hb)
      have HZF : Hid (∀ W, Below (wr.alloc (.cells #[.int .i64 x0, .int .i64 x1, .int .i64 x2, .int .i64 x3] 30)).heap.size (wr.alloc (.cells #[.int .i64 x0, .int .i64 x1, .int .i64 x2, .int .i64 x3] 30)) W → W.heap[w.heap.size + 1]? = some (.cells #[.int .i64 0, .int .i64 0, .int .i64 0, .int .i64 0] 30 (0, 0))) := hid (fun W hb => keepheap hb (keepheap hBx HZ.out))
      have HBF : Hid (∀ W, Below (wr.alloc (.cells #[.int .i64 x0, .int .i64 x1, .int .i64 x2, .int .i64 x3] 30)).heap.size (wr.alloc (.cells #[.int .i64 x0, .int .i64 x1, .int .i64 x2, .int .i64 x3] 30)) W → Below w.heap.size w W) := hid (fun W hb => btrans (btrans HB.out hBx) hb)
      have hsW : w.heap.size ≤ (wr.alloc (.cells #[.int .i64 x0, .int .i64 x1, .int .i64 x2, .int .i64 x3] 30)).heap.size := Nat.le_trans hsX hBx.size
      clear HP HG HZ HB hBx
      generalize wr.alloc (.cells #[.int .i64 x0, .int .i64 x1, .int .i64 x2, .int .i64 x3] 30) = v at *
      have hvb : some wr.heap.size ≠ (Value.slice (some ⟨gp, 0, none⟩) P.length cp).ownBlock := by simp only [Value.ownBlock, ne_eq, Option.some.injEq]; omega
      go_region_held3 (fun w' => w'.cell? ⟨wr.heap.size, 0, none⟩ = some (.int .i64 x0) ∧ w'.cell? ⟨wr.heap.size, 1, none⟩ = some (.int .i64 x1) ∧ w'.cell? ⟨wr.heap.size, 2, none⟩ = some (.int .i64 x2) ∧ w'.cell? ⟨wr.heap.size, 3, none⟩ = some (.int .i64 x3)) ((go_split_ands; (repeat' apply And.intro) <;> (repeat (first | with_reducible assumption | with_reducible refine keepdrew ?_ | with_reducible refine keepalloc ?_ _ | with_reducible exact keepcell hv2 (by with_reducible assumption) | with_reducible exact keepcell hv1 (by with_reducible assumption) | (refine hgrow.cell ?_ hvb)))))
        (first
          | (go_at_call 64; refine (low_b _ _ _ _ _).mono ?_; rintro e' w1 ⟨rfl, hb1⟩; have hv1 : Below v.heap.size v w1 := btrans (bdrew (Below.refl _ _)) hb1)
          | (go_at_call 65; refine (high_b _ _ _ _ _).mono ?_; rintro e' w2 ⟨rfl, hb2⟩; have hv2 : Below v.heap.size v w2 := btrans hv1 hb2)
          | (refine step_append_lies _ (by rfl) _ _ _ (by rfl) w.heap.size 86 i0 _ 2 16 Try.underlying90 hi0 hz0 hz1 hzz rfl (by omega) (.slice (some ⟨gp, 0, none⟩) P.length cp) P.length (flp P) (by rfl) (World.ownsRow.alloc (HPF.out _ hv2) _) ⟨w2.heap.size, 0, none⟩ 2 2 [.int .i64 x0, .int .i64 x1, .int .i64 x2, .int .i64 x3] (by rfl) (by rfl) (World.news_of_block (cs := #[.int .i64 x0, .int .i64 x1, .int .i64 x2, .int .i64 x3]) (t := 86) (fr := (0, 0)) (heap_alloc_new _ _)) (by simp [Value.oneCell']) (by omega) (by unfold maxLen; omega) (by omega) (balloc (HBF.out _ hv2) _).size _ rfl ?_; intro gg cp' v3 hown1 hgrow hat hlt2))
      have hg2 : PtG v3 w.heap.size gg cp' (P ++ [(x0, x1), (x2, x3)]) := ofP hown1 (by rw [List.length_append]; rfl) (by rw [flp_app]; rfl)
      have hG2 : BxG v3 v0.heap.size g c L := World.ownsRow.kept (World.ownsRow.alloc (HGF.out _ hv2) _) hgrow (.inr (by simp only [Value.ownBlock, ne_eq, Option.some.injEq]; omega))
      have hZ2 : v3.heap[w.heap.size + 1]? = some (.cells #[.int .i64 0, .int .i64 0, .int .i64 0, .int .i64 0] 30 (0, 0)) := (hgrow.block _ (lt_of_heap (old_alloc (HZF.out _ hv2))) (by simp only [Value.ownBlock, ne_eq, Option.some.injEq]; omega)).trans (old_alloc (HZF.out _ hv2))
      have hB2 : Below w.heap.size w v3 := (balloc (HBF.out _ hv2) _).grown hgrow (balloc (HBF.out _ hv2) _).size (fun r e => by cases e; exact hgl)
      have hPl : (P ++ [(x0, x1), (x2, x3)]).length = P.length + 2 := by rw [List.length_append]; rfl
      clear hown1 hgrow hat hb1 hb2 hv1 hv2 r0 r1 r2 r3
      go_wp2_with fail
      go_roundw
      case rel => exact ⟨k + 1, gg, cp', by omega, by go_num, by rw [HNX.out, hPl], by rw [HNX.out]; exact hid hg2, hid hG2, hid hZ2, hid hB2⟩
      case measure => simp [intOf]; omega
    · have c1 : ¬ (k : Int) < (L.length : Int) := by omega
      have hall : L.take k = L := List.take_of_length_le (by omega)
      rw [hall] at HP ⊢
      obtain ⟨hgl, hgc, cur, hgt⟩ := HP.out.typ
      have hlen : (cor L).length ≤ 2097152 := by rw [cor_len]; omega
      have CA := hid (impl_BoxAround (some ⟨gp, 0, none⟩) cp (cor L) wr (by omega) hgc HP.out.pts)
      have HZ2 := HZ
      clear hgt hall
      generalize aX (cor L) = a0 at *
      generalize aY (cor L) = a1 at *
      generalize bX (cor L) = a2 at *
      generalize bY' (cor L) = a3 at *
      generalize aok (cor L) = ak at *
      generalize (cor L).length = NN at *
      go_wp2_with fail
      refine CA.out.mono ?_
      rintro e w1 ⟨rfl, hb1⟩
      have hz1 := keepheap hb1 HZ.out
      have hB1 := balloc (btrans HB.out hb1) (.cells #[.int .i64 a0, .int .i64 a1, .int .i64 a2, .int .i64 a3] 30)
      have hz2 := old_alloc (o' := (.cells #[.int .i64 a0, .int .i64 a1, .int .i64 a2, .int .i64 a3] 30)) hz1
      obtain ⟨z0, z1, z2, z3, f0, f1, f2, f3⟩ := cell4b hz2
      have hz3 := set4b hz2 (.int .i64 a0) (.int .i64 a1) (.int .i64 a2) (.int .i64 a3)
      have HB3 := hid (setL_below [.int .i64 a0, .int .i64 a1, .int .i64 a2, .int .i64 a3] w _ (w.heap.size + 1) 0 w.heap.size hB1 (by omega))
      obtain ⟨q0, q1, q2, q3, _, _, _, _⟩ := cell4b hz3
      have HQ := hid (And.intro q0 (And.intro q1 (And.intro q2 q3)))
      clear q0 q1 q2 q3 hz3 hz2 hz1 hB1 HG HP HB HZ HZ2 CA hgl hgc
      go_wp2_with fail
      obtain ⟨q0, q1, q2, q3⟩ := HQ.out
      rw [HAR.out]
      exact bodyPost_ret (v := .agg #[.int .i64 a0, .int .i64 a1, .int .i64 a2, .int .i64 a3]) (by simp [results, Try.results55, go_sem, q0, q1, q2, q3]) rfl ⟨rfl, HB3.out⟩
end Go.Proofs.Ytmdnelgnpponpaa
