/- IdsAt of both sides. -/
import Derived.Test.YtnaobljoopjhgaaGreatRwH
import Derived.Test.YtnaobljoopjhgaaGreatRwS
namespace Go.Proofs.YtnaobljoopjhgaaGreat
open Go.RowKit
set_option linter.unusedSimpArgs false
set_option linter.unusedVariables false
def idsT (rs : List Rw) (t : Int) : List Int := (rs.filter (fun r => thr (tr r) t)).map (fun r => r.1)
def srt (zs : List Int) : List Int := zs.mergeSort (fun x y => decide (x ≤ y))
def idsb (now : Int) (rs : List Rw) (t : Int) : List Int := if rowsb now rs = true then srt (idsT rs t) else []
theorem srt_len (zs : List Int) : (srt zs).length = zs.length := (List.mergeSort_perm zs _).length_eq
theorem srt_of {zs ys : List Int} (hp : ys.Perm zs) (hs : ys.Pairwise (· ≤ ·)) : ys = srt zs := by
  have h1 := List.pairwise_mergeSort (le := fun (x y : Int) => decide (x ≤ y)) (by intro a b c; simp; omega) (by intro a b; simp; omega) zs
  refine List.Perm.eq_of_pairwise (le := (· ≤ ·)) (fun a b _ _ h k => by omega) hs (h1.imp (fun h => by simpa using h)) (hp.trans (List.mergeSort_perm zs _).symm)
theorem ids_next {rs : List Rw} {t : Int} {i : Nat} (hi : i < rs.length) : idsT (rs.take (i + 1)) t = if thr (tr rs[i]) t = true then idsT (rs.take i) t ++ [rs[i].1] else idsT (rs.take i) t := by
  unfold idsT
  rw [List.take_add_one, List.getElem?_eq_getElem hi, List.filter_append, List.map_append]
  by_cases h : thr (tr rs[i]) t = true
  · simp [h]
  · simp [h]
theorem ids_len (rs : List Rw) (t : Int) : (idsT rs t).length ≤ rs.length := by
  unfold idsT
  rw [List.length_map]
  exact List.length_filter_le _ _
theorem ins_perm (zs : List Int) (x : Int) (j : Nat) : (zs.take j ++ x :: zs.drop j).Perm (x :: zs) := by
  have := List.perm_middle (a := x) (l₁ := zs.take j) (l₂ := zs.drop j)
  rw [List.take_append_drop] at this
  exact this
theorem ins_sorted {zs : List Int} {x : Int} {j : Nat} (hs : zs.Pairwise (· ≤ ·)) (h1 : ∀ k, k < j → zs.getD k 0 < x) (h2 : j < zs.length → x ≤ zs.getD j 0) : (zs.take j ++ x :: zs.drop j).Pairwise (· ≤ ·) := by
  have hx : ∀ y ∈ zs.drop j, x ≤ y := by
    intro y hy
    obtain ⟨m, hm, rfl⟩ := List.mem_iff_getElem.1 hy
    simp only [List.length_drop] at hm
    have hj : j < zs.length := by omega
    have h3 := h2 hj
    rw [List.getD_eq_getElem?_getD, List.getElem?_eq_getElem hj] at h3
    simp only [Option.getD_some] at h3
    rw [List.getElem_drop]
    by_cases e : m = 0
    · subst e; simpa using h3
    · have := List.pairwise_iff_getElem.1 hs j (j + m) hj (by omega) (by omega)
      omega
  have hl : ∀ y ∈ zs.take j, y < x := by
    intro y hy
    obtain ⟨m, hm, rfl⟩ := List.mem_iff_getElem.1 hy
    simp only [List.length_take] at hm
    have := h1 m (by omega)
    rw [List.getD_eq_getElem?_getD, List.getElem?_eq_getElem (by omega)] at this
    simp only [Option.getD_some] at this
    rw [List.getElem_take]; exact this
  rw [List.pairwise_append]
  refine ⟨hs.sublist (List.take_sublist _ _), ?_, ?_⟩
  · rw [List.pairwise_cons]
    exact ⟨hx, hs.sublist (List.drop_sublist _ _)⟩
  · intro y hy z hz
    have a1 := hl y hy
    simp at hz
    rcases hz with rfl | hz
    · omega
    · have := hx z hz; omega
def IA (w : World) (zs : List Int) (e : Ending) (w' : World) : Prop :=
  ∃ a' cap', e = .returned (.slice a' zs.length cap') ∧ OwnI w' a' zs ∧ (∀ b off, a' = some ⟨b, off, none⟩ → w.heap.size ≤ b) ∧ Below w.heap.size w w'
/-- A list of whole numbers that the call has made. -/
def IRow (B : Nat) (w : World) (v : Value) (zs : List Int) : Prop := ∃ g cap, v = .slice (some ⟨g, 0, none⟩) zs.length cap ∧ g < w.heap.size ∧ zs.length ≤ cap ∧ w.ownsRow B 3 1 (.slice (some ⟨g, 0, none⟩) zs.length cap) zs.length (fli zs)
theorem own_mono {B B' : Nat} {w : World} {e : TypeId} {sz : Nat} {v : Value} {n : Nat} {xs : List Value} (h : w.ownsRow B e sz v n xs) (hb : B' ≤ B) : w.ownsRow B' e sz v n xs := by
  refine ⟨h.1, ?_⟩
  rcases h.2 with q | ⟨g, c, cur, e1, q1, q2, q3⟩
  · exact .inl q
  · exact .inr ⟨g, c, cur, e1, by omega, q2, q3⟩
theorem irow_of {B g cap n : Nat} {w : World} {zs : List Int} (h : w.ownsRow B 3 1 (.slice (some ⟨g, 0, none⟩) n cap) n (fli zs)) (hn : zs.length = n) : IRow B w (.slice (some ⟨g, 0, none⟩) n cap) zs := by
  subst hn
  obtain ⟨h1, h2, h3⟩ := own_I h rfl
  exact ⟨g, cap, rfl, h3.lt g 0 rfl, h2, h⟩
theorem IRow.below {B : Nat} {w w' : World} {v : Value} {zs : List Int} (h : IRow B w v zs) (H : Below w.heap.size w w') : IRow B w' v zs := by
  obtain ⟨g, cap, rfl, h1, h2, h3⟩ := h
  refine ⟨g, cap, rfl, Nat.lt_of_lt_of_le h1 H.size, h2, h3.1, ?_⟩
  rcases h3.2 with ⟨q, _⟩ | ⟨g', c', cur, e, q1, q2, q3⟩
  · cases q
  · cases e
    exact .inr ⟨g, cap, cur, rfl, q1, by rw [H.block g h1]; exact q2, q3⟩
set_option maxRecDepth 100000 in
set_option maxHeartbeats 2000000 in
theorem spec_IdsAt {N : Nat → Prop} (now : Int) (a : Option Addr) (cap : Nat) (rs : List Rw) (t : Int) (w : World) (hm : rs.length ≤ 1099511627776) (h : Rws N w a rs) : Calls Tryz.prog 17 #[.agg #[.int .i64 now, .slice a rs.length cap], .int .i64 t] w fun e w' => IA w (idsb now rs t) e w' := by
  have HOK := hid (fun (W : World) (hb : Below w.heap.size w W) => spec_RowsOk now a cap rs W hm (h.below hb))
  have HR := hid h
  clear h
  have HNO : Hid (rowsb now rs = false → idsb now rs t = []) := hid (fun e => by unfold idsb; rw [if_neg (by rw [e]; simp)])
  have HYE : Hid (rowsb now rs = true → ∀ ys, ys.Perm (idsT rs t) → ys.Pairwise (· ≤ ·) → ys = idsb now rs t) := hid (fun e ys hp hs => by unfold idsb; rw [if_pos e]; exact srt_of hp hs)
  obtain ⟨n, hn⟩ : ∃ n, n = rs.length := ⟨_, rfl⟩
  have HN := hid hn.symm
  rw [← hn] at hm HOK ⊢
  clear hn
  generalize idsb now rs t = ib at *
  generalize rowsb now rs = ob at *
  go_enter Tryz.func17, Tryz.ntmps17
  go_upto_region 2 with fail
  have hBx : Below w.heap.size w ((w.alloc (.cells #[.int .i64 now, .slice a n cap] 32)).alloc (.cells #[] 3)) := balloc (balloc (Below.refl _ _) _) _
  have g0 := old_alloc (o' := .cells #[] 3) (new_alloc w w.heap.size (.cells #[.int .i64 now, .slice a n cap] 32) rfl)
  have ho := own_newI2 (w := w.alloc (.cells #[.int .i64 now, .slice a n cap] 32)) (B := w.heap.size) (X := w.heap.size + 1) (by simp) (by simp)
  generalize (w.alloc (.cells #[.int .i64 now, .slice a n cap] 32)).alloc (.cells #[] 3) = W0 at *
  have HI := hid (irow_of (zs := []) ho rfl)
  clear ho
  obtain ⟨d0, d1, _, _⟩ := cell2r g0
  go_wp2_with fail
  refine (HOK.out _ hBx).mono ?_
  rintro e W ⟨rfl, hz⟩
  have g1 := keepheap2 hz g0
  have hB := btrans hBx hz
  replace HI := hid (HI.out.below hz)
  clear g0 hBx hz d0 d1 HOK
  cases ob
  · have HF := hid (HNO.out rfl)
    clear HNO HYE
    go_wp2_with fail
    go_ret
    obtain ⟨g, c, e, h1, h2, h3⟩ := HI.out
    cases e
    obtain ⟨q1, q2, q3⟩ := own_I h3 rfl
    rw [HF.out]
    exact ⟨some ⟨_, 0, none⟩, _, rfl, q3, fun b off e => (by cases e; exact q1), hB⟩
  have HG1 := hid g1
  have HB1 := hid hB
  have HYE2 := hid (HYE.out rfl)
  clear g1 hB HNO HYE
  go_wp2_with fail
  go_loopw [5, 6] (fun tv ti wr => ∃ i : Nat, ∃ zs : List Int, ti = .int .i64 i ∧ i ≤ n ∧ Hid (zs.length ≤ i ∧ zs.Perm (idsT (rs.take i) t) ∧ zs.Pairwise (· ≤ ·)) ∧ Hid (IRow w.heap.size wr tv zs) ∧ Hid (wr.heap[w.heap.size]? = some (.cells #[.int .i64 now, .slice a n cap] 32 (0, 0))) ∧ Hid (Below w.heap.size w wr)) (fun _ ti _ => n - (intOf ti).toNat)
  case atStart => exact ⟨0, [], rfl, Nat.zero_le _, hid ⟨Nat.le_refl _, by simp [idsT], List.Pairwise.nil⟩, HI, HG1, HB1⟩
  case round =>
    clear HI HG1 HB1
    obtain ⟨i, zs, rfl, hi, HZ, HV, G0, HBW⟩ := hrel
    obtain ⟨g, c, rfl, hgl, hgc, hown⟩ := HV.out
    have HO := hid hown
    clear hown HV
    obtain ⟨d0, d1, _, _⟩ := cell2r G0.out
    by_cases hlt : i < n
    · have c1 : (i : Int) < (n : Int) := by omega
      have hir : i < rs.length := by rw [HN.out]; exact hlt
      obtain ⟨b, o, rfl, hbs, a', cap', k0, k1, k2, k3, k4, k5, k6, k7, _⟩ := (HR.out.below HBW.out).at i hir
      have ST := hid (fun w' => spec_there rs[i] a' cap' t w')
      have HX := hid (ids_next (t := t) hir)
      unfold rwv at ST
      clear k5 k6 k7
      generalize thr (tr rs[i]) t = q2 at *
      generalize rs[i].1 = id2 at *
      generalize rs[i].2.1 = fr at *
      generalize rs[i].2.2.1 = te at *
      generalize rs[i].2.2.2.1 = kd at *
      generalize rs[i].2.2.2.2.length = np at *
      go_wp2_with fail
      refine (ST.out _).mono ?_
      rintro e z ⟨rfl, hz⟩
      have g1 := keepheap2 hz G0.out
      have HBz := hid (btrans HBW.out hz)
      have HIz := hid ((irow_of HO.out rfl).below hz)
      replace k0 := keepcell hz k0
      have hsz := hz.size
      clear hz d0 d1 k1 k2 k3 k4
      obtain ⟨d0, d1, _, _⟩ := cell2r g1
      have HG1 := hid g1
      clear g1
      cases q2
      · have HZ2 : Hid (zs.length ≤ i + 1 ∧ zs.Perm (idsT (rs.take (i + 1)) t) ∧ zs.Pairwise (· ≤ ·)) := hid ⟨by have := HZ.out.1; omega, by rw [HX.out, if_neg (by simp)]; exact HZ.out.2.1, HZ.out.2.2⟩
        go_wp2_with fail
        go_roundw
        case rel => exact ⟨i + 1, zs, by go_num, by omega, HZ2, HIz, HG1, HBz⟩
        case measure => simp [intOf]; omega
      · have hzl := HZ.out.1
        have HX2 : Hid (idsT (rs.take (i + 1)) t = idsT (rs.take i) t ++ [id2]) := hid (by rw [HX.out]; simp)
        obtain ⟨g', c', e', hgl', hgc', hown'⟩ := HIz.out
        cases e'
        have AD := hid (add_c w.heap.size g zs.length c zs id2 z (by omega) rfl hgc' hgl' hown')
        clear hown' hgc' hgl'
        go_wp2_with fail
        refine AD.out.mono ?_
        rintro e y ⟨j, g2, c2, hj, h1, h2, rfl, hown2, hy⟩
        have HZ2 : Hid ((zs.take j ++ id2 :: zs.drop j).length ≤ i + 1 ∧ (zs.take j ++ id2 :: zs.drop j).Perm (idsT (rs.take (i + 1)) t) ∧ (zs.take j ++ id2 :: zs.drop j).Pairwise (· ≤ ·)) := hid ⟨by have := (ins_perm zs id2 j).length_eq; simp only [List.length_cons] at this; omega, by
          rw [HX2.out]
          exact (ins_perm zs id2 j).trans ((List.perm_append_singleton id2 _).symm.trans ((List.Perm.append_right [id2] HZ.out.2.1))), ins_sorted HZ.out.2.2 h1 h2⟩
        have HV2 := hid (irow_of (own_mono hown2 (show w.heap.size ≤ z.heap.size by have := HBz.out.size; omega)) (zs := zs.take j ++ id2 :: zs.drop j) (by have := (ins_perm zs id2 j).length_eq; simpa using this))
        have HG2 := hid (keepheap2 hy HG1.out)
        have HBy := hid (btrans HBz.out hy)
        clear hown2 hy h1 h2 d0 d1 k0
        go_wp2_with fail
        go_roundw
        case rel => exact ⟨i + 1, _, by go_num, by omega, HZ2, HV2, HG2, HBy⟩
        case measure => simp [intOf]; omega
    · have c1 : (n : Int) ≤ (i : Int) := by omega
      have hin : i = rs.length := by have := HN.out; omega
      have HF : Hid (zs = ib) := hid (HYE2.out zs (by have := HZ.out.2.1; rw [hin, List.take_length] at this; exact this) HZ.out.2.2)
      clear hin
      go_wp2_with fail
      go_ret
      obtain ⟨q1, q2, q3⟩ := own_I HO.out rfl
      have := HF.out
      subst this
      exact ⟨some ⟨_, 0, none⟩, _, rfl, q3, fun b off e => (by cases e; exact q1), HBW.out⟩
end Go.Proofs.YtnaobljoopjhgaaGreat
