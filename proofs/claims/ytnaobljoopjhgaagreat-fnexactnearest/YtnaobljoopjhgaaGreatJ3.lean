/- Texts of stores, joined: Bc, Nh, Ni. -/
import Derived.Test.YtnaobljoopjhgaaGreatJ2
namespace Go.Proofs.YtnaobljoopjhgaaGreat
open Go.RowKit
set_option linter.unusedSimpArgs false
set_option linter.unusedVariables false
/-- What l06Row tells of an id that is there. -/
def RB (w : World) (rk : Int) (rp : List (Int × Int)) (rb : Bool) (e : Ending) (w' : World) : Prop :=
  ∃ gq cq, e = .returned (.tuple #[.agg #[.int .i64 rk, .slice (some ⟨gq, 0, none⟩) rp.length cq], .bool rb]) ∧ rp.length ≤ cq ∧ w.heap.size ≤ gq ∧ gq < w'.heap.size ∧ Pts w' (some ⟨gq, 0, none⟩) rp ∧ Below w.heap.size w w'
theorem spec_rowB {N : Nat → Prop} (now : Int) (a : Option Addr) (cap : Nat) (rs : List Rw) (id t : Int) (w : World) (hm : rs.length ≤ 1099511627776) (h : Rws N w a rs) (hid2 : id ∈ idsb now rs t) : Calls Tryz.prog 18 #[.agg #[.int .i64 now, .slice a rs.length cap], .int .i64 id, .int .i64 t] w fun e w' => RB w (raK (rat rs id t)) (raP (rat rs id t)) (rat rs id t).isSome e w' := by
  obtain ⟨hr, hs⟩ := idsb_row hid2
  refine (spec_row now a cap rs id t w hm h (fun m hm => (shok_aok (rowsb_sh hr hm)).2.1)).mono ?_
  rintro e w' ⟨a', cap', rfl, hc, ho, hn, hb⟩
  rcases ho with ⟨_, q⟩ | ⟨b, rfl, ho⟩
  · have := (shok_aok hs).2.1
    rw [q] at this
    simp at this
  · exact ⟨b, cap', rfl, hc, hn b 0 rfl, ho.1, ho.pts, hb⟩
/-- The shape that was found, in its own place. -/
def RQ (W : World) (rk : Int) (rp : List (Int × Int)) (tv : Value) (wx : World) : Prop :=
  ∃ ba gq cq, tv = .pointer (some ⟨ba, 0, none⟩) ∧ W.heap.size ≤ ba ∧ wx.heap[ba]? = some (.cells #[.int .i64 rk, .slice (some ⟨gq, 0, none⟩) rp.length cq] 47 (0, 0)) ∧ rp.length ≤ cq ∧ Pts wx (some ⟨gq, 0, none⟩) rp ∧ Below W.heap.size W wx ∧ W.heap.size ≤ gq ∧ gq < wx.heap.size ∧ ba ≠ gq
theorem rq_mk {W Z : World} {rk : Int} {rp : List (Int × Int)} {xb gq cq : Nat} (gX : Z.heap[xb]? = some (.cells #[.int .i64 0, .slice none 0 0] 47 (0, 0))) (hcq : rp.length ≤ cq) (hp : Pts Z (some ⟨gq, 0, none⟩) rp) (hne : xb ≠ gq) (hxb : W.heap.size ≤ xb) (hD : Below W.heap.size W Z) (hlo : W.heap.size ≤ gq) (hhi : gq < Z.heap.size) : RQ W rk rp (.pointer (some ⟨xb, 0, none⟩)) ((Z.setCell ⟨xb, 0, none⟩ (.int .i64 rk)).setCell ⟨xb, 1, none⟩ (.slice (some ⟨gq, 0, none⟩) rp.length cq)) := by
  refine ⟨xb, gq, cq, rfl, hxb, set2r gX _ _, hcq, ?_, bset (bset hD (q := xb) (k := 0) hxb _) (q := xb) (k := 1) hxb _, hlo, by simpa using hhi, hne⟩
  rcases hp with h | ⟨b, off, ea, hb, hp⟩
  · exact .inl h
  · cases ea
    refine .inr ⟨gq, 0, rfl, by simpa using hb, fun k hk => ?_⟩
    rw [World.cell?_setCell_far _ _ _ _ (by dsimp only; omega), World.cell?_setCell_far _ _ _ _ (by dsimp only; omega), World.cell?_setCell_far _ _ _ _ (by dsimp only; omega), World.cell?_setCell_far _ _ _ _ (by dsimp only; omega)]
    exact hp k hk
/-- Where the walk of Bounds stands. -/
def SB (w : World) (now : Int) (a : Option Addr) (n0 cap : Nat) (gi ob : Nat) (ids : List Int) (zs : List (Int × Int)) (wr : World) : Prop :=
  wr.heap[w.heap.size]? = some (.cells #[.int .i64 now, .slice a n0 cap] 32 (0, 0)) ∧ wr.heap[w.heap.size + 1]? = some (.cells #[.int .i64 0, .int .i64 0, .int .i64 0, .int .i64 0] 51 (0, 0)) ∧ wr.heap[ob]? = some (.cells #[.int .i64 (aX zs), .int .i64 (aY zs), .int .i64 (bX zs), .int .i64 (bY' zs)] 51 (0, 0)) ∧ gi < wr.heap.size ∧ IAt wr gi 0 ids ∧ Below w.heap.size w wr
theorem IAt.blk {w w' : World} {b off : Nat} {zs : List Int} (h : IAt w b off zs) (e : w'.heap[b]? = w.heap[b]?) : IAt w' b off zs := fun k hk => by
  have hc : ∀ k, w'.cell? ⟨b, k, none⟩ = w.cell? ⟨b, k, none⟩ := fun k => by simp only [World.cell?, e]
  rw [hc]
  exact h k hk
/-- The ids that were told, with a block for them. -/
theorem ids_blk {w : World} {a1 : Option Addr} {ids : List Int} (h : OwnI w a1 ids) (d : Nat) (hd : d < w.heap.size) : ∃ gi, (0 < ids.length → a1 = some ⟨gi, 0, none⟩) ∧ gi < w.heap.size ∧ IAt w gi 0 ids := by
  rcases h with ⟨rfl, rfl⟩ | ⟨b, rfl, hb, hi, _⟩
  · exact ⟨d, fun h => absurd h (by simp), hd, fun k hk => absurd hk (by simp)⟩
  · exact ⟨b, fun _ => rfl, hb, hi⟩
end Go.Proofs.YtnaobljoopjhgaaGreat
namespace Go.Proofs.YtnaobljoopjhgaaGreat
open Go.RowKit
set_option linter.unusedSimpArgs false
set_option linter.unusedVariables false
def IAR (w : World) (zs : List Int) (e : Ending) (w' : World) : Prop := ∃ v, e = .returned v ∧ IRow w.heap.size w' v zs ∧ Below w.heap.size w w'
set_option maxRecDepth 100000 in
set_option maxHeartbeats 2000000 in
theorem spec_IdsR9 {N : Nat → Prop} (now : Int) (a : Option Addr) (cap : Nat) (rs : List Rw) (t : Int) (w : World) (hm : rs.length ≤ 1099511627776) (h : Rws N w a rs) : Calls Tryz.prog 17 #[.agg #[.int .i64 now, .slice a rs.length cap], .int .i64 t] w fun e w' => IAR w (idsb now rs t) e w' := by
  have HOK := hid (fun (W : World) (hb : Below w.heap.size w W) => spec_RowsOk now a cap rs W hm (h.below hb))
  have HR := hid h
  clear h
  have HNO : Hid (rowsb now rs = false → idsb now rs t = []) := hid (fun e => by unfold idsb; rw [if_neg (by rw [e]; simp)])
  have HYE : Hid (rowsb now rs = true → ∀ ys, ys.Perm (idsT rs t) → ys.Pairwise (· ≤ ·) → ys = idsb now rs t) := hid (fun e ys hp hs => by unfold idsb; rw [if_pos e]; exact srt_of hp hs)
  obtain ⟨n, hn⟩ : ∃ n, n = rs.length := ⟨_, rfl⟩
  have HN := hid hn.symm
  rw [← hn] at hm HOK ⊢
  clear hn
  generalize idsb now rs t = ib at *
  generalize rowsb now rs = ob at *
  go_enter Tryz.func17, Tryz.ntmps17
  go_upto_region 2 with fail
  have hBx : Below w.heap.size w ((w.alloc (.cells #[.int .i64 now, .slice a n cap] 32)).alloc (.cells #[] 3)) := balloc (balloc (Below.refl _ _) _) _
  have g0 := old_alloc (o' := .cells #[] 3) (new_alloc w w.heap.size (.cells #[.int .i64 now, .slice a n cap] 32) rfl)
  have ho := own_newI2 (w := w.alloc (.cells #[.int .i64 now, .slice a n cap] 32)) (B := w.heap.size) (X := w.heap.size + 1) (by simp) (by simp)
  generalize (w.alloc (.cells #[.int .i64 now, .slice a n cap] 32)).alloc (.cells #[] 3) = W0 at *
  have HI := hid (irow_of (zs := []) ho rfl)
  clear ho
  obtain ⟨d0, d1, _, _⟩ := cell2r g0
  go_wp2_with fail
  refine (HOK.out _ hBx).mono ?_
  rintro e W ⟨rfl, hz⟩
  have g1 := keepheap2 hz g0
  have hB := btrans hBx hz
  replace HI := hid (HI.out.below hz)
  clear g0 hBx hz d0 d1 HOK
  cases ob
  · have HF := hid (HNO.out rfl)
    clear HNO HYE
    go_wp2_with fail
    go_ret
    rw [HF.out]
    exact ⟨_, rfl, HI.out, hB⟩
  have HG1 := hid g1
  have HB1 := hid hB
  have HYE2 := hid (HYE.out rfl)
  clear g1 hB HNO HYE
  go_wp2_with fail
  go_loopw [5, 6] (fun tv ti wr => ∃ i : Nat, ∃ zs : List Int, ti = .int .i64 i ∧ i ≤ n ∧ Hid (zs.length ≤ i ∧ zs.Perm (idsT (rs.take i) t) ∧ zs.Pairwise (· ≤ ·)) ∧ Hid (IRow w.heap.size wr tv zs) ∧ Hid (wr.heap[w.heap.size]? = some (.cells #[.int .i64 now, .slice a n cap] 32 (0, 0))) ∧ Hid (Below w.heap.size w wr)) (fun _ ti _ => n - (intOf ti).toNat)
  case atStart => exact ⟨0, [], rfl, Nat.zero_le _, hid ⟨Nat.le_refl _, by simp [idsT], List.Pairwise.nil⟩, HI, HG1, HB1⟩
  case round =>
    clear HI HG1 HB1
    obtain ⟨i, zs, rfl, hi, HZ, HV, G0, HBW⟩ := hrel
    obtain ⟨g, c, rfl, hgl, hgc, hown⟩ := HV.out
    have HO := hid hown
    clear hown HV
    obtain ⟨d0, d1, _, _⟩ := cell2r G0.out
    by_cases hlt : i < n
    · have c1 : (i : Int) < (n : Int) := by omega
      have hir : i < rs.length := by rw [HN.out]; exact hlt
      obtain ⟨b, o, rfl, hbs, a', cap', k0, k1, k2, k3, k4, k5, k6, k7, _⟩ := (HR.out.below HBW.out).at i hir
      have ST := hid (fun w' => spec_there rs[i] a' cap' t w')
      have HX := hid (ids_next (t := t) hir)
      unfold rwv at ST
      clear k5 k6 k7
      generalize thr (tr rs[i]) t = q2 at *
      generalize rs[i].1 = id2 at *
      generalize rs[i].2.1 = fr at *
      generalize rs[i].2.2.1 = te at *
      generalize rs[i].2.2.2.1 = kd at *
      generalize rs[i].2.2.2.2.length = np at *
      go_wp2_with fail
      refine (ST.out _).mono ?_
      rintro e z ⟨rfl, hz⟩
      have g1 := keepheap2 hz G0.out
      have HBz := hid (btrans HBW.out hz)
      have HIz := hid ((irow_of HO.out rfl).below hz)
      replace k0 := keepcell hz k0
      have hsz := hz.size
      clear hz d0 d1 k1 k2 k3 k4
      obtain ⟨d0, d1, _, _⟩ := cell2r g1
      have HG1 := hid g1
      clear g1
      cases q2
      · have HZ2 : Hid (zs.length ≤ i + 1 ∧ zs.Perm (idsT (rs.take (i + 1)) t) ∧ zs.Pairwise (· ≤ ·)) := hid ⟨by have := HZ.out.1; omega, by rw [HX.out, if_neg (by simp)]; exact HZ.out.2.1, HZ.out.2.2⟩
        go_wp2_with fail
        go_roundw
        case rel => exact ⟨i + 1, zs, by go_num, by omega, HZ2, HIz, HG1, HBz⟩
        case measure => simp [intOf]; omega
      · have hzl := HZ.out.1
        have HX2 : Hid (idsT (rs.take (i + 1)) t = idsT (rs.take i) t ++ [id2]) := hid (by rw [HX.out]; simp)
        obtain ⟨g', c', e', hgl', hgc', hown'⟩ := HIz.out
        cases e'
        have AD := hid (add_c w.heap.size g zs.length c zs id2 z (by omega) rfl hgc' hgl' hown')
        clear hown' hgc' hgl'
        go_wp2_with fail
        refine AD.out.mono ?_
        rintro e y ⟨j, g2, c2, hj, h1, h2, rfl, hown2, hy⟩
        have HZ2 : Hid ((zs.take j ++ id2 :: zs.drop j).length ≤ i + 1 ∧ (zs.take j ++ id2 :: zs.drop j).Perm (idsT (rs.take (i + 1)) t) ∧ (zs.take j ++ id2 :: zs.drop j).Pairwise (· ≤ ·)) := hid ⟨by have := (ins_perm zs id2 j).length_eq; simp only [List.length_cons] at this; omega, by
          rw [HX2.out]
          exact (ins_perm zs id2 j).trans ((List.perm_append_singleton id2 _).symm.trans ((List.Perm.append_right [id2] HZ.out.2.1))), ins_sorted HZ.out.2.2 h1 h2⟩
        have HV2 := hid (irow_of (own_mono hown2 (show w.heap.size ≤ z.heap.size by have := HBz.out.size; omega)) (zs := zs.take j ++ id2 :: zs.drop j) (by have := (ins_perm zs id2 j).length_eq; simpa using this))
        have HG2 := hid (keepheap2 hy HG1.out)
        have HBy := hid (btrans HBz.out hy)
        clear hown2 hy h1 h2 d0 d1 k0
        go_wp2_with fail
        go_roundw
        case rel => exact ⟨i + 1, _, by go_num, by omega, HZ2, HV2, HG2, HBy⟩
        case measure => simp [intOf]; omega
    · have c1 : (n : Int) ≤ (i : Int) := by omega
      have hin : i = rs.length := by have := HN.out; omega
      have HF : Hid (zs = ib) := hid (HYE2.out zs (by have := HZ.out.2.1; rw [hin, List.take_length] at this; exact this) HZ.out.2.2)
      clear hin
      go_wp2_with fail
      go_ret
      have := HF.out
      subst this
      exact ⟨_, rfl, irow_of HO.out rfl, HBW.out⟩
theorem idsb_asc (now : Int) (rs : List Rw) (t : Int) : (idsb now rs t).Pairwise (· < ·) := by
  unfold idsb
  split
  · rename_i hr
    have h1 := List.pairwise_mergeSort (le := fun (x y : Int) => decide (x ≤ y)) (by intro a b c; simp; omega) (by intro a b; simp; omega) (idsT rs t)
    have h2 : (idsT rs t).Pairwise (· ≠ ·) := by
      unfold idsT
      rw [List.pairwise_map, List.pairwise_filter, List.pairwise_iff_getElem]
      intro i j hi hj hij p q
      exact rows_apart2 hr hi hj hij p q
    have h3 : (srt (idsT rs t)).Pairwise (· ≠ ·) := (List.mergeSort_perm (idsT rs t) _).symm.pairwise h2 (fun h => Ne.symm h)
    exact (h1.and h3).imp (fun h => by obtain ⟨h4, h5⟩ := h; simp at h4; omega)
  · exact List.Pairwise.nil
/-- How the choice stands: out is told, zs are left. -/
def TS (f : Int → Int) (all out : List Cn) (zs : List Int) : Prop := (out ++ zs.map (fun z => (z, f z))).Perm all ∧ out.Pairwise lec ∧ (∀ x ∈ out, ∀ z ∈ zs, lec x (z, f z)) ∧ zs.Pairwise (· < ·)
/-- The first least among the first i. -/
def KM (f : Int → Int) (zs : List Int) (i k : Nat) : Prop := k < i ∧ (∀ j, j < i → f (zs.getD k 0) ≤ f (zs.getD j 0)) ∧ (∀ j, j < k → f (zs.getD k 0) < f (zs.getD j 0))
theorem KM.next {f : Int → Int} {zs : List Int} {i k : Nat} (h : KM f zs i k) : KM f zs (i + 1) (if f (zs.getD i 0) < f (zs.getD k 0) then i else k) := by
  obtain ⟨h1, h2, h3⟩ := h
  by_cases c : f (zs.getD i 0) < f (zs.getD k 0)
  · rw [if_pos c]
    refine ⟨by omega, fun j hj => ?_, fun j hj => ?_⟩
    · by_cases e : j = i
      · subst e; exact Int.le_refl _
      · have := h2 j (by omega); omega
    · have := h2 j hj; omega
  · rw [if_neg c]
    refine ⟨by omega, fun j hj => ?_, h3⟩
    by_cases e : j = i
    · subst e; omega
    · exact h2 j (by omega)
theorem split_at {zs : List Int} {k : Nat} (hk : k < zs.length) : zs = zs.take k ++ zs.getD k 0 :: zs.drop (k + 1) := by
  have h1 := List.take_append_drop k zs
  rw [List.drop_eq_getElem_cons hk] at h1
  rw [List.getD_eq_getElem?_getD, List.getElem?_eq_getElem hk]
  exact h1.symm
theorem TS.next {f : Int → Int} {all out : List Cn} {zs : List Int} {k : Nat} (h : TS f all out zs) (hk : KM f zs zs.length k) : TS f all (out ++ [(zs.getD k 0, f (zs.getD k 0))]) (zs.take k ++ zs.drop (k + 1)) := by
  obtain ⟨h1, h2, h3, h4⟩ := h
  obtain ⟨k1, k2, k3⟩ := hk
  have hs := split_at k1
  have hmem : zs.getD k 0 ∈ zs := by rw [List.getD_eq_getElem?_getD, List.getElem?_eq_getElem k1]; exact List.getElem_mem k1
  have hsub : ∀ z, z ∈ zs.take k ++ zs.drop (k + 1) → z ∈ zs := fun z hz => by
    rcases List.mem_append.1 hz with hz | hz
    · exact List.mem_of_mem_take hz
    · exact List.mem_of_mem_drop hz
  refine ⟨?_, ?_, fun x hx z hz => ?_, ?_⟩
  · refine List.Perm.trans ?_ h1
    rw [List.append_assoc]
    refine List.Perm.append_left out ?_
    have e : zs.map (fun z => (z, f z)) = (zs.take k).map (fun z => (z, f z)) ++ (zs.getD k 0, f (zs.getD k 0)) :: (zs.drop (k + 1)).map (fun z => (z, f z)) := by
      conv => lhs; rw [hs]
      rw [List.map_append, List.map_cons]
    rw [e, List.map_append, List.singleton_append]
    exact List.perm_middle.symm
  · rw [List.pairwise_append]
    refine ⟨h2, List.pairwise_singleton _ _, fun x hx y hy => ?_⟩
    simp at hy
    subst hy
    exact h3 x hx _ hmem
  · rcases List.mem_append.1 hx with hx | hx
    · exact h3 x hx z (hsub z hz)
    · simp at hx
      subst hx
      unfold lec
      rcases List.mem_append.1 hz with hz | hz
      · obtain ⟨j, hj, rfl⟩ := List.mem_iff_getElem.1 hz
        simp only [List.length_take] at hj
        have := k3 j (by omega)
        rw [List.getD_eq_getElem?_getD (i := j), List.getElem?_eq_getElem (by omega)] at this
        rw [List.getElem_take]
        left
        exact this
      · obtain ⟨j, hj, rfl⟩ := List.mem_iff_getElem.1 hz
        simp only [List.length_drop] at hj
        have a1 := k2 (k + 1 + j) (by omega)
        have a2 := List.pairwise_iff_getElem.1 h4 k (k + 1 + j) k1 (by omega) (by omega)
        rw [List.getD_eq_getElem?_getD (i := k + 1 + j), List.getElem?_eq_getElem (by omega)] at a1
        rw [List.getElem_drop]
        have a3 : zs.getD k 0 = zs[k] := by rw [List.getD_eq_getElem?_getD, List.getElem?_eq_getElem k1]; rfl
        simp only [Option.getD_some] at a1
        have a4 : zs[k]?.getD 0 = zs[k] := by rw [List.getElem?_eq_getElem k1]; rfl
        first
          | rw [a3] at a1
          | rw [a4] at a1
          | skip
        first
          | rw [a4]
          | rw [a3]
          | skip
        simp only
        omega
  · rw [hs] at h4
    exact h4.sublist (List.Sublist.append_left (List.sublist_cons_self _ _) _)
theorem TS.fin {f : Int → Int} {all out : List Cn} {zs : List Int} {m : Nat} (h : TS f all out zs) (hm : out.length ≤ m) (hz : zs = [] ∨ out.length = m) : out.map (fun x => x.1) = near all m := by
  have h1 := near_of h.1 h.2.1 (fun x hx y hy => by
    obtain ⟨z, hz, rfl⟩ := List.mem_map.1 hy
    exact h.2.2.1 x hx z hz)
  rcases hz with rfl | hz
  · have hl : out.length = all.length := by have := h.1.length_eq; simpa using this
    rw [near_min, Nat.min_eq_right (by omega), ← hl]
    exact h1.symm
  · rw [← hz]
    exact h1.symm
end Go.Proofs.YtnaobljoopjhgaaGreat
namespace Go.Proofs.YtnaobljoopjhgaaGreat
open Go.RowKit
set_option linter.unusedSimpArgs false
set_option linter.unusedVariables false
def slen : Value → Nat
  | .slice _ n _ => n
  | _ => 0
theorem map_next {f : Int → Int} {ids : List Int} {i : Nat} (hi : i < ids.length) : (ids.take (i + 1)).map f = (ids.take i).map f ++ [f (ids.getD i 0)] := by
  rw [List.take_add_one, List.getElem?_eq_getElem hi, List.map_append, List.getD_eq_getElem?_getD, List.getElem?_eq_getElem hi]
  rfl
theorem getD_mem {ids : List Int} {i : Nat} (hi : i < ids.length) : ids.getD i 0 ∈ ids := by
  rw [List.getD_eq_getElem?_getD, List.getElem?_eq_getElem hi]
  exact List.getElem_mem hi
theorem pointok_n (x y : Int) (w : World) : Calls Tryz.prog 15 #[.agg #[.int .i64 x, .int .i64 y]] w fun e w' => e = .returned (.bool (pok x y)) ∧ Below w.heap.size w w' :=
  (spec_pointok x y w).mono fun _ _ h => ⟨h.1, by rw [h.2]; exact balloc (Below.refl _ _) _⟩
theorem own_bel {B g n cap : Nat} {w w' : World} {e : TypeId} {sz : Nat} {xs : List Value} (h3 : w.ownsRow B e sz (.slice (some ⟨g, 0, none⟩) n cap) n xs) (H : Below w.heap.size w w') : w'.ownsRow B e sz (.slice (some ⟨g, 0, none⟩) n cap) n xs := by
  have h1 := (h3.lt g rfl).2
  refine ⟨h3.1, ?_⟩
  rcases h3.2 with ⟨q, _⟩ | ⟨g', c', cur, e, q1, q2, q3⟩
  · cases q
  · cases e
    exact .inr ⟨g, cap, cur, rfl, q1, by rw [H.block g h1]; exact q2, q3⟩
set_option maxRecDepth 100000 in
set_option maxHeartbeats 8000000 in
theorem spec_Nearest {N : Nat → Prop} (now : Int) (a : Option Addr) (cap : Nat) (rs : List Rw) (t px py most : Int) (w : World) (hm : rs.length ≤ 1099511627776) (h : Rws N w a rs) : Calls Tryz.prog 5 #[.agg #[.int .i64 now, .slice a rs.length cap], .int .i64 t, .agg #[.int .i64 px, .int .i64 py], .int .i64 most] w fun e w' => IAR w (nrb now rs t px py most) e w' := by
  obtain ⟨i0, hi0, hz0, hz1, hz2⟩ := info_parts Tryz.infoI
  have HIA := hid (fun (W : World) (hb : Below w.heap.size w W) => spec_IdsR9 now a cap rs t W hm (h.below hb))
  have HRW := hid (fun (id : Int) (hi : id ∈ idsb now rs t) (W : World) (hb : Below w.heap.size w W) => spec_rowB now a cap rs id t W hm (h.below hb) hi)
  have HSH := hid (fun (id : Int) (h : id ∈ idsb now rs t) => (idsb_row h).2)
  have HIL : Hid ((idsb now rs t).length ≤ 1099511627776) := hid (by
    unfold idsb
    split
    · rw [srt_len]; have := ids_len rs t; omega
    · simp)
  have HAS := hid (idsb_asc now rs t)
  have HNO : Hid (¬ (pok px py = true ∧ 0 ≤ most ∧ most ≤ 300) → nrb now rs t px py most = []) := hid (fun h => by unfold nrb; rw [if_neg h])
  obtain ⟨f, hf⟩ : ∃ f : Int → Int, f = fun z => fp px py (raP (rat rs z t)) := ⟨_, rfl⟩
  have HF := hid (fun z => congrFun hf z)
  have HYE : Hid ((pok px py = true ∧ 0 ≤ most ∧ most ≤ 300) → nrb now rs t px py most = near ((idsb now rs t).map (fun z => (z, f z))) most.toNat) := hid (fun h => by unfold nrb; rw [if_pos h, hf]; rfl)
  have HPP : Hid (pok px py = true → (-30000 ≤ px ∧ px ≤ 30000) ∧ (-30000 ≤ py ∧ py ≤ 30000)) := hid (fun h => by
    unfold pok cok at h
    simp only [Bool.and_eq_true, decide_eq_true_eq] at h
    omega)
  clear h hf
  generalize nrb now rs t px py most = nb at *
  generalize idsb now rs t = ids at *
  generalize rs.length = n0 at *
  go_enter Tryz.func5, Tryz.ntmps5
  go_upto_region 2 with fail
  have hBx : Below w.heap.size w (((w.alloc (.cells #[.int .i64 now, .slice a n0 cap] 32)).alloc (.cells #[.int .i64 px, .int .i64 py] 34)).alloc (.cells #[] 3)) := balloc (balloc (balloc (Below.refl _ _) _) _) _
  have g0 := old_alloc (o' := (.cells #[] 3)) (old_alloc (o' := (.cells #[.int .i64 px, .int .i64 py] 34)) (new_alloc w w.heap.size (.cells #[.int .i64 now, .slice a n0 cap] 32) rfl))
  have g1 := old_alloc (o' := (.cells #[] 3)) (new_alloc (w.alloc (.cells #[.int .i64 now, .slice a n0 cap] 32)) (w.heap.size + 1) (.cells #[.int .i64 px, .int .i64 py] 34) (by simp))
  have ho := own_newI2 (w := ((w.alloc (.cells #[.int .i64 now, .slice a n0 cap] 32)).alloc (.cells #[.int .i64 px, .int .i64 py] 34))) (B := w.heap.size) (X := w.heap.size + 1 + 1) (by simp; omega) (by simp)
  have hs3 : w.heap.size + 2 < (((w.alloc (.cells #[.int .i64 now, .slice a n0 cap] 32)).alloc (.cells #[.int .i64 px, .int .i64 py] 34)).alloc (.cells #[] 3)).heap.size := by simp
  generalize (((w.alloc (.cells #[.int .i64 now, .slice a n0 cap] 32)).alloc (.cells #[.int .i64 px, .int .i64 py] 34)).alloc (.cells #[] 3)) = W0 at *
  obtain ⟨p0, p1, _, _⟩ := cell2r g1
  have HG0 := hid g0
  have HG1 := hid g1
  have HO := hid (irow_of (zs := []) ho rfl)
  have HB := hid hBx
  clear g0 g1 ho hBx
  have HPK := hid (fun W => pointok_n px py W)
  generalize hpk : pok px py = pk at *
  clear hpk
  go_wp2_with fail
  refine (HPK.out _).mono ?_
  rintro e W1 ⟨rfl, hz⟩
  replace HG0 := hid (keepheap2 hz HG0.out)
  replace HG1 := hid (keepheap2 hz HG1.out)
  replace HO := hid (HO.out.below hz)
  replace HB := hid (btrans HB.out hz)
  replace hs3 := Nat.lt_of_lt_of_le hs3 hz.size
  clear hz p0 p1 HPK
  cases pk
  · have HFF := hid (HNO.out (by simp))
    clear HNO HYE HRW HIA
    go_wp2_with fail
    go_ret
    rw [HFF.out]
    exact ⟨_, rfl, HO.out, HB.out⟩
  go_wp2_with fail
  refine (in_r most 0 300 _).mono ?_
  rintro e W2 ⟨rfl, hz⟩
  replace hz := hz.symm
  subst hz
  by_cases hmo : 0 ≤ most ∧ most ≤ 300
  rotate_left
  · have hdd : (decide (0 ≤ most) && decide (most ≤ 300)) = false := by
      rw [Bool.eq_false_iff]
      intro h
      simp only [Bool.and_eq_true, decide_eq_true_eq] at h
      exact hmo h
    rw [hdd]
    have HFF := hid (HNO.out (by simp; omega))
    clear HNO HYE HRW HIA
    go_wp2_with fail
    go_ret
    rw [HFF.out]
    exact ⟨_, rfl, HO.out, HB.out⟩
  have hdd : (decide (0 ≤ most) && decide (most ≤ 300)) = true := by simp; exact hmo
  rw [hdd]
  have HFF := hid (HYE.out ⟨by first | rfl | trivial, hmo⟩)
  have HPP2 := hid (HPP.out (by first | rfl | trivial))
  clear HNO HYE HPP hdd
  obtain ⟨d0, d1, _, _⟩ := cell2r HG0.out
  go_wp2_with fail
  refine (HIA.out _ HB.out).mono ?_
  rintro e W4 ⟨v, rfl, hI, hz⟩
  replace HG0 := hid (keepheap2 hz HG0.out)
  replace HG1 := hid (keepheap2 hz HG1.out)
  replace HO := hid (HO.out.below hz)
  replace HB := hid (btrans HB.out hz)
  have hs4 : W1.heap.size ≤ W4.heap.size := hz.size
  obtain ⟨gi, ci, rfl, hgi, hgc, hownI⟩ := hI
  have hgb : W1.heap.size ≤ gi := (hownI.lt gi rfl).1
  have HI := hid (own_mono hownI (show w.heap.size ≤ W1.heap.size by omega))
  clear hownI hz d0 d1 HIA
  obtain ⟨n, hn⟩ : ∃ n, n = ids.length := ⟨_, rfl⟩
  have HN := hid hn.symm
  have hnm : n ≤ 1099511627776 := by rw [hn]; exact HIL.out
  rw [← hn] at HI hgc ⊢
  clear hn
  go_upto_region 7 with fail
  have hal : Below W4.heap.size W4 (W4.alloc (.cells #[] 3)) := balloc (Below.refl _ _) _
  have HV := hid (irow_of (zs := []) (own_newI2 (w := W4) (B := W4.heap.size) (X := W4.heap.size) (Nat.le_refl _) rfl) rfl)
  have HBV := hid hal
  clear hal
  generalize W4.alloc (.cells #[] 3) = W5 at *
  go_loopw [11, 12] (fun tv ti wr => ∃ i : Nat, ti = .int .i64 i ∧ i ≤ n ∧ Hid (IRow W4.heap.size wr tv ((ids.take i).map f)) ∧ Hid (Below W4.heap.size W4 wr)) (fun _ ti _ => n - (intOf ti).toNat)
  case atStart => exact ⟨0, rfl, Nat.zero_le _, HV, HBV⟩
  case round =>
    clear HV HBV
    obtain ⟨i, rfl, hi, HV, HBV⟩ := hrel
    by_cases hlt : i < n
    · have c1 : (i : Int) < (n : Int) := by omega
      have hii : i < ids.length := by rw [HN.out]; exact hlt
      have hxi := keepcell HBV.out (own_cell (k := i) HI.out HN.out hlt)
      have HRI := hid (HRW.out _ (getD_mem hii))
      have HSI := hid (shok_aok (HSH.out _ (getD_mem hii)))
      have HSK := hid (HSH.out _ (getD_mem hii))
      have HNX := hid (map_next (f := f) hii)
      have HFI := hid (HF.out (ids.getD i 0))
      have HB0 := hid (btrans HB.out HBV.out)
      have hgil : gi < wr.heap.size := by have := HBV.out.size; omega
      have hwl : w.heap.size < wr.heap.size := by have := HBV.out.size; omega
      have s0 := keepheap2 HBV.out HG0.out
      obtain ⟨x0, x1, _, _⟩ := cell2r s0
      generalize raP (rat rs (ids.getD i 0) t) = rp at *
      generalize raK (rat rs (ids.getD i 0) t) = rk at *
      generalize (rat rs (ids.getD i 0) t).isSome = rb at *
      generalize ids.getD i 0 = id at *
      obtain ⟨gf, cf, rfl, hgf, hgfc, hownF⟩ := HV.out
      have HOF := hid hownF
      have hfl : ((ids.take i).map f).length = i := by rw [List.length_map, List.length_take, HN.out]; omega
      rw [hfl] at HOF hgfc ⊢
      clear s0 hownF HV
      go_upto_region 9 with fail
      go_cut [13, 14] from 33 to 59 (fun t13 _ wx => RQ wr rk rp t13 wx)
      case first =>
        clear HRW HSH HNX HSI HSK HIL HN HF HFI HOF HI HO HFF HPP2 HAS
        refine wp_region_held_drew (S := (fun w' => w'.cell? ⟨w.heap.size, 0, none⟩ = some (.int .i64 now) ∧ w'.cell? ⟨w.heap.size, 1, none⟩ = some (.slice a n0 cap) ∧ w'.cell? ⟨gi, i, none⟩ = some (.int .i64 id))) (by kernel_rfl) ?_ (fun hHeld => ?_)
        · (repeat' apply And.intro) <;> (repeat (first | with_reducible assumption | with_reducible refine keepset ?_ (by dsimp only; omega) | with_reducible refine keepdrew ?_ | with_reducible refine keepalloc ?_ _ | with_reducible refine keepcell (by with_reducible assumption) ?_))
        have hB0 : Below w.heap.size w wr.drew := bdrew HB0.out
        have hD0 : Below wr.heap.size wr wr.drew := bdrew (Below.refl _ _)
        generalize wr.drew = V0 at *
        refine wpAnyH_take (i := 0) (v := ?_) rfl (by kernel_rfl) (by kernel_rfl) (by kernel_rfl) (fun _ _ _ h => h) (Or.inl ⟨by rfl, ?_⟩) hHeld ?_
        rotate_left
        · intro w hSw; (try dsimp only at hSw); go_simp; try (with_reducible rfl)
        try simp only [sq]
        refine wpAnyH_take (i := 1) (v := ?_) rfl (by kernel_rfl) (by kernel_rfl) (by kernel_rfl) (fun _ _ _ h => h) (Or.inl ⟨by rfl, ?_⟩) hHeld ?_
        rotate_left
        · intro w hSw; (try dsimp only at hSw); go_simp; try (with_reducible rfl)
        try simp only [sq]
        refine wpAnyH_take (i := 2) (v := ?_) rfl (by kernel_rfl) (by kernel_rfl) (by kernel_rfl) (fun _ _ _ h => h) (Or.inl ⟨by rfl, ?_⟩) hHeld ?_
        rotate_left
        · intro w hSw; (try dsimp only at hSw); go_simp; try (with_reducible rfl)
        try simp only [sq]
        refine wpAnyH_take (i := 3) (v := ?_) rfl (by kernel_rfl) (by kernel_rfl) (by kernel_rfl) (fun _ _ _ h => h) (Or.inl ⟨by rfl, ?_⟩) hHeld ?_
        rotate_left
        · intro w hSw; (try dsimp only at hSw); go_simp; try (with_reducible rfl)
        try simp only [sq]
        refine wpAnyH_take (i := 4) (v := ?_) rfl (by kernel_rfl) (by kernel_rfl) (by kernel_rfl) (fun _ _ _ h => h) (Or.inl ⟨by rfl, ?_⟩) hHeld ?_
        rotate_left
        · intro w hSw; (try dsimp only at hSw); go_simp; try (with_reducible rfl)
        try simp only [sq]
        refine wpAnyH_take (i := 5) (v := ?_) rfl (by kernel_rfl) (by kernel_rfl) (by kernel_rfl) (fun _ _ _ h => h) (Or.inl ⟨by rfl, ?_⟩) hHeld ?_
        rotate_left
        · intro w hSw; (try dsimp only at hSw); go_simp; try (with_reducible rfl)
        try simp only [sq]
        refine wpAnyH_ready (rs := [6, 10]) (by kernel_rfl) (by simp) ?_
        refine (AllReadyH.cons rfl (fun K hK => ?_) (AllReadyH.cons rfl (fun K hK => ?_) AllReadyH.nil))
        · skip
          try simp only [sq]
          go_simp
          go_at_call 18
          refine (HRI.out _ hB0).mono ?_
          rintro e y ⟨gq, cq, rfl, hcq, hgq, hgl, hpq, hy⟩
          have hBy := btrans hB0 hy
          have hDy := btrans hD0 hy
          go_wp2_with fail
          refine hK.out _ _ ?_ (fun hHeld => ?_)
          · (go_split_ands; (repeat' apply And.intro) <;> (repeat (first | with_reducible assumption | with_reducible refine keepset ?_ (by dsimp only; omega) | with_reducible refine keepdrew ?_ | with_reducible refine keepalloc ?_ _ | with_reducible refine keepcell (by with_reducible assumption) ?_)))
          clear hK K
          try simp only [sq]
          refine wpAnyH_take (i := 7) (v := ?_) rfl (by kernel_rfl) (by kernel_rfl) (by kernel_rfl) (fun _ _ _ h => h) (Or.inl ⟨by rfl, ?_⟩) hHeld ?_
          rotate_left
          · intro w hSw; (try dsimp only at hSw); go_simp; try (with_reducible rfl)
          try simp only [sq]
          refine wpAnyH_take (i := 8) (v := ?_) rfl (by kernel_rfl) (by kernel_rfl) (by kernel_rfl) (fun _ _ _ h => h) (Or.inl ⟨by rfl, ?_⟩) hHeld ?_
          rotate_left
          · intro w hSw; (try dsimp only at hSw); go_simp; try (with_reducible rfl)
          try simp only [sq]
          refine wpAnyH_take (i := 9) (v := ?_) rfl (by kernel_rfl) (by kernel_rfl) (by kernel_rfl) (fun _ _ _ h => h) (Or.inl ⟨by rfl, ?_⟩) hHeld ?_
          rotate_left
          · intro w hSw; (try dsimp only at hSw); go_simp; try (with_reducible rfl)
          try simp only [sq]
          refine wpAnyH_ready (rs := [10]) (by kernel_rfl) (by simp) ?_
          refine (AllReadyH.cons rfl (fun K hK => ?_) AllReadyH.nil)
          try simp only [sq]
          go_simp
          refine hK.out _ _ ?_ (fun hHeld => ?_)
          · (go_split_ands; (repeat' apply And.intro) <;> (repeat (first | with_reducible assumption | with_reducible refine keepset ?_ (by dsimp only; omega) | with_reducible refine keepdrew ?_ | with_reducible refine keepalloc ?_ _ | with_reducible refine keepcell (by with_reducible assumption) ?_)))
          clear hK K
          try simp only [sq]
          have gX := new_alloc y y.heap.size (.cells #[.int .i64 0, .slice none 0 0] 47) rfl
          have hal : Below y.heap.size y (y.alloc (.cells #[.int .i64 0, .slice none 0 0] 47)) := balloc (Below.refl _ _) _
          have hBa := btrans hBy hal
          have hDa := btrans hDy hal
          have hpqa := hpq.below hal
          have hxg : y.heap.size ≠ gq := by omega
          have hxb : wr.heap.size ≤ y.heap.size := hDy.size
          have hals := hal.size
          clear hal
          generalize y.alloc (.cells #[.int .i64 0, .slice none 0 0] 47) = Z at *
          generalize y.heap.size = xb at *
          refine wpAnyH_ready (rs := [11]) (by kernel_rfl) (by simp) ?_
          refine (AllReadyH.cons rfl (fun K hK => ?_) AllReadyH.nil)
          obtain ⟨v0, v1, s0, s1⟩ := cell2r gX
          try simp only [sq]
          go_simp
          refine hK.out _ _ ?_ (fun hHeld => ?_)
          · (go_split_ands; (repeat' apply And.intro) <;> (repeat (first | with_reducible assumption | with_reducible refine keepset ?_ (by dsimp only; omega) | with_reducible refine keepdrew ?_ | with_reducible refine keepalloc ?_ _ | with_reducible refine keepcell (by with_reducible assumption) ?_)))
          clear hK K
          try simp only [sq]
          refine wpAnyH_take (i := 12) (v := ?_) rfl (by kernel_rfl) (by kernel_rfl) (by kernel_rfl) (fun _ _ _ h => h) (Or.inl ⟨by rfl, ?_⟩) hHeld ?_
          rotate_left
          · intro w hSw; (try dsimp only at hSw); go_simp; try (with_reducible rfl)
          try simp only [sq]
          refine wpAnyH_done (by kernel_rfl) ?_ _
          go_wp2_with fail
          go_meet
          exact rq_mk gX hcq hpqa hxg (by omega) hDa (Nat.le_trans hD0.size hgq) (Nat.lt_of_lt_of_le hgl hals)
        · skip
          try simp only [sq]
          go_simp
          refine hK.out _ _ ?_ (fun hHeld => ?_)
          · (go_split_ands; (repeat' apply And.intro) <;> (repeat (first | with_reducible assumption | with_reducible refine keepset ?_ (by dsimp only; omega) | with_reducible refine keepdrew ?_ | with_reducible refine keepalloc ?_ _ | with_reducible refine keepcell (by with_reducible assumption) ?_)))
          clear hK K
          try simp only [sq]
          have gX := new_alloc V0 V0.heap.size (.cells #[.int .i64 0, .slice none 0 0] 47) rfl
          have hal : Below V0.heap.size V0 (V0.alloc (.cells #[.int .i64 0, .slice none 0 0] 47)) := balloc (Below.refl _ _) _
          have hBa := btrans hB0 hal
          have hDa := btrans hD0 hal
          have hxb : wr.heap.size ≤ V0.heap.size := hD0.size
          have hals := hal.size
          clear hal
          generalize V0.alloc (.cells #[.int .i64 0, .slice none 0 0] 47) = Z at *
          generalize V0.heap.size = xb at *
          refine wpAnyH_ready (rs := [6]) (by kernel_rfl) (by simp) ?_
          refine (AllReadyH.cons rfl (fun K hK => ?_) AllReadyH.nil)
          try simp only [sq]
          go_simp
          go_at_call 18
          refine (HRI.out _ hBa).mono ?_
          rintro e y ⟨gq, cq, rfl, hcq, hgq, hgl, hpq, hy⟩
          have hxg : xb ≠ gq := by have := lt_of_block gX; omega
          replace gX := keepheap2 hy gX
          have hBy := btrans hBa hy
          have hDy := btrans hDa hy
          go_wp2_with fail
          refine hK.out _ _ ?_ (fun hHeld => ?_)
          · (go_split_ands; (repeat' apply And.intro) <;> (repeat (first | with_reducible assumption | with_reducible refine keepset ?_ (by dsimp only; omega) | with_reducible refine keepdrew ?_ | with_reducible refine keepalloc ?_ _ | with_reducible refine keepcell (by with_reducible assumption) ?_)))
          clear hK K
          try simp only [sq]
          refine wpAnyH_take (i := 7) (v := ?_) rfl (by kernel_rfl) (by kernel_rfl) (by kernel_rfl) (fun _ _ _ h => h) (Or.inl ⟨by rfl, ?_⟩) hHeld ?_
          rotate_left
          · intro w hSw; (try dsimp only at hSw); go_simp; try (with_reducible rfl)
          try simp only [sq]
          refine wpAnyH_take (i := 8) (v := ?_) rfl (by kernel_rfl) (by kernel_rfl) (by kernel_rfl) (fun _ _ _ h => h) (Or.inl ⟨by rfl, ?_⟩) hHeld ?_
          rotate_left
          · intro w hSw; (try dsimp only at hSw); go_simp; try (with_reducible rfl)
          try simp only [sq]
          refine wpAnyH_take (i := 9) (v := ?_) rfl (by kernel_rfl) (by kernel_rfl) (by kernel_rfl) (fun _ _ _ h => h) (Or.inl ⟨by rfl, ?_⟩) hHeld ?_
          rotate_left
          · intro w hSw; (try dsimp only at hSw); go_simp; try (with_reducible rfl)
          try simp only [sq]
          refine wpAnyH_ready (rs := [11]) (by kernel_rfl) (by simp) ?_
          refine (AllReadyH.cons rfl (fun K hK => ?_) AllReadyH.nil)
          obtain ⟨v0, v1, s0, s1⟩ := cell2r gX
          try simp only [sq]
          go_simp
          refine hK.out _ _ ?_ (fun hHeld => ?_)
          · (go_split_ands; (repeat' apply And.intro) <;> (repeat (first | with_reducible assumption | with_reducible refine keepset ?_ (by dsimp only; omega) | with_reducible refine keepdrew ?_ | with_reducible refine keepalloc ?_ _ | with_reducible refine keepcell (by with_reducible assumption) ?_)))
          clear hK K
          try simp only [sq]
          refine wpAnyH_take (i := 12) (v := ?_) rfl (by kernel_rfl) (by kernel_rfl) (by kernel_rfl) (fun _ _ _ h => h) (Or.inl ⟨by rfl, ?_⟩) hHeld ?_
          rotate_left
          · intro w hSw; (try dsimp only at hSw); go_simp; try (with_reducible rfl)
          try simp only [sq]
          refine wpAnyH_done (by kernel_rfl) ?_ _
          go_wp2_with fail
          go_meet
          exact rq_mk gX hcq hpq hxg (by omega) hDy (Nat.le_trans hDa.size hgq) hgl
      case rest =>
        obtain ⟨ba, gq, cq, rfl, hba, gA, hcq, hpq, hD, _⟩ := hcut
        have HS1 := hid (keepheap2 hD (keepheap2 HBV.out HG1.out))
        have HOF1 := hid (own_bel HOF.out hD)
        have HS5 := hid (btrans HBV.out hD)
        have hws := hD.size
        have HBX := hid (fun (W : World) (hb : Below wc.heap.size wc W) => spec_ShapeBox rk (some ⟨gq, 0, none⟩) cq rp W (by have := HSI.out.2.2; omega) hcq (hpq.below hb))
        have hsv : sv aX rk rp = aX rp ∧ sv aY rk rp = aY rp ∧ sv bX rk rp = bX rp ∧ sv bY' rk rp = bY' rp := by
          unfold sv; rw [HSK.out]; exact ⟨rfl, rfl, rfl, rfl⟩
        rw [hsv.1, hsv.2.1, hsv.2.2.1, hsv.2.2.2] at HBX
        have hbd := bx_bd HSI.out.1
        unfold fp at HFI
        have HDI := hid (fun (W : World) => spec_dist (aX rp) (aY rp) (bX rp) (bY' rp) px py W HPP2.out hbd.1 hbd.2)
        rw [← HFI.out] at HDI
        clear hpq hsv x0 x1 hxi HRI HRW HB0 hbd HFI
        unfold shv at HBX
        obtain ⟨v0, v1, _, _⟩ := cell2r gA
        generalize hXb : aX rp = p0 at *
        generalize hYb : aY rp = p1 at *
        generalize hXB : bX rp = p2 at *
        generalize hYB : bY' rp = p3 at *
        generalize (shok rk rp && aok rp) = p4 at *
        generalize rp.length = nrp at *
        generalize f id = fv at *
        go_wp2_with fail
        refine (HBX.out _ (Below.refl _ _)).mono ?_
        rintro e z ⟨rfl, hz⟩
        replace HS1 := hid (keepheap2 hz HS1.out)
        replace HOF1 := hid (own_bel HOF1.out hz)
        replace HS5 := hid (btrans HS5.out hz)
        have hzs := hz.size
        clear hz v0 v1 gA HBX hD
        go_upto_region 11 with fail
        have hal : Below z.heap.size z (z.alloc (.cells #[.int .i64 p0, .int .i64 p1, .int .i64 p2, .int .i64 p3] 51)) := balloc (Below.refl _ _) _
        have gN := new_alloc z z.heap.size (.cells #[.int .i64 p0, .int .i64 p1, .int .i64 p2, .int .i64 p3] 51) rfl
        replace HS1 := hid (keepheap2 hal HS1.out)
        replace HOF1 := hid (own_bel HOF1.out hal)
        replace HS5 := hid (btrans HS5.out hal)
        have hals := hal.size
        clear hal
        generalize z.alloc (.cells #[.int .i64 p0, .int .i64 p1, .int .i64 p2, .int .i64 p3] 51) = Z at *
        generalize z.heap.size = zb at *
        obtain ⟨n0', n1', n2', n3', _, _, _, _⟩ := cell4 gN
        obtain ⟨q0, q1, _, _⟩ := cell2r HS1.out
        go_wp2_with fail
        refine (HDI.out _).mono ?_
        rintro e y ⟨rfl, hy⟩
        replace HOF1 := hid (own_bel HOF1.out hy)
        replace HS5 := hid (btrans HS5.out hy)
        have hys := hy.size
        clear hy HDI n0' n1' n2' n3' gN q0 q1 HS1
        have hown' := HOF1.out
        have hzw := HS5.out.size
        go_wp2_with (at_builtin; refine wpList_append_lies _ rfl (.tmp 54) (.tmp 58) 28 rfl W4.heap.size 3 i0 _ 1 8 Tryz.underlying28 hi0 hz0 hz1 hz2 rfl (by decide) _ _ _ rfl (hown'.alloc _) ⟨y.heap.size, 0, none⟩ 1 1 [.int .i64 fv] rfl rfl (World.news_of_block (cs := #[.int .i64 fv]) (t := 3) (fr := (0, 0)) (heap_alloc_new y _)) (by simp [Value.oneCell']) (by omega) (by unfold maxLen; omega) (by omega) (by simp; omega) (y.heap.size + 1) (by simp) ?_; intro gg cq2 w2 hown2 hgrow hat hlt2)
        go_roundw
        case rel =>
          refine ⟨i + 1, by go_num, by omega, hid ?_, hid ?_⟩
          · rw [HNX.out]
            exact irow_of (by simpa [fli] using hown2) (by rw [List.length_append, hfl]; rfl)
          · exact Below.grown (balloc HS5.out _) hgrow (by simp; omega) (fun k e => (hown'.lt k e).1)
        case measure => simp [intOf]; omega
    · have c1 : (n : Int) ≤ (i : Int) := by omega
      have hin : i = n := by omega
      have HV2 := HV.out
      rw [hin, ← HN.out, List.take_length] at HV2
      obtain ⟨gf, cf, rfl, hgf, hgfc, hownF⟩ := HV2
      have hfb := (hownF.lt gf rfl).1
      have HOF := hid (own_mono hownF (show w.heap.size ≤ W4.heap.size by have := HB.out.size; omega))
      replace HI := hid (own_bel HI.out HBV.out)
      replace HO := hid (HO.out.below HBV.out)
      replace HB := hid (btrans HB.out HBV.out)
      have hwz : W4.heap.size ≤ wr.heap.size := HBV.out.size
      rw [List.length_map, HN.out] at HOF hgfc ⊢
      clear hownF HV HG0 HG1 HBV HRW HSH HPP2 HF hin
      have HTS : Hid (TS f (ids.map (fun z => (z, f z))) [] ids) := hid ⟨by simp, List.Pairwise.nil, (fun x hx => absurd hx (by simp)), HAS.out⟩
      obtain ⟨M, hM⟩ : ∃ M : Nat, most = (M : Int) := ⟨most.toNat, by omega⟩
      subst hM
      rw [Int.toNat_natCast] at HFF
      generalize ids.map (fun z => (z, f z)) = all at *
      obtain ⟨go0, co0, he, hgo0, hco0, hownO⟩ := HO.out
      cases he
      have HOO := hid hownO
      have hM3 : M ≤ 300 := by omega
      clear HO hownO HAS hmo
      go_wp2_with fail
      go_loopw [9, 10, 11] (fun t9 t10 t11 wy => ∃ (oc : List Cn) (zs : List Int) (o go co gi gf ci cf m : Nat), t9 = .slice (some ⟨go, 0, none⟩) o co ∧ t10 = .slice (some ⟨gi, 0, none⟩) m ci ∧ t11 = .slice (some ⟨gf, 0, none⟩) m cf ∧ m ≤ n ∧ m ≤ ci ∧ m ≤ cf ∧ o ≤ M ∧ o ≤ co ∧ go ≠ gi ∧ go ≠ gf ∧ Hid (zs.length = m ∧ oc.length = o) ∧ Hid (TS f all oc zs) ∧ Hid (wy.ownsRow w.heap.size 3 1 (.slice (some ⟨go, 0, none⟩) o co) o (fli (oc.map (fun x => x.1)))) ∧ Hid (wy.ownsRow w.heap.size 3 1 (.slice (some ⟨gi, 0, none⟩) m ci) m (fli zs)) ∧ Hid (wy.ownsRow w.heap.size 3 1 (.slice (some ⟨gf, 0, none⟩) m cf) m (fli (zs.map f))) ∧ Hid (Below w.heap.size w wy)) (fun _ t10 _ _ => slen t10)
      case atStart => exact ⟨[], ids, 0, _, _, _, _, _, _, n, rfl, rfl, rfl, Nat.le_refl _, hgc, hgfc, Nat.zero_le _, Nat.zero_le _, by omega, by omega, hid ⟨HN.out, rfl⟩, HTS, HOO, HI, HOF, HB⟩
      case round =>
        clear HTS HOO HI HOF HB hgc hgfc hgo0 hco0 hfb hgb hgf hgi HN
        obtain ⟨oc, zs, o, go, co, gi, gf, ci, cf, m, rfl, rfl, rfl, hmn, hmi, hmf, hoM, hoc, hne1, hne2, HL, HT, HO, HI, HFr, HB⟩ := hrel
        have hfin : Hid (m = 0 ∨ o = M → IRow w.heap.size wr (.slice (some ⟨go, 0, none⟩) o co) nb) := hid (fun hz => by
          rw [HFF.out, ← HT.out.fin (m := M) (by rw [HL.out.2]; exact hoM) (by
            rcases hz with hz | hz
            · left; exact List.eq_nil_of_length_eq_zero (by rw [HL.out.1]; exact hz)
            · right; rw [HL.out.2]; exact hz)]
          exact irow_of HO.out (by rw [List.length_map]; exact HL.out.2))
        by_cases hm0 : m = 0
        · have HE := hid (hfin.out (.inl hm0))
          clear hfin
          subst hm0
          go_wp2_with fail
          go_ret
          exact ⟨_, rfl, HE.out, HB.out⟩
        have e1 : (0 : Int) < (m : Int) := by omega
        by_cases hoq : o = M
        · have HE := hid (hfin.out (.inr hoq))
          clear hfin
          subst hoq
          have e2 : ¬ (o : Int) < (o : Int) := by omega
          go_wp2_with fail
          go_ret
          exact ⟨_, rfl, HE.out, HB.out⟩
        have e2 : (o : Int) < (M : Int) := by omega
        have hmfn : ∀ i, i < m → (zs.map f).getD i 0 = f (zs.getD i 0) := fun i hi => by
          have := HL.out.1
          rw [List.getD_eq_getElem?_getD, List.getD_eq_getElem?_getD, List.getElem?_map, List.getElem?_eq_getElem (by omega)]
          rfl
        have HCF : Hid (∀ i, i < m → wr.cell? ⟨gf, i, none⟩ = some (.int .i64 (f (zs.getD i 0)))) := hid (fun i hi => by
          rw [← hmfn i hi]
          exact own_cell HFr.out (by rw [List.length_map]; exact HL.out.1) hi)
        clear hfin hmfn
        go_wp2_with fail
        go_loopw [17, 18] (fun tk ti wz => ∃ i k : Nat, tk = .int .i64 k ∧ ti = .int .i64 i ∧ 1 ≤ i ∧ i ≤ m ∧ k < i ∧ Hid (KM f zs i k) ∧ Hid (Below wr.heap.size wr wz)) (fun _ ti _ => m - (intOf ti).toNat)
        case atStart => exact ⟨1, 0, rfl, rfl, Nat.le_refl _, by omega, by omega, hid ⟨by omega, fun j hj => by rw [show j = 0 by omega]; exact Int.le_refl _, fun j hj => absurd hj (by omega)⟩, hid (Below.refl _ _)⟩
        case round =>
          obtain ⟨i, k, rfl, rfl, hi1, him, hki, HK, HBz⟩ := hrel
          by_cases hlt : i < m
          · have d1 : (i : Int) < (m : Int) := by omega
            have x1 := keepcell HBz.out (HCF.out i hlt)
            have x2 := keepcell HBz.out (HCF.out k (by omega))
            have hi0' : (0 : Int) ≤ (i : Int) := by omega
            have hk0' : (0 : Int) ≤ (k : Int) := by omega
            have d2 : (k : Int) < (m : Int) := by omega
            have HKN := hid HK.out.next
            generalize f (zs.getD i 0) = fi at *
            generalize f (zs.getD k 0) = fk at *
            by_cases hff : fi < fk
            · rw [if_pos hff] at HKN
              go_wp2_with fail
              go_quiet (fail)
              go_wp2_with fail
              go_roundw
              case rel => exact ⟨i + 1, i, rfl, by go_num, by omega, by omega, by omega, HKN, hid (HBz.out.trans ⟨rfl, rfl, rfl, Nat.le_refl _, fun _ _ => rfl⟩)⟩
              case measure => simp [intOf]; omega
            · rw [if_neg hff] at HKN
              have hff2 : fk ≤ fi := by omega
              go_wp2_with fail
              go_quiet (fail)
              go_wp2_with fail
              go_roundw
              case rel => exact ⟨i + 1, k, rfl, by go_num, by omega, by omega, by omega, HKN, hid (HBz.out.trans ⟨rfl, rfl, rfl, Nat.le_refl _, fun _ _ => rfl⟩)⟩
              case measure => simp [intOf]; omega
          · have d1 : (m : Int) ≤ (i : Int) := by omega
            have him2 : i = m := by omega
            have HKM : Hid (KM f zs zs.length k) := hid (by rw [HL.out.1, ← him2]; exact HK.out)
            have hkm : k < m := by omega
            have hk0' : (0 : Int) ≤ (k : Int) := by omega
            have d2 : (k : Int) < (m : Int) := by omega
            have x1 := keepcell HBz.out (own_cell (k := k) HI.out HL.out.1 hkm)
            have hown' := own_bel HO.out HBz.out
            have HIz := hid (own_bel HI.out HBz.out)
            have HFz := hid (own_bel HFr.out HBz.out)
            have HBw := hid (btrans HB.out HBz.out)
            have HTN := hid (HT.out.next HKM.out)
            generalize hzk : zs.getD k 0 = zk at *
            have hws := HBw.out.size
            clear HCF HK HI HFr HB HO hzk
            go_wp2_with (at_builtin; refine wpList_append_lies _ rfl (.tmp 85) (.tmp 90) 28 rfl w.heap.size 3 i0 _ 1 8 Tryz.underlying28 hi0 hz0 hz1 hz2 rfl (by decide) _ _ _ rfl (hown'.alloc _) ⟨wr.heap.size, 0, none⟩ 1 1 [.int .i64 zk] rfl rfl (World.news_of_block (cs := #[.int .i64 zk]) (t := 3) (fr := (0, 0)) (heap_alloc_new wr _)) (by simp [Value.oneCell']) (by omega) (by unfold maxLen; omega) (by omega) (by simp; omega) (wr.heap.size + 1) (by simp) ?_; intro go2 co2 w2 hown2 hgrow hat hlt2)
            have hsz2 : wr.heap.size ≤ w2.heap.size := by have := hgrow.size; simp at this; omega
            have HO2 := hid (show w2.ownsRow w.heap.size 3 1 (.slice (some ⟨go2, 0, none⟩) (o + 1) co2) (o + 1) (fli ((oc ++ [(zk, f zk)]).map (fun x => x.1))) by simpa [fli] using hown2)
            have HI2 := hid ((HIz.out.alloc _).kept hgrow (.inr (fun e => hne1 (Option.some.inj e).symm)))
            have HF2 := hid ((HFz.out.alloc _).kept hgrow (.inr (fun e => hne2 (Option.some.inj e).symm)))
            have HB2 := hid (Below.grown (balloc HBw.out _) hgrow (by simp; omega) (fun k e => (hown'.lt k e).1))
            have hg2l := (hown2.lt go2 rfl).2
            have hZ := HL.out.1
            clear hgrow hown2 hown' HIz HFz HBw x1 hat
            go_cut [10] from 60 to 111 (fun t10 wx => IRow w2.heap.size wx t10 (zs.take k ++ zs.drop (k + 1)) ∧ Below w2.heap.size w2 wx)
            case first =>
              clear HTN HT HFF HF2 HO2
              obtain ⟨q, hq⟩ : ∃ q : Nat, q = k + 1 := ⟨_, rfl⟩
              have hwr : IntKind.i64.wrap ((k : Int) + 1) = (q : Int) := by rw [IntWalk.i64_in _ ⟨by omega, by omega⟩]; omega
              have htl : (zs.take k).length = k := by rw [List.length_take, hZ]; omega
              have hdl : (zs.drop q).length = m - q := by rw [List.length_drop, hZ]
              have hj1 : (k : Int) ≤ (ci : Int) := by omega
              have hj2 : (q : Int) ≤ (m : Int) := by omega
              have hj3 : (0 : Int) ≤ (q : Int) := by omega
              have hj4 : (q : Int) ≤ (ci : Int) := by omega
              have hnc : (m : Int) ≤ (ci : Int) := by omega
              have HEND : Hid (∀ (W : World) (g' c' : Nat), W.ownsRow w2.heap.size 3 1 (.slice (some ⟨g', 0, none⟩) (k + (m - q)) c') (k + (m - q)) (fli (zs.take k) ++ fli (zs.drop q)) → IRow w2.heap.size W (.slice (some ⟨g', 0, none⟩) (k + (m - q)) c') (zs.take k ++ zs.drop (k + 1))) := hid (fun W g' c' h => by
                rw [← hq]
                exact irow_of (by simpa [fli] using h) (by rw [List.length_append, htl, hdl]))
              have hj5 : (k : Int) ≤ (q : Int) := by omega
              have hj6 : ci = q → (m : Int) ≤ (q : Int) := fun e => by omega
              have HJ6 := hid hj6
              have HMI : Hid (m ≤ ci) := hid (by omega)
              clear hq hj6
              have hlate : q ≤ m := by omega
              have hcs : (ci = q ∧ (m : Int) ≤ (q : Int)) ∨ (¬ ci = q ∧ True) := by
                by_cases e : ci = q
                · exact .inl ⟨e, HJ6.out e⟩
                · exact .inr ⟨e, trivial⟩
              rcases hcs with ⟨hcj, hj7⟩ | ⟨hcj, hj7⟩
              all_goals
                go_region_held3 (fun w' => True) (trivial)
                  (first
                    | (refine step_append_any (by rfl) (.tmp 92) (.tmp 95) 28 (by rfl) w2.heap.size 3 i0 _ 1 8 Tryz.underlying28 hi0 hz0 hz1 hz2 rfl (by omega) _ _ _ 0 [] (by rfl) (by first | with_reducible exact (own_newI (Nat.le_refl _)).drew | with_reducible exact ((own_newI (Nat.le_refl _)).alloc _).drew | with_reducible exact (own_newI2 (by simp) (by simp)).drew) ⟨gi, 0, none⟩ k _ (fli (zs.take k)) (by rfl) (by rw [fli_len, htl]; omega) (news_i 0 _ HI2.out hZ (by (repeat (first | with_reducible exact Below.refl _ _ | with_reducible assumption | (with_reducible refine btrans ?_ (by with_reducible assumption)) | with_reducible refine bdrew ?_ | with_reducible refine balloc ?_ _))) (take_at zs k)) (fli_one _) (by unfold maxLen; omega) (by omega) (by first | (simp; done) | (simp; omega) | omega) ?_; intro g1 c1 w1 hown1 hgrow1 hat1; simp only [Nat.zero_add, List.nil_append] at hown1; have hownZ : w1.ownsRow w2.heap.size 3 1 (.slice (some ⟨g1, 0, none⟩) (0 + k) c1) k (fli (zs.take k)) := (by rw [Nat.zero_add]; exact hown1); have hB1 : Below w2.heap.size w2 w1 := Below.grown (show Below w2.heap.size w2 _ by (repeat (first | with_reducible exact Below.refl _ _ | with_reducible assumption | (with_reducible refine btrans ?_ (by with_reducible assumption)) | with_reducible refine bdrew ?_ | with_reducible refine balloc ?_ _))) hgrow1 (by first | (simp; done) | (simp; omega)) (fun k e => by cases e; first | omega | (simp; done)); have hgl1 := (hown1.lt g1 rfl).2)
                    | (refine step_append_any (by rfl) (.tmp 96) (.tmp 100) 28 (by rfl) w2.heap.size 3 i0 _ 1 8 Tryz.underlying28 hi0 hz0 hz1 hz2 rfl (by omega) _ _ _ k (fli (zs.take k)) (by rfl) (by first | with_reducible exact hown1 | with_reducible exact hownZ) _ (m - q) _ (fli (zs.drop q)) (by rfl) (by rw [fli_len, hdl]; omega) (by first | exact news_i q _ HI2.out hZ hB1 (drop_at zs q) | exact news_i 0 _ HI2.out hZ hB1 (fun k hk => absurd hk (by rw [hdl]; omega))) (fli_one _) (by unfold maxLen; omega) (by omega) (hB1.size) ?_; intro g3 c3 w3 hown3 hgrow3 hat3; have hB3 : Below w2.heap.size w2 w3 := Below.grown hB1 hgrow3 hB1.size (fun k e => by cases e; exact (hown1.lt _ rfl).1)))
                all_goals
                  have HO3 := hid (HEND.out _ _ _ hown3)
                  have HB3 := hid hB3
                  clear hown1 hownZ hown3 hgrow1 hgrow3 hB1 hB3
                  go_wp2_with fail
                  go_meet
                  exact ⟨HO3.out, HB3.out⟩
            case rest =>
              obtain ⟨⟨gi3, ci3, rfl, hgi3, hci3, hownI3⟩, hb1⟩ := hcut
              have hbi3 := (hownI3.lt gi3 rfl).1
              have hlen : (zs.take k ++ zs.drop (k + 1)).length = m - 1 := by rw [List.length_append, List.length_take, List.length_drop, hZ]; omega
              have HO3' := hid (own_bel HO2.out hb1)
              have HF3 := hid (own_bel HF2.out hb1)
              have HB3' := hid (btrans HB2.out hb1)
              have HI3' := hid (own_mono hownI3 (show w.heap.size ≤ w2.heap.size by omega))
              have hwc := hb1.size
              have hco2 := (own_I HO2.out (by rw [List.length_map, List.length_append, HL.out.2]; rfl)).2.1
              have hZf : (zs.map f).length = m := by rw [List.length_map]; exact hZ
              have HMF : Hid ((zs.map f).take k ++ (zs.map f).drop (k + 1) = (zs.take k ++ zs.drop (k + 1)).map f) := hid (by rw [List.map_append, List.map_take, List.map_drop])
              rw [hlen] at HI3' hci3 ⊢
              clear hownI3 hb1 HO2 HF2 HB2 HI2
              go_wp2_with fail
              obtain ⟨q, hq⟩ : ∃ q : Nat, q = k + 1 := ⟨_, rfl⟩
              have hwr : IntKind.i64.wrap ((k : Int) + 1) = (q : Int) := by rw [IntWalk.i64_in _ ⟨by omega, by omega⟩]; omega
              have htl : ((zs.map f).take k).length = k := by rw [List.length_take, hZf]; omega
              have hdl : ((zs.map f).drop q).length = m - q := by rw [List.length_drop, hZf]
              have hj1 : (k : Int) ≤ (cf : Int) := by omega
              have hj2 : (q : Int) ≤ (m : Int) := by omega
              have hj3 : (0 : Int) ≤ (q : Int) := by omega
              have hj4 : (q : Int) ≤ (cf : Int) := by omega
              have hnc : (m : Int) ≤ (cf : Int) := by omega
              have HEND : Hid (∀ (W : World) (g' c' : Nat), W.ownsRow wc.heap.size 3 1 (.slice (some ⟨g', 0, none⟩) (k + (m - q)) c') (k + (m - q)) (fli ((zs.map f).take k) ++ fli ((zs.map f).drop q)) → IRow wc.heap.size W (.slice (some ⟨g', 0, none⟩) (k + (m - q)) c') ((zs.map f).take k ++ (zs.map f).drop (k + 1))) := hid (fun W g' c' h => by
                rw [← hq]
                exact irow_of (by simpa [fli] using h) (by rw [List.length_append, htl, hdl]))
              have hj5 : (k : Int) ≤ (q : Int) := by omega
              have hj6 : cf = q → (m : Int) ≤ (q : Int) := fun e => by omega
              have HJ6 := hid hj6
              have HMI : Hid (m ≤ cf) := hid (by omega)
              clear hq hj6
              have hlate : q ≤ m := by omega
              have hcs : (cf = q ∧ (m : Int) ≤ (q : Int)) ∨ (¬ cf = q ∧ True) := by
                by_cases e : cf = q
                · exact .inl ⟨e, HJ6.out e⟩
                · exact .inr ⟨e, trivial⟩
              rcases hcs with ⟨hcj, hj7⟩ | ⟨hcj, hj7⟩
              all_goals
                go_region_held3 (fun w' => True) (trivial)
                  (first
                    | (refine step_append_any (by rfl) (.tmp 102) (.tmp 105) 28 (by rfl) wc.heap.size 3 i0 _ 1 8 Tryz.underlying28 hi0 hz0 hz1 hz2 rfl (by omega) _ _ _ 0 [] (by rfl) (by first | with_reducible exact (own_newI (Nat.le_refl _)).drew | with_reducible exact ((own_newI (Nat.le_refl _)).alloc _).drew | with_reducible exact (own_newI2 (by simp) (by simp)).drew) ⟨gf, 0, none⟩ k _ (fli ((zs.map f).take k)) (by rfl) (by rw [fli_len, htl]; omega) (news_i 0 _ HF3.out hZf (by (repeat (first | with_reducible exact Below.refl _ _ | with_reducible assumption | (with_reducible refine btrans ?_ (by with_reducible assumption)) | with_reducible refine bdrew ?_ | with_reducible refine balloc ?_ _))) (take_at (zs.map f) k)) (fli_one _) (by unfold maxLen; omega) (by omega) (by first | (simp; done) | (simp; omega) | omega) ?_; intro g1 c1 w1 hown1 hgrow1 hat1; simp only [Nat.zero_add, List.nil_append] at hown1; have hownZ : w1.ownsRow wc.heap.size 3 1 (.slice (some ⟨g1, 0, none⟩) (0 + k) c1) k (fli ((zs.map f).take k)) := (by rw [Nat.zero_add]; exact hown1); have hB1 : Below wc.heap.size wc w1 := Below.grown (show Below wc.heap.size wc _ by (repeat (first | with_reducible exact Below.refl _ _ | with_reducible assumption | (with_reducible refine btrans ?_ (by with_reducible assumption)) | with_reducible refine bdrew ?_ | with_reducible refine balloc ?_ _))) hgrow1 (by first | (simp; done) | (simp; omega)) (fun k e => by cases e; first | omega | (simp; done)); have hgl1 := (hown1.lt g1 rfl).2)
                    | (refine step_append_any (by rfl) (.tmp 106) (.tmp 110) 28 (by rfl) wc.heap.size 3 i0 _ 1 8 Tryz.underlying28 hi0 hz0 hz1 hz2 rfl (by omega) _ _ _ k (fli ((zs.map f).take k)) (by rfl) (by first | with_reducible exact hown1 | with_reducible exact hownZ) _ (m - q) _ (fli ((zs.map f).drop q)) (by rfl) (by rw [fli_len, hdl]; omega) (by first | exact news_i q _ HF3.out hZf hB1 (drop_at (zs.map f) q) | exact news_i 0 _ HF3.out hZf hB1 (fun k hk => absurd hk (by rw [hdl]; omega))) (fli_one _) (by unfold maxLen; omega) (by omega) (hB1.size) ?_; intro g3 c3 w3 hown3 hgrow3 hat3; have hB3 : Below wc.heap.size wc w3 := Below.grown hB1 hgrow3 hB1.size (fun k e => by cases e; exact (hown1.lt _ rfl).1)))
                all_goals
                  have HO3 := hid (HEND.out _ _ _ hown3)
                  have HB3 := hid hB3
                  clear hown1 hownZ hown3 hgrow1 hgrow3 hB1 hB3
                  go_wp2_with fail
                  have HR2 : Hid _ := hid (HMF.out ▸ HO3.out)
                  obtain ⟨gf3, cf3, he3, hgf3, hcf3, hownF3⟩ := HR2.out
                  have hbf3 := (hownF3.lt gf3 rfl).1
                  have HO4 := hid (own_bel HO3'.out HB3.out)
                  have HI4 := hid (own_bel HI3'.out HB3.out)
                  have HF4 := hid (own_mono hownF3 (show w.heap.size ≤ wc.heap.size by omega))
                  have HB4 := hid (btrans HB3'.out HB3.out)
                  rw [List.length_map, hlen] at HF4 hcf3 he3
                  go_roundw
                  case rel => exact ⟨oc ++ [(zk, f zk)], zs.take k ++ zs.drop (k + 1), o + 1, go2, co2, gi3, gf3, ci3, cf3, m - 1, rfl, rfl, he3, by omega, hci3, hcf3, by omega, hco2, by omega, by omega, hid ⟨hlen, by rw [List.length_append, HL.out.2]; rfl⟩, HTN, HO4, HI4, HF4, HB4⟩
                  case measure => simp [slen]; omega
end Go.Proofs.YtnaobljoopjhgaaGreat
