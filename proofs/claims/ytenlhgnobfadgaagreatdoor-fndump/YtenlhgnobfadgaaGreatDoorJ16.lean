/- Texts of stores, joined: RwDs, RwA1, Ba0. -/
import Derived.Test.YtenlhgnobfadgaaGreatDoorJ12
set_option maxRecDepth 100000
set_option maxHeartbeats 4000000
set_option linter.unusedSimpArgs false
set_option linter.unusedVariables false
namespace Go.Proofs.YtenlhgnobfadgaaGreatDoor
open Go.RowKit
def idsT (rs : List Rw) (t : Int) : List Int := (rs.filter (fun r => thr (tr r) t)).map (fun r => r.1)
def idsb (now : Int) (rs : List Rw) (t : Int) : List Int := if rowsb now rs = true then srt (idsT rs t) else []
theorem srt_of {zs ys : List Int} (hp : ys.Perm zs) (hs : ys.Pairwise (· ≤ ·)) : ys = srt zs := by
 have h1 := List.pairwise_mergeSort (le := fun (x y : Int) => decide (x ≤ y)) (by intro a b c; simp; omega) (by intro a b; simp; omega) zs
 refine List.Perm.eq_of_pairwise (le := (· ≤ ·)) (fun a b _ _ h k => by omega) hs (h1.imp (fun h => by simpa using h)) (hp.trans (List.mergeSort_perm zs _).symm)
theorem ids_next {rs : List Rw} {t : Int} {i : Nat} (hi : i < rs.length) : idsT (rs.take (i + 1)) t = if thr (tr rs[i]) t = true then idsT (rs.take i) t ++ [rs[i].1] else idsT (rs.take i) t := by
 unfold idsT
 rw [List.take_add_one, List.getElem?_eq_getElem hi, List.filter_append, List.map_append]
 by_cases h : thr (tr rs[i]) t = true
 ·simp [h]
 ·simp [h]
theorem ids_len (rs : List Rw) (t : Int) : (idsT rs t).length ≤ rs.length := by
 unfold idsT
 rw [List.length_map]
 exact List.length_filter_le _ _
theorem ins_perm (zs : List Int) (x : Int) (j : Nat) : (zs.take j ++ x :: zs.drop j).Perm (x :: zs) := by
 have := List.perm_middle (a := x) (l₁ := zs.take j) (l₂ := zs.drop j)
 rw [List.take_append_drop] at this
 exact this
theorem ins_sorted {zs : List Int} {x : Int} {j : Nat} (hs : zs.Pairwise (· ≤ ·)) (h1 : ∀ k, k < j → zs.getD k 0 < x) (h2 : j < zs.length → x ≤ zs.getD j 0) : (zs.take j ++ x :: zs.drop j).Pairwise (· ≤ ·) := by
 have hx : ∀ y ∈ zs.drop j, x ≤ y := by
  intro y hy
  obtain ⟨m, hm, rfl⟩ := List.mem_iff_getElem.1 hy
  simp only [List.length_drop] at hm
  have hj : j < zs.length := by omega
  have h3 := h2 hj
  rw [List.getD_eq_getElem?_getD, List.getElem?_eq_getElem hj] at h3
  simp only [Option.getD_some] at h3
  rw [List.getElem_drop]
  by_cases e : m = 0
  ·subst e; simpa using h3
  ·have := List.pairwise_iff_getElem.1 hs j (j + m) hj (by omega) (by omega)
   omega
 have hl : ∀ y ∈ zs.take j, y < x := by
  intro y hy
  obtain ⟨m, hm, rfl⟩ := List.mem_iff_getElem.1 hy
  simp only [List.length_take] at hm
  have := h1 m (by omega)
  rw [List.getD_eq_getElem?_getD, List.getElem?_eq_getElem (by omega)] at this
  simp only [Option.getD_some] at this
  rw [List.getElem_take]; exact this
 rw [List.pairwise_append]
 refine ⟨hs.sublist (List.take_sublist _ _), ?_, ?_⟩
 ·rw [List.pairwise_cons]
  exact ⟨hx, hs.sublist (List.drop_sublist _ _)⟩
 ·intro y hy z hz
  have a1 := hl y hy
  simp at hz
  rcases hz with rfl | hz
  ·omega
  ·have := hx z hz; omega
def IA (w : World) (zs : List Int) (e : Ending) (w' : World) : Prop :=
 ∃ a' cap', e = .returned (.slice a' zs.length cap') ∧ OwnI w' a' zs ∧ (∀ b off, a' = some ⟨b, off, none⟩ → w.heap.size ≤ b) ∧ Below w.heap.size w w'
theorem spec_IdsAt {N : Nat → Prop} (now : Int) (a : Option Addr) (cap : Nat) (rs : List Rw) (t : Int) (w : World) (hm : rs.length ≤ 1099511627776) (h : Rws N w a rs) : Calls Tryz.prog 41 #[.agg #[.int .i64 now, .slice a rs.length cap], .int .i64 t] w fun e w' => IA w (idsb now rs t) e w' := by
 have HOK := hid (fun (W : World) (hb : Below w.heap.size w W) => spec_RowsOk now a cap rs W hm (h.below hb))
 have HR := hid h
 clear h
 have HNO : Hid (rowsb now rs = false → idsb now rs t = []) := hid (fun e => by unfold idsb; rw [if_neg (by rw [e]; simp)])
 have HYE : Hid (rowsb now rs = true → ∀ ys, ys.Perm (idsT rs t) → ys.Pairwise (· ≤ ·) → ys = idsb now rs t) := hid (fun e ys hp hs => by unfold idsb; rw [if_pos e]; exact srt_of hp hs)
 obtain ⟨n, hn⟩ : ∃ n, n = rs.length := ⟨_, rfl⟩
 have HN := hid hn.symm
 rw [← hn] at hm HOK ⊢
 clear hn
 generalize idsb now rs t = ib at *
 generalize rowsb now rs = ob at *
 go_enter Tryz.func41, Tryz.ntmps41
 go_upto_region 2 with fail
 have hBx : Below w.heap.size w ((w.alloc (.cells #[.int .i64 now, .slice a n cap] 32)).alloc (.cells #[] 3)) := balloc (balloc (Below.refl _ _) _) _
 have g0 := old_alloc (o' := .cells #[] 3) (new_alloc w w.heap.size (.cells #[.int .i64 now, .slice a n cap] 32) rfl)
 have ho := own_newI2 (w := w.alloc (.cells #[.int .i64 now, .slice a n cap] 32)) (B := w.heap.size) (X := w.heap.size + 1) (by simp) (by simp)
 generalize (w.alloc (.cells #[.int .i64 now, .slice a n cap] 32)).alloc (.cells #[] 3) = W0 at *
 have HI := hid (irow_of (zs := []) ho rfl)
 clear ho
 obtain ⟨d0, d1, _, _⟩ := cell2r g0
 go_wp2_with fail
 refine (HOK.out _ hBx).mono ?_
 rintro e W ⟨rfl, hz⟩
 have g1 := keepheap2 hz g0
 have hB := btrans hBx hz
 replace HI := hid (HI.out.below hz)
 clear g0 hBx hz d0 d1 HOK
 cases ob
 ·have HF := hid (HNO.out rfl)
  clear HNO HYE
  go_wp2_with fail
  go_ret
  obtain ⟨g, c, e, h1, h2, h3⟩ := HI.out
  cases e
  obtain ⟨q1, q2, q3⟩ := own_I h3 rfl
  rw [HF.out]
  exact ⟨some ⟨_, 0, none⟩, _, rfl, q3, fun b off e => (by cases e; exact q1), hB⟩
 have HG1 := hid g1
 have HB1 := hid hB
 have HYE2 := hid (HYE.out rfl)
 clear g1 hB HNO HYE
 go_wp2_with fail
 go_loopw [5, 6] (fun tv ti wr => ∃ i : Nat, ∃ zs : List Int, ti = .int .i64 i ∧ i ≤ n ∧ Hid (zs.length ≤ i ∧ zs.Perm (idsT (rs.take i) t) ∧ zs.Pairwise (· ≤ ·)) ∧ Hid (IRow w.heap.size wr tv zs) ∧ Hid (wr.heap[w.heap.size]? = some (.cells #[.int .i64 now, .slice a n cap] 32 (0, 0))) ∧ Hid (Below w.heap.size w wr)) (fun _ ti _ => n - (intOf ti).toNat)
 case atStart => exact ⟨0, [], rfl, Nat.zero_le _, hid ⟨Nat.le_refl _, by simp [idsT], List.Pairwise.nil⟩, HI, HG1, HB1⟩
 case round =>
  clear HI HG1 HB1
  obtain ⟨i, zs, rfl, hi, HZ, HV, G0, HBW⟩ := hrel
  obtain ⟨g, c, rfl, hgl, hgc, hown⟩ := HV.out
  have HO := hid hown
  clear hown HV
  obtain ⟨d0, d1, _, _⟩ := cell2r G0.out
  by_cases hlt : i < n
  ·have c1 : (i : Int) < (n : Int) := by omega
   have hir : i < rs.length := by rw [HN.out]; exact hlt
   obtain ⟨b, o, rfl, hbs, a', cap', k0, k1, k2, k3, k4, k5, k6, k7, _⟩ := (HR.out.below HBW.out).at i hir
   have ST := hid (fun w' => spec_there rs[i] a' cap' t w')
   have HX := hid (ids_next (t := t) hir)
   unfold rwv at ST
   clear k5 k6 k7
   generalize thr (tr rs[i]) t = q2 at *
   generalize rs[i].1 = id2 at *
   generalize rs[i].2.1 = fr at *
   generalize rs[i].2.2.1 = te at *
   generalize rs[i].2.2.2.1 = kd at *
   generalize rs[i].2.2.2.2.length = np at *
   go_wp2_with fail
   refine (ST.out _).mono ?_
   rintro e z ⟨rfl, hz⟩
   have g1 := keepheap2 hz G0.out
   have HBz := hid (btrans HBW.out hz)
   have HIz := hid ((irow_of HO.out rfl).below hz)
   replace k0 := keepcell hz k0
   have hsz := hz.size
   clear hz d0 d1 k1 k2 k3 k4
   obtain ⟨d0, d1, _, _⟩ := cell2r g1
   have HG1 := hid g1
   clear g1
   cases q2
   ·have HZ2 : Hid (zs.length ≤ i + 1 ∧ zs.Perm (idsT (rs.take (i + 1)) t) ∧ zs.Pairwise (· ≤ ·)) := hid ⟨by have := HZ.out.1; omega, by rw [HX.out, if_neg (by simp)]; exact HZ.out.2.1, HZ.out.2.2⟩
    go_wp2_with fail
    go_roundw
    case rel => exact ⟨i + 1, zs, by go_num, by omega, HZ2, HIz, HG1, HBz⟩
    case measure => simp [intOf]; omega
   ·have hzl := HZ.out.1
    have HX2 : Hid (idsT (rs.take (i + 1)) t = idsT (rs.take i) t ++ [id2]) := hid (by rw [HX.out]; simp)
    obtain ⟨g', c', e', hgl', hgc', hown'⟩ := HIz.out
    cases e'
    have AD := hid (add_c w.heap.size g zs.length c zs id2 z (by omega) rfl hgc' hgl' hown')
    clear hown' hgc' hgl'
    go_wp2_with fail
    refine AD.out.mono ?_
    rintro e y ⟨j, g2, c2, hj, h1, h2, rfl, hown2, hy⟩
    have HZ2 : Hid ((zs.take j ++ id2 :: zs.drop j).length ≤ i + 1 ∧ (zs.take j ++ id2 :: zs.drop j).Perm (idsT (rs.take (i + 1)) t) ∧ (zs.take j ++ id2 :: zs.drop j).Pairwise (· ≤ ·)) := hid ⟨by have := (ins_perm zs id2 j).length_eq; simp only [List.length_cons] at this; omega, by
     rw [HX2.out]
     exact (ins_perm zs id2 j).trans ((List.perm_append_singleton id2 _).symm.trans ((List.Perm.append_right [id2] HZ.out.2.1))), ins_sorted HZ.out.2.2 h1 h2⟩
    have HV2 := hid (irow_of (own_mono hown2 (show w.heap.size ≤ z.heap.size by have := HBz.out.size; omega)) (zs := zs.take j ++ id2 :: zs.drop j) (by have := (ins_perm zs id2 j).length_eq; simpa using this))
    have HG2 := hid (keepheap2 hy HG1.out)
    have HBy := hid (btrans HBz.out hy)
    clear hown2 hy h1 h2 d0 d1 k0
    go_wp2_with fail
    go_roundw
    case rel => exact ⟨i + 1, _, by go_num, by omega, HZ2, HV2, HG2, HBy⟩
    case measure => simp [intOf]; omega
  ·have c1 : (n : Int) ≤ (i : Int) := by omega
   have hin : i = rs.length := by have := HN.out; omega
   have HF : Hid (zs = ib) := hid (HYE2.out zs (by have := HZ.out.2.1; rw [hin, List.take_length] at this; exact this) HZ.out.2.2)
   clear hin
   go_wp2_with fail
   go_ret
   obtain ⟨q1, q2, q3⟩ := own_I HO.out rfl
   have := HF.out
   subst this
   exact ⟨some ⟨_, 0, none⟩, _, rfl, q3, fun b off e => (by cases e; exact q1), HBW.out⟩
theorem keepheapA {w w' : World} (hb : Below w.heap.size w w') {b : Nat} {o : Obj} (h : w.heap[b]? = some o) : w'.heap[b]? = some o := by
 rw [hb.block b (lt_of_block h)]; exact h
def atb (id t : Int) (r : Rw) : Bool := decide (r.1 = id) && thr (tr r) t
def rat (rs : List Rw) (id t : Int) : Option Rw := rs.find? (atb id t)
def raK (o : Option Rw) : Int := match o with
 | some r => r.2.2.2.1
 | none => 0
def raP (o : Option Rw) : List (Int × Int) := match o with
 | some r => r.2.2.2.2
 | none => []
theorem rat_some {rs : List Rw} {id t : Int} {i : Nat} (h : i < rs.length) (hb : ∀ m (h : m < rs.length), m < i → atb id t rs[m] = false) (hi : atb id t rs[i] = true) : rat rs id t = some rs[i] := by
 unfold rat
 rw [List.find?_eq_some_iff_getElem]
 exact ⟨hi, i, h, rfl, fun j hj => by simp [hb j (by omega) hj]⟩
theorem rat_none {rs : List Rw} {id t : Int} (hb : ∀ m (h : m < rs.length), atb id t rs[m] = false) : rat rs id t = none := by
 unfold rat
 rw [List.find?_eq_none]
 intro x hx
 obtain ⟨m, hm, rfl⟩ := List.mem_iff_getElem.1 hx
 rw [hb m hm]; simp
def RA (w : World) (rk : Int) (rp : List (Int × Int)) (rb : Bool) (e : Ending) (w' : World) : Prop :=
 ∃ a' cap', e = .returned (.tuple #[.agg #[.int .i64 rk, .slice a' rp.length cap'], .bool rb]) ∧ rp.length ≤ cap' ∧ ((a' = none ∧ rp = []) ∨ ∃ b, a' = some ⟨b, 0, none⟩ ∧ PtsOwn w' b rp) ∧ (∀ b off, a' = some ⟨b, off, none⟩ → w.heap.size ≤ b) ∧ Below w.heap.size w w'
theorem ra_no {w w' : World} {rk : Int} {rp : List (Int × Int)} {rb : Bool} (h1 : rk = 0) (h2 : rp = []) (h3 : rb = false) (hb : Below w.heap.size w w') : RA w rk rp rb (.returned (.tuple #[.agg #[.int .i64 0, .slice none 0 0], .bool false])) w' := by
 subst h1; subst h2; subst h3
 exact ⟨none, 0, rfl, Nat.le_refl _, .inl ⟨rfl, rfl⟩, fun _ _ e => (by cases e), hb⟩
theorem ra_yes {w w' : World} {rk kd : Int} {rp ps : List (Int × Int)} {rb : Bool} {g cap : Nat} (h1 : rk = kd) (h2 : rp = ps) (h3 : rb = true) (hc : ps.length ≤ cap) (hg : w.heap.size ≤ g) (ho : PtsOwn w' g ps) (hb : Below w.heap.size w w') : RA w rk rp rb (.returned (.tuple #[.agg #[.int .i64 kd, .slice (some ⟨g, 0, none⟩) ps.length cap], .bool true])) w' := by
 subst h1; subst h2; subst h3
 exact ⟨_, cap, rfl, hc, .inr ⟨g, rfl, ho⟩, fun _ _ e => (by cases e; exact hg), hb⟩
theorem spec_row {N : Nat → Prop} (now : Int) (a : Option Addr) (cap : Nat) (rs : List Rw) (id t : Int) (w : World) (hm : rs.length ≤ 1099511627776) (h : Rws N w a rs) (hpos : ∀ m (h : m < rs.length), 0 < rs[m].2.2.2.2.length) : Calls Tryz.prog 42 #[.agg #[.int .i64 now, .slice a rs.length cap], .int .i64 id, .int .i64 t] w fun e w' => RA w (raK (rat rs id t)) (raP (rat rs id t)) (rat rs id t).isSome e w' := by
 have HR := hid h
 have HPOS := hid hpos
 clear h hpos
 obtain ⟨n, hn⟩ : ∃ n, n = rs.length := ⟨_, rfl⟩
 have HN := hid hn.symm
 rw [← hn] at hm ⊢
 clear hn
 have HY : Hid (∀ i (h : i < rs.length), (∀ m (h : m < rs.length), m < i → atb id t rs[m] = false) → atb id t rs[i] = true → raK (rat rs id t) = rs[i].2.2.2.1 ∧ raP (rat rs id t) = rs[i].2.2.2.2 ∧ (rat rs id t).isSome = true) := hid (fun i h hb hi => by rw [rat_some h hb hi]; exact ⟨rfl, rfl, rfl⟩)
 have HNO : Hid ((∀ m (h : m < rs.length), atb id t rs[m] = false) → raK (rat rs id t) = 0 ∧ raP (rat rs id t) = [] ∧ (rat rs id t).isSome = false) := hid (fun hb => by rw [rat_none hb]; exact ⟨rfl, rfl, rfl⟩)
 generalize raK (rat rs id t) = rk at *
 generalize raP (rat rs id t) = rp at *
 generalize (rat rs id t).isSome = rb at *
 go_enter Tryz.func42, Tryz.ntmps42
 go_upto_region 1 with fail
 have hBx : Below w.heap.size w ((w.alloc (.cells #[.int .i64 now, .slice a n cap] 32)).alloc (.cells #[.int .i64 0, .slice none 0 0] 48)) := balloc (balloc (Below.refl _ _) _) _
 have g0 := old_alloc (o' := .cells #[.int .i64 0, .slice none 0 0] 48) (new_alloc w w.heap.size (.cells #[.int .i64 now, .slice a n cap] 32) rfl)
 have g1 := new_alloc (w.alloc (.cells #[.int .i64 now, .slice a n cap] 32)) (w.heap.size + 1) (.cells #[.int .i64 0, .slice none 0 0] 48) (by simp)
 generalize (w.alloc (.cells #[.int .i64 now, .slice a n cap] 32)).alloc (.cells #[.int .i64 0, .slice none 0 0] 48) = W0 at *
 go_wp2_with fail
 go_loopw [8] (fun ti wr => ∃ i : Nat, ti = .int .i64 i ∧ i ≤ n ∧ Hid (∀ m (h : m < rs.length), m < i → atb id t rs[m] = false) ∧ Hid (wr.heap[w.heap.size]? = some (.cells #[.int .i64 now, .slice a n cap] 32 (0, 0))) ∧ Hid (wr.heap[w.heap.size + 1]? = some (.cells #[.int .i64 0, .slice none 0 0] 48 (0, 0))) ∧ Hid (Below w.heap.size w wr)) (fun ti _ => n - (intOf ti).toNat)
 case atStart => exact ⟨0, rfl, Nat.zero_le _, hid (fun m h hh => absurd hh (by omega)), hid g0, hid g1, hid hBx⟩
 case round =>
  clear g0 g1 hBx
  obtain ⟨i, rfl, hi, HA, G0, G1, HBW⟩ := hrel
  obtain ⟨d0, d1, _, _⟩ := cell2r G0.out
  obtain ⟨v0, v1, w0, w1⟩ := cell2r G1.out
  by_cases hlt : i < n
  ·have c1 : (i : Int) < (n : Int) := by omega
   have hir : i < rs.length := by rw [HN.out]; exact hlt
   obtain ⟨b, o, rfl, hbs, a', cap', k0, k1, k2, k3, k4, k5, k6, k7, _⟩ := (HR.out.below HBW.out).at i hir
   have HT := hid (show atb id t rs[i] = (decide (rs[i].1 = id) && thr (tr rs[i]) t) from rfl)
   have ST := hid (fun w' => spec_there rs[i] a' cap' t w')
   have SC := hid (fun (w' : World) (hw : Pts w' a' rs[i].2.2.2.2) => spec_copy rs[i].2.2.2.1 a' cap' rs[i].2.2.2.2 w' (HPOS.out i hir) k6 hw)
   have HYES := hid (HY.out i hir HA.out)
   have HNEXT : Hid (atb id t rs[i] = false → ∀ m (h : m < rs.length), m < i + 1 → atb id t rs[m] = false) := hid (fun e1 m h hm => by
    by_cases e : m = i
    ·subst e; exact e1
    ·exact HA.out m h (by omega))
   have K7 := hid k7
   clear k5 k6 k7
   unfold rwv at ST
   generalize atb id t rs[i] = q at HT HYES HNEXT
   generalize thr (tr rs[i]) t = q2 at *
   generalize rs[i].1 = id2 at *
   generalize rs[i].2.1 = fr at *
   generalize rs[i].2.2.1 = te at *
   generalize rs[i].2.2.2.1 = kd at *
   generalize rs[i].2.2.2.2 = ps at *
   cases qi : (id2 == id)
   ·have hq : q = false := by rw [HT.out, show decide (id2 = id) = false by simpa using qi]; rfl
    have HF := hid (HNEXT.out hq)
    clear hq
    go_wp2_with fail
    go_roundw
    case rel => exact ⟨i + 1, by go_num, by omega, HF, G0, G1, HBW⟩
    case measure => simp [intOf]; omega
   have he : decide (id2 = id) = true := by simpa using qi
   cases q2
   ·have HF := hid (HNEXT.out (by rw [HT.out, he]; rfl))
    go_wp2_with fail
    refine (ST.out _).mono ?_
    rintro e z ⟨rfl, hz⟩
    have HG0 := hid (keepheapA hz G0.out)
    have HG1 := hid (keepheapA hz G1.out)
    have HBz := hid (btrans HBW.out hz)
    clear hz
    go_wp2_with fail
    go_roundw
    case rel => exact ⟨i + 1, by go_num, by omega, HF, HG0, HG1, HBz⟩
    case measure => simp [intOf]; omega
   ·have HF := hid (HYES.out (by rw [HT.out, he]; rfl))
    go_wp2_with fail
    refine (ST.out _).mono ?_
    rintro e z ⟨rfl, hz⟩
    have g0 := keepheapA hz G0.out
    have HG1 := hid (keepheapA hz G1.out)
    have HBz := hid (btrans HBW.out hz)
    have HPz := hid (K7.out.below hz)
    replace k3 := keepcell hz k3
    replace k4 := keepcell hz k4
    clear hz d0 d1 v0 v1 w0 w1 k0 k1 k2
    obtain ⟨d0, d1, _, _⟩ := cell2r g0
    go_wp2_with fail
    refine (SC.out _ HPz.out).mono ?_
    rintro e y ⟨g, cp, rfl, hcp, hgs, ho, hy⟩
    have g1 := keepheapA hy HG1.out
    have HBy := hid (btrans HBz.out hy)
    obtain ⟨v0, v1, w0, w1⟩ := cell2r g1
    have hgw : w.heap.size + 1 < g := Nat.lt_of_lt_of_le (lt_of_block HG1.out) hgs
    have HO := hid ho
    clear ho hy g0 d0 d1 k3 k4
    go_wp2_with fail
    have gF := set2r g1 (.int .i64 kd) (.slice (some ⟨g, 0, none⟩) ps.length cp)
    have bF := bset (bset HBy.out (q := w.heap.size + 1) (k := 0) (by omega) (.int .i64 kd)) (q := w.heap.size + 1) (k := 1) (by omega) (.slice (some ⟨g, 0, none⟩) ps.length cp)
    have oF : PtsOwn ((y.setCell ⟨w.heap.size + 1, 0, none⟩ (.int .i64 kd)).setCell ⟨w.heap.size + 1, 1, none⟩ (.slice (some ⟨g, 0, none⟩) ps.length cp)) g ps := by
     refine own_blk HO.out ?_ (by simp; exact HO.out.1)
     rw [Below.heap_setCell _ _ _ _ (by dsimp only; omega), Below.heap_setCell _ _ _ _ (by dsimp only; omega)]
    generalize (y.setCell ⟨w.heap.size + 1, 0, none⟩ (.int .i64 kd)).setCell ⟨w.heap.size + 1, 1, none⟩ (.slice (some ⟨g, 0, none⟩) ps.length cp) = wf at *
    obtain ⟨z0, z1, _, _⟩ := cell2r gF
    exact bodyPost_ret (v := .tuple #[.agg #[.int .i64 kd, .slice (some ⟨g, 0, none⟩) ps.length cp], .bool true]) (by simp [results, Tryz.results42, go_sem, z0, z1]) rfl (ra_yes HF.out.1 HF.out.2.1 HF.out.2.2 hcp (by omega) oF bF)
  ·have HF := hid (HNO.out (fun m hm1 => HA.out m hm1 (by rw [HN.out] at hm1; omega)))
   have c1 : (n : Int) ≤ (i : Int) := by omega
   go_wp2_with fail
   have gF := set2r G1.out (.int .i64 0) (.slice none 0 0)
   have bF := bset (bset HBW.out (q := w.heap.size + 1) (k := 0) (by omega) (.int .i64 0)) (q := w.heap.size + 1) (k := 1) (by omega) (.slice none 0 0)
   generalize (wr.setCell ⟨w.heap.size + 1, 0, none⟩ (.int .i64 0)).setCell ⟨w.heap.size + 1, 1, none⟩ (.slice none 0 0) = wf at *
   obtain ⟨z0, z1, _, _⟩ := cell2r gF
   exact bodyPost_ret (v := .tuple #[.agg #[.int .i64 0, .slice none 0 0], .bool false]) (by simp [results, Tryz.results42, go_sem, z0, z1]) rfl (ra_no HF.out.1 HF.out.2.1 HF.out.2.2 bF)
theorem rows_apart2 {now : Int} {rs : List Rw} {t : Int} (hr : rowsb now rs = true) {i j : Nat} (hi : i < rs.length) (hj : j < rs.length) (hij : i < j) (h1 : thr (tr rs[i]) t = true) (h2 : thr (tr rs[j]) t = true) : rs[i].1 ≠ rs[j].1 := by
 intro e
 unfold rowsb at hr
 simp only [Bool.and_eq_true] at hr
 have ha := (apartR_iff _).1 hr.2.2
 rw [List.pairwise_map] at ha
 have hc := List.pairwise_iff_getElem.1 ha i j hi hj hij
 rw [thr_def] at h1 h2
 simp only [Bool.and_eq_true, Bool.or_eq_true, decide_eq_true_eq] at h1 h2
 unfold clash thr tr at hc
 simp only at hc
 rw [show decide (rs[j].1 = rs[i].1) = true by simpa using e.symm, Bool.true_and, Bool.or_eq_false_iff, Bool.and_eq_false_iff, Bool.and_eq_false_iff, Bool.or_eq_false_iff, Bool.or_eq_false_iff] at hc
 simp only [decide_eq_false_iff_not] at hc
 omega
theorem rat_of {now : Int} {rs : List Rw} {t : Int} (hr : rowsb now rs = true) {j : Nat} (hj : j < rs.length) (ht : thr (tr rs[j]) t = true) : rat rs rs[j].1 t = some rs[j] := by
 refine rat_some hj (fun m hm hmj => ?_) (by unfold atb; rw [ht]; simp)
 unfold atb
 cases h : thr (tr rs[m]) t
 ·simp
 ·have := rows_apart2 hr hm hj hmj h ht
  simp [this]
theorem rowsb_sh {now : Int} {rs : List Rw} (h : rowsb now rs = true) {m : Nat} (hm : m < rs.length) : shok rs[m].2.2.2.1 rs[m].2.2.2.2 = true := by
 unfold rowsb at h
 simp only [Bool.and_eq_true, List.all_eq_true] at h
 have := h.2.1 rs[m] (List.getElem_mem hm)
 unfold rowb at this
 simp only [Bool.and_eq_true] at this
 exact this.2
theorem idsb_row {now : Int} {rs : List Rw} {t id : Int} (h : id ∈ idsb now rs t) : rowsb now rs = true ∧ shok (raK (rat rs id t)) (raP (rat rs id t)) = true := by
 unfold idsb at h
 split at h
 ·rename_i hr
  refine ⟨hr, ?_⟩
  have h2 : id ∈ idsT rs t := (List.mergeSort_perm (idsT rs t) _).mem_iff.1 h
  unfold idsT at h2
  obtain ⟨r, h3, rfl⟩ := List.mem_map.1 h2
  obtain ⟨h4, h5⟩ := List.mem_filter.1 h3
  obtain ⟨j, hj, rfl⟩ := List.mem_iff_getElem.1 h4
  rw [rat_of hr hj h5]
  exact rowsb_sh hr hj
 ·simp at h
theorem idsb_len (now : Int) (rs : List Rw) (t : Int) : (idsb now rs t).length ≤ 300 := by
 unfold idsb
 split
 ·rename_i h
  rw [srt_len]
  have h1 := ids_len rs t
  unfold rowsb at h
  simp only [Bool.and_eq_true, decide_eq_true_eq] at h
  omega
 ·simp
end Go.Proofs.YtenlhgnobfadgaaGreatDoor
