/- Texts of stores, joined: Ob, Oc, Od, Sh0, Sh. -/
import Derived.Test.YtiocelhnmfadnaaGreatD3
import Derived.Test.YtiocelhnmfadnaaGreatShelfC
import Derived.Test.YtiocelhnmfadnaaGreatSb
import Derived.Test.YtiocelhnmfadnaaGreatRwK
namespace Go.Proofs.YtiocelhnmfadnaaGreat
open Go.RowKit
set_option linter.unusedSimpArgs false
set_option linter.unusedVariables false
/-- The numbers of the sessions' transactions. -/
def tkn (zs : List Int) : List Int := zs.filter (fun n => decide (n ≠ -1))
theorem tkn_len (zs : List Int) : (tkn zs).length ≤ zs.length := List.length_filter_le _ _
theorem tkn_next {zs : List Int} {i : Nat} (h : i < zs.length) : tkn (zs.take (i + 1)) = tkn (zs.take i) ++ (if zs.getD i 0 = -1 then [] else [zs.getD i 0]) := by
  have e : zs.take (i + 1) = zs.take i ++ [zs[i]] := by rw [List.take_add_one, List.getElem?_eq_getElem h]; rfl
  have g : zs.getD i 0 = zs[i] := by simp [List.getD_eq_getElem?_getD, List.getElem?_eq_getElem h]
  unfold tkn
  rw [e, List.filter_append, g]
  congr 1
  by_cases q : zs[i] = -1 <;> simp [q]
def sok (ts : List Tx) (zs : List Int) : Bool := (tkn zs).all (gob ts) && decide (tkn zs).Nodup
def dbb (now : Int) (rs : List Rw) (ts : List Tx) (zs : List Int) : Bool := decide (zs.length ≤ 20) && (sok ts zs && storeb now rs ts)
theorem keeps_len {zs : List Int} : (Go.Lib.compact zs).length = zs.length ↔ ∀ j, j < zs.length → (j = 0 ∨ zs.getD j 0 ≠ zs.getD (j - 1) 0) := by
  unfold Go.Lib.compact Go.Lib.compactUpTo
  rw [List.length_map]
  have hg : ∀ j, j < zs.length → zs.toArray[j]! = zs.getD j 0 := fun j hj => by simp [List.getD_eq_getElem?_getD, List.getElem?_eq_getElem hj, getElem!_pos, hj]
  constructor
  · intro h j hj
    have h2 : ((List.range zs.length).filter (Go.Lib.keeps zs.toArray)).length = (List.range zs.length).length := by rw [h, List.length_range]
    have h3 := List.length_filter_eq_length_iff.1 h2 j (List.mem_range.2 hj)
    unfold Go.Lib.keeps at h3
    rw [decide_eq_true_eq, hg j hj, hg (j - 1) (by omega)] at h3
    exact h3
  · intro h
    have h2 : ∀ j ∈ List.range zs.length, Go.Lib.keeps zs.toArray j = true := fun j hj => by
      have hj' := List.mem_range.1 hj
      unfold Go.Lib.keeps
      rw [decide_eq_true_eq, hg j hj', hg (j - 1) (by omega)]
      exact h j hj'
    have := List.length_filter_eq_length_iff.2 h2
    rw [this, List.length_range]
theorem compact_nodup {zs : List Int} (hs : zs.Pairwise (· ≤ ·)) : (Go.Lib.compact zs).length = zs.length ↔ zs.Nodup := by
  rw [keeps_len]
  have hg : ∀ j (h : j < zs.length), zs.getD j 0 = zs[j] := fun j hj => by simp [List.getD_eq_getElem?_getD, List.getElem?_eq_getElem hj]
  constructor
  · intro h
    rw [List.Nodup, List.pairwise_iff_getElem]
    intro i j hi hj hij
    have h1 : ∀ k, i + k < zs.length → 0 < k → zs[i] < zs.getD (i + k) 0 := by
      intro k
      induction k with
      | zero => intro _ q; omega
      | succ k ih =>
        intro hk _
        have h2 := h (i + (k + 1)) hk
        have h3 : zs.getD (i + (k + 1)) 0 ≠ zs.getD (i + k) 0 := by rcases h2 with h2 | h2; omega; exact h2
        have h4 : zs[i + k]'(by omega) ≤ zs[i + (k + 1)]'hk := by
          have := List.pairwise_iff_getElem.1 hs (i + k) (i + (k + 1)) (by omega) hk (by omega)
          exact this
        rw [hg _ hk]
        rw [hg _ hk, hg (i + k) (by omega)] at h3
        by_cases e : k = 0
        · subst e; simp at h3 h4 ⊢; omega
        · have := ih (by omega) (by omega)
          rw [hg (i + k) (by omega)] at this
          omega
    have := h1 (j - i) (by omega) (by omega)
    rw [hg _ (by omega)] at this
    simp only [show i + (j - i) = j by omega] at this
    omega
  · intro h j hj
    by_cases e : j = 0
    · exact .inl e
    · right
      rw [hg j hj, hg (j - 1) (by omega)]
      have := List.pairwise_iff_getElem.1 h (j - 1) j (by omega) hj (by omega)
      exact fun q => this q.symm
theorem srt_sorted (zs : List Int) : (srt zs).Pairwise (· ≤ ·) := by
  have := List.pairwise_mergeSort (le := fun x y : Int => decide (x ≤ y)) (fun a b c => by simp; omega) (fun a b => by simp; omega) zs
  exact this.imp (fun h => by simpa using h)
theorem srt_perm (zs : List Int) : (srt zs).Perm zs := List.mergeSort_perm zs _
theorem compact_srt (zs : List Int) : (Go.Lib.compact (srt zs)).length = zs.length ↔ zs.Nodup := by
  rw [show zs.length = (srt zs).length from (srt_perm zs).length_eq.symm, compact_nodup (srt_sorted zs)]
  exact (srt_perm zs).nodup_iff
set_option maxHeartbeats 1000000 in
theorem tkn_1 (n : Int) (w : World) : Calls Tryz.prog 61 #[.int .i64 n] w fun e w' => e = .returned (.tuple #[.int .i64 n, .bool (!decide (n = -1))]) ∧ w' = w := by
  go_enter Tryz.func61, Tryz.ntmps61
  by_cases h : n = -1
  · subst h
    go_wp2_with fail
    exact bodyPost_ret (v := .tuple #[.int .i64 (-1), .bool false]) (by simp [results, Tryz.results61, go_sem]) rfl ⟨by simp, rfl⟩
  · go_wp2_with fail
    exact bodyPost_ret (v := .tuple #[.int .i64 n, .bool true]) (by simp [results, Tryz.results61, go_sem, h]) rfl ⟨by simp [h], rfl⟩
set_option maxRecDepth 100000 in
set_option maxHeartbeats 4000000 in
theorem kept_tkn (a : Option Addr) (cap : Nat) (zs : List Int) (w : World) (hm : zs.length ≤ 1099511627776) (h : InI w a zs) : Calls Tryz.prog 60 #[.slice a zs.length cap, .func (.func 61) #[] #[]] w fun e w' => ∃ v, e = .returned v ∧ IRow w.heap.size w' v (tkn zs) ∧ Below w.heap.size w w' := by
  obtain ⟨i0, hi0, hz0, hz1, hz2⟩ := info_parts Tryz.infoI
  have HR := hid h
  clear h
  have hmk := make_ints zs.length hm
  obtain ⟨n, hn⟩ : ∃ n, n = zs.length := ⟨_, rfl⟩
  have HN := hid hn.symm
  rw [← hn] at hm hmk ⊢
  clear hn
  have hB0 : Below w.heap.size w (w.alloc (.cells (madeCells #[.int .i64 0] n) 3)) := balloc (Below.refl _ _) _
  have HI : Hid (IRow w.heap.size (w.alloc (.cells (madeCells #[.int .i64 0] n) 3)) (.slice (some ⟨w.heap.size, 0, none⟩) 0 n) []) := hid (by
    have := World.ownsRow_made (base := w.heap.size) (e := 3) (size := 1) w (madeCells #[.int .i64 0] n) n (Nat.le_refl _) (by unfold maxLen; omega) (by rw [size_madeCells, Nat.mul_one])
    exact ⟨w.heap.size, n, rfl, by simp, Nat.zero_le _, by simpa [fli] using this⟩)
  go_enter Tryz.func60, Tryz.ntmps60
  go_upto_region 2 with fail
  generalize w.alloc (.cells (madeCells #[.int .i64 0] n) 3) = W0 at *
  clear hmk
  go_wp2_with fail
  go_loopw [5, 15] (fun tv ti wr => ∃ i : Nat, ti = .int .i64 i ∧ i ≤ n ∧ Hid (IRow w.heap.size wr tv (tkn (zs.take i))) ∧ Hid (Below w.heap.size w wr)) (fun _ ti _ => n - (intOf ti).toNat)
  case atStart => exact ⟨0, rfl, Nat.zero_le _, HI, hid hB0⟩
  case round =>
    clear HI hB0
    obtain ⟨i, rfl, hi, HV, HBW⟩ := hrel
    by_cases hlt : i < n
    · have d1 : (i : Int) < (n : Int) := by omega
      have hir : i < zs.length := by rw [HN.out]; exact hlt
      obtain ⟨b, o, rfl, hbs, k0⟩ := (HR.out.below HBW.out).at (k := i) hir
      have HX := hid (tkn_next hir)
      have hil : (tkn (zs.take i)).length ≤ i := by have := tkn_len (zs.take i); simp at this; omega
      generalize zs.getD i 0 = z0 at *
      generalize tkn (zs.take i) = ys at *
      obtain ⟨g, c, rfl, hgl, hgc, hown⟩ := HV.out
      have HO := hid hown
      clear hown HV
      go_wp2_with fail
      refine (tkn_1 z0 _).mono ?_
      rintro e z ⟨rfl, hz⟩
      replace hz := hz.symm
      subst hz
      by_cases hq : z0 = -1
      · have HV2 : Hid (IRow w.heap.size wr (.slice (some ⟨g, 0, none⟩) ys.length c) (tkn (zs.take (i + 1)))) := hid (by rw [HX.out, if_pos hq, List.append_nil]; exact irow_of HO.out rfl)
        subst hq
        go_wp2_with fail
        go_roundw
        case rel => exact ⟨i + 1, by go_num, by omega, HV2, HBW⟩
        case measure => simp [intOf]; omega
      · have HX2 : Hid (tkn (zs.take (i + 1)) = ys ++ [z0]) := hid (by rw [HX.out, if_neg hq])
        have hown' := HO.out
        have hzw := HBW.out.size
        clear HX
        go_wp2_with (at_builtin; refine wpList_append_lies _ rfl (.tmp 26) (.tmp 28) 41 rfl w.heap.size 3 i0 _ 1 8 Tryz.underlying41 hi0 hz0 hz1 hz2 rfl (by decide) _ _ _ rfl (hown'.alloc _) ⟨wr.heap.size, 0, none⟩ 1 1 [.int .i64 z0] rfl rfl (World.news_of_block (cs := #[.int .i64 z0]) (t := 3) (fr := (0, 0)) (heap_alloc_new wr _)) (by simp [Value.oneCell']) (by omega) (by unfold maxLen; omega) (by omega) (by simp; omega) (wr.heap.size + 1) (by simp) ?_; intro gg cq w2 hown2 hgrow hat hlt2)
        go_roundw
        case rel =>
          refine ⟨i + 1, by go_num, by omega, hid ?_, hid ?_⟩
          · rw [HX2.out]
            exact irow_of (by simpa [fli] using hown2) (by simp)
          · exact Below.grown (balloc HBW.out _) hgrow (by simp; omega) (fun k e => (hown'.lt k e).1)
        case measure => simp [intOf]; omega
    · have d1 : (n : Int) ≤ (i : Int) := by omega
      have hin : i = zs.length := by have := HN.out; omega
      have HF : Hid (IRow w.heap.size wr u5 (tkn zs)) := hid (by have := HV.out; rw [hin, List.take_length] at this; exact this)
      clear hin HV
      go_wp2_with fail
      go_ret
      exact ⟨_, rfl, HF.out, HBW.out⟩
theorem compact_c (g c : Nat) (zs : List Int) (w : World) (hm : zs.length ≤ 1099511627776) (hc : zs.length ≤ c) (h : OwnI w (some ⟨g, 0, none⟩) zs) : Calls Tryz.prog 64 #[.slice (some ⟨g, 0, none⟩) zs.length c] w fun e w' => e = .returned (.slice (some ⟨g, 0, none⟩) (Go.Lib.compact zs).length c) ∧ w.grownBy w' (some g) := by
  obtain ⟨b, e, h1, h2, h3⟩ : ∃ b, some (⟨g, 0, none⟩ : Addr) = some ⟨b, 0, none⟩ ∧ b < w.heap.size ∧ IAt w b 0 zs ∧ w.there b 0 zs.length := by
    rcases h with ⟨q, _⟩ | h
    · cases q
    · exact h
  cases e
  have hH : Go.Sort.Holds (Value.int .i64) w g 0 zs.toArray := by
    intro j hj
    simp at hj
    refine ⟨?_, ?_⟩
    · have := h2 j hj
      rw [this]
      simp [List.getD_eq_getElem?_getD, List.getElem?_eq_getElem hj, getElem!_pos, hj]
    · exact (h3 j hj).2
  have hcc := Any.slices_Compact_int Tryz.laysNm220 g 0 c zs w hH (by omega) hc
  change Calls Tryz.prog 64 _ _ _ at hcc
  refine hcc.mono ?_
  rintro e w' ⟨rfl, q, rfl⟩
  refine ⟨rfl, ⟨rfl, rfl, rfl, by simp [Go.Sort.putRow, Go.Sort.mapBlock, Go.Sort.ahead], fun k hk hne => ?_⟩⟩
  have : g ≠ k := fun e => hne (by rw [e])
  simp [Go.Sort.putRow, Go.Sort.mapBlock, Go.Sort.ahead, Array.getElem?_modify, this]
end Go.Proofs.YtiocelhnmfadnaaGreat
namespace Go.Proofs.YtiocelhnmfadnaaGreat
open Go.RowKit
set_option linter.unusedSimpArgs false
set_option linter.unusedVariables false
theorem sok_no {ts : List Tx} {zs : List Int} {k : Nat} (hk : k < (tkn zs).length) (h : gob ts ((tkn zs).getD k 0) = false) : sok ts zs = false := by
  unfold sok
  have : (tkn zs).all (gob ts) = false := by
    rw [List.all_eq_false]
    exact ⟨(tkn zs)[k], List.getElem_mem hk, by rw [List.getD_eq_getElem?_getD, List.getElem?_eq_getElem hk] at h; simpa using h⟩
  rw [this]; rfl
theorem sok_all {ts : List Tx} {zs : List Int} (h : ∀ k, k < (tkn zs).length → gob ts ((tkn zs).getD k 0) = true) : sok ts zs = decide (tkn zs).Nodup := by
  unfold sok
  have : (tkn zs).all (gob ts) = true := by
    rw [List.all_eq_true]
    intro x hx
    obtain ⟨k, hk, rfl⟩ := List.getElem_of_mem hx
    have := h k hk
    rw [List.getD_eq_getElem?_getD, List.getElem?_eq_getElem hk] at this
    simpa using this
  rw [this]; rfl
set_option maxRecDepth 100000 in
set_option maxHeartbeats 4000000 in
theorem sess_c {N : Nat → Prop} (now : Int) (a ta sa : Option Addr) (rn cap tcap scap : Nat) (ts : List Tx) (zs : List Int) (w : World) (htm : ts.length ≤ 1099511627776) (hzm : zs.length ≤ 1048576) (ht : Txs N 1099511627776 w ta ts) (hs : InI w sa zs) : Calls Tryz.prog 35 #[.agg #[.int .i64 now, .slice a rn cap, .slice ta ts.length tcap, .slice sa zs.length scap]] w fun e w' => e = .returned (.bool (sok ts zs)) ∧ Below w.heap.size w w' := by
  have HK := hid (fun (W : World) (hb : Below w.heap.size w W) => kept_tkn sa scap zs W (by omega) (hs.below hb))
  have HG := hid (fun (n : Int) (W : World) (hb : Below w.heap.size w W) => goes_c now a ta rn cap tcap ts n W htm (ht.below hb))
  have HNO := hid (fun k (hk : k < (tkn zs).length) (h : gob ts ((tkn zs).getD k 0) = false) => sok_no (ts := ts) hk h)
  have HAL := hid (@sok_all ts zs)
  have HCS := hid (compact_srt (tkn zs))
  have hTl : (tkn zs).length ≤ 1048576 := Nat.le_trans (tkn_len zs) hzm
  clear hs ht
  generalize sok ts zs = sk at *
  generalize tkn zs = T at *
  generalize zs.length = sn at *
  obtain ⟨tn, hn⟩ : ∃ tn, tn = ts.length := ⟨_, rfl⟩
  rw [← hn] at htm HG ⊢
  clear hn
  have hB : Below w.heap.size w (w.alloc (.cells #[.int .i64 now, .slice a rn cap, .slice ta tn tcap, .slice sa sn scap] 47)) := balloc (Below.refl _ _) _
  have g0 := new_alloc w w.heap.size (.cells #[.int .i64 now, .slice a rn cap, .slice ta tn tcap, .slice sa sn scap] 47) rfl
  go_enter Tryz.func35, Tryz.ntmps35
  go_upto_region 1 with fail
  generalize w.alloc (.cells #[.int .i64 now, .slice a rn cap, .slice ta tn tcap, .slice sa sn scap] 47) = W at *
  obtain ⟨⟨d0, d1, d2, d3⟩, _⟩ := cellk4 g0
  go_wp2_with fail
  refine (HK.out _ hB).mono ?_
  rintro e y ⟨v, rfl, hv, hy⟩
  obtain ⟨g, c, rfl, hgl, hgc, hown⟩ := hv
  have HO := hid hown
  have hgB : W.heap.size ≤ g := (hown.lt g rfl).1
  have hWw := hB.size
  replace g0 := keepheapO hy g0
  replace hB := btrans hB hy
  clear hy hown d0 d1 d2 d3 HK
  have HI := hid (own_I HO.out rfl).2.2
  go_wp2_with fail
  go_loopw [11] (fun ti wr => ∃ i : Nat, ti = .int .i64 i ∧ i ≤ T.length ∧ Hid (∀ k, k < i → gob ts (T.getD k 0) = true) ∧ Hid (Below y.heap.size y wr)) (fun ti _ => T.length - (intOf ti).toNat)
  case atStart => exact ⟨0, rfl, Nat.zero_le _, hid (fun k hk => absurd hk (by omega)), hid (Below.refl _ _)⟩
  case round =>
    obtain ⟨i, rfl, hi, HA, HY⟩ := hrel
    by_cases hlt : i < T.length
    · have c1 : (i : Int) < (T.length : Int) := by omega
      obtain ⟨b, e, k0, _⟩ := (HI.out.below HY.out).at (k := i) hlt
      cases e
      have HX : Hid (gob ts (T.getD i 0) = true → ∀ k, k < i + 1 → gob ts (T.getD k 0) = true) := hid (fun q k hk => by
        by_cases e : k = i
        · subst e; exact q
        · exact HA.out k (by omega))
      have HZ := hid (fun q => HNO.out i hlt q)
      have HGi := hid (HG.out (T.getD i 0))
      generalize T.getD i 0 = x at *
      generalize gob ts x = gb at *
      have g1 := keepheapO HY.out g0
      have hB1 := btrans hB HY.out
      obtain ⟨⟨d0, d1, d2, d3⟩, _⟩ := cellk4 g1
      go_wp2_with fail
      refine (HGi.out _ hB1).mono ?_
      rintro e z ⟨rfl, hz⟩
      have HYz := hid (btrans HY.out hz)
      have hBz := btrans hB1 hz
      clear hz
      cases gb
      · have hq := HZ.out rfl
        subst hq
        go_wp2_with fail
        go_ret
        exact ⟨rfl, hBz⟩
      · have HXX := hid (HX.out rfl)
        go_wp2_with fail
        go_roundw
        case rel => exact ⟨i + 1, by go_num, by omega, HXX, HYz⟩
        case measure => simp [intOf]; omega
    · have c1 : (T.length : Int) ≤ (i : Int) := by omega
      have hin : i = T.length := by omega
      have hsk := HAL.out (fun k hk => HA.out k (by omega))
      have hB1 := btrans hB HY.out
      have hgl1 : g < wr.heap.size := by have := HY.out.size; omega
      have HS := hid (sort_ids W.heap.size g c T wr (by omega) hgl1 (by obtain ⟨g', c', e', _, _, ho'⟩ := (irow_of HO.out rfl).below HY.out; cases e'; exact ho'))
      clear HNO HAL HA HI HG hin
      go_wp2_with fail
      refine HS.out.mono ?_
      rintro e z ⟨rfl, hoz, hgz⟩
      have hB2 := bgrown hB1 hgz (by omega)
      have hsl : (srt T).length = T.length := srt_len T
      have HC := hid (compact_c g c (srt T) z (by omega) (by omega) hoz)
      rw [hsl] at HC
      clear HS hoz hgz hsl
      generalize (Go.Lib.compact (srt T)).length = cl at *
      clear HO
      generalize T.length = m at *
      clear c1 hi hlt
      go_wp2_with fail
      refine HC.out.mono ?_
      rintro e x ⟨rfl, hgx⟩
      have hB3 := bgrown hB2 hgx (by omega)
      clear hgx HC
      by_cases hd : T.Nodup
      · have hcl := HCS.out.2 hd
        have hsk2 : sk = true := by rw [hsk]; simp [hd]
        clear hsk
        subst hcl hsk2
        go_wp2_with fail
        go_ret
        exact ⟨by first | rfl | simp, hB3⟩
      · have hcl : ¬ ((cl : Int) = (m : Int)) := fun q => hd (HCS.out.1 (by omega))
        have hsk2 : sk = false := by rw [hsk]; simp [hd]
        clear hsk
        subst hsk2
        go_wp2_with fail
        go_ret
        exact ⟨by first | rfl | simp [hcl], hB3⟩
set_option maxRecDepth 100000 in
set_option maxHeartbeats 4000000 in
theorem impl_DbOk {N1 N2 : Nat → Prop} (now : Int) (a ta sa : Option Addr) (cap tcap scap : Nat) (rs : List Rw) (ts : List Tx) (zs : List Int) (w : World) (hm : rs.length ≤ 1099511627776) (htm : ts.length ≤ 1099511627776) (hzm : zs.length ≤ 1048576) (hr : Rws N1 w a rs) (ht : Txs N2 1099511627776 w ta ts) (hs : InI w sa zs) : Calls Tryz.prog 15 #[.agg #[.int .i64 now, .slice a rs.length cap, .slice ta ts.length tcap, .slice sa zs.length scap]] w fun e w' => e = .returned (.bool (dbb now rs ts zs)) ∧ Below w.heap.size w w' := by
  have HS := hid (fun (W : World) (hb : Below w.heap.size w W) => sess_c now a ta sa rs.length cap tcap scap ts zs W htm hzm (ht.below hb) (hs.below hb))
  have HO := hid (fun (W : World) (hb : Below w.heap.size w W) => impl_StoreOk now a ta cap tcap rs ts W hm htm (hr.below hb) (ht.below hb))
  have HD := hid (show dbb now rs ts zs = (decide (zs.length ≤ 20) && (sok ts zs && storeb now rs ts)) from rfl)
  clear hr ht hs
  generalize dbb now rs ts zs = db at *
  generalize sok ts zs = sk at *
  generalize storeb now rs ts = ob at *
  generalize zs.length = sn at *
  generalize ts.length = tn at *
  generalize rs.length = rn at *
  have hB : Below w.heap.size w (w.alloc (.cells #[.int .i64 now, .slice a rn cap, .slice ta tn tcap, .slice sa sn scap] 47)) := balloc (Below.refl _ _) _
  have g0 := new_alloc w w.heap.size (.cells #[.int .i64 now, .slice a rn cap, .slice ta tn tcap, .slice sa sn scap] 47) rfl
  go_enter Tryz.func15, Tryz.ntmps15
  go_upto_region 1 with fail
  generalize w.alloc (.cells #[.int .i64 now, .slice a rn cap, .slice ta tn tcap, .slice sa sn scap] 47) = W at *
  obtain ⟨⟨d0, d1, d2, d3⟩, _⟩ := cellk4 g0
  by_cases h20 : sn ≤ 20
  · have c1 : (sn : Int) ≤ 20 := by omega
    go_wp2_with fail
    refine (HS.out _ hB).mono ?_
    rintro e z ⟨rfl, hz⟩
    replace g0 := keepheapO hz g0
    replace hB := btrans hB hz
    clear hz d0 d1 d2 d3
    obtain ⟨⟨d0, d1, d2, d3⟩, _⟩ := cellk4 g0
    cases sk
    · have hq : db = false := by rw [HD.out]; simp
      subst hq
      go_wp2_with fail
      go_ret
      exact ⟨rfl, hB⟩
    · have hq : db = ob := by rw [HD.out]; simp [h20]
      subst hq
      go_wp2_with fail
      refine (HO.out _ hB).mono ?_
      rintro e y ⟨rfl, hy⟩
      replace hB := btrans hB hy
      clear hy
      go_wp2_with fail
      go_ret
      exact ⟨rfl, hB⟩
  · have c1 : ¬ ((sn : Int) ≤ 20) := by omega
    have hq : db = false := by rw [HD.out]; simp [h20]
    subst hq
    go_wp2_with fail
    go_ret
    exact ⟨rfl, hB⟩
end Go.Proofs.YtiocelhnmfadnaaGreat
namespace Go.Proofs.YtiocelhnmfadnaaGreat
open Go.RowKit
set_option linter.unusedSimpArgs false
set_option linter.unusedVariables false
theorem getD_at {zs : List Int} {i : Nat} (h : i < zs.length) : zs.getD i 0 = zs[i] := by simp [List.getD_eq_getElem?_getD, List.getElem?_eq_getElem h]
theorem tkn_mem {zs : List Int} {i : Nat} (h : i < zs.length) (hn : zs.getD i 0 ≠ -1) : zs.getD i 0 ∈ tkn zs := by
  rw [getD_at h] at hn ⊢
  unfold tkn
  rw [List.mem_filter]
  exact ⟨List.getElem_mem h, by simp [hn]⟩
theorem db_no1 {now : Int} {rs : List Rw} {ts : List Tx} {zs : List Int} {i : Nat} (h : i < zs.length) (hn : zs.getD i 0 ≠ -1) (ho : opn now rs ts (zs.getD i 0) = false) : dbb now rs ts zs = false := by
  rw [gob_opn] at ho
  unfold dbb
  cases hs : storeb now rs ts with
  | false => simp
  | true =>
    rw [hs] at ho
    simp at ho
    have : sok ts zs = false := by
      unfold sok
      have : (tkn zs).all (gob ts) = false := by
        rw [List.all_eq_false]
        exact ⟨_, tkn_mem h hn, by simpa using ho⟩
      rw [this]; rfl
    rw [this]; simp
theorem db_no2 {now : Int} {rs : List Rw} {ts : List Tx} {zs : List Int} {i k : Nat} (h : i < zs.length) (hk : k < i) (hn : zs.getD i 0 ≠ -1) (he : zs.getD k 0 = zs.getD i 0) : dbb now rs ts zs = false := by
  have hnd : ¬ (tkn zs).Nodup := by
    intro hd
    have e : tkn zs = tkn (zs.take i) ++ tkn (zs.drop i) := by unfold tkn; rw [← List.filter_append, List.take_append_drop]
    rw [e, List.nodup_append] at hd
    have h1 : zs.getD i 0 ∈ tkn (zs.take i) := by
      have q : k < (zs.take i).length := by simp; omega
      have := tkn_mem (zs := zs.take i) (i := k) q
      have g : (zs.take i).getD k 0 = zs.getD k 0 := by rw [getD_at q, getD_at (by omega), List.getElem_take]
      rw [g, he] at this
      exact this hn
    have h2 : zs.getD i 0 ∈ tkn (zs.drop i) := by
      have q : 0 < (zs.drop i).length := by simp; omega
      have := tkn_mem (zs := zs.drop i) (i := 0) q
      have g : (zs.drop i).getD 0 0 = zs.getD i 0 := by rw [getD_at q, getD_at h]; simp
      rw [g] at this
      exact this hn
    exact hd.2.2 _ h1 _ h2 rfl
  unfold dbb sok
  simp [hnd]
theorem db_yes {now : Int} {rs : List Rw} {ts : List Tx} {zs : List Int} (h1 : ∀ i, i < zs.length → zs.getD i 0 ≠ -1 → opn now rs ts (zs.getD i 0) = true) (h2 : ∀ i k, i < zs.length → k < i → zs.getD i 0 ≠ -1 → zs.getD k 0 ≠ zs.getD i 0) : dbb now rs ts zs = (storeb now rs ts && decide (zs.length ≤ 20)) := by
  cases hs : storeb now rs ts with
  | false => unfold dbb; rw [hs]; simp
  | true =>
    have ha : (tkn zs).all (gob ts) = true := by
      rw [List.all_eq_true]
      intro x hx
      unfold tkn at hx
      rw [List.mem_filter] at hx
      obtain ⟨hx1, hx2⟩ := hx
      obtain ⟨i, hi, rfl⟩ := List.getElem_of_mem hx1
      have := h1 i hi (by rw [getD_at hi]; simpa using hx2)
      rw [gob_opn, hs, getD_at hi] at this
      simpa using this
    have hd : (tkn zs).Nodup := by
      have hp : zs.Pairwise (fun a b => b ≠ -1 → a ≠ b) := by
        rw [List.pairwise_iff_getElem]
        intro k i hk hi hki hn
        have := h2 i k hi hki (by rw [getD_at hi]; exact hn)
        rw [getD_at hi, getD_at hk] at this
        exact this
      have hq := hp.filter (fun n => decide (n ≠ -1))
      have : (zs.filter (fun n => decide (n ≠ -1))).Pairwise (· ≠ ·) := by
        rw [List.pairwise_iff_getElem] at hq ⊢
        intro k i hk hi hki
        refine hq k i hk hi hki ?_
        have := (List.mem_filter.1 (List.getElem_mem hi)).2
        simpa using this
      exact this
    unfold dbb sok
    rw [hs, ha]
    simp [hd]
/-- What the loops have found right up to the i-th session. -/
def okI (now : Int) (rs : List Rw) (ts : List Tx) (zs : List Int) (i : Nat) : Prop := (∀ j, j < i → zs.getD j 0 ≠ -1 → opn now rs ts (zs.getD j 0) = true) ∧ (∀ j k, j < i → k < j → zs.getD j 0 ≠ -1 → zs.getD k 0 ≠ zs.getD j 0)
theorem okI.zero (now : Int) (rs : List Rw) (ts : List Tx) (zs : List Int) : okI now rs ts zs 0 := ⟨fun j hj => absurd hj (by omega), fun j k hj => absurd hj (by omega)⟩
theorem okI.next {now : Int} {rs : List Rw} {ts : List Tx} {zs : List Int} {i : Nat} (h : okI now rs ts zs i) (h1 : zs.getD i 0 ≠ -1 → opn now rs ts (zs.getD i 0) = true) (h2 : ∀ k, k < i → zs.getD i 0 ≠ -1 → zs.getD k 0 ≠ zs.getD i 0) : okI now rs ts zs (i + 1) := by
  refine ⟨fun j hj => ?_, fun j k hj hk => ?_⟩
  · by_cases e : j = i
    · subst e; exact h1
    · exact h.1 j (by omega)
  · by_cases e : j = i
    · subst e; exact h2 k hk
    · exact h.2 j k (by omega) hk
set_option maxRecDepth 100000 in
set_option maxHeartbeats 4000000 in
theorem spec_DbOk {N1 N2 : Nat → Prop} (now : Int) (a ta sa : Option Addr) (cap tcap scap : Nat) (rs : List Rw) (ts : List Tx) (zs : List Int) (w : World) (hm : rs.length ≤ 1099511627776) (htm : ts.length ≤ 1099511627776) (hzm : zs.length ≤ 1048576) (hr : Rws N1 w a rs) (ht : Txs N2 1099511627776 w ta ts) (hs : InI w sa zs) : Calls Tryz.prog 13 #[.agg #[.int .i64 now, .slice a rs.length cap, .slice ta ts.length tcap, .slice sa zs.length scap]] w fun e w' => e = .returned (.bool (dbb now rs ts zs)) ∧ Below w.heap.size w w' := by
  have HO := hid (fun (n : Int) (W : World) (hb : Below w.heap.size w W) => spec_open now a ta cap tcap rs ts n W hm htm (hr.below hb) (ht.below hb))
  have HS := hid (fun (W : World) (hb : Below w.heap.size w W) => spec_StoreOk now a ta cap tcap rs ts W hm htm (hr.below hb) (ht.below hb))
  have HZ := hid hs
  have HN1 := hid (fun i (h : i < zs.length) hn ho => @db_no1 now rs ts zs i h hn ho)
  have HN2 := hid (fun i k (h : i < zs.length) hk hn he => @db_no2 now rs ts zs i k h hk hn he)
  have HYE : Hid (okI now rs ts zs zs.length → dbb now rs ts zs = (storeb now rs ts && decide (zs.length ≤ 20))) := hid (fun h => db_yes h.1 (fun i k hi hk => h.2 i k hi hk))
  clear hr ht hs
  generalize dbb now rs ts zs = db at *
  generalize storeb now rs ts = ob at *
  obtain ⟨sn, hsn⟩ : ∃ sn, sn = zs.length := ⟨_, rfl⟩
  have HN := hid hsn.symm
  rw [← hsn] at HN1 HN2 HYE hzm ⊢
  clear hsn
  generalize ts.length = tn at *
  generalize rs.length = rn at *
  have hB : Below w.heap.size w (w.alloc (.cells #[.int .i64 now, .slice a rn cap, .slice ta tn tcap, .slice sa sn scap] 47)) := balloc (Below.refl _ _) _
  have g0 := new_alloc w w.heap.size (.cells #[.int .i64 now, .slice a rn cap, .slice ta tn tcap, .slice sa sn scap] 47) rfl
  go_enter Tryz.func13, Tryz.ntmps13
  go_upto_region 1 with fail
  generalize w.alloc (.cells #[.int .i64 now, .slice a rn cap, .slice ta tn tcap, .slice sa sn scap] 47) = W at *
  go_wp2_with fail
  go_loopw [3] (fun ti wr => ∃ i : Nat, ti = .int .i64 i ∧ i ≤ sn ∧ Hid (okI now rs ts zs i) ∧ Hid (Below W.heap.size W wr)) (fun ti _ => sn - (intOf ti).toNat)
  case atStart => exact ⟨0, rfl, Nat.zero_le _, hid (okI.zero _ _ _ _), hid (Below.refl _ _)⟩
  case round =>
    obtain ⟨i, rfl, hi, HK, HY⟩ := hrel
    have g1 := keepheapO HY.out g0
    have hB1 := btrans hB HY.out
    obtain ⟨⟨d0, d1, d2, d3⟩, _⟩ := cellk4 g1
    by_cases hlt : i < sn
    · have c1 : (i : Int) < (sn : Int) := by omega
      have HC := hid (HZ.out.below hB1)
      obtain ⟨b, o, rfl, hbs, k0⟩ := HC.out.at (k := i) (by rw [HN.out]; exact hlt)
      have HX1 := hid (HN1.out i hlt)
      have HX2 := hid (fun k => HN2.out i k hlt)
      have HNX := hid (fun h1 h2 => HK.out.next h1 h2)
      have HOi := hid (HO.out (zs.getD i 0))
      generalize zs.getD i 0 = x at *
      generalize opn now rs ts x = op at *
      clear HK HC
      by_cases hx : x = -1
      · have HNN := hid (HNX.out (fun q => absurd hx q) (fun k _ q => absurd hx q))
        clear HX1 HX2 HNX HOi
        subst hx
        go_wp2_with fail
        go_loopw [5] (fun tk wq => ∃ k : Nat, tk = .int .i64 k ∧ k ≤ i ∧ Hid (Below W.heap.size W wq)) (fun tk _ => i - (intOf tk).toNat)
        case atStart => exact ⟨0, rfl, Nat.zero_le _, HY⟩
        case round =>
          obtain ⟨k, rfl, hk, HY2⟩ := hrel
          by_cases hki : k < i
          · have c2 : (k : Int) < (i : Int) := by omega
            go_wp2_with fail
            go_roundw
            case rel => exact ⟨k + 1, by go_num, by omega, HY2⟩
            case measure => simp [intOf]; omega
          · have c2 : (i : Int) ≤ (k : Int) := by omega
            go_wp2_with fail
            go_roundw
            case rel => exact ⟨i + 1, by go_num, by omega, HNN, HY2⟩
            case measure => simp [intOf]; omega
      · go_wp2_with fail
        refine (HOi.out _ hB1).mono ?_
        rintro e z ⟨rfl, hz⟩
        replace g1 := keepheapO hz g1
        have hB2 := btrans hB1 hz
        have HYz := hid (btrans HY.out hz)
        clear hz d0 d1 d2 d3 HOi k0
        cases op
        · have hq := HX1.out hx rfl
          clear HX1 HX2 HNX
          subst hq
          go_wp2_with fail
          go_ret
          exact ⟨rfl, hB2⟩
        · clear HX1
          go_wp2_with fail
          go_loopw [5] (fun tk wq => ∃ k : Nat, tk = .int .i64 k ∧ k ≤ i ∧ Hid (∀ j, j < k → zs.getD j 0 ≠ x) ∧ Hid (Below z.heap.size z wq)) (fun tk _ => i - (intOf tk).toNat)
          case atStart => exact ⟨0, rfl, Nat.zero_le _, hid (fun j hj => absurd hj (by omega)), hid (Below.refl _ _)⟩
          case round =>
            obtain ⟨k, rfl, hk, HA, HQ⟩ := hrel
            have g2 := keepheapO HQ.out g1
            have hB3 := btrans hB2 HQ.out
            have HYq := hid (btrans HYz.out HQ.out)
            by_cases hki : k < i
            · have c2 : (k : Int) < (i : Int) := by omega
              obtain ⟨b', o', e', _, k1⟩ := (HZ.out.below hB3).at (k := k) (by rw [HN.out]; omega)
              cases e'
              obtain ⟨⟨d0, d1, d2, d3⟩, _⟩ := cellk4 g2
              have HX3 := hid (HX2.out k hki hx)
              have HA2 : Hid (zs.getD k 0 ≠ x → ∀ j, j < k + 1 → zs.getD j 0 ≠ x) := hid (fun q j hj => by
                by_cases e : j = k
                · subst e; exact q
                · exact HA.out j (by omega))
              generalize zs.getD k 0 = y at *
              by_cases hyx : y = x
              · have hq := HX3.out hyx
                subst hq hyx
                clear HX3 HA2 HX2 HNX
                go_wp2_with fail
                go_ret
                exact ⟨rfl, hB3⟩
              · have HA3 := hid (HA2.out hyx)
                have hyb : (y == x) = false := by simpa using hyx
                go_wp2_with fail
                go_roundw
                case rel => exact ⟨k + 1, by go_num, by omega, HA3, HQ⟩
                case measure => simp [intOf]; omega
            · have c2 : (i : Int) ≤ (k : Int) := by omega
              have HNN := hid (HNX.out (fun _ => by first | rfl | trivial) (fun j hj _ => HA.out j (by omega)))
              go_wp2_with fail
              go_roundw
              case rel => exact ⟨i + 1, by go_num, by omega, HNN, HYq⟩
              case measure => simp [intOf]; omega
    · have c1 : (sn : Int) ≤ (i : Int) := by omega
      have hin : i = sn := by omega
      subst hin
      have hdb := HYE.out HK.out
      clear HN1 HN2 HYE HK HO
      go_wp2_with fail
      refine (HS.out _ hB1).mono ?_
      rintro e z ⟨rfl, hz⟩
      replace g1 := keepheapO hz g1
      replace hB1 := btrans hB1 hz
      clear hz d0 d1 d2 d3
      obtain ⟨⟨d0, d1, d2, d3⟩, _⟩ := cellk4 g1
      cases ob
      · have hq : db = false := by rw [hdb]; rfl
        clear hdb
        subst hq
        go_wp2_with fail
        go_ret
        exact ⟨rfl, hB1⟩
      · by_cases h20 : i ≤ 20
        · have c2 : (i : Int) ≤ 20 := by omega
          have hq : db = true := by rw [hdb]; simp [h20]
          clear hdb
          subst hq
          go_wp2_with fail
          go_ret
          exact ⟨by first | rfl | simp [c2], hB1⟩
        · have c2 : ¬ ((i : Int) ≤ 20) := by omega
          have hq : db = false := by rw [hdb]; simp [h20]
          clear hdb
          subst hq
          go_wp2_with fail
          go_ret
          exact ⟨by first | rfl | simp [c2], hB1⟩
end Go.Proofs.YtiocelhnmfadnaaGreat
namespace Go.Proofs.YtiocelhnmfadnaaGreat
open Go.RowKit
set_option linter.unusedSimpArgs false
set_option linter.unusedVariables false
def ChO (hi : Nat) (w : World) (B o : Nat) (x : Ch) : Prop := ∃ c, w.cell? ⟨B, o + 3, none⟩ = some (.slice (some ⟨c, 0, none⟩) x.2.2.2.length x.2.2.2.length) ∧ B < c ∧ c < hi ∧ w.there c 0 (x.2.2.2.length * 2)
def ChsO (hi : Nat) (w : World) (B : Nat) (xs : List Ch) : Prop := w.there B 0 (xs.length * 4) ∧ ∀ j (h : j < xs.length), ChO hi w B (j * 4) xs[j]
def TxO (hi : Nat) (w : World) (B o : Nat) (x : Tx) (c : Nat) : Prop := w.cell? ⟨B, o + 2, none⟩ = some (.slice (some ⟨c, 0, none⟩) x.2.2.length x.2.2.length) ∧ B < c ∧ c < hi ∧ ChsO hi w c x.2.2
/-- Transactions whose lists may be written into: those of each lie from its block on, below its bound, one behind the other. -/
def TxsO (hi : Nat) (w : World) (B : Nat) (xs : List Tx) : Prop := w.there B 0 (xs.length * 3) ∧ ∃ c h : Nat → Nat, (∀ j (hj : j < xs.length), TxO (h j) w B (j * 3) xs[j] (c j) ∧ h j ≤ hi) ∧ ∀ i j, i < j → j < xs.length → h i ≤ c j
theorem ChO.below {hi : Nat} {w w' : World} {B o : Nat} {x : Ch} (h : ChO hi w B o x) (hh : hi ≤ w.heap.size) (H : Below w.heap.size w w') : ChO hi w' B o x := by
  obtain ⟨c, h0, h1, h2, h3⟩ := h
  exact ⟨c, keepcell H h0, h1, h2, there_below h3 (by omega) H⟩
theorem ChO.mono {hi hi' : Nat} {w : World} {B o : Nat} {x : Ch} (h : ChO hi w B o x) (hh : hi ≤ hi') : ChO hi' w B o x := by
  obtain ⟨c, h0, h1, h2, h3⟩ := h
  exact ⟨c, h0, h1, by omega, h3⟩
theorem ChO.set {hi : Nat} {w : World} {B o q k : Nat} {x : Ch} (h : ChO hi w B o x) (hq : q ≠ B ∨ k ≠ o + 3) (u : Value) : ChO hi (w.setCell ⟨q, k, none⟩ u) B o x := by
  obtain ⟨c, h0, h1, h2, h3⟩ := h
  refine ⟨c, ?_, h1, h2, there_set h3 _⟩
  rw [World.cell?_setCell_other _ _ _ _ (by intro e; injection e; omega)]
  exact h0
theorem ChsO.below {hi : Nat} {w w' : World} {B : Nat} {xs : List Ch} (h : ChsO hi w B xs) (hb : B < w.heap.size) (hh : hi ≤ w.heap.size) (H : Below w.heap.size w w') : ChsO hi w' B xs := ⟨there_below h.1 hb H, fun j hj => (h.2 j hj).below hh H⟩
theorem ChsO.mono {hi hi' : Nat} {w : World} {B : Nat} {xs : List Ch} (h : ChsO hi w B xs) (hh : hi ≤ hi') : ChsO hi' w B xs := ⟨h.1, fun j hj => (h.2 j hj).mono hh⟩
theorem ChsO.set {hi : Nat} {w : World} {B q k : Nat} {xs : List Ch} (h : ChsO hi w B xs) (hq : q ≠ B) (u : Value) : ChsO hi (w.setCell ⟨q, k, none⟩ u) B xs := ⟨there_set h.1 _, fun j hj => (h.2 j hj).set (.inl hq) u⟩
theorem TxO.below {hi : Nat} {w w' : World} {B o c : Nat} {x : Tx} (h : TxO hi w B o x c) (hh : hi ≤ w.heap.size) (H : Below w.heap.size w w') : TxO hi w' B o x c := by
  obtain ⟨h0, h1, h2, h3⟩ := h
  exact ⟨keepcell H h0, h1, h2, h3.below (by omega) hh H⟩
theorem TxO.set {hi : Nat} {w : World} {B o q k c : Nat} {x : Tx} (h : TxO hi w B o x c) (hq : q < B ∨ (q = B ∧ k ≠ o + 2)) (u : Value) : TxO hi (w.setCell ⟨q, k, none⟩ u) B o x c := by
  obtain ⟨h0, h1, h2, h3⟩ := h
  refine ⟨?_, h1, h2, h3.set (by omega) _⟩
  rw [World.cell?_setCell_other _ _ _ _ (by intro e; injection e; omega)]
  exact h0
theorem TxsO.below {hi : Nat} {w w' : World} {B : Nat} {xs : List Tx} (h : TxsO hi w B xs) (hb : B < w.heap.size) (hh : hi ≤ w.heap.size) (H : Below w.heap.size w w') : TxsO hi w' B xs := by
  obtain ⟨h1, c, f, h2, h3⟩ := h
  exact ⟨there_below h1 hb H, c, f, fun j hj => ⟨(h2 j hj).1.below (by have := (h2 j hj).2; omega) H, (h2 j hj).2⟩, h3⟩
theorem TxsO.set {hi : Nat} {w : World} {B q k : Nat} {xs : List Tx} (h : TxsO hi w B xs) (hq : q < B) (u : Value) : TxsO hi (w.setCell ⟨q, k, none⟩ u) B xs := by
  obtain ⟨h1, c, f, h2, h3⟩ := h
  exact ⟨there_set h1 _, c, f, fun j hj => ⟨(h2 j hj).1.set (.inl hq) u, (h2 j hj).2⟩, h3⟩
theorem TxsO.mono {hi hi' : Nat} {w : World} {B : Nat} {xs : List Tx} (h : TxsO hi w B xs) (hh : hi ≤ hi') : TxsO hi' w B xs := by
  obtain ⟨h1, c, f, h2, h3⟩ := h
  exact ⟨h1, c, f, fun j hj => ⟨(h2 j hj).1, by have := (h2 j hj).2; omega⟩, h3⟩
end Go.Proofs.YtiocelhnmfadnaaGreat
namespace Go.Proofs.YtiocelhnmfadnaaGreat
open Go.RowKit
set_option linter.unusedSimpArgs false
set_option linter.unusedVariables false
theorem putO_ch {hi : Nat} {w : World} {B k n b : Nat} {x : Ch} (ht : w.there B 0 (n * 4)) (hk : k < n) (hb : B < b) (hbh : b < hi) (ho : w.there b 0 (x.2.2.2.length * 2)) (u0 u1 u2 : Value) :
    ChO hi ((((w.setCell ⟨B, k * 4, none⟩ u0).setCell ⟨B, k * 4 + 1, none⟩ u1).setCell ⟨B, k * 4 + 2, none⟩ u2).setCell ⟨B, k * 4 + 3, none⟩ (.slice (some ⟨b, 0, none⟩) x.2.2.2.length x.2.2.2.length)) B (k * 4) x := by
  obtain ⟨v, hv, _⟩ := there_at (there_set (there_set (there_set ht u0 (p := B) (k := k * 4)) u1 (p := B) (k := k * 4 + 1)) u2 (p := B) (k := k * 4 + 2)) (show k * 4 + 3 < n * 4 by omega)
  exact ⟨b, World.cell?_setCell_same _ _ _ hv, hb, hbh, there_set (there_set (there_set (there_set ho _) _) _) _⟩
theorem putO_tx {hi : Nat} {w : World} {B k n b : Nat} {x : Tx} (ht : w.there B 0 (n * 3)) (hk : k < n) (hb : B < b) (hbh : b < hi) (ho : ChsO hi w b x.2.2) (u0 u1 : Value) :
    TxO hi (((w.setCell ⟨B, k * 3, none⟩ u0).setCell ⟨B, k * 3 + 1, none⟩ u1).setCell ⟨B, k * 3 + 2, none⟩ (.slice (some ⟨b, 0, none⟩) x.2.2.length x.2.2.length)) B (k * 3) x b := by
  obtain ⟨v, hv, _⟩ := there_at (there_set (there_set ht u0 (p := B) (k := k * 3)) u1 (p := B) (k := k * 3 + 1)) (show k * 3 + 2 < n * 3 by omega)
  exact ⟨World.cell?_setCell_same _ _ _ hv, hb, hbh, ((ho.set (by omega) _).set (by omega) _).set (by omega) _⟩
set_option maxHeartbeats 2000000 in
theorem to_chsO {N : Nat → Prop} (a : Option Addr) (cap : Nat) (xs : List Ch) (w : World) (hm : xs.length ≤ 1099511627776) (h : Chs N 1099511627776 w a xs) : Calls Tryz.prog 72 #[.slice a xs.length cap] w fun e w' => ∃ B, e = .returned (.slice (some ⟨B, 0, none⟩) xs.length xs.length) ∧ w.heap.size ≤ B ∧ (B < w'.heap.size ∧ ChsAt (fun c => B < c) 1099511627776 w' B 0 xs) ∧ ChsO w'.heap.size w' B xs ∧ Below w.heap.size w w' := by
  have HR := hid h
  clear h
  have hmk := make_chs xs.length hm
  obtain ⟨n, hn⟩ : ∃ n, n = xs.length := ⟨_, rfl⟩
  have HN := hid hn.symm
  rw [← hn] at hmk hm ⊢
  clear hn
  go_enter Tryz.func72, Tryz.ntmps72
  go_wp2_with fail
  have hB : Below w.heap.size w (w.alloc (.cells (madeCells #[.int .i64 0, .bool false, .int .i64 0, .slice none 0 0] (n * 4)) 111)) := balloc (Below.refl _ _) _
  have hT := made_ownch w n
  have hl : w.heap.size < (w.alloc (.cells (madeCells #[.int .i64 0, .bool false, .int .i64 0, .slice none 0 0] (n * 4)) 111)).heap.size := by simp
  generalize w.alloc (.cells (madeCells #[.int .i64 0, .bool false, .int .i64 0, .slice none 0 0] (n * 4)) 111) = W at *
  clear hmk
  go_loopw [4] (fun ti wr => ∃ j : Nat, ti = .int .i64 j ∧ j ≤ n ∧ Hid (w.heap.size < wr.heap.size) ∧ Hid (∀ i (hi : i < xs.length), i < j → ChAt (fun c => w.heap.size < c) 1099511627776 wr w.heap.size (i * 4) xs[i]) ∧ Hid (wr.there w.heap.size 0 (n * 4)) ∧ Hid (∀ i (hi : i < xs.length), i < j → ChO wr.heap.size wr w.heap.size (i * 4) xs[i]) ∧ Hid (Below w.heap.size w wr)) (fun ti _ => n - (intOf ti).toNat)
  case atStart => exact ⟨0, rfl, Nat.zero_le _, hid hl, hid (fun i hi h => absurd h (by omega)), hid hT, hid (fun i hi h => absurd h (by omega)), hid hB⟩
  case round =>
    clear hB hT hl
    obtain ⟨j, rfl, hj, HL, HP, HT, HOW, HBW⟩ := hrel
    by_cases hlt : j < n
    · have c1 : (j : Int) < (n : Int) := by omega
      have hjr : j < xs.length := by rw [HN.out]; exact hlt
      obtain ⟨b, o, rfl, hbs, hr⟩ := (HR.out.below HBW.out).at j hjr
      obtain ⟨a', cap', k0, k1, k2, q1, q2, q3, q4, q5⟩ := hr
      have TR := hid (to_ch (N := N) xs[j] a' cap' wr q3 q2 q4)
      have HPR := hid (fun (W : World) (bb : Nat) => put_ch (w := W) (B := w.heap.size) (k := j) (n := n) (b := bb) (xs := xs) hjr HN.out)
      have HK6 := hid q3
      have HLN : Hid (∀ (X : World) (hX : ∀ i (hi : i < xs.length), i < j → ChO X.heap.size X w.heap.size (i * 4) xs[i]) (hY : ChO X.heap.size X w.heap.size (j * 4) xs[j]), ∀ i (hi : i < xs.length), i < j + 1 → ChO X.heap.size X w.heap.size (i * 4) xs[i]) := hid (fun X hX hY i hi h => by
        by_cases e : i = j
        · subst e; exact hY
        · exact hX i hi (by omega))
      have HPO := hid (fun (W : World) (bb : Nat) (hbb : w.heap.size < bb) (hbh : bb < W.heap.size) (hT : W.there w.heap.size 0 (n * 4)) (ho : W.there bb 0 (xs[j].2.2.2.length * 2)) => putO_ch (hi := W.heap.size) (x := xs[j]) hT hlt hbb hbh ho)
      unfold chv at TR
      clear q2 q3 q4 q5
      generalize xs[j].1 = id at *
      generalize xs[j].2.1 = go at *
      generalize xs[j].2.2.1 = kd at *
      generalize xs[j].2.2.2 = inn at *
      go_wp2_with fail
      refine TR.out.mono ?_
      rintro e w1 ⟨bb, rfl, hbb, ho, hb1⟩
      have hP := fun i (hi : i < xs.length) (h : i < j) => (HP.out i hi h).below hb1
      have hT := there_below HT.out HL.out hb1
      have hB := btrans HBW.out hb1
      have hL : w.heap.size < w1.heap.size := Nat.lt_of_lt_of_le HL.out hb1.size
      have hbl : w.heap.size < bb := Nat.lt_of_lt_of_le HL.out hbb
      have HPUT := hid (HPR.out w1 bb hP hT hbl HK6.out ho)
      have HOLD := hid (fun i (hi : i < xs.length) (h : i < j) => ((HOW.out i hi h).below (Nat.le_refl _) hb1).mono hb1.size)
      have HNEW := hid (HPO.out w1 bb hbl ho.1 hT ho.2.2)
      have q := fun i (hi : i < n * 4) => hT i hi
      obtain ⟨v0, s0, r0⟩ := there_at hT (show j * 4 < n * 4 by omega)
      obtain ⟨v1, s1, r1⟩ := there_at hT (show j * 4 + 1 < n * 4 by omega)
      obtain ⟨v2, s2, r2⟩ := there_at hT (show j * 4 + 2 < n * 4 by omega)
      obtain ⟨v3, s3, r3⟩ := there_at hT (show j * 4 + 3 < n * 4 by omega)
      clear q hP HPR HPO hb1 ho TR
      have HL1 := hid hL
      have HB1 := hid hB
      clear hT
      go_wp2_with fail
      go_roundw
      case rel => exact ⟨j + 1, by go_num, by omega, hid (by simpa using hL), hid HPUT.out.1, hid HPUT.out.2, hid (HLN.out _ (fun i hi h => by simpa using (((((HOLD.out i hi h).set (.inr (by omega)) _).set (.inr (by omega)) _).set (.inr (by omega)) _).set (.inr (by omega)) _)) (by simpa using HNEW.out _ _ _)), hid ((bset (bset (bset (bset hB (by omega) _) (by omega) _) (by omega) _) (by omega) _))⟩
      case measure => simp [intOf]; omega
    · obtain rfl : n = j := by omega
      have c1 : (n : Int) ≤ (n : Int) := by omega
      go_wp2_with fail
      go_ret
      exact ⟨w.heap.size, rfl, Nat.le_refl _, ⟨HL.out, fun i hi => by have := HP.out i hi (by rw [HN.out] at hi; exact hi); simpa using this⟩, ⟨by rw [HN.out]; exact HT.out, fun i hi => HOW.out i hi (by rw [HN.out] at hi; exact hi)⟩, HBW.out⟩
set_option maxHeartbeats 2000000 in
theorem to_txO {N : Nat → Prop} (x : Tx) (a : Option Addr) (cap : Nat) (w : World) (hm : x.2.2.length ≤ 1099511627776) (hc : x.2.2.length ≤ cap) (h : Chs N 1099511627776 w a x.2.2) : Calls Tryz.prog 44 #[txv x a cap] w fun e w' => ∃ b, e = .returned (txv x (some ⟨b, 0, none⟩) x.2.2.length) ∧ w.heap.size ≤ b ∧ (b < w'.heap.size ∧ ChsAt (fun c => b < c) 1099511627776 w' b 0 x.2.2) ∧ ChsO w'.heap.size w' b x.2.2 ∧ Below w.heap.size w w' := by
  obtain ⟨st, op, cs⟩ := x
  unfold txv
  simp only at *
  have TS := hid (fun (W : World) (hb : Below w.heap.size w W) => to_chsO a cap cs W hm (h.below hb))
  clear h
  generalize hn : cs.length = n at *
  have HN := hid hn
  clear hn
  go_enter Tryz.func44, Tryz.ntmps44
  go_wp2_with fail
  have hB0 : Below w.heap.size w (((w.alloc (.cells #[.int .i64 st, .bool op, .slice a n cap] 75)).alloc (.cells #[.int .i64 0, .bool false, .slice none 0 0] 56)).alloc (.cells #[.int .i64 st, .bool op, .slice none 0 0] 56)) := balloc (balloc (balloc (Below.refl _ _) _) _) _
  have g2 := old_alloc (o' := .cells #[.int .i64 st, .bool op, .slice none 0 0] 56) (new_alloc (w.alloc (.cells #[.int .i64 st, .bool op, .slice a n cap] 75)) (w.heap.size + 1) (.cells #[.int .i64 0, .bool false, .slice none 0 0] 56) (by simp))
  have g3 := new_alloc ((w.alloc (.cells #[.int .i64 st, .bool op, .slice a n cap] 75)).alloc (.cells #[.int .i64 0, .bool false, .slice none 0 0] 56)) (w.heap.size + 1 + 1) (.cells #[.int .i64 st, .bool op, .slice none 0 0] 56) (by simp)
  generalize ((w.alloc (.cells #[.int .i64 st, .bool op, .slice a n cap] 75)).alloc (.cells #[.int .i64 0, .bool false, .slice none 0 0] 56)).alloc (.cells #[.int .i64 st, .bool op, .slice none 0 0] 56) = W at *
  have hlW := lt_of_block g3
  refine (TS.out _ hB0).mono ?_
  rintro e w1 ⟨b, rfl, hbb, ho, hoo, hb1⟩
  replace g2 := keepheap2 hb1 g2
  replace g3 := keepheap2 hb1 g3
  have hB := btrans hB0 hb1
  have HO := hid ho
  have HOO := hid hoo
  clear hb1 hB0 ho hoo
  obtain ⟨⟨x0, x1, x2⟩, xf0, xf1, xf2⟩ := cellk3 g2
  obtain ⟨⟨y0, y1, y2⟩, yf0, yf1, yf2⟩ := cellk3 g3
  go_wp2_with fail
  have gF := setk3 (set_far (q := w.heap.size + 1 + 1) (k := 2) (u := .slice (some ⟨b, 0, none⟩) n n) g2 (by omega)) (.int .i64 st) (.bool op) (.slice (some ⟨b, 0, none⟩) n n)
  have bF := (bset (bset (bset (bset hB (q := w.heap.size + 1 + 1) (k := 2) (by omega) (.slice (some ⟨b, 0, none⟩) n n)) (q := w.heap.size + 1) (k := 0) (by omega) (.int .i64 st)) (q := w.heap.size + 1) (k := 1) (by omega) (.bool op)) (q := w.heap.size + 1) (k := 2) (by omega) (.slice (some ⟨b, 0, none⟩) n n))
  have hfar : ∀ c, w.heap.size + 1 + 1 < c → ((((w1.setCell ⟨w.heap.size + 1 + 1, 2, none⟩ (.slice (some ⟨b, 0, none⟩) n n)).setCell ⟨w.heap.size + 1, 0, none⟩ (.int .i64 st)).setCell ⟨w.heap.size + 1, 1, none⟩ (.bool op)).setCell ⟨w.heap.size + 1, 2, none⟩ (.slice (some ⟨b, 0, none⟩) n n)).heap[c]? = w1.heap[c]? := fun c hc => by rw [Below.heap_setCell _ _ _ _ (by dsimp only; omega), Below.heap_setCell _ _ _ _ (by dsimp only; omega), Below.heap_setCell _ _ _ _ (by dsimp only; omega), Below.heap_setCell _ _ _ _ (by dsimp only; omega)]
  have hsz : w1.heap.size ≤ ((((w1.setCell ⟨w.heap.size + 1 + 1, 2, none⟩ (.slice (some ⟨b, 0, none⟩) n n)).setCell ⟨w.heap.size + 1, 0, none⟩ (.int .i64 st)).setCell ⟨w.heap.size + 1, 1, none⟩ (.bool op)).setCell ⟨w.heap.size + 1, 2, none⟩ (.slice (some ⟨b, 0, none⟩) n n)).heap.size := by simp
  have ooF : ChsO ((((w1.setCell ⟨w.heap.size + 1 + 1, 2, none⟩ (.slice (some ⟨b, 0, none⟩) n n)).setCell ⟨w.heap.size + 1, 0, none⟩ (.int .i64 st)).setCell ⟨w.heap.size + 1, 1, none⟩ (.bool op)).setCell ⟨w.heap.size + 1, 2, none⟩ (.slice (some ⟨b, 0, none⟩) n n)).heap.size ((((w1.setCell ⟨w.heap.size + 1 + 1, 2, none⟩ (.slice (some ⟨b, 0, none⟩) n n)).setCell ⟨w.heap.size + 1, 0, none⟩ (.int .i64 st)).setCell ⟨w.heap.size + 1, 1, none⟩ (.bool op)).setCell ⟨w.heap.size + 1, 2, none⟩ (.slice (some ⟨b, 0, none⟩) n n)) b cs := by simpa using ((((HOO.out.set (by omega) _).set (by omega) _).set (by omega) _).set (by omega) _)
  generalize ((((w1.setCell ⟨w.heap.size + 1 + 1, 2, none⟩ (.slice (some ⟨b, 0, none⟩) n n)).setCell ⟨w.heap.size + 1, 0, none⟩ (.int .i64 st)).setCell ⟨w.heap.size + 1, 1, none⟩ (.bool op)).setCell ⟨w.heap.size + 1, 2, none⟩ (.slice (some ⟨b, 0, none⟩) n n)) = wf at *
  have oF : b < wf.heap.size ∧ ChsAt (fun c => b < c) 1099511627776 wf b 0 cs := ⟨Nat.lt_of_lt_of_le HO.out.1 hsz, fun j hj => (HO.out.2 j hj).blk (fun i _ => by simp only [World.cell?, hfar b (by omega)]) (fun c hc => hfar c (by omega)) hsz⟩
  obtain ⟨⟨z0, z1, z2⟩, _⟩ := cellk3 gF
  exact bodyPost_ret (v := .agg #[.int .i64 st, .bool op, .slice (some ⟨b, 0, none⟩) n n]) (by simp [results, Tryz.results44, go_sem, z0, z1, z2]) rfl ⟨b, rfl, by omega, oF, ooF, bF⟩
set_option maxHeartbeats 2000000 in
theorem to_txsO {N : Nat → Prop} (a : Option Addr) (cap : Nat) (xs : List Tx) (w : World) (hm : xs.length ≤ 1099511627776) (h : Txs N 1099511627776 w a xs) : Calls Tryz.prog 22 #[.slice a xs.length cap] w fun e w' => ∃ B, e = .returned (.slice (some ⟨B, 0, none⟩) xs.length xs.length) ∧ w.heap.size ≤ B ∧ (B < w'.heap.size ∧ TxsAt (fun c => B < c) 1099511627776 w' B 0 xs) ∧ TxsO w'.heap.size w' B xs ∧ Below w.heap.size w w' := by
  have HR := hid h
  clear h
  have hmk := make_txs xs.length hm
  obtain ⟨n, hn⟩ : ∃ n, n = xs.length := ⟨_, rfl⟩
  have HN := hid hn.symm
  rw [← hn] at hmk hm ⊢
  clear hn
  go_enter Tryz.func22, Tryz.ntmps22
  go_wp2_with fail
  have hB : Below w.heap.size w (w.alloc (.cells (madeCells #[.int .i64 0, .bool false, .slice none 0 0] (n * 3)) 56)) := balloc (Below.refl _ _) _
  have hT := made_owntx w n
  have hl : w.heap.size < (w.alloc (.cells (madeCells #[.int .i64 0, .bool false, .slice none 0 0] (n * 3)) 56)).heap.size := by simp
  generalize w.alloc (.cells (madeCells #[.int .i64 0, .bool false, .slice none 0 0] (n * 3)) 56) = W at *
  clear hmk
  go_loopw [4] (fun ti wr => ∃ j : Nat, ti = .int .i64 j ∧ j ≤ n ∧ Hid (w.heap.size < wr.heap.size) ∧ Hid (∀ i (hi : i < xs.length), i < j → TxAt (fun c => w.heap.size < c) 1099511627776 wr w.heap.size (i * 3) xs[i]) ∧ Hid (wr.there w.heap.size 0 (n * 3)) ∧ Hid (∃ c h : Nat → Nat, (∀ i (hi : i < xs.length), i < j → TxO (h i) wr w.heap.size (i * 3) xs[i] (c i) ∧ h i ≤ wr.heap.size) ∧ ∀ i k, i < k → k < j → h i ≤ c k) ∧ Hid (Below w.heap.size w wr)) (fun ti _ => n - (intOf ti).toNat)
  case atStart => exact ⟨0, rfl, Nat.zero_le _, hid hl, hid (fun i hi h => absurd h (by omega)), hid hT, hid ⟨fun _ => 0, fun _ => 0, fun i hi h => absurd h (by omega), fun i k _ h => absurd h (by omega)⟩, hid hB⟩
  case round =>
    clear hB hT hl
    obtain ⟨j, rfl, hj, HL, HP, HT, HOW, HBW⟩ := hrel
    by_cases hlt : j < n
    · have c1 : (j : Int) < (n : Int) := by omega
      have hjr : j < xs.length := by rw [HN.out]; exact hlt
      obtain ⟨b, o, rfl, hbs, hr⟩ := (HR.out.below HBW.out).at j hjr
      obtain ⟨a', cap', k0, k1, q1, q2, q3, q4, q5⟩ := hr
      have TR := hid (to_txO (N := N) xs[j] a' cap' wr q3 q2 q4)
      have HPR := hid (fun (W : World) (bb : Nat) => put_tx (w := W) (B := w.heap.size) (k := j) (n := n) (b := bb) (xs := xs) hjr HN.out)
      have HK6 := hid q3
      have HLN : Hid (∀ (X : World) (bb : Nat) (c h : Nat → Nat), (∀ i (hi : i < xs.length), i < j → TxO (h i) X w.heap.size (i * 3) xs[i] (c i) ∧ h i ≤ X.heap.size) → (∀ i k, i < k → k < j → h i ≤ c k) → (∀ i, i < j → h i ≤ bb) → TxO X.heap.size X w.heap.size (j * 3) xs[j] bb → ∃ c h : Nat → Nat, (∀ i (hi : i < xs.length), i < j + 1 → TxO (h i) X w.heap.size (i * 3) xs[i] (c i) ∧ h i ≤ X.heap.size) ∧ ∀ i k, i < k → k < j + 1 → h i ≤ c k) := hid (fun X bb c h a1 a2 a3 a4 => by
        refine ⟨fun i => if i = j then bb else c i, fun i => if i = j then X.heap.size else h i, fun i hi hh => ?_, fun i k hik hk => ?_⟩
        · by_cases e : i = j
          · subst e; simp only [if_true]; exact ⟨a4, Nat.le_refl _⟩
          · simp only [if_neg e]; exact a1 i hi (by omega)
        · simp only [if_neg (show i ≠ j by omega)]
          by_cases e : k = j
          · simp only [if_pos e]; exact a3 i (by omega)
          · simp only [if_neg e]; exact a2 i k hik (by omega))
      have HPO := hid (fun (W : World) (bb : Nat) (hbb : w.heap.size < bb) (hbh : bb < W.heap.size) (hT : W.there w.heap.size 0 (n * 3)) (ho : ChsO W.heap.size W bb xs[j].2.2) => putO_tx (hi := W.heap.size) (x := xs[j]) hT hlt hbb hbh ho)
      unfold txv at TR
      clear q2 q3 q4 q5
      generalize xs[j].1 = st at *
      generalize xs[j].2.1 = op at *
      generalize xs[j].2.2 = inn at *
      go_wp2_with fail
      refine TR.out.mono ?_
      rintro e w1 ⟨bb, rfl, hbb, ho, hoo, hb1⟩
      have hP := fun i (hi : i < xs.length) (h : i < j) => (HP.out i hi h).below hb1
      have hT := there_below HT.out HL.out hb1
      have hB := btrans HBW.out hb1
      have hL : w.heap.size < w1.heap.size := Nat.lt_of_lt_of_le HL.out hb1.size
      have hbl : w.heap.size < bb := Nat.lt_of_lt_of_le HL.out hbb
      have HPUT := hid (HPR.out w1 bb hP hT hbl HK6.out ho)
      obtain ⟨cf, hf, hw1, hw2⟩ := HOW.out
      have HOLD := hid (fun i (hi : i < xs.length) (h : i < j) => (⟨(hw1 i hi h).1.below (hw1 i hi h).2 hb1, Nat.le_trans (hw1 i hi h).2 hb1.size⟩ : TxO (hf i) w1 w.heap.size (i * 3) xs[i] (cf i) ∧ hf i ≤ w1.heap.size))
      have HLE := hid (fun i (h : i < j) => Nat.le_trans (hw1 i (by omega) h).2 hbb)
      have HW2 := hid hw2
      have HNEW := hid (HPO.out w1 bb hbl ho.1 hT hoo)
      clear hw1 hw2 HOW
      have q := fun i (hi : i < n * 3) => hT i hi
      obtain ⟨v0, s0, r0⟩ := there_at hT (show j * 3 < n * 3 by omega)
      obtain ⟨v1, s1, r1⟩ := there_at hT (show j * 3 + 1 < n * 3 by omega)
      obtain ⟨v2, s2, r2⟩ := there_at hT (show j * 3 + 2 < n * 3 by omega)
      clear q hP HPR HPO hb1 ho hoo TR
      have HL1 := hid hL
      have HB1 := hid hB
      clear hT
      go_wp2_with fail
      go_roundw
      case rel => exact ⟨j + 1, by go_num, by omega, hid (by simpa using hL), hid HPUT.out.1, hid HPUT.out.2, hid (HLN.out _ bb cf hf (fun i hi h => ⟨(((HOLD.out i hi h).1.set (.inr ⟨rfl, by omega⟩) _).set (.inr ⟨rfl, by omega⟩) _).set (.inr ⟨rfl, by omega⟩) _, by simpa using (HOLD.out i hi h).2⟩) HW2.out HLE.out (by simpa using HNEW.out _ _)), hid ((bset (bset (bset hB (by omega) _) (by omega) _) (by omega) _))⟩
      case measure => simp [intOf]; omega
    · obtain rfl : n = j := by omega
      have c1 : (n : Int) ≤ (n : Int) := by omega
      go_wp2_with fail
      go_ret
      exact ⟨w.heap.size, rfl, Nat.le_refl _, ⟨HL.out, fun i hi => by have := HP.out i hi (by rw [HN.out] at hi; exact hi); simpa using this⟩, ⟨by rw [HN.out]; exact HT.out, by
        obtain ⟨c, f, h1, h2⟩ := HOW.out
        exact ⟨c, f, fun i hi => h1 i hi (by rw [HN.out] at hi; exact hi), fun i k hik hk => h2 i k hik (by rw [HN.out] at hk; exact hk)⟩⟩, HBW.out⟩
set_option maxRecDepth 100000 in
set_option maxHeartbeats 2000000 in
theorem to_storeO {N1 N2 : Nat → Prop} (now : Int) (a ta : Option Addr) (cap tcap : Nat) (rs : List Rw) (ts : List Tx) (w : World) (hm : rs.length ≤ 1099511627776) (htm : ts.length ≤ 1099511627776) (hr : Rws N1 w a rs) (ht : Txs N2 1099511627776 w ta ts) : Calls Tryz.prog 7 #[.agg #[.int .i64 now, .slice a rs.length cap, .slice ta ts.length tcap]] w fun e w' => ∃ B T hR, e = .returned (.agg #[.int .i64 now, .slice (some ⟨B, 0, none⟩) rs.length rs.length, .slice (some ⟨T, 0, none⟩) ts.length ts.length]) ∧ Rws (fun c => B < c) w' (some ⟨B, 0, none⟩) rs ∧ Txs (fun c => T < c) 1099511627776 w' (some ⟨T, 0, none⟩) ts ∧ (w.heap.size ≤ B ∧ B < hR ∧ hR ≤ T ∧ T < w'.heap.size ∧ w'.there B 0 (rs.length * 5) ∧ RwsO hR w' B rs ∧ TxsO w'.heap.size w' T ts) ∧ Below w.heap.size w w' := by
  have HR := hid (fun (W : World) (hb : Below w.heap.size w W) => to_rowsO now a cap rs W hm (hr.below hb))
  have HT := hid (fun (W : World) (hb : Below w.heap.size w W) => to_txsO ta tcap ts W htm (ht.below hb))
  clear hr ht
  obtain ⟨n, hn⟩ : ∃ n, n = rs.length := ⟨_, rfl⟩
  obtain ⟨tn, htn⟩ : ∃ tn, tn = ts.length := ⟨_, rfl⟩
  rw [← hn] at HR ⊢
  rw [← htn] at HT ⊢
  clear hn htn
  have hB0 : Below w.heap.size w (((w.alloc (.cells #[.int .i64 now, .slice a n cap, .slice ta tn tcap] 27)).alloc (.cells #[.int .i64 0, .slice none 0 0, .slice none 0 0] 34)).alloc (.cells #[.int .i64 0, .slice none 0 0, .slice none 0 0] 34)) := balloc (balloc (balloc (Below.refl _ _) _) _) _
  have g0 := old_alloc (o' := .cells #[.int .i64 0, .slice none 0 0, .slice none 0 0] 34) (old_alloc (o' := .cells #[.int .i64 0, .slice none 0 0, .slice none 0 0] 34) (new_alloc w w.heap.size (.cells #[.int .i64 now, .slice a n cap, .slice ta tn tcap] 27) rfl))
  have g1 := old_alloc (o' := .cells #[.int .i64 0, .slice none 0 0, .slice none 0 0] 34) (new_alloc (w.alloc (.cells #[.int .i64 now, .slice a n cap, .slice ta tn tcap] 27)) (w.heap.size + 1) (.cells #[.int .i64 0, .slice none 0 0, .slice none 0 0] 34) (by simp))
  have g2 := new_alloc ((w.alloc (.cells #[.int .i64 now, .slice a n cap, .slice ta tn tcap] 27)).alloc (.cells #[.int .i64 0, .slice none 0 0, .slice none 0 0] 34)) (w.heap.size + 1 + 1) (.cells #[.int .i64 0, .slice none 0 0, .slice none 0 0] 34) (by simp)
  go_enter Tryz.func7, Tryz.ntmps7
  go_upto_region 2 with fail
  generalize ((w.alloc (.cells #[.int .i64 now, .slice a n cap, .slice ta tn tcap] 27)).alloc (.cells #[.int .i64 0, .slice none 0 0, .slice none 0 0] 34)).alloc (.cells #[.int .i64 0, .slice none 0 0, .slice none 0 0] 34) = W at *
  have hlW := lt_of_block g2
  obtain ⟨⟨d0, d1, d2⟩, _⟩ := cellk3 g0
  go_wp2_with fail
  refine (HR.out _ hB0).mono ?_
  rintro e w1 ⟨B, rfl, hbb, hbl, ho, hth, hro, hb1⟩
  replace g0 := keepheap2 hb1 g0
  replace g1 := keepheap2 hb1 g1
  replace g2 := keepheap2 hb1 g2
  have hB1 := btrans hB0 hb1
  have HO := hid ho
  have HTH := hid hth
  have HRO := hid hro
  have hs1 := hb1.size
  clear hB0 hb1 ho hth hro d0 d1 d2 HR
  obtain ⟨⟨f0, f1, f2⟩, p0, p1, p2⟩ := cellk3 g2
  go_upto_region 3 with fail
  have g2' : ((w1.setCell ⟨w.heap.size + 1 + 1, 0, none⟩ (.int .i64 now)).setCell ⟨w.heap.size + 1 + 1, 1, none⟩ (.slice (some ⟨B, 0, none⟩) n n)).heap[w.heap.size + 1 + 1]? = some (.cells #[.int .i64 now, .slice (some ⟨B, 0, none⟩) n n, .slice none 0 0] 34 (0, 0)) := setk3a g2 _ _
  have hfar : ∀ c, c ≠ w.heap.size + 1 + 1 → ((w1.setCell ⟨w.heap.size + 1 + 1, 0, none⟩ (.int .i64 now)).setCell ⟨w.heap.size + 1 + 1, 1, none⟩ (.slice (some ⟨B, 0, none⟩) n n)).heap[c]? = w1.heap[c]? := fun c hc => by rw [Below.heap_setCell _ _ _ _ (by dsimp only; omega), Below.heap_setCell _ _ _ _ (by dsimp only; omega)]
  have g0' := (hfar w.heap.size (by omega)).trans g0
  have g1' := (hfar (w.heap.size + 1) (by omega)).trans g1
  have HO2 := hid ((HO.out.setR (q := w.heap.size + 1 + 1) (k := 0) (u := .int .i64 now) (by omega) (by omega)).setR (q := w.heap.size + 1 + 1) (k := 1) (u := (.slice (some ⟨B, 0, none⟩) n n)) (by omega) (by omega))
  have hB2 := bset (bset hB1 (q := w.heap.size + 1 + 1) (k := 0) (by omega) (.int .i64 now)) (q := w.heap.size + 1 + 1) (k := 1) (by omega) (.slice (some ⟨B, 0, none⟩) n n)
  have HTH2 := hid (there_set (p := w.heap.size + 1 + 1) (k := 1) (there_set (p := w.heap.size + 1 + 1) (k := 0) HTH.out (.int .i64 now)) (.slice (some ⟨B, 0, none⟩) n n))
  have HRO2 : Hid (RwsO w1.heap.size ((w1.setCell ⟨w.heap.size + 1 + 1, 0, none⟩ (.int .i64 now)).setCell ⟨w.heap.size + 1 + 1, 1, none⟩ (.slice (some ⟨B, 0, none⟩) n n)) B rs) := hid (fun j hj => ((HRO.out j hj).other (by omega) _).other (by omega) _)
  have hVs : ((w1.setCell ⟨w.heap.size + 1 + 1, 0, none⟩ (.int .i64 now)).setCell ⟨w.heap.size + 1 + 1, 1, none⟩ (.slice (some ⟨B, 0, none⟩) n n)).heap.size = w1.heap.size := by simp
  have hVa := Nat.le_of_eq hVs
  have hVb := Nat.le_of_eq hVs.symm
  clear hVs
  have hbl2 : B < ((w1.setCell ⟨w.heap.size + 1 + 1, 0, none⟩ (.int .i64 now)).setCell ⟨w.heap.size + 1 + 1, 1, none⟩ (.slice (some ⟨B, 0, none⟩) n n)).heap.size := by simpa using hbl
  have hblw := hbl
  clear hfar g0 g1 g2 HO HTH HRO hB1 f0 f1 f2 p0 p1 p2 hbl
  generalize (w1.setCell ⟨w.heap.size + 1 + 1, 0, none⟩ (.int .i64 now)).setCell ⟨w.heap.size + 1 + 1, 1, none⟩ (.slice (some ⟨B, 0, none⟩) n n) = V at *
  have hlV := lt_of_block g2'
  obtain ⟨⟨d0, d1, d2⟩, _⟩ := cellk3 g0'
  go_wp2_with fail
  refine (HT.out _ hB2).mono ?_
  rintro e w2 ⟨T, rfl, htt, htx, hto, hb2⟩
  replace g1' := keepheap2 hb2 g1'
  replace g2' := keepheap2 hb2 g2'
  have hB3 := btrans hB2 hb2
  have HO3 := hid (fun j (hj : j < rs.length) => (HO2.out j hj).below hb2)
  have HTX := hid htx
  have HTO := hid hto
  have HTH3 := hid (there_below HTH2.out hbl2 hb2)
  have HRO3 : Hid (RwsO w1.heap.size w2 B rs) := hid (HRO2.out.below hVb hb2)
  have hs2 := hb2.size
  clear hB2 hb2 htx hto d0 d1 d2 HT HO2 g0'
  obtain ⟨⟨f0, f1, f2⟩, p0, p1, p2⟩ := cellk3 g2'
  obtain ⟨⟨v0, v1, v2⟩, u0, u1, u2⟩ := cellk3 g1'
  go_wp2_with fail
  have hTl := HTX.out.1
  have gF := setk3 (set_far (q := w.heap.size + 1 + 1) (k := 2) (u := (.slice (some ⟨T, 0, none⟩) tn tn)) g1' (by omega)) (.int .i64 now) (.slice (some ⟨B, 0, none⟩) n n) (.slice (some ⟨T, 0, none⟩) tn tn)
  have bF := bset (bset (bset (bset hB3 (q := w.heap.size + 1 + 1) (k := 2) (by omega) (.slice (some ⟨T, 0, none⟩) tn tn)) (q := w.heap.size + 1) (k := 0) (by omega) (.int .i64 now)) (q := w.heap.size + 1) (k := 1) (by omega) (.slice (some ⟨B, 0, none⟩) n n)) (q := w.heap.size + 1) (k := 2) (by omega) (.slice (some ⟨T, 0, none⟩) tn tn)
  have hfar : ∀ c, w.heap.size + 1 + 1 < c → ((((w2.setCell ⟨w.heap.size + 1 + 1, 2, none⟩ (.slice (some ⟨T, 0, none⟩) tn tn)).setCell ⟨w.heap.size + 1, 0, none⟩ (.int .i64 now)).setCell ⟨w.heap.size + 1, 1, none⟩ (.slice (some ⟨B, 0, none⟩) n n)).setCell ⟨w.heap.size + 1, 2, none⟩ (.slice (some ⟨T, 0, none⟩) tn tn)).heap[c]? = w2.heap[c]? := fun c hc => by rw [Below.heap_setCell _ _ _ _ (by dsimp only; omega), Below.heap_setCell _ _ _ _ (by dsimp only; omega), Below.heap_setCell _ _ _ _ (by dsimp only; omega), Below.heap_setCell _ _ _ _ (by dsimp only; omega)]
  have hsz : w2.heap.size ≤ ((((w2.setCell ⟨w.heap.size + 1 + 1, 2, none⟩ (.slice (some ⟨T, 0, none⟩) tn tn)).setCell ⟨w.heap.size + 1, 0, none⟩ (.int .i64 now)).setCell ⟨w.heap.size + 1, 1, none⟩ (.slice (some ⟨B, 0, none⟩) n n)).setCell ⟨w.heap.size + 1, 2, none⟩ (.slice (some ⟨T, 0, none⟩) tn tn)).heap.size := by simp
  have thF : ((((w2.setCell ⟨w.heap.size + 1 + 1, 2, none⟩ (.slice (some ⟨T, 0, none⟩) tn tn)).setCell ⟨w.heap.size + 1, 0, none⟩ (.int .i64 now)).setCell ⟨w.heap.size + 1, 1, none⟩ (.slice (some ⟨B, 0, none⟩) n n)).setCell ⟨w.heap.size + 1, 2, none⟩ (.slice (some ⟨T, 0, none⟩) tn tn)).there B 0 (n * 5) := (there_set (there_set (there_set (there_set HTH3.out _) _) _) _)
  have roF : RwsO w1.heap.size ((((w2.setCell ⟨w.heap.size + 1 + 1, 2, none⟩ (.slice (some ⟨T, 0, none⟩) tn tn)).setCell ⟨w.heap.size + 1, 0, none⟩ (.int .i64 now)).setCell ⟨w.heap.size + 1, 1, none⟩ (.slice (some ⟨B, 0, none⟩) n n)).setCell ⟨w.heap.size + 1, 2, none⟩ (.slice (some ⟨T, 0, none⟩) tn tn)) B rs := fun j hj => (((((HRO3.out j hj).other (by omega) _).other (by omega) _).other (by omega) _).other (by omega) _)
  have toF : TxsO ((((w2.setCell ⟨w.heap.size + 1 + 1, 2, none⟩ (.slice (some ⟨T, 0, none⟩) tn tn)).setCell ⟨w.heap.size + 1, 0, none⟩ (.int .i64 now)).setCell ⟨w.heap.size + 1, 1, none⟩ (.slice (some ⟨B, 0, none⟩) n n)).setCell ⟨w.heap.size + 1, 2, none⟩ (.slice (some ⟨T, 0, none⟩) tn tn)).heap.size ((((w2.setCell ⟨w.heap.size + 1 + 1, 2, none⟩ (.slice (some ⟨T, 0, none⟩) tn tn)).setCell ⟨w.heap.size + 1, 0, none⟩ (.int .i64 now)).setCell ⟨w.heap.size + 1, 1, none⟩ (.slice (some ⟨B, 0, none⟩) n n)).setCell ⟨w.heap.size + 1, 2, none⟩ (.slice (some ⟨T, 0, none⟩) tn tn)) T ts := by simpa using ((((HTO.out.set (by omega) _).set (by omega) _).set (by omega) _).set (by omega) _)
  have oF : RwsAt (fun c => B < c) ((((w2.setCell ⟨w.heap.size + 1 + 1, 2, none⟩ (.slice (some ⟨T, 0, none⟩) tn tn)).setCell ⟨w.heap.size + 1, 0, none⟩ (.int .i64 now)).setCell ⟨w.heap.size + 1, 1, none⟩ (.slice (some ⟨B, 0, none⟩) n n)).setCell ⟨w.heap.size + 1, 2, none⟩ (.slice (some ⟨T, 0, none⟩) tn tn)) B 0 rs := fun j hj => ((((HO3.out j hj).setR (q := w.heap.size + 1 + 1) (k := 2) (u := (.slice (some ⟨T, 0, none⟩) tn tn)) (by omega) (fun c hc => by omega)).setR (q := w.heap.size + 1) (k := 0) (u := .int .i64 now) (by omega) (fun c hc => by omega)).setR (q := w.heap.size + 1) (k := 1) (u := (.slice (some ⟨B, 0, none⟩) n n)) (by omega) (fun c hc => by omega)).setR (q := w.heap.size + 1) (k := 2) (u := (.slice (some ⟨T, 0, none⟩) tn tn)) (by omega) (fun c hc => by omega)
  have tF : TxsAt (fun c => T < c) 1099511627776 ((((w2.setCell ⟨w.heap.size + 1 + 1, 2, none⟩ (.slice (some ⟨T, 0, none⟩) tn tn)).setCell ⟨w.heap.size + 1, 0, none⟩ (.int .i64 now)).setCell ⟨w.heap.size + 1, 1, none⟩ (.slice (some ⟨B, 0, none⟩) n n)).setCell ⟨w.heap.size + 1, 2, none⟩ (.slice (some ⟨T, 0, none⟩) tn tn)) T 0 ts := fun j hj => (HTX.out.2 j hj).blk (fun i _ => by simp only [World.cell?, hfar T (by omega)]) (fun c hc => hfar c (by omega)) hsz
  generalize ((((w2.setCell ⟨w.heap.size + 1 + 1, 2, none⟩ (.slice (some ⟨T, 0, none⟩) tn tn)).setCell ⟨w.heap.size + 1, 0, none⟩ (.int .i64 now)).setCell ⟨w.heap.size + 1, 1, none⟩ (.slice (some ⟨B, 0, none⟩) n n)).setCell ⟨w.heap.size + 1, 2, none⟩ (.slice (some ⟨T, 0, none⟩) tn tn)) = wf at *
  have hTs := HTX.out.1
  obtain ⟨⟨z0, z1, z2⟩, _⟩ := cellk3 gF
  exact bodyPost_ret (v := .agg #[.int .i64 now, .slice (some ⟨B, 0, none⟩) n n, .slice (some ⟨T, 0, none⟩) tn tn]) (by simp [results, Tryz.results7, go_sem, z0, z1, z2]) rfl ⟨B, T, w1.heap.size, rfl, .inr ⟨B, 0, rfl, by omega, oF⟩, .inr ⟨T, 0, rfl, by omega, tF⟩, ⟨by omega, by omega, by omega, by omega, thF, roF, toF⟩, bF⟩
end Go.Proofs.YtiocelhnmfadnaaGreat
