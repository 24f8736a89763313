import Derived.Test.YtenlhgnobfadgaaGreatDoorJ23
import Derived.Test.YtenlhgnobfadgaaGreatDoorJ24
set_option linter.unusedSimpArgs false
set_option linter.unusedVariables false
namespace Go.Proofs.YtenlhgnobfadgaaGreatDoor
open Go.RowKit
theorem dig_no10 (u : Nat) : ∀ c ∈ Lib.decDigits u, c ≠ 10 := by
 induction u using Nat.strongRecOn with
 | _ u ih =>
  intro c hc
  have hd : ∀ v : Nat, v < 10 → UInt8.ofNat (48 + v) ≠ 10 := by decide
  by_cases h : u < 10
  ·rw [Lib.decDigits, dif_pos h, List.mem_singleton] at hc
   rw [hc]; exact hd u h
  ·rw [Lib.decDigits, dif_neg h, List.mem_append, List.mem_singleton] at hc
   rcases hc with hc | hc
   ·exact ih (u / 10) (by omega) c hc
   ·rw [hc]; exact hd (u % 10) (by omega)
theorem itoa_no10 (n : Int) : ∀ c ∈ Lib.itoa n, c ≠ 10 := by
 intro c hc
 unfold Lib.itoa at hc
 split at hc
 ·rcases List.mem_cons.1 hc with rfl | hc
  ·decide
  ·exact dig_no10 _ c hc
 ·exact dig_no10 _ c hc
theorem kw_no10 (k : Nat) : ∀ c ∈ (kw k).data.toList, c ≠ 10 := by
 unfold kw; split <;> decide
theorem spc_no10 : ∀ c ∈ spc.data.toList, c ≠ 10 := by decide
theorem stx_no10 (k : Nat) (ps : List (Int × Int)) : ∀ i, ∀ c ∈ (stx k ps i).data.toList, c ≠ 10
 | 0 => kw_no10 k
 | i + 1 => by
  intro c hc
  simp only [stx, ba_list, List.mem_append] at hc
  rcases hc with (((hc | hc) | hc) | hc) | hc
  ·exact stx_no10 k ps i c hc
  ·exact spc_no10 c hc
  ·exact itoa_no10 _ c hc
  ·exact spc_no10 c hc
  ·exact itoa_no10 _ c hc
theorem txv_no10 (k : Int) (ps : List (Int × Int)) : ∀ c ∈ (txv k ps).data.toList, c ≠ 10 := by
 unfold txv
 split
 ·exact stx_no10 _ _ _
 ·intro c hc; simp at hc
def lnT (id k : Int) (ps : List (Int × Int)) : ByteArray := ia id ++ spc ++ txv k ps
theorem lnT_no10 (id k : Int) (ps : List (Int × Int)) : ∀ c ∈ (lnT id k ps).data.toList, c ≠ 10 := by
 intro c hc
 simp only [lnT, ba_list, List.mem_append] at hc
 rcases hc with (hc | hc) | hc
 ·exact itoa_no10 _ c hc
 ·exact spc_no10 c hc
 ·exact txv_no10 _ _ c hc
theorem lin_ln {id k : Int} {ps : List (Int × Int)} (hi : idb id = true) (hs : shok k ps = true) : lin (lnT id k ps) = some (id, false, k, ps) := by
 have hl : (lnT id k ps).data.toList = Lib.itoa id ++ 32 :: (txv k ps).data.toList := by
  unfold lnT
  rw [ba_list, ba_list]
  simp [ia, spc]
 have hw : rest (lnT id k ps) (lnT id k ps).size 0 0 = ia id :: rest (txv k ps) (txv k ps).size 0 0 := by
  apply maps_inj
  rw [rest_words, hl, wl_app _ _ (itoa_no id), List.map_cons, rest_words]
  rfl
 have hr : riN (ia id) = id := by
  unfold idb at hi
  simp only [Bool.and_eq_true, decide_eq_true_eq] at hi
  unfold riN
  rw [ri_ia (by omega) (by omega)]; rfl
 have h2 := (rest_len (txv k ps) (txv k ps).size 0 0).1
 have := lin_yes (x := lnT id k ps) (k := k) (l := ps) (by rw [hw]; simp only [List.length_cons]; omega) (by rw [hw]; show idb (riN (ia id)) = true; rw [hr]; exact hi) (by rw [hw]; exact rso_txv hs)
 rw [hw] at this
 rw [this]
 show some (riN (ia id), false, k, ps) = _
 rw [hr]
theorem by8_list {s : ByteArray} {k : Nat} {c : UInt8} (h : s.data.toList[k]? = some c) : by8 s k = c.toNat := by
 have hk : k < s.size := by
  have := (List.getElem?_eq_some_iff.1 h).1
  simpa using this
 rw [byte_at s k hk, Option.some.injEq] at h
 rw [← by8_at s k hk, h]
theorem size_list (s : ByteArray) : s.data.toList.length = s.size := by simp
theorem ld_line {s : ByteArray} {p : Nat} {A L r : List UInt8} (hs : s.data.toList = A ++ (L ++ 10 :: r)) (hp : A.length = p) (hL : ∀ c ∈ L, c ≠ 10) (acc : List Ch) :
  (∀ l, ldo acc ⟨L.toArray⟩ = some l → ld s (s.size - p) p p acc = ld s (s.size - (p + L.length + 1)) (p + L.length + 1) (p + L.length + 1) l) ∧ (ldo acc ⟨L.toArray⟩ = none → ld s (s.size - p) p p acc = ([], acc.length + 1)) := by
 have hsz : s.size = p + L.length + 1 + r.length := by
  rw [← size_list, hs]
  simp only [List.length_append, List.length_cons]
  omega
 have hno : ∀ k, p ≤ k → k < p + L.length → by8 s k ≠ 10 := by
  intro k h1 h2
  have hk : k - p < L.length := by omega
  have e : s.data.toList[k]? = some (L[k - p]'hk) := by
   rw [hs, List.getElem?_append_right (by omega), hp, List.getElem?_append_left hk, List.getElem?_eq_getElem hk]
  rw [by8_list e]
  intro e2
  refine hL _ (List.getElem_mem hk) (UInt8.toNat_inj.1 ?_)
  rw [e2]; rfl
 have h10 : by8 s (p + L.length) = 10 := by
  have e : s.data.toList[p + L.length]? = some 10 := by
   rw [hs, List.getElem?_append_right (by omega), hp, List.getElem?_append_right (by omega), show p + L.length - p - L.length = 0 by omega]
   rfl
  rw [by8_list e]; rfl
 have hex : s.extract p (p + L.length) = ⟨L.toArray⟩ := by
  apply ba_inj
  rw [exl_list, hs]
  show _ = L
  rw [← hp, List.drop_left, show A.length + L.length - A.length = L.length by omega, List.take_left]
 have hat := ld_at (s := s) (a := p) (i := p + L.length) (acc := acc) (by omega) (by omega) hno
 refine ⟨fun l hl => ?_, fun hl => ?_⟩
 ·rw [hat, ld_yes (f' := s.size - (p + L.length + 1)) (by omega) h10 (by rw [hex]; exact hl)]
 ·rw [hat, ld_no (f' := s.size - (p + L.length + 1)) (by omega) h10 (by rw [hex]; exact hl)]
def cgD (rs : List Rw) (t : Int) (ids : List Int) (i : Nat) : List Ch := (ids.take i).map (fun id => (id, false, raK (rat rs id t), raP (rat rs id t)))
theorem cgD_len {rs : List Rw} {t : Int} {ids : List Int} {i : Nat} (h : i ≤ ids.length) : (cgD rs t ids i).length = i := by
 unfold cgD
 rw [List.length_map, List.length_take]; omega
theorem cgD_next {rs : List Rw} {t : Int} {ids : List Int} {i : Nat} (h : i < ids.length) : cgD rs t ids (i + 1) = cgD rs t ids i ++ [(ids[i], false, raK (rat rs ids[i] t), raP (rat rs ids[i] t))] := by
 unfold cgD
 rw [List.take_add_one, List.getElem?_eq_getElem h, Option.toList_some, List.map_append]; rfl
theorem cgD_at {rs : List Rw} {t : Int} {ids : List Int} {i j : Nat} (h : j < i) (hi : i ≤ ids.length) : (cgD rs t ids i)[j]? = some (ids[j], false, raK (rat rs ids[j] t), raP (rat rs ids[j] t)) := by
 unfold cgD
 rw [List.getElem?_map, List.getElem?_take, if_pos h, List.getElem?_eq_getElem (show j < ids.length by omega)]; rfl
theorem dm_next (rs : List Rw) (t : Int) (ids : List Int) (i : Nat) (h : i < ids.length) : (dmT rs t ids (i + 1)).data.toList = (dmT rs t ids i).data.toList ++ ((lnT ids[i] (raK (rat rs ids[i] t)) (raP (rat rs ids[i] t))).data.toList ++ [10]) := by
 have e : ids.getD i 0 = ids[i] := by rw [List.getD_eq_getElem?_getD, List.getElem?_eq_getElem h]; rfl
 show (dmT rs t ids i ++ ia (ids.getD i 0) ++ spc ++ txv (raK (rat rs (ids.getD i 0) t)) (raP (rat rs (ids.getD i 0) t)) ++ nlT).data.toList = _
 unfold lnT
 rw [e]
 simp only [ba_list, List.append_assoc]
 rfl
theorem dm_at (rs : List Rw) (t : Int) (ids : List Int) : ∀ (n : Nat), n ≤ ids.length → ∀ i (hi : i < n) (hl : i < ids.length), ∃ r, (dmT rs t ids n).data.toList = (dmT rs t ids i).data.toList ++ ((lnT ids[i] (raK (rat rs ids[i] t)) (raP (rat rs ids[i] t))).data.toList ++ 10 :: r)
 | 0, _, i, hi, _ => by omega
 | n + 1, hn, i, hi, hl => by
  rw [dm_next rs t ids n (by omega)]
  by_cases e : i = n
  ·subst e; exact ⟨[], rfl⟩
  ·obtain ⟨r, hr⟩ := dm_at rs t ids n (by omega) i (by omega) hl
   exact ⟨r ++ ((lnT ids[n] (raK (rat rs ids[n] t)) (raP (rat rs ids[n] t))).data.toList ++ [10]), by rw [hr]; simp⟩
theorem dm_size (rs : List Rw) (t : Int) (ids : List Int) (i : Nat) (h : i < ids.length) : (dmT rs t ids (i + 1)).size = (dmT rs t ids i).size + (lnT ids[i] (raK (rat rs ids[i] t)) (raP (rat rs ids[i] t))).data.toList.length + 1 := by
 have := congrArg List.length (dm_next rs t ids i h)
 rw [size_list, List.length_append, List.length_append, size_list] at this
 simp only [List.length_cons, List.length_nil] at this
 omega
theorem ba_back (s : ByteArray) : (⟨s.data.toList.toArray⟩ : ByteArray) = s := by
 apply ba_inj; simp
theorem ld_dm {rs : List Rw} {t : Int} {ids : List Int} (ha : ∀ id ∈ ids, idb id = true ∧ shok (raK (rat rs id t)) (raP (rat rs id t)) = true) (hs : ids.Pairwise (· < ·)) : ∀ i, i ≤ ids.length → i ≤ 100 →
  ld (dmT rs t ids ids.length) (dmT rs t ids ids.length).size 0 0 [] = ld (dmT rs t ids ids.length) ((dmT rs t ids ids.length).size - (dmT rs t ids i).size) (dmT rs t ids i).size (dmT rs t ids i).size (cgD rs t ids i)
 | 0, _, _ => rfl
 | i + 1, hi, h100 => by
  rw [ld_dm ha hs i (by omega) (by omega)]
  have hl : i < ids.length := by omega
  obtain ⟨r, hr⟩ := dm_at rs t ids ids.length (Nat.le_refl _) i hl hl
  obtain ⟨h1, h2⟩ := ha _ (List.getElem_mem hl)
  have hy := (ld_line hr (size_list _) (lnT_no10 _ _ _) (cgD rs t ids i)).1 (cgD rs t ids (i + 1)) (by
   rw [ba_back, cgD_next hl]
   refine ldo_yes (lin_ln h1 h2) (by rw [cgD_len (by omega)]; omega) ?_
   rw [cgD_len (by omega)]
   by_cases h0 : i = 0
   ·exact .inl h0
   ·right
    have hlt : i - 1 < i := by omega
    have e : lastI (cgD rs t ids i) = ids[i - 1] := by
     unfold lastI
     rw [cgD_len (by omega), List.getD_eq_getElem?_getD, cgD_at hlt (by omega)]; rfl
    rw [e]
    exact (List.pairwise_iff_getElem.1 hs) (i - 1) i (by omega) hl (by omega))
  rw [hy, dm_size rs t ids i hl]
theorem ld_dump {rs : List Rw} {t : Int} {ids : List Int} (ha : ∀ id ∈ ids, idb id = true ∧ shok (raK (rat rs id t)) (raP (rat rs id t)) = true) (hs : ids.Pairwise (· < ·)) (hn : ids.length ≤ 100) : ld (dmT rs t ids ids.length) (dmT rs t ids ids.length).size 0 0 [] = (cgD rs t ids ids.length, 0) := by
 rw [ld_dm ha hs ids.length (Nat.le_refl _) hn, Nat.sub_self]
 exact ld_end (by omega)
theorem ld_dumpN {rs : List Rw} {t : Int} {ids : List Int} (ha : ∀ id ∈ ids, idb id = true ∧ shok (raK (rat rs id t)) (raP (rat rs id t)) = true) (hs : ids.Pairwise (· < ·)) (hn : 100 < ids.length) : ld (dmT rs t ids ids.length) (dmT rs t ids ids.length).size 0 0 [] = ([], 101) := by
 rw [ld_dm ha hs 100 (by omega) (Nat.le_refl _)]
 obtain ⟨r, hr⟩ := dm_at rs t ids ids.length (Nat.le_refl _) 100 hn hn
 have := (ld_line hr (size_list _) (lnT_no10 _ _ _) (cgD rs t ids 100)).2 (ldo_full (by rw [cgD_len (by omega)]; omega))
 rw [this, cgD_len (by omega)]
theorem idsb_lt (now : Int) (rs : List Rw) (t : Int) : (idsb now rs t).Pairwise (· < ·) := by
 unfold idsb
 split
 ·rename_i hr
  have hs := srt_sorted (idsT rs t)
  have hn : (srt (idsT rs t)).Nodup := by
   rw [(srt_perm _).nodup_iff]
   unfold idsT
   rw [List.Nodup, List.pairwise_map, List.pairwise_filter]
   rw [List.pairwise_iff_getElem]
   intro i j hi hj hij h1 h2
   exact rows_apart2 hr hi hj hij h1 h2
  exact (hs.and hn).imp (fun ⟨h1, h2⟩ => by omega)
 ·exact List.Pairwise.nil
theorem idsb_all (now : Int) (rs : List Rw) (t : Int) : ∀ id ∈ idsb now rs t, idb id = true ∧ shok (raK (rat rs id t)) (raP (rat rs id t)) = true := by
 intro id h
 refine ⟨?_, (idsb_row h).2⟩
 have := idsb_id h
 unfold idb
 simp only [Bool.and_eq_true, decide_eq_true_eq]
 omega
theorem apl_fresh {t : Int} : ∀ (cs : List Ch) (L : List Rw), (∀ c ∈ cs, c.2.1 = false) → (cs.map (fun x => x.1)).Nodup → (∀ r ∈ L, ∀ c ∈ cs, r.1 ≠ c.1) → apl t L cs = L ++ cs.map (newR t)
 | [], L, _, _, _ => by simp [apl]
 | c :: cs, L, h1, h2, h3 => by
  have e : stp t L c = L ++ [newR t c] := by
   unfold stp
   rw [h1 c (List.mem_cons_self ..)]
   congr 1
   refine (List.map_congr_left (fun r hr => endR_ne (h3 r hr c (List.mem_cons_self ..)))).trans (List.map_id _)
  rw [List.map_cons, List.nodup_cons] at h2
  show apl t (stp t L c) cs = _
  rw [e, apl_fresh cs (L ++ [newR t c]) (fun x hx => h1 x (List.mem_cons_of_mem _ hx)) h2.2 (fun r hr x hx => ?_)]
  ·simp
  ·rcases List.mem_append.1 hr with hr | hr
   ·exact h3 r hr x (List.mem_cons_of_mem _ hx)
   ·rw [List.mem_singleton] at hr
    subst hr
    intro e2
    exact h2.1 (by show c.1 ∈ _; rw [show c.1 = x.1 from e2]; exact List.mem_map_of_mem hx)
theorem dump_again {now : Int} {rs : List Rw} {t : Int} (hn : (idsb now rs t).length ≤ 100) :
  apb 0 [] (cgD rs t (idsb now rs t) (idsb now rs t).length) = true ∧ idsb 1 (aprs 0 [] (cgD rs t (idsb now rs t) (idsb now rs t).length)) 1 = idsb now rs t ∧ ∀ i, i ≤ (idsb now rs t).length → dmT (aprs 0 [] (cgD rs t (idsb now rs t) (idsb now rs t).length)) 1 (idsb now rs t) i = dmT rs t (idsb now rs t) i := by
 have ha := idsb_all now rs t
 have hs := idsb_lt now rs t
 generalize idsb now rs t = ids at *
 have hlen := cgD_len (rs := rs) (t := t) (ids := ids) (Nat.le_refl _)
 have hcs : cgD rs t ids ids.length = ids.map (fun id => (id, false, raK (rat rs id t), raP (rat rs id t))) := by unfold cgD; rw [List.take_length]
 have hg : ∀ c ∈ cgD rs t ids ids.length, c.2.1 = false := by
  rw [hcs]; intro c hc
  obtain ⟨id, _, rfl⟩ := List.mem_map.1 hc
  rfl
 have hids : (cgD rs t ids ids.length).map (fun x => x.1) = ids := by
  rw [hcs, List.map_map]
  exact List.map_id' ids
 have hnd : ids.Nodup := hs.imp (fun h => by omega)
 have hall : ∀ c ∈ cgD rs t ids ids.length, cgb c = true := by
  rw [hcs]; intro c hc
  obtain ⟨id, hid', rfl⟩ := List.mem_map.1 hc
  obtain ⟨h1, h2⟩ := ha id hid'
  unfold cgb
  simp [h1, h2]
 have hc : cgs (cgD rs t ids ids.length) = true := by
  unfold cgs
  rw [Bool.and_eq_true, List.all_eq_true, decide_eq_true_eq, hids]
  exact ⟨hall, hnd⟩
 have hr0 : rowsb 0 [] = true := by decide
 have hb : ([] : List Rw).length + bgn (cgD rs t ids ids.length) ≤ 300 := by
  have : bgn (cgD rs t ids ids.length) ≤ (cgD rs t ids ids.length).length := List.length_filter_le _ _
  rw [hlen] at this
  simp only [List.length_nil]; omega
 have hab : apb 0 [] (cgD rs t ids ids.length) = true := by
  unfold apb
  rw [hr0, hc]
  simp only [Bool.and_eq_true, decide_eq_true_eq, and_self, and_true]
  exact ⟨by omega, hb⟩
 have hap : aprs 0 [] (cgD rs t ids ids.length) = (cgD rs t ids ids.length).map (newR 1) := by
  unfold aprs
  rw [if_pos hab]
  have := apl_fresh (t := 0 + 1) (cgD rs t ids ids.length) [] hg (by rw [hids]; exact hnd) (fun r hr => by cases hr)
  rw [this]; rfl
 have hrow : rowsb 1 ((cgD rs t ids ids.length).map (newR 1)) = true := by
  have h1 := apl_ok hr0 hc
  have h2 := apl_fresh (t := 0 + 1) (cgD rs t ids ids.length) [] hg (by rw [hids]; exact hnd) (fun r hr => by cases hr)
  rw [h2] at h1
  rw [show ((1 : Int)) = 0 + 1 from rfl]
  rw [List.nil_append] at h1
  rw [h1]; simpa using hb
 have hthr : ∀ c : Ch, thr (tr (newR 1 c)) 1 = true := fun c => by rw [thr_def]; simp [newR]
 have hT : idsT ((cgD rs t ids ids.length).map (newR 1)) 1 = ids := by
  unfold idsT
  rw [List.filter_eq_self.2 (fun r hr => by obtain ⟨c, _, rfl⟩ := List.mem_map.1 hr; exact hthr c), List.map_map]
  exact hids
 refine ⟨hab, ?_, ?_⟩
 ·rw [hap]
  unfold idsb
  rw [if_pos hrow, hT]
  exact (srt_of (List.Perm.refl _) (hs.imp (fun h => by omega))).symm
 ·rw [hap]
  have key : ∀ i (h : i < ids.length), rat ((cgD rs t ids ids.length).map (newR 1)) ids[i] 1 = some (newR 1 (ids[i], false, raK (rat rs ids[i] t), raP (rat rs ids[i] t))) := by
   intro i h
   have hl : i < ((cgD rs t ids ids.length).map (newR 1)).length := by rw [List.length_map, hlen]; exact h
   have e : ((cgD rs t ids ids.length).map (newR 1))[i] = newR 1 (ids[i], false, raK (rat rs ids[i] t), raP (rat rs ids[i] t)) := by
    rw [List.getElem_map]
    congr 1
    rw [List.getElem_eq_iff]
    exact cgD_at h (Nat.le_refl _)
   have := rat_of hrow hl (by rw [e]; exact hthr _)
   rw [e] at this
   exact this
  intro i
  induction i with
  | zero => intro _; rfl
  | succ i ih =>
   intro hi
   have hl : i < ids.length := by omega
   have e : ids.getD i 0 = ids[i] := by rw [List.getD_eq_getElem?_getD, List.getElem?_eq_getElem hl]; rfl
   show dmT _ 1 ids i ++ _ ++ _ ++ _ ++ _ = dmT rs t ids i ++ _ ++ _ ++ _ ++ _
   rw [ih (by omega), e, key i hl]
   rfl
end Go.Proofs.YtenlhgnobfadgaaGreatDoor
