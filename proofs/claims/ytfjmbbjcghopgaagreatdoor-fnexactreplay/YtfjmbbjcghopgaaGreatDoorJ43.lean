/- Texts of stores, joined: Ta, Tb, Tc. -/
import Derived.Test.YtfjmbbjcghopgaaGreatDoorJ42
import Derived.Test.YtfjmbbjcghopgaaGreatDoorJ32
import Derived.Maps.Own
import Derived.Maps.OwnOps
import Derived.Maps.OwnSet
import Derived.Maps.Views
import Derived.DeepKeys4
import Derived.Test.YtfjmbbjcghopgaaGreatDoorJ33
import Derived.BigQuiet
namespace Go.Proofs.YtfjmbbjcghopgaaGreatDoor
open Go.RowKit
set_option linter.unusedSimpArgs false
set_option linter.unusedVariables false
/-- A row is ended at a moment, where it is of that id and goes on. -/
def endR (t id : Int) (r : Rw) : Rw := if r.1 = id ∧ r.2.2.1 = 0 then (r.1, r.2.1, t, r.2.2.2.1, r.2.2.2.2) else r
/-- The row that a change begins. -/
def newR (t : Int) (c : Ch) : Rw := (c.1, t, 0, c.2.2.1, c.2.2.2)
def stp (t : Int) (rs : List Rw) (c : Ch) : List Rw := rs.map (endR t c.1) ++ (if c.2.1 = true then [] else [newR t c])
def apl (t : Int) (rs : List Rw) (cs : List Ch) : List Rw := cs.foldl (stp t) rs
/-- How many rows begin. -/
def bgn (cs : List Ch) : Nat := (cs.filter (fun c => !c.2.1)).length
theorem endR_id (t id : Int) (r : Rw) : (endR t id r).1 = r.1 := by unfold endR; split <;> rfl
theorem endR_fr (t id : Int) (r : Rw) : (endR t id r).2.1 = r.2.1 := by unfold endR; split <;> rfl
theorem endR_ne {t id : Int} {r : Rw} (h : r.1 ≠ id) : endR t id r = r := by unfold endR; rw [if_neg (fun q => h q.1)]
theorem endR_to {t id : Int} {r : Rw} (h : r.2.2.1 ≠ 0) : endR t id r = r := by unfold endR; rw [if_neg (fun q => h q.2)]
theorem endR_yes {t id : Int} {r : Rw} (h1 : r.1 = id) (h2 : r.2.2.1 = 0) : endR t id r = (r.1, r.2.1, t, r.2.2.2.1, r.2.2.2.2) := by unfold endR; rw [if_pos ⟨h1, h2⟩]
theorem stp_len (t : Int) (rs : List Rw) (c : Ch) : (stp t rs c).length = rs.length + (if c.2.1 = true then 0 else 1) := by
  unfold stp; cases c.2.1 <;> simp
theorem apl_len (t : Int) : ∀ (cs : List Ch) (rs : List Rw), (apl t rs cs).length = rs.length + bgn cs
  | [], rs => by simp [apl, bgn]
  | c :: cs, rs => by
    show (apl t (stp t rs c) cs).length = _
    rw [apl_len t cs, stp_len]
    unfold bgn
    cases h : c.2.1 <;> simp [h] <;> omega
theorem apl_next (t : Int) (rs : List Rw) (cs : List Ch) {i : Nat} (h : i < cs.length) : apl t rs (cs.take (i + 1)) = stp t (apl t rs (cs.take i)) cs[i] := by
  unfold apl
  rw [List.take_succ_eq_append_getElem h, List.foldl_append]
  rfl
theorem bgn_next (cs : List Ch) {i : Nat} (h : i < cs.length) : bgn (cs.take (i + 1)) = bgn (cs.take i) + (if cs[i].2.1 = true then 0 else 1) := by
  unfold bgn
  rw [List.take_succ_eq_append_getElem h, List.filter_append, List.length_append]
  cases hc : cs[i].2.1 <;> simp [hc]
theorem bgn_le (cs : List Ch) : bgn cs ≤ cs.length := List.length_filter_le _ _
theorem apl_old (t : Int) : ∀ (cs : List Ch) (rs : List Rw) (k : Nat) (h : k < rs.length), ∃ r, (apl t rs cs)[k]? = some r ∧ r.1 = rs[k].1 ∧ ((∀ c ∈ cs, c.1 ≠ rs[k].1) → r = rs[k])
  | [], rs, k, h => ⟨rs[k], by simp [apl, h], rfl, fun _ => rfl⟩
  | c :: cs, rs, k, h => by
    have hs : (stp t rs c)[k]? = some (endR t c.1 rs[k]) := by
      unfold stp
      rw [List.getElem?_append_left (by simpa using h)]
      simp [h]
    have hlt : k < (stp t rs c).length := by rw [stp_len]; omega
    have he : (stp t rs c)[k] = endR t c.1 rs[k] := by
      have := List.getElem?_eq_getElem hlt
      rw [hs] at this; injection this with this; exact this.symm
    obtain ⟨r, h1, h2, h3⟩ := apl_old t cs (stp t rs c) k hlt
    rw [he] at h2 h3
    refine ⟨r, h1, by rw [h2, endR_id], fun hn => ?_⟩
    have hne : c.1 ≠ rs[k].1 := hn c (by simp)
    rw [h3 (fun d hd => by rw [endR_id]; exact hn d (by simp [hd])), endR_ne (fun q => hne q.symm)]
theorem apl_new (t : Int) : ∀ (cs : List Ch) (rs : List Rw) (k : Nat) (r : Rw), rs.length ≤ k → (apl t rs cs)[k]? = some r → ∃ c ∈ cs, r.1 = c.1
  | [], rs, k, r, h, hr => by
    have hq : rs[k]? = some r := hr
    rw [List.getElem?_eq_none h] at hq; cases hq
  | c :: cs, rs, k, r, h, hr => by
    have hr' : (apl t (stp t rs c) cs)[k]? = some r := hr
    by_cases hk : (stp t rs c).length ≤ k
    · obtain ⟨d, hd, e⟩ := apl_new t cs _ k r hk hr'
      exact ⟨d, by simp [hd], e⟩
    · have hlt : k < (stp t rs c).length := by omega
      obtain ⟨r', h1, h2, _⟩ := apl_old t cs (stp t rs c) k hlt
      rw [h1] at hr'
      injection hr' with hr'
      subst hr'
      refine ⟨c, by simp, ?_⟩
      rw [h2]
      have hl := stp_len t rs c
      cases hg : c.2.1
      · simp [hg] at hl
        have hk2 : k = rs.length := by omega
        subst hk2
        simp [stp, hg, newR]
      · simp [hg] at hl; omega
/-- What the rows keep to while changes are done. -/
def Inv (now : Int) (L : List Rw) (D : List Int) : Prop :=
  (∀ r ∈ L, rowb (now + 1) r = true) ∧ (L.map tr).Pairwise (fun x y => clash x y = false) ∧ ∀ r ∈ L, r.1 ∉ D → r.2.1 ≤ now ∧ (r.2.2.1 = 0 ∨ r.2.2.1 ≤ now)
theorem rowb_iff (now : Int) (r : Rw) : rowb now r = true ↔ ((1 ≤ r.1 ∧ r.1 ≤ 999999999) ∧ (1 ≤ r.2.1 ∧ r.2.1 ≤ now) ∧ (r.2.2.1 = 0 ∨ (r.2.1 < r.2.2.1 ∧ r.2.2.1 ≤ now))) ∧ shok r.2.2.2.1 r.2.2.2.2 = true := by
  simp [rowb, rwb, idb, and_assoc]
theorem inv_start {now : Int} {rs : List Rw} (h : rowsb now rs = true) : Inv now rs [] := by
  unfold rowsb at h
  simp only [Bool.and_eq_true, decide_eq_true_eq, List.all_eq_true] at h
  obtain ⟨⟨h0, hl⟩, hr, ha⟩ := h
  refine ⟨fun r hm => ?_, (apartR_iff _).1 ha, fun r hm _ => ?_⟩
  · have := (rowb_iff _ _).1 (hr r hm)
    rw [rowb_iff]
    exact ⟨⟨this.1.1, by omega, by omega⟩, this.2⟩
  · have := (rowb_iff _ _).1 (hr r hm)
    omega
theorem thr_not {r : Tr} {s : Int} (h : s < r.2.1 ∨ (r.2.2 ≠ 0 ∧ r.2.2 ≤ s)) : thr r s = false := by
  unfold thr
  rw [Bool.and_eq_false_iff]
  rcases h with h | h
  · left; simpa using h
  · right
    rw [Bool.or_eq_false_iff]
    exact ⟨by simpa using h.1, by simpa using h.2⟩
theorem not_thr {r : Tr} {s : Int} (h : thr r s = false) : s < r.2.1 ∨ (r.2.2 ≠ 0 ∧ r.2.2 ≤ s) := by
  unfold thr at h
  rw [Bool.and_eq_false_iff] at h
  rcases h with h | h
  · left; simpa using h
  · right
    rw [Bool.or_eq_false_iff] at h
    exact ⟨by simpa using h.1, by simpa using h.2⟩
theorem thr_end {t id : Int} {r : Rw} {s : Int} (h : thr (tr r) s = false) : thr (tr (endR t id r)) s = false := by
  by_cases hc : r.1 = id ∧ r.2.2.1 = 0
  · rw [endR_yes hc.1 hc.2]
    rcases not_thr h with q | q
    · exact thr_not (.inl q)
    · exact absurd hc.2 q.1
  · unfold endR; rw [if_neg hc]; exact h
theorem clash_end {t id : Int} {x y : Rw} (h : clash (tr x) (tr y) = false) : clash (tr (endR t id x)) (tr (endR t id y)) = false := by
  unfold clash at h ⊢
  rw [show (tr (endR t id x)).1 = (tr x).1 from endR_id _ _ _, show (tr (endR t id y)).1 = (tr y).1 from endR_id _ _ _, show (tr (endR t id x)).2.1 = (tr x).2.1 from endR_fr _ _ _, show (tr (endR t id y)).2.1 = (tr y).2.1 from endR_fr _ _ _]
  rw [Bool.and_eq_false_iff] at h ⊢
  rcases h with h | h
  · exact .inl h
  · rw [Bool.or_eq_false_iff] at h
    exact .inr (by rw [thr_end h.1, thr_end h.2]; rfl)
theorem inv_step {now : Int} {L : List Rw} {D : List Int} {c : Ch} (h0 : 0 ≤ now) (h : Inv now L D) (hc : cgb c = true) (hd : c.1 ∉ D) : Inv now (stp (now + 1) L c) (D ++ [c.1]) := by
  obtain ⟨h1, h2, h3⟩ := h
  have hcb : (1 ≤ c.1 ∧ c.1 ≤ 999999999) ∧ (c.2.1 = false → shok c.2.2.1 c.2.2.2 = true) := by
    unfold cgb at hc
    rw [Bool.and_eq_true] at hc
    refine ⟨by simpa [idb] using hc.1, fun hg => ?_⟩
    have := hc.2
    rw [hg] at this
    simpa using this
  have hold : ∀ r ∈ L, rowb (now + 1) (endR (now + 1) c.1 r) = true := by
    intro r hm
    have hr := (rowb_iff _ _).1 (h1 r hm)
    by_cases hq : r.1 = c.1 ∧ r.2.2.1 = 0
    · have := h3 r hm (by rw [hq.1]; exact hd)
      rw [endR_yes hq.1 hq.2, rowb_iff]
      exact ⟨⟨hr.1.1, hr.1.2.1, .inr ⟨by dsimp only; omega, by dsimp only; omega⟩⟩, hr.2⟩
    · unfold endR; rw [if_neg hq]; exact h1 r hm
  refine ⟨fun r hm => ?_, ?_, fun r hm hn => ?_⟩
  · unfold stp at hm
    rw [List.mem_append] at hm
    rcases hm with hm | hm
    · obtain ⟨r', hr', rfl⟩ := List.mem_map.1 hm
      exact hold r' hr'
    · cases hg : c.2.1
      · simp [hg] at hm
        subst hm
        rw [rowb_iff]
        exact ⟨⟨hcb.1, by simp [newR]; omega, .inl rfl⟩, hcb.2 hg⟩
      · simp [hg] at hm
  · unfold stp
    rw [List.map_append, List.pairwise_append]
    refine ⟨?_, ?_, ?_⟩
    · rw [List.map_map, List.pairwise_map]
      rw [List.pairwise_map] at h2
      exact h2.imp (fun hxy => clash_end hxy)
    · cases c.2.1 <;> simp
    · intro x hx y hy
      cases hg : c.2.1
      · simp [hg] at hy
        subst hy
        rw [List.map_map] at hx
        obtain ⟨r, hr, rfl⟩ := List.mem_map.1 hx
        show clash (tr (endR (now + 1) c.1 r)) (tr (newR (now + 1) c)) = false
        unfold clash
        rw [Bool.and_eq_false_iff]
        by_cases hid : r.1 = c.1
        · right
          have hrr := h3 r hr (by rw [hid]; exact hd)
          rw [Bool.or_eq_false_iff]
          constructor
          · by_cases hq : r.2.2.1 = 0
            · rw [endR_yes hid hq]
              exact thr_not (.inr ⟨by show now + 1 ≠ 0; omega, by show now + 1 ≤ now + 1; omega⟩)
            · rw [endR_to hq]
              exact thr_not (.inr ⟨hq, by show r.2.2.1 ≤ now + 1; omega⟩)
          · rw [show (tr (endR (now + 1) c.1 r)).2.1 = r.2.1 from endR_fr _ _ _]
            exact thr_not (.inl (by show r.2.1 < now + 1; omega))
        · left
          rw [show (tr (endR (now + 1) c.1 r)).1 = r.1 from endR_id _ _ _]
          show decide (c.1 = r.1) = false; simpa using fun q : c.1 = r.1 => hid q.symm
      · simp [hg] at hy
  · unfold stp at hm
    rw [List.mem_append] at hm
    rcases hm with hm | hm
    · obtain ⟨r', hr', rfl⟩ := List.mem_map.1 hm
      rw [endR_id] at hn
      have hne : r'.1 ≠ c.1 := fun q => hn (by simp [q])
      rw [endR_ne hne]
      exact h3 r' hr' (fun q => hn (by simp [q]))
    · cases hg : c.2.1
      · simp [hg] at hm
        subst hm
        exact absurd (by simp [newR]) hn
      · simp [hg] at hm
theorem inv_all {now : Int} (h0 : 0 ≤ now) : ∀ (cs : List Ch) (L : List Rw) (D : List Int), Inv now L D → (∀ c ∈ cs, cgb c = true) → (cs.map (fun x => x.1)).Nodup → (∀ c ∈ cs, c.1 ∉ D) → ∃ D', Inv now (apl (now + 1) L cs) D'
  | [], L, D, h, _, _, _ => ⟨D, h⟩
  | c :: cs, L, D, h, h1, h2, h3 => by
    rw [List.map_cons, List.nodup_cons] at h2
    refine inv_all h0 cs (stp (now + 1) L c) (D ++ [c.1]) (inv_step h0 h (h1 c (by simp)) (h3 c (by simp))) (fun d hd => h1 d (by simp [hd])) h2.2 (fun d hd => ?_)
    have ha := h3 d (by simp [hd])
    have hb : d.1 ≠ c.1 := fun q => h2.1 (by rw [← q]; exact List.mem_map.2 ⟨d, hd, rfl⟩)
    simp [ha, hb]
theorem rowsb_parts {now : Int} {rs : List Rw} (h : rowsb now rs = true) : 0 ≤ now ∧ rs.length ≤ 300 ∧ (∀ r ∈ rs, rowb now r = true) ∧ (rs.map tr).Pairwise (fun x y => clash x y = false) := by
  unfold rowsb at h
  simp only [Bool.and_eq_true, decide_eq_true_eq, List.all_eq_true] at h
  exact ⟨h.1.1, h.1.2, h.2.1, (apartR_iff _).1 h.2.2⟩
theorem cgs_parts {cs : List Ch} (h : cgs cs = true) : (∀ c ∈ cs, cgb c = true) ∧ (cs.map (fun x => x.1)).Nodup := by
  unfold cgs at h
  simp only [Bool.and_eq_true, decide_eq_true_eq, List.all_eq_true] at h
  exact h
/-- What comes out of right rows and changes is right, but for how many rows there are. -/
theorem apl_ok {now : Int} {rs : List Rw} {cs : List Ch} (h : rowsb now rs = true) (hc : cgs cs = true) : rowsb (now + 1) (apl (now + 1) rs cs) = decide (rs.length + bgn cs ≤ 300) := by
  obtain ⟨h0, _, _, _⟩ := rowsb_parts h
  obtain ⟨c1, c2⟩ := cgs_parts hc
  obtain ⟨D', i1, i2, _⟩ := inv_all h0 cs rs [] (inv_start h) c1 c2 (fun _ _ => by simp)
  unfold rowsb
  rw [(apartR_iff _).2 i2, show (apl (now + 1) rs cs).all (rowb (now + 1)) = true from List.all_eq_true.2 i1, apl_len]
  simp; omega
/-- Of right rows one of an id goes on at most. -/
theorem last_one {now : Int} {rs : List Rw} (h : rowsb now rs = true) {i j : Nat} (hi : i < rs.length) (hj : j < rs.length) (e : rs[i].1 = rs[j].1) (h1 : rs[i].2.2.1 = 0) (h2 : rs[j].2.2.1 = 0) : i = j := by
  obtain ⟨_, _, _, hp⟩ := rowsb_parts h
  rw [List.pairwise_iff_getElem] at hp
  have key : ∀ a b (ha : a < rs.length) (hb : b < rs.length), a < b → rs[a].1 = rs[b].1 → rs[a].2.2.1 = 0 → rs[b].2.2.1 = 0 → False := by
    intro a b ha hb hab e1 z1 z2
    have := hp a b (by simpa using ha) (by simpa using hb) hab
    simp only [List.getElem_map] at this
    simp [clash, thr, tr, e1, z1, z2] at this
    omega
  rcases Nat.lt_trichotomy i j with q | q | q
  · exact (key i j hi hj q e h1 h2).elim
  · exact q
  · exact (key j i hj hi q e.symm h2 h1).elim
theorem take_ids {cs : List Ch} (hn : (cs.map (fun x => x.1)).Nodup) {i : Nat} (hi : i < cs.length) : ∀ c ∈ cs.take i, c.1 ≠ cs[i].1 := by
  intro c hc e
  obtain ⟨k, hk, rfl⟩ := List.getElem_of_mem hc
  simp only [List.length_take] at hk
  rw [List.getElem_take] at e
  rw [List.Nodup, List.pairwise_map, List.pairwise_iff_getElem] at hn
  exact hn k i (by omega) hi (by omega) e
/-- Where a row of the id goes on, it alone is ended. -/
theorem map_end_yes {now t : Int} {rs : List Rw} {cs : List Ch} (h : rowsb now rs = true) (hn : (cs.map (fun x => x.1)).Nodup) {i j : Nat} (hi : i < cs.length) (hj : j < rs.length) (e : rs[j].1 = cs[i].1) (z : rs[j].2.2.1 = 0) :
    ∃ hl : j < (apl t rs (cs.take i)).length, (apl t rs (cs.take i))[j] = rs[j] ∧ (apl t rs (cs.take i)).map (endR t cs[i].1) = (apl t rs (cs.take i)).set j (rs[j].1, rs[j].2.1, t, rs[j].2.2.2.1, rs[j].2.2.2.2) := by
  have hid := take_ids hn hi
  have hl : j < (apl t rs (cs.take i)).length := by rw [apl_len]; omega
  obtain ⟨r, q1, q2, q3⟩ := apl_old t (cs.take i) rs j hj
  have q4 := q3 (fun c hc => by rw [e]; exact hid c hc)
  have hat : (apl t rs (cs.take i))[j] = rs[j] := by
    rw [List.getElem?_eq_getElem hl] at q1; injection q1 with q1; rw [q1, q4]
  refine ⟨hl, hat, ?_⟩
  apply List.ext_getElem
  · simp
  intro k hk1 hk2
  simp only [List.length_map] at hk1
  rw [List.getElem_map, List.getElem_set]
  by_cases ek : j = k
  · subst ek
    rw [if_pos rfl, hat, endR_yes e z]
  · rw [if_neg ek]
    by_cases hkr : k < rs.length
    · obtain ⟨r', p1, p2, p3⟩ := apl_old t (cs.take i) rs k hkr
      have hr' : (apl t rs (cs.take i))[k] = r' := by rw [List.getElem?_eq_getElem hk1] at p1; injection p1
      rw [hr']
      by_cases hidk : rs[k].1 = cs[i].1
      · have := p3 (fun c hc => by rw [hidk]; exact hid c hc)
        rw [this]
        by_cases hz : rs[k].2.2.1 = 0
        · exact absurd (last_one h hj hkr (by rw [e, hidk]) z hz) ek
        · rw [endR_to hz]
      · rw [endR_ne (by rw [p2]; exact hidk)]
    · obtain ⟨c, hc, ec⟩ := apl_new t (cs.take i) rs k _ (by omega) (List.getElem?_eq_getElem hk1)
      rw [endR_ne (by rw [ec]; exact hid c hc)]
theorem map_end_no {t : Int} {rs : List Rw} {cs : List Ch} (hn : (cs.map (fun x => x.1)).Nodup) {i : Nat} (hi : i < cs.length) (hno : ∀ j (hj : j < rs.length), rs[j].1 = cs[i].1 → rs[j].2.2.1 ≠ 0) :
    (apl t rs (cs.take i)).map (endR t cs[i].1) = apl t rs (cs.take i) := by
  have hid := take_ids hn hi
  apply List.ext_getElem
  · simp
  intro k hk1 hk2
  rw [List.getElem_map]
  by_cases hkr : k < rs.length
  · obtain ⟨r', p1, p2, p3⟩ := apl_old t (cs.take i) rs k hkr
    have hr' : (apl t rs (cs.take i))[k] = r' := by rw [List.getElem?_eq_getElem hk2] at p1; injection p1
    rw [hr']
    by_cases hidk : rs[k].1 = cs[i].1
    · have := p3 (fun c hc => by rw [hidk]; exact hid c hc)
      rw [this, endR_to (hno k hkr hidk)]
    · rw [endR_ne (by rw [p2]; exact hidk)]
  · obtain ⟨c, hc, ec⟩ := apl_new t (cs.take i) rs k _ (by omega) (List.getElem?_eq_getElem hk2)
    rw [endR_ne (by rw [ec]; exact hid c hc)]
end Go.Proofs.YtfjmbbjcghopgaaGreatDoor
namespace Go.Proofs.YtfjmbbjcghopgaaGreatDoor
open Go.RowKit Go.Maps
set_option linter.unusedSimpArgs false
set_option linter.unusedVariables false
theorem Tryz.laidK : laidOutB Tryz.prog = true := by kernel_rfl
theorem Tryz.keyTyK : Tryz.prog.keyType 80 = true := by kernel_rfl
theorem Tryz.cellsK : Tryz.prog.cellsOf 80 = 2 := by kernel_rfl
theorem Tryz.cells3K : Tryz.prog.cellsOf 3 = 1 := by kernel_rfl
theorem Tryz.undK : Tryz.prog.underlying 80 = some (.array 2 3) := by kernel_rfl
theorem Tryz.wideK : (match Tryz.prog.underlying 80 with | some (.array _ _) | some (.struct _) => true | _ => false) = true := by rw [Tryz.undK]
theorem Tryz.rowK : (80 : TypeId) < Tryz.prog.types.size := of_decide_eq_true (by kernel_rfl)
theorem Tryz.deepK : Tryz.prog.keyTypeAt 4 80 = true := by kernel_rfl
set_option maxRecDepth 100000 in
theorem Tryz.lawK : Keyed Tryz.prog 80 := Keyed.of_law (deep_law_laid (P := Tryz.prog) Tryz.laidK (m := 4) (Nat.le_of_ble_eq_true rfl) Tryz.rowK Tryz.deepK Tryz.wideK)
theorem Tryz.zeroK (w : World) : (zeroValue 3).run Tryz.prog w = .ok (.int .i64 0) w := by kernel_rfl
theorem pos_size {n k : Nat} (h : k < n) : ∃ d, n = d + 1 := ⟨n - 1, by omega⟩
def i64w (k : Int) : Prop := -9223372036854775808 ≤ k ∧ k ≤ 9223372036854775807
set_option maxRecDepth 100000 in
/-- What a key reads as. -/
theorem key_is (a b : Int) (ha : i64w a) (hb : i64w b) : ∃ kl, keyOf Tryz.prog 80 (.agg #[.int .i64 a, .int .i64 b]) = some kl := by
  have hf : (Value.agg #[.int .i64 a, .int .i64 b]).formed Tryz.prog 80 = true := by simp [Value.formed, Tryz.undK, Tryz.cellsK]
  have wa : (Lit.int .i64 a).wf = true := WalkArith.wf_i64 ha
  have wb : (Lit.int .i64 b).wf = true := WalkArith.wf_i64 hb
  obtain ⟨d, hd⟩ := pos_size Tryz.rowK
  unfold keyOf
  rw [Tryz.undK]
  simp only []
  rw [Tryz.keyTyK, hf, hd]
  simp [Program.keyLits, Tryz.undK, Tryz.underlying3, Tryz.cellsK, Tryz.cells3K, Value.cells, List.range, List.range.loop, wa, wb]
noncomputable def kyL (a b : Int) : Lit := (keyOf Tryz.prog 80 (.agg #[.int .i64 a, .int .i64 b])).getD (.bool false)
/-- The key of an id and an end. -/
theorem kyL_is {a b : Int} (ha : i64w a) (hb : i64w b) : keyOf Tryz.prog 80 (.agg #[.int .i64 a, .int .i64 b]) = some (kyL a b) := by
  obtain ⟨kl, h⟩ := key_is a b ha hb
  unfold kyL
  rw [h]; rfl
set_option maxRecDepth 100000 in
theorem kyL_ne {a b c d : Int} (ha : i64w a) (hb : i64w b) (hc : i64w c) (hd : i64w d) (h : ¬ (a = c ∧ b = d)) : kyL a b ≠ kyL c d := by
  intro e
  have h1 := kyL_is ha hb
  have h2 := kyL_is hc hd
  rw [← e] at h2
  have := Keyed.inj Tryz.lawK h1 h2
  simp at this
  exact h this
set_option maxRecDepth 100000 in
theorem kyL_key {a b : Int} (ha : i64w a) (hb : i64w b) : WideAt.IsKeyLit (kyL a b) := Keyed.key Tryz.lawK (kyL_is ha hb)
/-- The map after i rows: the places of the rows that go on. -/
def MP (rs : List Rw) (i : Nat) (D : DataW Unit) : Prop :=
  IsMap D ∧ ∀ id, i64w id → (has D (kyL id 0) = true → ∃ (m : Nat) (hm : m < rs.length), rs[m].1 = id ∧ rs[m].2.2.1 = 0 ∧ D.atKey (kyL id 0) (.lit (.int .i64 0)) = .lit (.int .i64 m)) ∧ (has D (kyL id 0) = false → ∀ (m : Nat) (hm : m < rs.length), m < i → rs[m].1 = id → rs[m].2.2.1 ≠ 0)
theorem MP.start (rs : List Rw) : MP rs 0 (.map []) := ⟨isMap_empty, fun id _ => ⟨fun h => by simp [has] at h, fun _ m hm hh => by omega⟩⟩
set_option maxRecDepth 100000 in
theorem MP.next {rs : List Rw} {i : Nat} {D : DataW Unit} (h : MP rs i D) (hi : i < rs.length) (hw : i64w rs[i].1) (ht : i64w rs[i].2.2.1) : MP rs (i + 1) (D.put (kyL rs[i].1 rs[i].2.2.1) (.lit (.int .i64 i))) := by
  obtain ⟨h1, h2⟩ := h
  refine ⟨h1.put _ _, fun id hid => ?_⟩
  have z0 : i64w 0 := ⟨by omega, by omega⟩
  by_cases e : rs[i].1 = id ∧ rs[i].2.2.1 = 0
  · have ek : kyL rs[i].1 rs[i].2.2.1 = kyL id 0 := by rw [e.1, e.2]
    rw [ek]
    have hkk := kyL_key hid z0
    refine ⟨fun _ => ⟨i, hi, e.1, e.2, atKey_put_same h1 hkk _ _⟩, fun hf => ?_⟩
    rw [has_put_same h1 hkk] at hf
    cases hf
  · have hne : kyL id 0 ≠ kyL rs[i].1 rs[i].2.2.1 := kyL_ne hid z0 hw ht (fun q => e ⟨q.1.symm, q.2.symm⟩)
    rw [has_put_other hne, atKey_put_other hne]
    obtain ⟨a1, a2⟩ := h2 id hid
    refine ⟨a1, fun hf m hm hlt hq hz => ?_⟩
    by_cases em : m = i
    · subst em; exact e ⟨hq, hz⟩
    · exact a2 hf m hm (by omega) hq hz
theorem make_mapK (n : Nat) (w : World) : (Instr.makeMap 76 (some (.int .i64 n))).run Tryz.prog w = .ok (.map (some w.heap.size)) (w.alloc (.map #[] 0)) := by
  have hu := Tryz.underlying76
  simp [Instr.makeMap, hu, go_sem]
end Go.Proofs.YtfjmbbjcghopgaaGreatDoor
namespace Go.Proofs.YtfjmbbjcghopgaaGreatDoor
open Go.RowKit Go.Maps
set_option linter.unusedSimpArgs false
set_option linter.unusedVariables false
theorem bdrewN2 {w a : World} (h : Below w.heap.size w a) {n : Nat} : Below w.heap.size w (a.drewN n) := ⟨h.1, h.2, h.3, h.4, h.5⟩
def IdW (rs : List Rw) : Prop := ∀ m (h : m < rs.length), i64w rs[m].1 ∧ i64w rs[m].2.2.1
/-- What placesByEnd answers. -/
def PB (w : World) (rs : List Rw) (e : Ending) (w' : World) : Prop :=
  ∃ (B n : Nat) (D : DataW Unit), e = .returned (.map (some B)) ∧ w.heap.size ≤ B ∧ w'.ownsMap Tryz.prog 80 (plainElem Tryz.prog 3) B n D ∧ MP rs rs.length D ∧ Below w.heap.size w w'
set_option maxRecDepth 100000 in
set_option maxHeartbeats 2000000 in
theorem places_c {N : Nat → Prop} (a : Option Addr) (cap : Nat) (rs : List Rw) (w : World) (hm : rs.length ≤ 1099511627776) (hk : IdW rs) (h : Rws N w a rs) : Calls Tryz.prog 43 #[.slice a rs.length cap] w fun e w' => PB w rs e w' := by
  have HR := hid h
  have HK := hid hk
  have HEND : Hid (∀ (W : World) (D : DataW Unit), W.ownsMap Tryz.prog 80 (plainElem Tryz.prog 3) w.heap.size rs.length D → MP rs rs.length D → Below w.heap.size w W → PB w rs (.returned (.map (some w.heap.size))) W) := hid (fun W D h1 h2 h3 => ⟨_, _, D, rfl, Nat.le_refl _, h1, h2, h3⟩)
  obtain ⟨n, hn⟩ : ∃ n, n = rs.length := ⟨_, rfl⟩
  have HN := hid hn.symm
  rw [← hn] at hm HEND ⊢
  clear hn h hk
  have hmm := make_mapK n
  go_enter Tryz.func43, Tryz.ntmps43
  go_wp2_with fail
  clear hmm
  go_loopw [11] (fun ti wr => ∃ i : Nat, ti = .int .i64 i ∧ i ≤ n ∧ Hid (Below w.heap.size w wr) ∧ Hid (∃ D : DataW Unit, wr.ownsMap Tryz.prog 80 (plainElem Tryz.prog 3) w.heap.size i D ∧ MP rs i D)) (fun ti _ => n - (intOf ti).toNat)
  case atStart => exact ⟨0, rfl, Nat.zero_le _, hid ((Below.refl _ _).alloc (Nat.le_refl _) _), hid ⟨_, World.ownsMap_made _ _ _ _, MP.start rs⟩⟩
  case round =>
    obtain ⟨i, rfl, hi, HBW, HO⟩ := hrel
    by_cases hlt : i < n
    · have d1 : (i : Int) < (n : Int) := by omega
      have d0 : (0 : Int) ≤ (i : Int) := by omega
      have hir : i < rs.length := by rw [HN.out]; exact hlt
      obtain ⟨D, hown, hmp⟩ := HO.out
      obtain ⟨w1, w2⟩ := HK.out i hir
      have hkey := kyL_is w1 w2
      have HMP := hid (hmp.next hir w1 w2)
      obtain ⟨b, o, rfl, hbs, a', cap', k0, k1, k2, k3, k4, _⟩ := (HR.out.at i hir)
      replace k0 := keepcell HBW.out k0
      replace k1 := keepcell HBW.out k1
      replace k2 := keepcell HBW.out k2
      replace k3 := keepcell HBW.out k3
      replace k4 := keepcell HBW.out k4
      clear HO hmp w1 w2
      generalize rs[i].2.2.2.2.length = v4 at *
      generalize rs[i].2.2.2.1 = v3 at *
      generalize rs[i].2.2.1 = v2 at *
      generalize rs[i].2.1 = v1 at *
      generalize rs[i].1 = v0 at *
      have HOW := hid hown
      have HKEY := hid hkey
      clear hown hkey
      have hBx : Below wr.heap.size wr (wr.alloc (.cells #[.int .i64 v0, .int .i64 v1, .int .i64 v2, .int .i64 v3, .slice a' v4 cap'] 54)) := balloc (Below.refl _ _) _
      have gx := new_alloc wr wr.heap.size (.cells #[.int .i64 v0, .int .i64 v1, .int .i64 v2, .int .i64 v3, .slice a' v4 cap'] 54) rfl
      go_upto_region 5 with fail
      have HB1 := hid (btrans HBW.out hBx)
      have HO1 := hid (HOW.out.alloc (.cells #[.int .i64 v0, .int .i64 v1, .int .i64 v2, .int .i64 v3, .slice a' v4 cap'] 54))
      clear k0 k1 k2 k3 k4 hBx HOW
      generalize wr.alloc (.cells #[.int .i64 v0, .int .i64 v1, .int .i64 v2, .int .i64 v3, .slice a' v4 cap'] 54) = W1 at *
      obtain ⟨X, hX⟩ : ∃ X, X = wr.heap.size := ⟨_, rfl⟩
      rw [← hX] at gx ⊢
      clear hX
      obtain ⟨⟨x0, x1, x2, x3, x4⟩, _⟩ := cell5g gx
      go_wp2_with (first
        | (at_mapUpdate; refine wpList_mapUpdate_own _ rfl _ _ _ 76 rfl 80 3 Tryz.lawK Tryz.underlying76 (plainElem Tryz.prog 3) w.heap.size i D rfl HO1.out (by unfold maxLen; omega) _ _ _ rfl rfl HKEY.out (.lit (.int .i64 i)) [] (plainElem_int Tryz.underlying3 (WalkArith.wf_i64 (by omega))) ?_)
        | go_in)
      intro y hown1 hgrow1
      have R2 := hid (HB1.out.grown hgrow1 HB1.out.size (fun j hj => by cases hj; exact Nat.le_refl _))
      have R1 : Hid (∃ D : DataW Unit, y.ownsMap Tryz.prog 80 (plainElem Tryz.prog 3) w.heap.size (i + 1) D ∧ MP rs (i + 1) D) := hid ⟨_, hown1, HMP.out⟩
      clear hown1 hgrow1 HO1
      go_wp2_with fail
      go_roundw
      case rel => exact ⟨i + 1, by go_num, by omega, R2, R1⟩
      case measure => simp [intOf]; omega
    · have hin : i = n := by omega
      have HF : Hid (PB w rs (.returned (.map (some w.heap.size))) wr) := hid (by
        obtain ⟨D, h1, h2⟩ := HO.out
        subst hin
        exact HEND.out _ D h1 h2 HBW.out)
      clear hin HO
      go_wp2_with fail
      go_ret
      exact HF.out
set_option maxHeartbeats 2000000 in
theorem begun_c {N : Nat → Prop} (a : Option Addr) (cap : Nat) (cs : List Ch) (w : World) (hm : cs.length ≤ 1099511627776) (h : Chs N 1099511627776 w a cs) : Calls Tryz.prog 42 #[.slice a cs.length cap] w fun e w' => e = .returned (.int .i64 (bgn cs)) ∧ Below w.heap.size w w' := by
  have HR := hid h
  have HBG : Hid (∀ i (h : i < cs.length), bgn (cs.take (i + 1)) = bgn (cs.take i) + (if cs[i].2.1 = true then 0 else 1)) := hid (fun i h => bgn_next cs h)
  have HALL : Hid (bgn (cs.take cs.length) = bgn cs) := hid (by rw [List.take_length])
  have HLE : Hid (∀ i, bgn (cs.take i) ≤ cs.length) := hid (fun i => Nat.le_trans (bgn_le _) (by simp; omega))
  generalize bgn cs = bz at *
  obtain ⟨n, hn⟩ : ∃ n, n = cs.length := ⟨_, rfl⟩
  have HN := hid hn.symm
  rw [← hn] at hm HALL HLE ⊢
  clear hn h
  go_enter Tryz.func42, Tryz.ntmps42
  go_wp2_with fail
  go_loopw [3, 8] (fun tn ti wr => ∃ i k : Nat, ti = .int .i64 i ∧ tn = .int .i64 k ∧ i ≤ n ∧ k ≤ n ∧ Hid (k = bgn (cs.take i)) ∧ Hid (Below w.heap.size w wr)) (fun _ ti _ => n - (intOf ti).toNat)
  case atStart => exact ⟨0, 0, rfl, rfl, Nat.zero_le _, Nat.zero_le _, hid rfl, hid (Below.refl _ _)⟩
  case round =>
    obtain ⟨i, k, rfl, rfl, hi, hk, HKB, HBW⟩ := hrel
    by_cases hlt : i < n
    · have d1 : (i : Int) < (n : Int) := by omega
      have d0 : (0 : Int) ≤ (i : Int) := by omega
      have hir : i < cs.length := by rw [HN.out]; exact hlt
      obtain ⟨b, o, rfl, hbs, a', cap', k0, k1, k2, k3, _⟩ := (HR.out.at i hir)
      replace k0 := keepcell HBW.out k0
      replace k1 := keepcell HBW.out k1
      replace k2 := keepcell HBW.out k2
      replace k3 := keepcell HBW.out k3
      have HNX := hid (HBG.out i hir)
      have HL1 := hid (HLE.out (i + 1))
      generalize cs[i].2.2.2.length = v3 at *
      generalize cs[i].2.2.1 = v2 at *
      generalize cs[i].2.1 = v1 at *
      generalize cs[i].1 = v0 at *
      cases v1
      · have hk1 : k + 1 ≤ n := by have h1 := HNX.out; have h2 := HL1.out; have h3 := HKB.out; simp at h1; omega
        have HK1 : Hid (k + 1 = bgn (cs.take (i + 1))) := hid (by rw [HNX.out, ← HKB.out]; rfl)
        go_wp2_with fail
        go_roundw
        case rel => exact ⟨i + 1, k + 1, by go_num, by go_num, by omega, hk1, HK1, hid (balloc HBW.out _)⟩
        case measure => simp [intOf]; omega
      · have HK1 : Hid (k = bgn (cs.take (i + 1))) := hid (by rw [HNX.out, ← HKB.out]; rfl)
        go_wp2_with fail
        go_roundw
        case rel => exact ⟨i + 1, k, by go_num, rfl, by omega, hk, HK1, hid (balloc HBW.out _)⟩
        case measure => simp [intOf]; omega
    · have hin : i = n := by omega
      have HF : Hid (k = bz) := hid (by rw [HKB.out, hin, HALL.out])
      clear hin
      go_wp2_with fail
      go_ret
      exact ⟨by rw [HF.out]; rfl, HBW.out⟩
set_option maxHeartbeats 2000000 in
theorem takes_c {N : Nat → Prop} (now : Int) (ra : Option Addr) (rn rcap : Nat) (a : Option Addr) (cap : Nat) (cs : List Ch) (w : World) (hrn : rn ≤ 1099511627776) (hm : cs.length ≤ 1099511627776) (h : Chs N 1099511627776 w a cs) : Calls Tryz.prog 26 #[.agg #[.int .i64 now, .slice ra rn rcap], .slice a cs.length cap] w fun e w' => e = .returned (.bool (decide (now ≤ 1000000000) && decide (rn + bgn cs ≤ 300))) ∧ Below w.heap.size w w' := by
  have hB : Below w.heap.size w (w.alloc (.cells #[.int .i64 now, .slice ra rn rcap] 24)) := balloc (Below.refl _ _) _
  have g0 := new_alloc w w.heap.size (.cells #[.int .i64 now, .slice ra rn rcap] 24) rfl
  have HBG := hid (fun (W : World) (hb : Below w.heap.size w W) => begun_c a cap cs W hm (h.below hb))
  have hle : bgn cs ≤ 1099511627776 := Nat.le_trans (bgn_le cs) hm
  generalize bgn cs = bz at *
  obtain ⟨n, hn⟩ : ∃ n, n = cs.length := ⟨_, rfl⟩
  rw [← hn] at HBG ⊢
  clear hn h hm
  go_enter Tryz.func26, Tryz.ntmps26
  go_upto_region 1 with fail
  have HB := hid hB
  clear hB
  generalize w.alloc (.cells #[.int .i64 now, .slice ra rn rcap] 24) = W at *
  obtain ⟨X, hX⟩ : ∃ X, X = w.heap.size := ⟨_, rfl⟩
  rw [← hX] at g0 ⊢
  clear hX
  obtain ⟨x0, x1⟩ := cell2 g0
  clear g0
  have hw1 : IntKind.i64.wrap ((rn : Int) + (bz : Int)) = (rn : Int) + (bz : Int) := by rw [IntKind.wrap_i64]; omega
  by_cases hnow : now ≤ 1000000000
  · have hd : decide (now ≤ 1000000000) = true := by simpa using hnow
    go_region_held3 (fun w' => w'.cell? ⟨X, 0, none⟩ = some (.int .i64 now) ∧ w'.cell? ⟨X, 1, none⟩ = some (.slice ra rn rcap)) ((go_split_ands; (repeat' apply And.intro) <;> (repeat (first | with_reducible assumption | with_reducible refine keepcell (by with_reducible assumption) ?_ | with_reducible refine keepdrew ?_ | with_reducible refine keepalloc ?_ _))))
      (first
        | (go_at_call 42; refine (HBG.out _ (bdrew HB.out)).mono ?_; rintro e w1 ⟨rfl, hb1⟩))
    go_wp2_with fail
    go_ret
    exact ⟨by congr 2; by_cases hq : rn + bz ≤ 300 <;> simp [hq, hnow] <;> omega, by have hBB := HB.out; (repeat (first | with_reducible exact Below.refl _ _ | with_reducible assumption | (with_reducible refine btrans ?_ (by with_reducible assumption)) | with_reducible refine bdrew ?_ | with_reducible refine balloc ?_ _))⟩
  · have hd : decide (now ≤ 1000000000) = false := by simpa using hnow
    go_quiet (fail)
    go_wp2_with fail
    go_ret
    exact ⟨by simp [hnow], by have hBB := HB.out; (repeat (first | with_reducible exact Below.refl _ _ | with_reducible assumption | (with_reducible refine btrans ?_ (by with_reducible assumption)) | with_reducible refine bdrew ?_ | with_reducible refine bdrewN2 ?_ | with_reducible refine balloc ?_ _))⟩
end Go.Proofs.YtfjmbbjcghopgaaGreatDoor
