/- Texts of stores, joined: Hg, Hl, DrawT, DrawL, Rows3. -/
import Derived.Test.YtninciflfolenaaGreatJ10
import Derived.Test.YtninciflfolenaaGreatJ8
import Derived.Test.YtninciflfolenaaGreatJ11
import Derived.Test.YtninciflfolenaaGreatHa
import Derived.OwnWalk
import Derived.Deep.AppendLies
import Derived.Test.YtninciflfolenaaGreatJ9
namespace Go.Proofs.YtninciflfolenaaGreat
open Go.RowKit
set_option linter.unusedSimpArgs false
set_option linter.unusedVariables false
theorem ids_some {now : Int} {rs : List Rw} {id m : Int} (h : id ∈ idsb now rs m) : (ratb now rs id m).isSome = true := by
  unfold idsb at h
  by_cases hr : rowsb now rs = true
  · rw [if_pos hr] at h
    unfold ratb rat
    rw [if_pos hr]
    have h2 : id ∈ idsT rs m := (List.mergeSort_perm (idsT rs m) _).mem_iff.1 h
    unfold idsT at h2
    obtain ⟨r, hr2, e⟩ := List.mem_map.1 h2
    obtain ⟨hr3, hr4⟩ := List.mem_filter.1 hr2
    rw [List.find?_isSome]
    refine ⟨r, hr3, ?_⟩
    unfold atb
    simp only [Bool.and_eq_true, decide_eq_true_eq]
    exact ⟨e, hr4⟩
  · rw [if_neg hr] at h
    simp at h
theorem find_congr {α : Type} {p q : α → Bool} : ∀ {l : List α}, (∀ x ∈ l, p x = q x) → l.find? p = l.find? q
  | [], _ => rfl
  | x :: r, h => by
    rw [List.find?_cons, List.find?_cons, h x (List.mem_cons_self ..), find_congr (fun y hy => h y (List.mem_cons_of_mem _ hy))]
end Go.Proofs.YtninciflfolenaaGreat
namespace Go.Proofs.YtninciflfolenaaGreat
open Go.RowKit
set_option linter.unusedSimpArgs false
set_option linter.unusedVariables false
/-- What is told of a row: its shape. -/
def shR (r : Rw) : Int × List (Int × Int) := r.2.2.2
/-- The rows of an id. -/
def FI (id : Int) (L : List Rw) : List Rw := L.filter (fun r => decide (r.1 = id))
theorem rat_FI (L : List Rw) (id m : Int) : rat L id m = (FI id L).find? (fun r => thr (tr r) m) := by
  unfold rat FI
  rw [List.find?_filter]
  apply find_congr
  intro r _
  unfold atb
  cases thr (tr r) m <;> simp
theorem thr_past {t id m : Int} {r : Rw} (h : m < t) : thr (tr (endR t id r)) m = thr (tr r) m := by
  unfold endR
  split
  · rename_i e
    unfold thr tr
    simp only
    rw [e.2]
    have h1 : decide (m < t) = true := by simpa using h
    rw [h1]
    simp
  · rfl
theorem map_find {α β : Type} (f : α → β) (p : β → Bool) : ∀ (l : List α), (l.map f).find? p = (l.find? (fun x => p (f x))).map f
  | [] => rfl
  | x :: r => by
    rw [List.map_cons, List.find?_cons, List.find?_cons, map_find f p r]
    cases p (f x) <;> rfl
theorem past_stp {t m id : Int} (h : m < t) (L : List Rw) (c : Ch) : (rat (stp t L c) id m).map shR = (rat L id m).map shR := by
  have hn : ∀ (l : List Rw), (l = [] ∨ l = [newR t c]) → l.find? (atb id m) = none := by
    intro l hl
    rcases hl with e | e
    · rw [e]; rfl
    · rw [e, List.find?_cons]
      have : atb id m (newR t c) = false := by
        unfold atb newR thr tr
        have h1 : decide (t ≤ m) = false := by simp; omega
        simp only
        rw [h1]; simp
      rw [this]; rfl
  unfold stp rat
  rw [List.find?_append, hn (if c.2.1 = true then [] else [newR t c]) (by split <;> simp), Option.or_none, map_find, Option.map_map]
  have e1 : (fun x => atb id m (endR t c.1 x)) = atb id m := by
    funext r
    unfold atb
    rw [thr_past h, endR_id]
  have e2 : shR ∘ endR t c.1 = shR := by
    funext r
    exact endR_pts t c.1 r
  rw [e1, e2]
theorem past_apl {t m id : Int} (h : m < t) : ∀ (cs : List Ch) (L : List Rw), (rat (apl t L cs) id m).map shR = (rat L id m).map shR
  | [], L => rfl
  | c :: r, L => by
    show (rat (apl t (stp t L c) r) id m).map shR = _
    rw [past_apl h r (stp t L c), past_stp h]
theorem ids_stp {t m : Int} (h : m < t) (L : List Rw) (c : Ch) : idsT (stp t L c) m = idsT L m := by
  unfold idsT stp
  rw [List.filter_append, List.map_append]
  have h1 : (if c.2.1 = true then [] else [newR t c]).filter (fun r => thr (tr r) m) = [] := by
    split
    · rfl
    · have : thr (tr (newR t c)) m = false := by
        unfold newR thr tr
        have h1 : decide (t ≤ m) = false := by simp; omega
        simp only
        rw [h1]; simp
      rw [List.filter_cons_of_neg (by rw [this]; simp)]
      rfl
  rw [h1, List.map_nil, List.append_nil, List.filter_map, List.map_map]
  have e1 : ((fun r => thr (tr r) m) ∘ endR t c.1) = (fun r => thr (tr r) m) := by
    funext r
    exact thr_past h
  have e2 : ((fun r : Rw => r.1) ∘ endR t c.1) = (fun r => r.1) := by
    funext r
    exact endR_id t c.1 r
  rw [e1, e2]
theorem ids_apl {t m : Int} (h : m < t) : ∀ (cs : List Ch) (L : List Rw), idsT (apl t L cs) m = idsT L m
  | [], L => rfl
  | c :: r, L => by
    show idsT (apl t (stp t L c) r) m = _
    rw [ids_apl h r (stp t L c), ids_stp h]
theorem FI_map {t id i : Int} (L : List Rw) : FI id (L.map (endR t i)) = (FI id L).map (endR t i) := by
  unfold FI
  rw [List.filter_map]
  congr 1
  apply List.filter_congr
  intro r _
  show decide ((endR t i r).1 = id) = _
  rw [endR_id]
theorem FI_ne {t id : Int} (L : List Rw) (c : Ch) (h : c.1 ≠ id) : FI id (stp t L c) = FI id L := by
  unfold stp
  have h0 : FI id (L.map (endR t c.1) ++ (if c.2.1 = true then [] else [newR t c])) = FI id (L.map (endR t c.1)) ++ FI id (if c.2.1 = true then [] else [newR t c]) := by unfold FI; rw [List.filter_append]
  have h1 : FI id (if c.2.1 = true then [] else [newR t c]) = [] := by
    unfold FI
    split
    · rfl
    · rw [List.filter_cons_of_neg (by show ¬ (decide (c.1 = id) = true); simpa using h)]
      rfl
  rw [h0, h1, List.append_nil, FI_map]
  have : (FI id L).map (endR t c.1) = (FI id L).map (fun r => r) := by
    apply List.map_congr_left
    intro r hr
    have := (List.mem_filter.1 hr).2
    simp only [decide_eq_true_eq] at this
    exact endR_ne (by rw [this]; exact fun e => h e.symm)
  rw [this]
  simp
theorem FI_eq {t : Int} (L : List Rw) (c : Ch) : FI c.1 (stp t L c) = (FI c.1 L).map (endR t c.1) ++ (if c.2.1 = true then [] else [newR t c]) := by
  unfold stp
  have h0 : FI c.1 (L.map (endR t c.1) ++ (if c.2.1 = true then [] else [newR t c])) = FI c.1 (L.map (endR t c.1)) ++ FI c.1 (if c.2.1 = true then [] else [newR t c]) := by unfold FI; rw [List.filter_append]
  rw [h0, FI_map]
  congr 1
  unfold FI
  split
  · rfl
  · rw [List.filter_cons_of_pos (by simp [newR])]
    rfl
theorem FI_apl_ne {t id : Int} : ∀ (cs : List Ch) (L : List Rw), (∀ c ∈ cs, c.1 ≠ id) → FI id (apl t L cs) = FI id L
  | [], L, _ => rfl
  | c :: r, L, h => by
    show FI id (apl t (stp t L c) r) = _
    rw [FI_apl_ne r (stp t L c) (fun x hx => h x (List.mem_cons_of_mem _ hx)), FI_ne L c (h c (List.mem_cons_self ..))]
theorem FI_apl_eq {t : Int} {c : Ch} : ∀ (cs : List Ch) (L : List Rw), (cs.map (fun x => x.1)).Nodup → c ∈ cs → FI c.1 (apl t L cs) = (FI c.1 L).map (endR t c.1) ++ (if c.2.1 = true then [] else [newR t c])
  | [], L, _, h => by simp at h
  | d :: r, L, hn, h => by
    rw [List.map_cons, List.nodup_cons] at hn
    show FI c.1 (apl t (stp t L d) r) = _
    by_cases e : d.1 = c.1
    · have hr : ∀ x ∈ r, x.1 ≠ c.1 := fun x hx q => hn.1 (by rw [e, ← q]; exact List.mem_map_of_mem hx)
      have hd : c = d := by
        rcases List.mem_cons.1 h with q | q
        · exact q
        · exact absurd rfl (hr c q)
      subst hd
      rw [FI_apl_ne r _ hr, FI_eq]
    · have hc : c ∈ r := by
        rcases List.mem_cons.1 h with q | q
        · exact absurd (by rw [q]) e
        · exact q
      rw [FI_apl_eq r (stp t L d) hn.2 hc, FI_ne L d e]
/-- What is there behind a change: nothing where it is gone, else its shape. -/
theorem rat_chg {now : Int} {rs : List Rw} {cs : List Ch} {c : Ch} (h : rowsb now rs = true) (hc : cgs cs = true) (hm : c ∈ cs) : rat (apl (now + 1) rs cs) c.1 (now + 1) = if c.2.1 = true then none else some (newR (now + 1) c) := by
  obtain ⟨h0, _, hr, _⟩ := rowsb_parts h
  rw [rat_FI, FI_apl_eq cs rs (cgs_parts hc).2 hm, List.find?_append]
  have hdead : ((FI c.1 rs).map (endR (now + 1) c.1)).find? (fun r => thr (tr r) (now + 1)) = none := by
    rw [List.find?_eq_none]
    intro r hr2
    obtain ⟨q, hq, e⟩ := List.mem_map.1 hr2
    obtain ⟨hq1, hq2⟩ := List.mem_filter.1 hq
    simp only [decide_eq_true_eq] at hq2
    have hb := (rowb_iff now q).1 (hr q hq1)
    subst e
    have : thr (tr (endR (now + 1) c.1 q)) (now + 1) = false := by
      apply thr_not
      right
      unfold endR
      split
      · show (now + 1 : Int) ≠ 0 ∧ (now + 1 : Int) ≤ now + 1
        omega
      · rename_i hne
        show q.2.2.1 ≠ 0 ∧ q.2.2.1 ≤ now + 1
        rcases hb.1.2.2 with q0 | q0
        · exact absurd ⟨hq2, q0⟩ hne
        · omega
    rw [this]; simp
  rw [hdead]
  split
  · rfl
  · have : thr (tr (newR (now + 1) c)) (now + 1) = true := by
      unfold newR thr tr
      simp
    simp [this]
theorem rat_same {now : Int} {rs : List Rw} {cs : List Ch} {id : Int} (h : rowsb now rs = true) (hn : ∀ c ∈ cs, c.1 ≠ id) : rat (apl (now + 1) rs cs) id (now + 1) = rat rs id now := by
  obtain ⟨h0, _, hr, _⟩ := rowsb_parts h
  rw [rat_FI, rat_FI, FI_apl_ne cs rs hn]
  apply find_congr
  intro r hr2
  obtain ⟨hq1, _⟩ := List.mem_filter.1 hr2
  have hb := (rowb_iff now r).1 (hr r hq1)
  unfold thr tr
  have e1 : decide (r.2.1 ≤ now + 1) = decide (r.2.1 ≤ now) := by rw [decide_eq_decide]; omega
  have e2 : (decide (r.2.2.1 = 0) || decide (now + 1 < r.2.2.1)) = (decide (r.2.2.1 = 0) || decide (now < r.2.2.1)) := by
    by_cases hz : r.2.2.1 = 0
    · simp [hz]
    · have a1 : decide (now + 1 < r.2.2.1) = false := by simp; omega
      have a2 : decide (now < r.2.2.1) = false := by simp; omega
      rw [a1, a2]
  show (decide (r.2.1 ≤ now + 1) && (decide (r.2.2.1 = 0) || decide (now + 1 < r.2.2.1))) = _
  rw [e1, e2]
theorem sh_parts {x y : Option Rw} (h : x.map shR = y.map shR) : raK x = raK y ∧ raP x = raP y ∧ x.isSome = y.isSome := by
  cases x with
  | none => cases y with
    | none => exact ⟨rfl, rfl, rfl⟩
    | some b => simp at h
  | some a => cases y with
    | none => simp at h
    | some b =>
      simp only [Option.map_some, Option.some.injEq] at h
      unfold shR at h
      refine ⟨?_, ?_, rfl⟩
      · show a.2.2.2.1 = b.2.2.2.1; rw [h]
      · show a.2.2.2.2 = b.2.2.2.2; rw [h]
/-- Of what Apply did: the moments ahead are as they were. -/
theorem ap_past {now m id : Int} {rs : List Rw} {cs : List Ch} (h : apb now rs cs = true) (hm : m ≤ now) : idsb (now + 1) (apl (now + 1) rs cs) m = idsb now rs m ∧ (ratb (now + 1) (apl (now + 1) rs cs) id m).map shR = (ratb now rs id m).map shR := by
  unfold apb at h
  simp only [Bool.and_eq_true, decide_eq_true_eq] at h
  have hr := apl_ok h.2.1 h.2.2
  rw [show decide (rs.length + bgn cs ≤ 300) = true by simpa using h.1.2] at hr
  unfold idsb ratb
  rw [if_pos hr, if_pos h.2.1, if_pos hr, if_pos h.2.1]
  exact ⟨by rw [ids_apl (by omega)], past_apl (by omega) cs rs⟩
theorem ap_chg {now : Int} {rs : List Rw} {cs : List Ch} {c : Ch} (h : apb now rs cs = true) (hm : c ∈ cs) : ratb (now + 1) (apl (now + 1) rs cs) c.1 (now + 1) = if c.2.1 = true then none else some (newR (now + 1) c) := by
  unfold apb at h
  simp only [Bool.and_eq_true, decide_eq_true_eq] at h
  have hr := apl_ok h.2.1 h.2.2
  rw [show decide (rs.length + bgn cs ≤ 300) = true by simpa using h.1.2] at hr
  unfold ratb
  rw [if_pos hr]
  exact rat_chg h.2.1 h.2.2 hm
theorem ap_same {now id : Int} {rs : List Rw} {cs : List Ch} (h : apb now rs cs = true) (hn : ∀ c ∈ cs, c.1 ≠ id) : ratb (now + 1) (apl (now + 1) rs cs) id (now + 1) = ratb now rs id now := by
  unfold apb at h
  simp only [Bool.and_eq_true, decide_eq_true_eq] at h
  have hr := apl_ok h.2.1 h.2.2
  rw [show decide (rs.length + bgn cs ≤ 300) = true by simpa using h.1.2] at hr
  unfold ratb
  rw [if_pos hr, if_pos h.2.1]
  exact rat_same h.2.1 hn
theorem ap_rows {now : Int} {rs : List Rw} {cs : List Ch} (h : apb now rs cs = true) : rowsb (now + 1) (apl (now + 1) rs cs) = true := by
  unfold apb at h
  simp only [Bool.and_eq_true, decide_eq_true_eq] at h
  rw [apl_ok h.2.1 h.2.2]
  simpa using h.1.2
end Go.Proofs.YtninciflfolenaaGreat
namespace Go.Proofs.YtninciflfolenaaGreat
open Go.RowKit
set_option linter.unusedVariables false
set_option linter.unusedSimpArgs false
theorem new_q (w : World) (a : Option Addr) (len cap : Nat) (hc : CodeAt w a len w.heap.size) : Calls Tryz.prog 15 #[.slice a len cap] w fun e w' => ∃ p : Nat, e = .returned (.pointer (some ⟨p, 0, none⟩)) ∧ w.heap.size = p ∧ Ready w' p a len cap ∧ (∀ (n : Nat) (o : Obj), w.heap[n]? = some o → w'.heap[n]? = some o) ∧ Below w.heap.size w w' := by
  refine (new_c w a len cap hc).mono ?_
  rintro e w1 ⟨h, rfl, rfl⟩
  exact ⟨_, rfl, rfl, ready_new w a len cap h hc, fun n o h => old_alloc h, balloc (Below.refl _ _) _⟩
end Go.Proofs.YtninciflfolenaaGreat
namespace Go.Proofs.YtninciflfolenaaGreat
open Go.RowKit
set_option linter.unusedVariables false
set_option linter.unusedSimpArgs false
theorem grown_up {w w0 w1 : World} {p : Nat} {r : Option Nat} (h : w.grownBy w0 (some p)) (k : w0.grownBy w1 r) (hr : ∀ x, r = some x → w.heap.size ≤ x) : w.grownBy w1 (some p) :=
  ⟨k.os.trans h.os, k.tape.trans h.tape, k.output.trans h.output, Nat.le_trans h.size k.size, fun i hi hne => (k.block i (Nat.lt_of_lt_of_le hi h.size) (fun e => by have := hr i e.symm; omega)).trans (h.block i hi hne)⟩
theorem Ready.kept {w w' : World} {p : Nat} {a : Option Addr} {len cap : Nat} {r : Option Nat} (h : Ready w p a len cap) (hg : w.grownBy w' r) (hr : ∀ x, r = some x → p < x) : Ready w' p a len cap := by
  have hp := h.lt
  refine ⟨?_, ?_⟩
  · obtain ⟨i, y, hi, hb⟩ := h.1
    exact ⟨i, y, hi, (hg.block p hp (fun e => by have := hr p e.symm; omega)).trans hb⟩
  · obtain ⟨hl, hc⟩ := h.2
    refine ⟨hl, ?_⟩
    rcases hc with hc | ⟨b, off, rfl, hb, hc⟩
    · exact .inl hc
    · refine .inr ⟨b, off, rfl, hb, fun k hk => ?_⟩
      obtain ⟨z, z0, z1, hz⟩ := hc k hk
      exact ⟨z, z0, z1, hg.cell hz (fun e => by have := hr b e.symm; omega)⟩
theorem Tryz.infoP2 : (Tryz.prog.info? 66).map (fun i => (i.zero, i.size, i.bytes)) = some (some (.agg #[.int .i64 0, .int .i64 0]), 2, 16) := by kernel_rfl
def flat2 (qs : List (Int × Int)) : List Value := qs.flatMap fun q => [.int .i64 q.1, .int .i64 q.2]
theorem flat2_snoc (qs : List (Int × Int)) (x y : Int) : flat2 (qs ++ [(x, y)]) = flat2 qs ++ [.int .i64 x, .int .i64 y] := by simp [flat2]
theorem flat2_at (qs : List (Int × Int)) : ∀ k, k < qs.length → (flat2 qs)[k * 2]? = some (.int .i64 (qs.getD k (0, 0)).1) ∧ (flat2 qs)[k * 2 + 1]? = some (.int .i64 (qs.getD k (0, 0)).2) := by
  induction qs with
  | nil => intro k hk; simp at hk
  | cons q r ih =>
    intro k hk
    cases k with
    | zero => simp [flat2]
    | succ k =>
      have := ih k (by simpa using hk)
      simp only [flat2, List.flatMap_cons, List.getD_cons_succ] at this ⊢
      rw [show (k + 1) * 2 = k * 2 + 2 by omega]
      simpa [List.getElem?_append_right] using this
/-- A list of points in a block of its own. -/
def PtRow (w : World) (B : Nat) (v : Value) (ps : List (Int × Int)) : Prop := w.ownsRow B 66 2 v ps.length (flat2 ps)
theorem PtRow.pts {w : World} {B : Nat} {v : Value} {ps : List (Int × Int)} (h : PtRow w B v ps) : ∃ ao cap, v = .slice ao ps.length cap ∧ ps.length ≤ cap ∧ Pts w ao ps := by
  have h' := h
  rcases h.2 with ⟨rfl, hn⟩ | ⟨g, cap, cur, rfl, hb, hg, hc, _⟩
  · refine ⟨none, 0, by rw [hn], by omega, .inl (List.length_eq_zero_iff.1 hn)⟩
  · refine ⟨_, cap, rfl, hc, .inr ⟨g, 0, rfl, (Array.getElem?_eq_some_iff.1 hg).1, ?_⟩⟩
    intro k hk
    obtain ⟨f0, f1⟩ := flat2_at ps k hk
    have hcs := World.ownsRow.cells h' rfl
    have q0 := hcs _ _ f0
    have q1 := hcs _ _ f1
    rw [Addr.add_mid] at q0 q1
    exact ⟨q0, by rw [Nat.add_assoc]; exact q1⟩
theorem ptrow_new {w : World} {B : Nat} (hB : B ≤ w.heap.size) : PtRow (w.alloc (.cells #[] 66)) B (.slice (some ⟨w.heap.size, 0, none⟩) 0 0) [] := by
  have := World.ownsRow_made (base := B) (e := 66) (size := 2) w #[] 0 hB (by decide) rfl
  simpa [PtRow, flat2] using this
set_option maxRecDepth 100000 in
set_option maxHeartbeats 1000000 in
theorem list_p (w : World) (p : Nat) (a : Option Addr) (len cap : Nat) (n : Nat) (h1 : n ≤ 1000) (h : Ready w p a len cap) : Calls Tryz.prog 88 #[.pointer (some ⟨p, 0, none⟩), .int .i64 n] w fun e w' => ∃ ps : List (Int × Int), ∃ v, e = .returned v ∧ ps.length = n ∧ PtRow w' w.heap.size v ps ∧ Ready w' p a len cap ∧ w.grownBy w' (some p) := by
  have hp := h.lt
  obtain ⟨i0, hi0, hz0, hz1, hz2⟩ := info_parts Tryz.infoP2
  go_enter Tryz.func88, Tryz.ntmps88
  go_wp2_with fail
  go_loopw [5, 6] (fun v ti wr => ∃ i : Nat, ∃ done : List (Int × Int), ti = .int .i64 i ∧ i ≤ n ∧ Hid (done.length = i) ∧ Hid (PtRow wr w.heap.size v done) ∧ Ready wr p a len cap ∧ w.grownBy wr (some p)) (fun _ ti _ => n - (intOf ti).toNat)
  case atStart => exact ⟨0, [], rfl, by omega, rfl, ptrow_new (Nat.le_refl _), h.alloc _, grown_alloc _ _ _⟩
  case round =>
    obtain ⟨i, done, rfl, hin, HL, HO, hr, hg⟩ := hrel
    have hsz := hg.size
    by_cases hlt : i < n
    · have c1 : (i : Int) < (n : Int) := by omega
      go_wp2_with fail
      refine (point_r _ p a len cap hr).mono ?_
      rintro e w1 ⟨x, y, rfl, _, _, hr1, hg1⟩
      have hown1 : PtRow w1 w.heap.size u5 done := World.ownsRow.kept HO.out hg1 (Or.inr (fun e => by have := (World.ownsRow.lt HO.out p e).1; omega))
      have hdl : done.length ≤ 1000 := by have := HL.out; omega
      replace hg := grown_trans hg hg1
      replace hsz := hg.size
      clear HO hr hg1
      unfold PtRow at hown1
      go_wp2_with (at_builtin; refine wpList_append_own _ rfl (.tmp 13) (.tmp 16) 35 rfl w.heap.size 66 i0 _ 2 16 Tryz.underlying35 hi0 hz0 hz1 hz2 rfl (by decide) _ _ _ rfl (hown1.alloc _) ⟨w1.heap.size, 0, none⟩ 1 1 [.int .i64 x, .int .i64 y] rfl rfl (World.news_of_block (cs := #[.int .i64 x, .int .i64 y]) (t := 66) (fr := (0, 0)) (heap_alloc_new w1 _)) (by simp [Value.oneCell']) (by unfold maxLen; omega) (by omega) (by simp; omega) ?_; intro v' w2 hown' hgrow _)
      go_roundw
      case rel =>
        refine ⟨i + 1, done ++ [(x, y)], by go_num, by omega, ?_, ?_, ?_, ?_⟩
        · show _ = _; have := HL.out; simp; exact this
        · show PtRow _ _ _ _; unfold PtRow; rw [flat2_snoc]; simpa using hown'
        · refine (hr1.alloc _).kept hgrow (fun y hy => ?_)
          have := (hown1.lt y hy).1
          omega
        · exact grown_up (grown_trans hg (grown_alloc _ _ _)) hgrow (fun y hy => (hown1.lt y hy).1)
      case measure => simp [intOf]; omega
    · have c1 : (n : Int) ≤ (i : Int) := by omega
      go_wp2_with fail
      go_ret
      exact ⟨done, _, rfl, by have := HL.out; omega, HO.out, hr, hg⟩
end Go.Proofs.YtninciflfolenaaGreat
namespace Go.Proofs.YtninciflfolenaaGreat
open Go.RowKit
set_option linter.unusedVariables false
set_option linter.unusedSimpArgs false
theorem row_self {w' : World} {B : Nat} {v' : Value} {l : List (Int × Int)} {x y : Int} (h : w'.ownsRow B 66 2 v' (l.length + 1) (flat2 l ++ [.int .i64 x, .int .i64 y])) : PtRow w' B v' (l ++ [(x, y)]) := by
  unfold PtRow; rw [flat2_snoc]; simpa using h
theorem undrew {w w' : World} {r : Option Nat} (h : w.drew.grownBy w' r) : w.grownBy w' r := ⟨h.os, h.tape, h.output, h.size, h.block⟩
end Go.Proofs.YtninciflfolenaaGreat
