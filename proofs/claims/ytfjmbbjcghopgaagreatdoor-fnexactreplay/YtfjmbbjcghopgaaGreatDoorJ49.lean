/- Texts of stores, joined: Ma, Th0. -/
import Derived.Test.YtfjmbbjcghopgaaGreatDoorJ41
import Derived.Test.YtfjmbbjcghopgaaGreatDoorJ47
import Derived.Test.YtfjmbbjcghopgaaGreatDoorJ48
import Derived.Test.YtfjmbbjcghopgaaGreatDoorJ45
import Derived.Test.YtfjmbbjcghopgaaGreatDoorJ46
namespace Go.Proofs.YtfjmbbjcghopgaaGreatDoor
open Go.RowKit
set_option linter.unusedSimpArgs false
set_option linter.unusedVariables false
/-- The rows behind one more record, cleaned. -/
def vst (now : Int) (rs : List Rw) (cs : List Ch) : List Rw := (apl (now + 1) rs cs).filter (vkeep (now + 1))
def rpl (now : Int) (rs : List Rw) : List (List Ch) → Nat → Int × List Rw × Nat
  | [], i => (now, rs, i)
  | cs :: r, i => if apb now rs cs = true then rpl (now + 1) (vst now rs cs) r (i + 1) else (now, rs, i)
/-- What is told behind i records. -/
def RP (xss : List (List Ch)) (now : Int) (rs : List Rw) (i : Nat) : Prop := rpl 0 [] xss 0 = rpl now rs (xss.drop i) i ∧ rowsb now rs = true
theorem RP.zero (xss : List (List Ch)) : RP xss 0 [] 0 := ⟨rfl, by decide⟩
theorem RP.done {xss : List (List Ch)} {now : Int} {rs : List Rw} (h : RP xss now rs xss.length) : rpl 0 [] xss 0 = (now, rs, xss.length) := by
  rw [h.1, List.drop_length]; rfl
theorem RP.no {xss : List (List Ch)} {now : Int} {rs : List Rw} {i : Nat} (h : RP xss now rs i) (hi : i < xss.length) (ha : apb now rs xss[i] = false) : rpl 0 [] xss 0 = (now, rs, i) := by
  rw [h.1, List.drop_eq_getElem_cons hi, rpl, if_neg (by rw [ha]; simp)]
theorem rowsb_flt {now : Int} {rs : List Rw} (p : Rw → Bool) (h : rowsb now rs = true) : rowsb now (rs.filter p) = true := by
  unfold rowsb at h ⊢
  simp only [Bool.and_eq_true, decide_eq_true_eq] at h ⊢
  obtain ⟨⟨h1, h2⟩, h3, h4⟩ := h
  refine ⟨⟨h1, Nat.le_trans (List.length_filter_le _ _) h2⟩, ?_, ?_⟩
  · rw [List.all_eq_true] at h3 ⊢
    exact fun r hr => h3 r (List.mem_filter.1 hr).1
  · rw [apartR_iff] at h4 ⊢
    exact h4.sublist (List.filter_sublist.map tr)
theorem vst_ok {now : Int} {rs : List Rw} {cs : List Ch} (ha : apb now rs cs = true) : rowsb (now + 1) (vst now rs cs) = true := by
  unfold apb at ha
  simp only [Bool.and_eq_true, decide_eq_true_eq] at ha
  obtain ⟨⟨h1, h2⟩, h3, h4⟩ := ha
  unfold vst
  apply rowsb_flt
  rw [apl_ok h3 h4]
  simpa using h2
theorem RP.next {xss : List (List Ch)} {now : Int} {rs : List Rw} {i : Nat} (h : RP xss now rs i) (hi : i < xss.length) (ha : apb now rs xss[i] = true) : RP xss (now + 1) (vst now rs xss[i]) (i + 1) := by
  refine ⟨?_, vst_ok ha⟩
  rw [h.1, List.drop_eq_getElem_cons hi, rpl, if_pos ha]
/-- The changes of a record are right. -/
theorem rcs_cgs (s : ByteArray) : ∀ (f a : Nat), ∀ x ∈ (rcs s f a).1, cgs x = true
  | 0, a => by simp [rcs]
  | f + 1, a => by
    simp only [rcs]
    cases hr : rc1 s a with
    | none => simp
    | some r =>
      obtain ⟨cs, b⟩ := r
      intro x hx
      rcases List.mem_cons.1 hx with rfl | hx
      · unfold rc1 at hr
        split at hr
        · cases hr
        · split at hr
          · cases hr
          · split at hr
            · rw [Option.map_eq_some_iff] at hr
              obtain ⟨y, hy, hy2⟩ := hr
              simp only [Prod.mk.injEq] at hy2
              obtain ⟨rfl, _⟩ := hy2
              obtain ⟨h1, h2⟩ := gcS_of hy
              cases hp : pcb y
              · unfold pcT at h1; rw [hp, if_neg (by simp)] at h1; rw [← h1] at h2; exact absurd h2 (by decide)
              · unfold pcb at hp
                rw [Bool.and_eq_true] at hp
                exact hp.1
            · cases hr
      · exact rcs_cgs s f b x hx
theorem recs_cgs (s : ByteArray) : ∀ m (h : m < (recs s).1.length), cgs (recs s).1[m] = true := by
  unfold recs
  split
  · exact fun m hm => rcs_cgs s _ _ _ (List.getElem_mem hm)
  · exact fun m hm => absurd hm (by simp)
theorem recs_len (s : ByteArray) : (recs s).1.length ≤ 100000 := by
  unfold recs
  split
  · rename_i h
    have := (rcs_len s s.size 0).1
    omega
  · simp
theorem recs_lens (s : ByteArray) : ∀ m (h : m < (recs s).1.length), (recs s).1[m].length ≤ 100 := by
  unfold recs
  split
  · exact fun m hm => ((rcs_len s s.size 0).2.2 _ (List.getElem_mem hm)).2
  · exact fun m hm => absurd hm (by simp)
/-- What Replay answers. -/
def RPA (w : World) (r : Int × List Rw × Nat) (e : Ending) (w' : World) : Prop :=
  ∃ a cap, e = .returned (.tuple #[.agg #[.int .i64 r.1, .slice a r.2.1.length cap], .int .i64 r.2.2]) ∧ Rws (fun _ => True) w' a r.2.1 ∧ Below w.heap.size w w'
theorem apb_takes {now : Int} {rs : List Rw} {cs : List Ch} (h : rowsb now rs = true) (hc : cgs cs = true) : apb now rs cs = (decide (now ≤ 1000000000) && decide (rs.length + bgn cs ≤ 300)) := by
  unfold apb; rw [h, hc]; simp
theorem rowsb_len {now : Int} {rs : List Rw} (h : rowsb now rs = true) : rs.length ≤ 300 := by
  by_cases q : 300 < rs.length
  · rw [rowsb_long q] at h; cases h
  · omega
theorem rowsb_nn {now : Int} {rs : List Rw} (h : rowsb now rs = true) : 0 ≤ now := by
  by_cases q : now < 0
  · rw [rowsb_now q] at h; cases h
  · omega
end Go.Proofs.YtfjmbbjcghopgaaGreatDoor
namespace Go.Proofs.YtfjmbbjcghopgaaGreatDoor
open Go.RowKit
set_option linter.unusedSimpArgs false
set_option linter.unusedVariables false
def APS (w : World) (now : Int) (rs : List Rw) (cs : List Ch) (e : Ending) (w' : World) : Prop :=
  ∃ a c xs, e = .returned (.tuple #[.agg #[.int .i64 (apnow now rs cs), .slice a (aprs now rs cs).length c], .bool (apb now rs cs)]) ∧ RowsX w.heap.size w'.heap.size w' (.slice a (aprs now rs cs).length c) (aprs now rs cs) xs ∧ Below w.heap.size w w'
theorem APR.form {w : World} {now : Int} {rs : List Rw} {cs : List Ch} {e : Ending} {w' : World} (h : APR w now rs cs e w') : APS w now rs cs e w' := by
  obtain ⟨v, xs, h1, h2, h3⟩ := h
  obtain ⟨a, c, rfl⟩ := kept_form h2
  exact ⟨a, c, xs, h1, h2, h3⟩
end Go.Proofs.YtfjmbbjcghopgaaGreatDoor
