/- What is there at a moment: mathematics. -/
import Derived.Test.YtnaobljoopjhgaaGreatRwDs
import Derived.Test.YtnaobljoopjhgaaGreatRwA1
namespace Go.Proofs.YtnaobljoopjhgaaGreat
open Go.RowKit
set_option linter.unusedSimpArgs false
set_option linter.unusedVariables false
theorem rows_apart2 {now : Int} {rs : List Rw} {t : Int} (hr : rowsb now rs = true) {i j : Nat} (hi : i < rs.length) (hj : j < rs.length) (hij : i < j) (h1 : thr (tr rs[i]) t = true) (h2 : thr (tr rs[j]) t = true) : rs[i].1 ≠ rs[j].1 := by
  intro e
  unfold rowsb at hr
  simp only [Bool.and_eq_true] at hr
  have ha := (apartR_iff _).1 hr.2.2
  rw [List.pairwise_map] at ha
  have hc := List.pairwise_iff_getElem.1 ha i j hi hj hij
  rw [thr_def] at h1 h2
  simp only [Bool.and_eq_true, Bool.or_eq_true, decide_eq_true_eq] at h1 h2
  unfold clash thr tr at hc
  simp only at hc
  rw [show decide (rs[j].1 = rs[i].1) = true by simpa using e.symm, Bool.true_and, Bool.or_eq_false_iff, Bool.and_eq_false_iff, Bool.and_eq_false_iff, Bool.or_eq_false_iff, Bool.or_eq_false_iff] at hc
  simp only [decide_eq_false_iff_not] at hc
  omega
theorem rat_of {now : Int} {rs : List Rw} {t : Int} (hr : rowsb now rs = true) {j : Nat} (hj : j < rs.length) (ht : thr (tr rs[j]) t = true) : rat rs rs[j].1 t = some rs[j] := by
  refine rat_some hj (fun m hm hmj => ?_) (by unfold atb; rw [ht]; simp)
  unfold atb
  cases h : thr (tr rs[m]) t
  · simp
  · have := rows_apart2 hr hm hj hmj h ht
    simp [this]
theorem rowsb_sh {now : Int} {rs : List Rw} (h : rowsb now rs = true) {m : Nat} (hm : m < rs.length) : shok rs[m].2.2.2.1 rs[m].2.2.2.2 = true := by
  unfold rowsb at h
  simp only [Bool.and_eq_true, List.all_eq_true] at h
  have := h.2.1 rs[m] (List.getElem_mem hm)
  unfold rowb at this
  simp only [Bool.and_eq_true] at this
  exact this.2
theorem idsb_row {now : Int} {rs : List Rw} {t id : Int} (h : id ∈ idsb now rs t) : rowsb now rs = true ∧ shok (raK (rat rs id t)) (raP (rat rs id t)) = true := by
  unfold idsb at h
  split at h
  · rename_i hr
    refine ⟨hr, ?_⟩
    have h2 : id ∈ idsT rs t := (List.mergeSort_perm (idsT rs t) _).mem_iff.1 h
    unfold idsT at h2
    obtain ⟨r, h3, rfl⟩ := List.mem_map.1 h2
    obtain ⟨h4, h5⟩ := List.mem_filter.1 h3
    obtain ⟨j, hj, rfl⟩ := List.mem_iff_getElem.1 h4
    rw [rat_of hr hj h5]
    exact rowsb_sh hr hj
  · simp at h
theorem idsb_len (now : Int) (rs : List Rw) (t : Int) : (idsb now rs t).length ≤ 300 := by
  unfold idsb
  split
  · rename_i h
    rw [srt_len]
    have h1 := ids_len rs t
    unfold rowsb at h
    simp only [Bool.and_eq_true, decide_eq_true_eq] at h
    omega
  · simp
end Go.Proofs.YtnaobljoopjhgaaGreat
