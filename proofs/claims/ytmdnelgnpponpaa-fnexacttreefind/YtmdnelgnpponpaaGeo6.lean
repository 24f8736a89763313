/- Turn, OnSide and SidesMeet, the landed ones and the specification's, at any points. -/
import Derived.Test.YtmdnelgnpponpaaGeo5
namespace Go.Proofs.Ytmdnelgnpponpaa
open Go.RowKit
set_option linter.unusedSimpArgs false
set_option linter.unusedVariables false
theorem pok_of_in {x y : Int} (h1 : In x) (h2 : In y) : pok x y = true := by
  simp only [pok, cok, Bool.and_eq_true, decide_eq_true_eq]
  exact ⟨h1, h2⟩
theorem allok3 {ax ay bx bY cx cy : Int} (h1 : In ax) (h2 : In ay) (h3 : In bx) (h4 : In bY) (h5 : In cx) (h6 : In cy) : allok [(ax, ay), (bx, bY), (cx, cy)] = true := by
  simp only [allok, List.all_cons, List.all_nil, pok_of_in h1 h2, pok_of_in h3 h4, pok_of_in h5 h6, Bool.and_true]
theorem in3 {ax ay bx bY cx cy : Int} (h : allok [(ax, ay), (bx, bY), (cx, cy)] = true) : In ax ∧ In ay ∧ In bx ∧ In bY ∧ In cx ∧ In cy := by
  simp only [allok, List.all_cons, List.all_nil, Bool.and_true, Bool.and_eq_true] at h
  obtain ⟨h1, h2, h3⟩ := h
  exact ⟨(in_of_pok h1).1, (in_of_pok h1).2, (in_of_pok h2).1, (in_of_pok h2).2, (in_of_pok h3).1, (in_of_pok h3).2⟩
theorem in4 {ax ay bx bY cx cy dx dy : Int} (h : allok [(ax, ay), (bx, bY), (cx, cy), (dx, dy)] = true) : In ax ∧ In ay ∧ In bx ∧ In bY ∧ In cx ∧ In cy ∧ In dx ∧ In dy := by
  simp only [allok, List.all_cons, List.all_nil, Bool.and_true, Bool.and_eq_true] at h
  obtain ⟨h1, h2, h3, h4⟩ := h
  exact ⟨(in_of_pok h1).1, (in_of_pok h1).2, (in_of_pok h2).1, (in_of_pok h2).2, (in_of_pok h3).1, (in_of_pok h3).2, (in_of_pok h4).1, (in_of_pok h4).2⟩
def tv (ax ay bx bY cx cy : Int) : Int := if allok [(ax, ay), (bx, bY), (cx, cy)] = true then sg (cr ax ay bx bY cx cy) else 0
end Go.Proofs.Ytmdnelgnpponpaa
