/- The table of the statements' words, and Itoa at every int, as a row lists them. -/
import Derived.Test.YtkifhdkebddnpaaGreatDoorRTextT
import Derived.Test.YtkifhdkebddnpaaGreatDoorRQc
namespace Go.Proofs.YtkifhdkebddnpaaGreatDoorR
open Go.RowKit
set_option linter.unusedVariables false
theorem itoa_ofA {W : World} {name : String} {g : Nat} (hg : Tryz.prog.globalNamed name = some g) (htab : Lib.TabIs Tryz.prog W name .u64 Lib.pow10Tab)
    (hI : ∀ (n : Int), -9223372036854775808 ≤ n → n ≤ 9223372036854775807 → ∀ w, Lib.TabIs Tryz.prog w name .u64 Lib.pow10Tab → Calls Tryz.prog 32 #[.int .i64 n] w fun e w' => e = .returned (.string ⟨(Lib.itoa n).toArray⟩) ∧ ∃ k os, w' = Sort.grow (w.drewN k) os) : ItoaA W := by
  intro w' hb n h0 h1
  refine (hI n h0 h1 w' (Joins.tab_stays hg htab hb (Nat.le_refl _))).mono ?_
  rintro e w'' ⟨rfl, k, os, rfl⟩
  exact ⟨rfl, below_more w' k os⟩
set_option maxRecDepth 100000 in
theorem af_of {W : World} {name : String} {rest : List (String × DataW Unit)} (hg : Tryz.prog.globalNamed name = some 0) (hty : (Tryz.prog.globals[0]?).map (·.type) = some 53)
    (h : laidMet Tryz.prog ((name, Rows.laid_loop_example_g00229_impl_askForms) :: rest) W) : AF W := by
  obtain ⟨ps, ⟨g', t', cs, fuel, p, q, hg', ht', hvar, hd, _, _⟩, _⟩ := h
  obtain rfl := Option.some.inj (hg.symm.trans hg')
  obtain rfl := Option.some.inj (hty.symm.trans ht')
  obtain ⟨xs, m1, rfl, hx, hlen, hn, hel⟩ := DataW.trod_array Tryz.underlying53 hd
  have c2 : Tryz.prog.cellsOf 52 = 2 := by kernel_rfl
  have c9 : Tryz.prog.cellsOf 9 = 1 := by kernel_rfl
  simp only [Prod.mk.injEq] at hx
  have hx1 := hx.1
  unfold Rows.laid_loop_example_g00229_impl_askForms at hx1
  simp only [DataW.agg.injEq] at hx1
  intro k hk
  have e := hel k (by omega)
  rw [c2] at e
  have hkx : k < xs.length := by omega
  rw [List.getElem?_eq_getElem hkx] at e
  obtain ⟨ys, n2, _, hy, hl2, hyl, hf⟩ := DataW.trod_struct Tryz.underlying52 e
  have f0 : DataW.trod _ Tryz.prog _ _ _ _ n2 9 ((((cs.toList.drop (k * 2)).take 2).drop 0).take (Tryz.prog.cellsOf 9)) = ys[0]? := hf 0 _ rfl
  rw [c9] at f0
  match ys, hyl with
  | [y0, y1], _ =>
    simp only [List.getElem?_cons_zero] at f0
    obtain ⟨s, h1, h2, _⟩ := DataW.trod_string Tryz.underlying9 f0
    have hcell := World.var?_cell hg hvar (k * 2)
    have hck : cs[k * 2]? = some (.string s) := by
      have := congrArg (·[0]?) h1
      simpa [List.getElem?_take, List.getElem?_drop] using this
    rw [hcell, hck]
    have hk2 : (xs.map (·.1))[k]? = some (.agg [.lit (.string s.data.toList), y1.1]) := by
      rw [List.getElem?_map, List.getElem?_eq_getElem hkx, hy, h2]; rfl
    rw [← hx1] at hk2
    have fin : ∀ l : List UInt8, s.data.toList = l → s = ⟨l.toArray⟩ := by
      intro l hl
      obtain ⟨⟨d⟩⟩ := s
      simp at hl
      rw [hl]
    rcases (show k = 0 ∨ k = 1 ∨ k = 2 ∨ k = 3 ∨ k = 4 ∨ k = 5 ∨ k = 6 ∨ k = 7 ∨ k = 8 ∨ k = 9 by omega) with hh | hh | hh | hh | hh | hh | hh | hh | hh | hh <;> subst hh <;> simp at hk2 <;> rw [fin _ hk2.1.symm] <;> rfl
end Go.Proofs.YtkifhdkebddnpaaGreatDoorR
