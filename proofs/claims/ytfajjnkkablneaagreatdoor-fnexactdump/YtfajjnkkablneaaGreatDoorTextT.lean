/- The table of the kinds' words, and the library's table of tens, as a row lists them. -/
import Derived.Test.YtfajjnkkablneaaGreatDoorText
import Derived.Lib.LaidTab
import Derived.OpenShut
import Derived.ChangeArms
import Derived.Lib.SmallJoins
import Derived.Lib.ItoaMem
namespace Go.Proofs.YtfajjnkkablneaaGreatDoor
open Go.RowKit
set_option linter.unusedVariables false
theorem below_more (w : World) (q : Nat) (os : Array Obj) : Below w.heap.size w (Sort.grow (w.drewN q) os) :=
  ⟨rfl, rfl, rfl, by simp [Sort.grow], fun i hi => by
    show ((w.drewN q).heap ++ os)[i]? = _
    rw [Array.getElem?_append_left (by show i < w.heap.size; omega)]
    rfl⟩
theorem itoa_of {W : World} {name : String} {g : Nat} (hg : Tryz.prog.globalNamed name = some g) (htab : Lib.TabIs Tryz.prog W name .u64 Lib.pow10Tab)
    (hI : ∀ (n : Int), -9223372036854775808 ≤ n → n ≤ 9223372036854775807 → ∀ w, Lib.TabIs Tryz.prog w name .u64 Lib.pow10Tab → Calls Tryz.prog 36 #[.int .i64 n] w fun e w' => e = .returned (.string ⟨(Lib.itoa n).toArray⟩) ∧ ∃ k os, w' = Sort.grow (w.drewN k) os) : ItoaOk W := by
  intro w' hb n hn
  refine (hI n (by unfold In at hn; omega) (by unfold In at hn; omega) w' (Joins.tab_stays hg htab hb (Nat.le_refl _))).mono ?_
  rintro e w'' ⟨rfl, k, os, rfl⟩
  exact ⟨rfl, below_more w' k os⟩
theorem kw_of {W : World} {name : String} {rest : List (String × DataW Unit)} (hg : Tryz.prog.globalNamed name = some 0) (hty : (Tryz.prog.globals[0]?).map (·.type) = some 78)
    (h : laidMet Tryz.prog ((name, Rows.laid_loop_example_g00229_impl_kindWords) :: rest) W) : KW W := by
  obtain ⟨ps, ⟨g', t', cs, fuel, p, q, hg', ht', hvar, hd, _, _⟩, _⟩ := h
  obtain rfl := Option.some.inj (hg.symm.trans hg')
  obtain rfl := Option.some.inj (hty.symm.trans ht')
  obtain ⟨xs, m1, rfl, hx, hlen, hn, hel⟩ := DataW.trod_array Tryz.underlying78 hd
  have c9 : Tryz.prog.cellsOf 9 = 1 := by kernel_rfl
  simp only [Prod.mk.injEq] at hx
  have hx1 := hx.1
  unfold Rows.laid_loop_example_g00229_impl_kindWords at hx1
  simp only [DataW.agg.injEq] at hx1
  intro k hk
  have e := hel k (by omega)
  rw [c9] at e
  have hkx : k < xs.length := by omega
  rw [List.getElem?_eq_getElem hkx] at e
  obtain ⟨s, h1, h2, _⟩ := DataW.trod_string Tryz.underlying9 e
  have hcell := World.var?_cell hg hvar k
  have hck : cs[k]? = some (.string s) := by
    have := congrArg (·[0]?) h1
    simpa [List.getElem?_take, List.getElem?_drop] using this
  rw [hcell, hck]
  have hk2 : (xs.map (·.1))[k]? = some (.lit (.string s.data.toList)) := by
    rw [List.getElem?_map, List.getElem?_eq_getElem hkx, h2]; rfl
  rw [← hx1] at hk2
  have fin : ∀ l : List UInt8, s.data.toList = l → s = ⟨l.toArray⟩ := by
    intro l hl
    obtain ⟨⟨d⟩⟩ := s
    simp at hl
    rw [hl]
  rcases (show k = 0 ∨ k = 1 ∨ k = 2 ∨ k = 3 by omega) with hh | hh | hh | hh <;> subst hh <;> simp at hk2 <;> rw [fin _ hk2.symm] <;> rfl
end Go.Proofs.YtfajjnkkablneaaGreatDoor
