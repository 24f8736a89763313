/- A number that is put in its place, in a new list. -/
import Derived.Test.YtaceibffgoaflaaRwG
namespace Go.Proofs.Ytaceibffgoaflaa
open Go.RowKit
set_option linter.unusedSimpArgs false
set_option linter.unusedVariables false
def fli (zs : List Int) : List Value := zs.map (Value.int .i64)
theorem fli_len (zs : List Int) : (fli zs).length = zs.length := by simp [fli]
theorem fli_one (zs : List Int) : ∀ u ∈ fli zs, u.oneCell' = true := by
  intro u hu
  simp only [fli, List.mem_map] at hu
  obtain ⟨z, _, rfl⟩ := hu
  rfl
theorem own_newI {w : World} {B : Nat} (hB : B ≤ w.heap.size) : (w.alloc (.cells #[] 3)).ownsRow B 3 1 (.slice (some ⟨w.heap.size, 0, none⟩) 0 0) 0 [] := by
  have := World.ownsRow_made (base := B) (e := 3) (size := 1) w #[] 0 hB (by decide) rfl
  simpa using this
theorem own_newI2 {w : World} {B X : Nat} (hB : B ≤ w.heap.size) (hX : w.heap.size = X) : (w.alloc (.cells #[] 3)).ownsRow B 3 1 (.slice (some ⟨X, 0, none⟩) 0 0) 0 [] := by
  subst hX; exact own_newI hB
theorem own_cell {w : World} {B g n cap : Nat} {zs : List Int} (h : w.ownsRow B 3 1 (.slice (some ⟨g, 0, none⟩) n cap) n (fli zs)) (hn : zs.length = n) {k : Nat} (hk : k < n) : w.cell? ⟨g, k, none⟩ = some (.int .i64 (zs.getD k 0)) := by
  rw [World.ownsRow.cellAt h k (by omega)]
  simp [fli, List.getD_eq_getElem?_getD, List.getElem?_eq_getElem (show k < zs.length by omega)]
theorem own_I {w : World} {B g n cap : Nat} {zs : List Int} (h : w.ownsRow B 3 1 (.slice (some ⟨g, 0, none⟩) n cap) n (fli zs)) (hn : zs.length = n) : B ≤ g ∧ n ≤ cap ∧ OwnI w (some ⟨g, 0, none⟩) zs := by
  have h' := h
  rcases h.2 with ⟨q, _⟩ | ⟨g', cap', cur, e, hb, hg, hc, _⟩
  · cases q
  · cases e
    refine ⟨hb, hc, .inr ⟨g, rfl, (Array.getElem?_eq_some_iff.1 hg).1, fun k hk => ?_, fun j hj => ?_⟩⟩
    · rw [Nat.zero_add]; exact own_cell h' hn (by omega)
    · simp only [Nat.zero_add]
      refine ⟨?_, World.ownsRow.frozenAt h' j⟩
      rw [own_cell h' hn (by omega)]; rfl
theorem news_i {w V : World} {B g n cap : Nat} {zs : List Int} (o : Nat) (ys : List Int) (h : w.ownsRow B 3 1 (.slice (some ⟨g, 0, none⟩) n cap) n (fli zs)) (hn : zs.length = n) (hB : Below w.heap.size w V) (hy : ∀ k, k < ys.length → o + k < zs.length ∧ ys.getD k 0 = zs.getD (o + k) 0) : ∀ j u, (fli ys)[j]? = some u → V.cell? ((⟨g, o, none⟩ : Addr).add j) = some u := by
  intro j u hu
  have hj : j < ys.length := by rw [← fli_len]; exact (List.getElem?_eq_some_iff.1 hu).1
  obtain ⟨h1, h2⟩ := hy j hj
  rw [Addr.add_mid]
  have c := keepcell hB (own_cell (k := o + j) h hn (by omega))
  rw [c, ← hu, ← h2]
  simp [fli, List.getD_eq_getElem?_getD, List.getElem?_eq_getElem hj]
theorem news_1 {W : World} {X : Nat} {x : Int} (h : W.cell? ⟨X, 0, none⟩ = some (.int .i64 x)) : ∀ j u, (fli [x])[j]? = some u → W.cell? ((⟨X, 0, none⟩ : Addr).add j) = some u := by
  intro j u hu
  have hj : j = 0 := by have := (List.getElem?_eq_some_iff.1 hu).1; simp [fli] at this; omega
  subst hj
  simp [fli] at hu
  rw [Addr.add_mid, ← hu]
  exact h
theorem take_at (zs : List Int) (j k : Nat) (h : k < (zs.take j).length) : 0 + k < zs.length ∧ (zs.take j).getD k 0 = zs.getD (0 + k) 0 := by
  simp at h
  refine ⟨by omega, ?_⟩
  simp [List.getD_eq_getElem?_getD, List.getElem?_take, show k < j by omega]
theorem drop_at (zs : List Int) (j k : Nat) (h : k < (zs.drop j).length) : j + k < zs.length ∧ (zs.drop j).getD k 0 = zs.getD (j + k) 0 := by
  simp at h
  refine ⟨by omega, ?_⟩
  simp [List.getD_eq_getElem?_getD, List.getElem?_drop]
/-- An append to a list of its own that is no nil, at a step of a region that draws its order; the source may be empty. -/
theorem step_append_any {P : Program} {w : World} {ops : Array Oper} {o : Oper} {a : Act} {K : Act → World → Prop} {Q : Exit → Act → World → Prop} {E : Prop} (hgd : o.guard = none) (s x : Operand) (t : TypeId)
    (ho : o.op = .call { callee := .builtin .append, args := #[s, x], argTypes := #[t, t] })
    (base : Nat) (e : TypeId) (i : TypeInfo) (z : Value) (size bytes : Nat) (ht : P.underlying t = some (.slice e)) (hi : P.info? e = some i) (hz : i.zero = some z)
    (hsize : i.size = size) (hby : i.bytes = bytes) (hzs : z.cells.size = size) (hsz : 0 < size)
    (g0 n0 cap0 : Nat) (n : Nat) (xs : List Value) (hs : a.eval s = .slice (some ⟨g0, 0, none⟩) n0 cap0) (hown : w.ownsRow base e size (.slice (some ⟨g0, 0, none⟩) n0 cap0) n xs)
    (ad : Addr) (m c : Nat) (news : List Value) (hx : a.eval x = .slice (some ad) m c) (hl : news.length = m * size) (hnews : ∀ j u, news[j]? = some u → w.cell? (ad.add j) = some u) (h1 : ∀ u ∈ news, u.oneCell' = true)
    (h63 : n + m ≤ maxLen) (hbytes : (n + m) * bytes ≤ 140737488355328) (hbase : base ≤ w.heap.size)
    (h : ∀ g cap w', w'.ownsRow base e size (.slice (some ⟨g, 0, none⟩) (n + m) cap) (n + m) (xs ++ news) → w.grownBy w' (some g0) → (g = g0 ∨ g = w.heap.size) → K (a.put o.dst (.slice (some ⟨g, 0, none⟩) (n + m) cap)) w') :
    if Region.wanted o (yielded ops a.tmps) = true then Oper.wp P o a w K Q else E := by
  have hw : Region.wanted o (yielded ops a.tmps) = true := by simp [Region.wanted, hgd]
  rw [if_pos hw]
  obtain ⟨v', w', hr, h2, h3, h4, h5⟩ := run_append_own_at (P := P) w base t o.type e i z size bytes ht hi hz hsize hby hzs hsz _ n xs hown ad m c news hl hnews h1 h63 hbytes hbase
  have hne : v' ≠ .slice none 0 0 := fun e => by have := (h4.1 e).1; cases this
  obtain ⟨g, cap, cur, rfl, _⟩ : ∃ g cap cur, v' = .slice (some ⟨g, 0, none⟩) (n + m) cap ∧ cur = () := by
    rcases h2.2 with ⟨q, _⟩ | ⟨g, cap, cur, e, _⟩
    · exact absurd q hne
    · exact ⟨g, cap, (), e, rfl⟩
  unfold Oper.wp execOp
  simp only [ho, resolve, invoke, builtin, Sem.run_bind, Sem.run_pure, Result.andThen_ok, List.map_toArray, List.map_cons, List.map_nil, hs, hx, hr]
  refine h g cap w' h2 h3 ?_
  rcases h5 with h5 | h5
  · left; simpa [Value.ownBlock] using h5
  · right; simpa [Value.ownBlock] using h5
end Go.Proofs.Ytaceibffgoaflaa
