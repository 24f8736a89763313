/- Texts of stores, joined: RwA0, RwG, RwH. -/
import Derived.Test.YtldeknphfddlfaaGreatDoorJ31
import Derived.Test.YtldeknphfddlfaaGreatDoorJ4
import Derived.OwnWalk
import Derived.Deep.AppendLies
import Derived.Test.YtldeknphfddlfaaGreatDoorJ22
import Derived.Maps.AppendAt
namespace Go.Proofs.YtldeknphfddlfaaGreatDoor
open Go.RowKit
set_option linter.unusedSimpArgs false
set_option linter.unusedVariables false
theorem Tryz.infoPC : (Tryz.prog.info? 57).map (fun i => (i.zero, i.size, i.bytes)) = some (some (.agg #[.int .i64 0, .int .i64 0]), 2, 16) := by kernel_rfl
theorem cell2r {w : World} {p : Nat} {a b : Value} {t : TypeId} (h : w.heap[p]? = some (.cells #[a, b] t (0, 0))) : w.cell? ⟨p, 0, none⟩ = some a ∧ w.cell? ⟨p, 1, none⟩ = some b ∧ w.frozen? ⟨p, 0, none⟩ = false ∧ w.frozen? ⟨p, 1, none⟩ = false := by
  refine ⟨?_, ?_, ?_, ?_⟩ <;> simp [World.cell?, World.frozen?, h]
theorem own_blk {w w' : World} {b : Nat} {ps : List (Int × Int)} (h : PtsOwn w b ps) (e : w'.heap[b]? = w.heap[b]?) (hs : b < w'.heap.size) : PtsOwn w' b ps := by
  obtain ⟨h1, h2, h3⟩ := h
  refine ⟨hs, fun k hk => ?_, fun j hj => ?_⟩
  · simp only [World.cell?, e]; exact h2 k hk
  · simp only [World.cell?, World.frozen?, e]; exact h3 j hj
def fl2 (qs : List (Int × Int)) : List Value := qs.flatMap fun q => [.int .i64 q.1, .int .i64 q.2]
theorem fl2_len (qs : List (Int × Int)) : (fl2 qs).length = qs.length * 2 := by
  induction qs with
  | nil => rfl
  | cons q r ih => simp only [fl2, List.flatMap_cons, List.length_append, List.length_cons, List.length_nil] at ih ⊢; omega
theorem fl2_at (qs : List (Int × Int)) : ∀ k, k < qs.length → (fl2 qs)[k * 2]? = some (.int .i64 (qs.getD k (0, 0)).1) ∧ (fl2 qs)[k * 2 + 1]? = some (.int .i64 (qs.getD k (0, 0)).2) := by
  induction qs with
  | nil => intro k hk; simp at hk
  | cons q r ih =>
    intro k hk
    cases k with
    | zero => simp [fl2]
    | succ k =>
      have := ih k (by simpa using hk)
      simp only [fl2, List.flatMap_cons, List.getD_cons_succ] at this ⊢
      rw [show (k + 1) * 2 = k * 2 + 2 by omega]
      simpa [List.getElem?_append_right] using this
theorem fl2_one (qs : List (Int × Int)) : ∀ u ∈ fl2 qs, u.oneCell' = true := by
  intro u hu
  simp only [fl2, List.mem_flatMap] at hu
  obtain ⟨q, _, hu⟩ := hu
  simp at hu
  rcases hu with rfl | rfl <;> rfl
theorem fl2_news {w : World} {b off : Nat} {ps : List (Int × Int)} (h : PtsAt w b off ps) : ∀ j u, (fl2 ps)[j]? = some u → w.cell? ((⟨b, off, none⟩ : Addr).add j) = some u := by
  intro j u hu
  have hj : j < ps.length * 2 := by rw [← fl2_len]; exact (List.getElem?_eq_some_iff.1 hu).1
  rw [Addr.add_mid]
  have h2 := h (j / 2) (by omega)
  obtain ⟨f0, f1⟩ := fl2_at ps (j / 2) (by omega)
  rcases Nat.mod_two_eq_zero_or_one j with e | e
  · have ej : j = j / 2 * 2 := by omega
    rw [ej] at hu ⊢
    rw [f0] at hu
    rw [← hu]
    exact h2.1
  · have ej : j = j / 2 * 2 + 1 := by omega
    rw [ej] at hu ⊢
    rw [f1] at hu
    rw [← hu, ← Nat.add_assoc]
    exact h2.2
theorem own_pts {w : World} {B g cap n : Nat} {ps : List (Int × Int)} (h : w.ownsRow B 57 2 (.slice (some ⟨g, 0, none⟩) n cap) n (fl2 ps)) (hn : ps.length = n) : B ≤ g ∧ n ≤ cap ∧ PtsOwn w g ps := by
  subst hn
  have h' := h
  rcases h.2 with ⟨q, _⟩ | ⟨g', cap', cur, e, hb, hg, hc, _⟩
  · cases q
  · cases e
    refine ⟨hb, hc, (Array.getElem?_eq_some_iff.1 hg).1, fun k hk => ?_, fun j hj => ?_⟩
    · obtain ⟨f0, f1⟩ := fl2_at ps k hk
      have hcs := World.ownsRow.cells h' rfl
      have q0 := hcs _ _ f0
      have q1 := hcs _ _ f1
      rw [Addr.add_mid] at q0 q1
      exact ⟨q0, by rw [Nat.add_assoc]; exact q1⟩
    · simp only [Nat.zero_add]
      refine ⟨?_, World.ownsRow.frozenAt h' j⟩
      rw [World.ownsRow.cellAt h' j hj, List.getElem?_eq_getElem (by rw [fl2_len]; exact hj)]
      rfl
/-- A copy of a shape. -/
def CP (w : World) (kd : Int) (ps : List (Int × Int)) (e : Ending) (w' : World) : Prop :=
  ∃ g cap, e = .returned (.agg #[.int .i64 kd, .slice (some ⟨g, 0, none⟩) ps.length cap]) ∧ ps.length ≤ cap ∧ w.heap.size ≤ g ∧ PtsOwn w' g ps ∧ Below w.heap.size w w'
theorem own_new {w : World} {B : Nat} (hB : B ≤ w.heap.size) : (w.alloc (.cells #[] 57)).ownsRow B 57 2 (.slice (some ⟨w.heap.size, 0, none⟩) 0 0) 0 [] := by
  have := World.ownsRow_made (base := B) (e := 57) (size := 2) w #[] 0 hB (by decide) rfl
  simpa using this
end Go.Proofs.YtldeknphfddlfaaGreatDoor
namespace Go.Proofs.YtldeknphfddlfaaGreatDoor
open Go.RowKit
set_option linter.unusedSimpArgs false
set_option linter.unusedVariables false
theorem Tryz.infoI : (Tryz.prog.info? 3).map (fun i => (i.zero, i.size, i.bytes)) = some (some (.int .i64 0), 1, 8) := by kernel_rfl
def IAt (w : World) (b off : Nat) (zs : List Int) : Prop := ∀ k, k < zs.length → w.cell? ⟨b, off + k, none⟩ = some (.int .i64 (zs.getD k 0))
/-- A list of whole numbers that may be written into: nil, or a block of its own. -/
def OwnI (w : World) (a : Option Addr) (zs : List Int) : Prop := (a = none ∧ zs = []) ∨ ∃ b, a = some ⟨b, 0, none⟩ ∧ b < w.heap.size ∧ IAt w b 0 zs ∧ w.there b 0 zs.length
theorem OwnI.blk {w w' : World} {a : Option Addr} {zs : List Int} (h : OwnI w a zs) (hs : w.heap.size ≤ w'.heap.size) (e : ∀ b off, a = some ⟨b, off, none⟩ → w'.heap[b]? = w.heap[b]?) : OwnI w' a zs := by
  rcases h with ⟨rfl, rfl⟩ | ⟨b, rfl, h1, h2, h3⟩
  · exact .inl ⟨rfl, rfl⟩
  · have eb := e b 0 rfl
    refine .inr ⟨b, rfl, by omega, fun k hk => ?_, fun j hj => ?_⟩
    · simp only [World.cell?, eb]; exact h2 k hk
    · simp only [World.cell?, World.frozen?, eb]; exact h3 j hj
theorem OwnI.lt {w : World} {a : Option Addr} {zs : List Int} (h : OwnI w a zs) : ∀ c off, a = some ⟨c, off, none⟩ → c < w.heap.size := by
  intro c off e
  rcases h with ⟨rfl, rfl⟩ | ⟨b, rfl, h, _⟩
  · cases e
  · cases e; exact h
theorem OwnI.below {w w' : World} {a : Option Addr} {zs : List Int} (h : OwnI w a zs) (H : Below w.heap.size w w') : OwnI w' a zs := h.blk H.size (fun b off e => H.block b (h.lt b off e))
theorem OwnI.grown {w w' : World} {a : Option Addr} {zs : List Int} {r : Option Nat} (h : OwnI w a zs) (hg : w.grownBy w' r) (hne : ∀ c off, a = some ⟨c, off, none⟩ → some c ≠ r) : OwnI w' a zs := h.blk hg.size (fun b off e => hg.block b (h.lt b off e) (hne b off e))
theorem OwnI.map_blk {a : Option Addr} {c : Nat} {w : World} {zs : List Int} (h : OwnI w a zs) (e : a.map (·.block) = some c) : a = some ⟨c, 0, none⟩ := by
  rcases h with ⟨rfl, rfl⟩ | ⟨b, rfl, h⟩
  · simp at e
  · simp at e; rw [e]
theorem OwnI.at {w : World} {a : Option Addr} {zs : List Int} (h : OwnI w a zs) {k : Nat} (hk : k < zs.length) : ∃ b, a = some ⟨b, 0, none⟩ ∧ w.cell? ⟨b, k, none⟩ = some (.int .i64 (zs.getD k 0)) ∧ w.frozen? ⟨b, k, none⟩ = false := by
  rcases h with ⟨rfl, rfl⟩ | ⟨b, rfl, h1, h2, h3⟩
  · simp at hk
  · refine ⟨b, rfl, by simpa using h2 k hk, ?_⟩
    simpa using (h3 k hk).2
def mki (n : Nat) : List Int := (List.range n).map (fun (k : Nat) => (1 : Int) + (k : Int))
theorem mki_len (n : Nat) : (mki n).length = n := by simp [mki]
theorem mki_at {n k : Nat} (h : k < n) : (mki n).getD k 0 = 1 + (k : Int) := by
  simp [mki, List.getD_eq_getElem?_getD, List.getElem?_map, List.getElem?_range h]
theorem setI {w : World} {b k n : Nat} {v : Int} (hb : b < w.heap.size) (hk : k < n) (h : ∀ i, i < k → w.cell? ⟨b, i, none⟩ = some (.int .i64 (1 + (i : Int)))) (ht : w.there b 0 n) (hv : v = 1 + (k : Int)) : (∀ i, i < k + 1 → (w.setCell ⟨b, k, none⟩ (.int .i64 v)).cell? ⟨b, i, none⟩ = some (.int .i64 (1 + (i : Int)))) ∧ (w.setCell ⟨b, k, none⟩ (.int .i64 v)).there b 0 n := by
  subst hv
  obtain ⟨c0, _⟩ := ht k hk
  obtain ⟨u0, hu0⟩ := Option.isSome_iff_exists.1 c0
  simp only [Nat.zero_add] at hu0
  refine ⟨fun i hi => ?_, fun j hj => ?_⟩
  · by_cases e : i = k
    · subst e; exact World.cell?_setCell_same _ _ _ hu0
    · rw [World.cell?_setCell_other _ _ _ _ (by intro q; injection q; omega)]; exact h i (by omega)
  · obtain ⟨h1, h2⟩ := ht j hj
    refine ⟨?_, by rw [World.frozen?_setCell]; exact h2⟩
    obtain ⟨u, hu⟩ := Option.isSome_iff_exists.1 h1
    obtain ⟨u', hu'⟩ := cell?_setCell_some (p := ⟨b, k, none⟩) (x := .int .i64 (1 + (k : Int))) hu
    rw [hu']; rfl
end Go.Proofs.YtldeknphfddlfaaGreatDoor
namespace Go.Proofs.YtldeknphfddlfaaGreatDoor
open Go.RowKit
set_option linter.unusedSimpArgs false
set_option linter.unusedVariables false
def fli (zs : List Int) : List Value := zs.map (Value.int .i64)
theorem fli_len (zs : List Int) : (fli zs).length = zs.length := by simp [fli]
theorem fli_one (zs : List Int) : ∀ u ∈ fli zs, u.oneCell' = true := by
  intro u hu
  simp only [fli, List.mem_map] at hu
  obtain ⟨z, _, rfl⟩ := hu
  rfl
theorem own_newI {w : World} {B : Nat} (hB : B ≤ w.heap.size) : (w.alloc (.cells #[] 3)).ownsRow B 3 1 (.slice (some ⟨w.heap.size, 0, none⟩) 0 0) 0 [] := by
  have := World.ownsRow_made (base := B) (e := 3) (size := 1) w #[] 0 hB (by decide) rfl
  simpa using this
theorem own_newI2 {w : World} {B X : Nat} (hB : B ≤ w.heap.size) (hX : w.heap.size = X) : (w.alloc (.cells #[] 3)).ownsRow B 3 1 (.slice (some ⟨X, 0, none⟩) 0 0) 0 [] := by
  subst hX; exact own_newI hB
theorem own_cell {w : World} {B g n cap : Nat} {zs : List Int} (h : w.ownsRow B 3 1 (.slice (some ⟨g, 0, none⟩) n cap) n (fli zs)) (hn : zs.length = n) {k : Nat} (hk : k < n) : w.cell? ⟨g, k, none⟩ = some (.int .i64 (zs.getD k 0)) := by
  rw [World.ownsRow.cellAt h k (by omega)]
  simp [fli, List.getD_eq_getElem?_getD, List.getElem?_eq_getElem (show k < zs.length by omega)]
theorem own_I {w : World} {B g n cap : Nat} {zs : List Int} (h : w.ownsRow B 3 1 (.slice (some ⟨g, 0, none⟩) n cap) n (fli zs)) (hn : zs.length = n) : B ≤ g ∧ n ≤ cap ∧ OwnI w (some ⟨g, 0, none⟩) zs := by
  have h' := h
  rcases h.2 with ⟨q, _⟩ | ⟨g', cap', cur, e, hb, hg, hc, _⟩
  · cases q
  · cases e
    refine ⟨hb, hc, .inr ⟨g, rfl, (Array.getElem?_eq_some_iff.1 hg).1, fun k hk => ?_, fun j hj => ?_⟩⟩
    · rw [Nat.zero_add]; exact own_cell h' hn (by omega)
    · simp only [Nat.zero_add]
      refine ⟨?_, World.ownsRow.frozenAt h' j⟩
      rw [own_cell h' hn (by omega)]; rfl
theorem news_i {w V : World} {B g n cap : Nat} {zs : List Int} (o : Nat) (ys : List Int) (h : w.ownsRow B 3 1 (.slice (some ⟨g, 0, none⟩) n cap) n (fli zs)) (hn : zs.length = n) (hB : Below w.heap.size w V) (hy : ∀ k, k < ys.length → o + k < zs.length ∧ ys.getD k 0 = zs.getD (o + k) 0) : ∀ j u, (fli ys)[j]? = some u → V.cell? ((⟨g, o, none⟩ : Addr).add j) = some u := by
  intro j u hu
  have hj : j < ys.length := by rw [← fli_len]; exact (List.getElem?_eq_some_iff.1 hu).1
  obtain ⟨h1, h2⟩ := hy j hj
  rw [Addr.add_mid]
  have c := keepcell hB (own_cell (k := o + j) h hn (by omega))
  rw [c, ← hu, ← h2]
  simp [fli, List.getD_eq_getElem?_getD, List.getElem?_eq_getElem hj]
theorem news_1 {W : World} {X : Nat} {x : Int} (h : W.cell? ⟨X, 0, none⟩ = some (.int .i64 x)) : ∀ j u, (fli [x])[j]? = some u → W.cell? ((⟨X, 0, none⟩ : Addr).add j) = some u := by
  intro j u hu
  have hj : j = 0 := by have := (List.getElem?_eq_some_iff.1 hu).1; simp [fli] at this; omega
  subst hj
  simp [fli] at hu
  rw [Addr.add_mid, ← hu]
  exact h
theorem take_at (zs : List Int) (j k : Nat) (h : k < (zs.take j).length) : 0 + k < zs.length ∧ (zs.take j).getD k 0 = zs.getD (0 + k) 0 := by
  simp at h
  refine ⟨by omega, ?_⟩
  simp [List.getD_eq_getElem?_getD, List.getElem?_take, show k < j by omega]
theorem drop_at (zs : List Int) (j k : Nat) (h : k < (zs.drop j).length) : j + k < zs.length ∧ (zs.drop j).getD k 0 = zs.getD (j + k) 0 := by
  simp at h
  refine ⟨by omega, ?_⟩
  simp [List.getD_eq_getElem?_getD, List.getElem?_drop]
/-- An append to a list of its own that is no nil, at a step of a region that draws its order; the source may be empty. -/
theorem step_append_any {P : Program} {w : World} {ops : Array Oper} {o : Oper} {a : Act} {K : Act → World → Prop} {Q : Exit → Act → World → Prop} {E : Prop} (hgd : o.guard = none) (s x : Operand) (t : TypeId)
    (ho : o.op = .call { callee := .builtin .append, args := #[s, x], argTypes := #[t, t] })
    (base : Nat) (e : TypeId) (i : TypeInfo) (z : Value) (size bytes : Nat) (ht : P.underlying t = some (.slice e)) (hi : P.info? e = some i) (hz : i.zero = some z)
    (hsize : i.size = size) (hby : i.bytes = bytes) (hzs : z.cells.size = size) (hsz : 0 < size)
    (g0 n0 cap0 : Nat) (n : Nat) (xs : List Value) (hs : a.eval s = .slice (some ⟨g0, 0, none⟩) n0 cap0) (hown : w.ownsRow base e size (.slice (some ⟨g0, 0, none⟩) n0 cap0) n xs)
    (ad : Addr) (m c : Nat) (news : List Value) (hx : a.eval x = .slice (some ad) m c) (hl : news.length = m * size) (hnews : ∀ j u, news[j]? = some u → w.cell? (ad.add j) = some u) (h1 : ∀ u ∈ news, u.oneCell' = true)
    (h63 : n + m ≤ maxLen) (hbytes : (n + m) * bytes ≤ 140737488355328) (hbase : base ≤ w.heap.size)
    (h : ∀ g cap w', w'.ownsRow base e size (.slice (some ⟨g, 0, none⟩) (n + m) cap) (n + m) (xs ++ news) → w.grownBy w' (some g0) → (g = g0 ∨ g = w.heap.size) → K (a.put o.dst (.slice (some ⟨g, 0, none⟩) (n + m) cap)) w') :
    if Region.wanted o (yielded ops a.tmps) = true then Oper.wp P o a w K Q else E := by
  have hw : Region.wanted o (yielded ops a.tmps) = true := by simp [Region.wanted, hgd]
  rw [if_pos hw]
  obtain ⟨v', w', hr, h2, h3, h4, h5⟩ := run_append_own_at (P := P) w base t o.type e i z size bytes ht hi hz hsize hby hzs hsz _ n xs hown ad m c news hl hnews h1 h63 hbytes hbase
  have hne : v' ≠ .slice none 0 0 := fun e => by have := (h4.1 e).1; cases this
  obtain ⟨g, cap, cur, rfl, _⟩ : ∃ g cap cur, v' = .slice (some ⟨g, 0, none⟩) (n + m) cap ∧ cur = () := by
    rcases h2.2 with ⟨q, _⟩ | ⟨g, cap, cur, e, _⟩
    · exact absurd q hne
    · exact ⟨g, cap, (), e, rfl⟩
  unfold Oper.wp execOp
  simp only [ho, resolve, invoke, builtin, Sem.run_bind, Sem.run_pure, Result.andThen_ok, List.map_toArray, List.map_cons, List.map_nil, hs, hx, hr]
  refine h g cap w' h2 h3 ?_
  rcases h5 with h5 | h5
  · left; simpa [Value.ownBlock] using h5
  · right; simpa [Value.ownBlock] using h5
end Go.Proofs.YtldeknphfddlfaaGreatDoor
