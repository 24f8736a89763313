/- Texts of stores, joined: Za, Zb, Zc, Zd, Ze, Zf, Xm0, Xm1, Xm2, Xm3, Xh. -/
import Derived.Test.YtehifednpbdokaaGreatDoorR1
import Derived.Laws.CopyRow
import Derived.Deep.AppendLies
import Derived.Deep.RegionLaw
import Derived.Test.YtehifednpbdokaaGreatDoorR3
import Derived.Test.YtehifednpbdokaaGreatDoorR4
namespace Go.Proofs.YtehifednpbdokaaGreatDoor
open Go.RowKit
set_option linter.unusedSimpArgs false
set_option linter.unusedVariables false
/-- The place of the first transaction that is not open. -/
def frk (ts : List Tx) : Nat := ts.findIdx (fun t => !t.2.1)
theorem frk_le (ts : List Tx) : frk ts ≤ ts.length := List.findIdx_le_length
theorem frk_yes {ts : List Tx} {i : Nat} (hi : i < ts.length) (hb : ∀ m (h : m < ts.length), m < i → ts[m].2.1 = true) (h : ts[i].2.1 = false) : frk ts = i := by
  unfold frk
  rw [List.findIdx_eq hi]
  exact ⟨by simp [h], fun j hj => by simp [hb j (by omega) hj]⟩
theorem frk_no {ts : List Tx} (hb : ∀ m (h : m < ts.length), ts[m].2.1 = true) : frk ts = ts.length := by
  unfold frk
  rw [List.findIdx_eq_length]
  intro x hx
  obtain ⟨m, hm, rfl⟩ := List.getElem_of_mem hx
  simp [hb m hm]
/-- The number of Begin's transaction, and the transactions behind it. -/
def begb (now : Int) (rs : List Rw) (ts : List Tx) : Bool := storeb now rs ts && decide (frk ts < 40)
def begN (now : Int) (rs : List Rw) (ts : List Tx) : Int := if begb now rs ts = true then (frk ts : Int) else -1
def begT (now : Int) (rs : List Rw) (ts : List Tx) : List Tx := if begb now rs ts = true then (if frk ts = ts.length then ts ++ [(now, true, [])] else ts.set (frk ts) (now, true, [])) else ts
def frI (ts : List Tx) : Int := if frk ts < ts.length then (frk ts : Int) else if ts.length < 40 then (ts.length : Int) else -1
theorem storeb_40 {now : Int} {rs : List Rw} {ts : List Tx} (h : storeb now rs ts = true) : ts.length ≤ 40 := by
  unfold storeb at h
  simp only [Bool.and_eq_true, decide_eq_true_eq] at h
  omega
theorem frI_begb {now : Int} {rs : List Rw} {ts : List Tx} (h : storeb now rs ts = true) : (frI ts = -1 ↔ begb now rs ts = false) ∧ (begb now rs ts = true → frI ts = (frk ts : Int)) := by
  have h1 := storeb_40 h
  have h2 := frk_le ts
  unfold frI begb
  rw [h]
  simp only [Bool.true_and, decide_eq_false_iff_not, decide_eq_true_eq]
  refine ⟨?_, ?_⟩
  · split
    · constructor
      · intro e; omega
      · intro e; omega
    · split
      · constructor
        · intro e; omega
        · intro e; omega
      · constructor
        · intro e; omega
        · intro e; rfl
  · intro e
    split
    · rfl
    · rw [if_pos (by omega)]; omega
end Go.Proofs.YtehifednpbdokaaGreatDoor
namespace Go.Proofs.YtehifednpbdokaaGreatDoor
open Go.RowKit
set_option linter.unusedSimpArgs false
set_option linter.unusedVariables false
theorem run_copy_any {P : Program} (w : World) (dT sT ty elem : TypeId) (size n : Nat) (g o dLen dCap : Nat) (a : Addr) (sLen sCap : Nat) (cur : Array Value) (t : TypeId) (cs : List Value)
    (hu : P.underlying dT = some (.slice elem)) (hs : (P.info? elem).map (·.size) = some size)
    (hg : w.heap[g]? = some (.cells cur t (0, 0))) (hm : Nat.min sLen dLen = n) (hn : cs.length = n * size)
    (hsrc : ∀ j v, cs[j]? = some v → w.cell? (a.add j) = some v) (hfit : o + cs.length ≤ cur.size) (h1 : ∀ v ∈ cs, v.oneCell' = true) :
    (Builtin.copy_ #[dT, sT] ty #[.slice (some ⟨g, o, none⟩) dLen dCap, .slice (some a) sLen sCap]).run P w =
      .ok (goInt n) (w.setRow g (cur.toList.take o ++ cs ++ cur.toList.drop (o + cs.length)).toArray) := by
  have hl := run_loadCells_list (P := P) w a cs hsrc
  have hst := run_storeCells_at P g o t cs 0 cur w hg (by simpa using hfit) h1
  cases hq : P.info? elem with
  | none => simp [hq] at hs
  | some i =>
    have hi : i.size = size := by simpa [hq] using hs
    simp [Builtin.copy_, run_underlying hu, Builtin.lenOf, Builtin.firstCells, sizeOf, typeInfo, hq, hi, hm, ← hn, hl, hst]
theorem wp_copy_any {P : Program} {w : World} {o : Oper} {a : Act} {K : Act → World → Prop} {Q : Exit → Act → World → Prop} (d s : Operand) (dT sT : TypeId)
    (ho : o.op = .call { callee := .builtin .copy, args := #[d, s], argTypes := #[dT, sT] }) (elem : TypeId) (hu : P.underlying dT = some (.slice elem)) (size n : Nat) (hsz : (P.info? elem).map (·.size) = some size)
    (g off dLen dCap : Nat) (ad : Addr) (sLen sCap : Nat) (hd : a.eval d = .slice (some ⟨g, off, none⟩) dLen dCap) (hs : a.eval s = .slice (some ad) sLen sCap)
    (cur : Array Value) (t : TypeId) (hg : w.heap[g]? = some (.cells cur t (0, 0))) (cs : List Value) (hm : Nat.min sLen dLen = n) (hn : cs.length = n * size)
    (hsrc : ∀ j v, cs[j]? = some v → w.cell? (ad.add j) = some v) (hfit : off + cs.length ≤ cur.size) (h1 : ∀ v ∈ cs, v.oneCell' = true)
    (h : K (a.put o.dst (goInt n)) (w.setRow g (cur.toList.take off ++ cs ++ cur.toList.drop (off + cs.length)).toArray)) : o.wp P a w K Q := by
  have hrun := run_copy_any (P := P) w dT sT o.type elem size n g off dLen dCap ad sLen sCap cur t cs hu hsz hg hm hn hsrc hfit h1
  unfold Oper.wp execOp
  simp only [ho, resolve, invoke, builtin, Sem.run_bind, Sem.run_pure, Result.andThen_ok, List.map_toArray, List.map_cons, List.map_nil, hd, hs, hrun]
  exact h
theorem wpList_copy_any {P : Program} {w : World} {ops : Array Oper} {rest : List Oper} {o : Oper} {a : Act} {Q : Exit → Act → World → Prop} (hgd : o.guard = none) (d s : Operand) (dT sT : TypeId)
    (ho : o.op = .call { callee := .builtin .copy, args := #[d, s], argTypes := #[dT, sT] }) (elem : TypeId) (hu : P.underlying dT = some (.slice elem)) (size n : Nat) (hsz : (P.info? elem).map (·.size) = some size)
    (g off dLen dCap : Nat) (ad : Addr) (sLen sCap : Nat) (hd : a.eval d = .slice (some ⟨g, off, none⟩) dLen dCap) (hs : a.eval s = .slice (some ad) sLen sCap)
    (cur : Array Value) (t : TypeId) (hg : w.heap[g]? = some (.cells cur t (0, 0))) (cs : List Value) (hm : Nat.min sLen dLen = n) (hn : cs.length = n * size)
    (hsrc : ∀ j v, cs[j]? = some v → w.cell? (ad.add j) = some v) (hfit : off + cs.length ≤ cur.size) (h1 : ∀ v ∈ cs, v.oneCell' = true)
    (h : wpList P ops Q rest (a.put o.dst (goInt n)) (w.setRow g (cur.toList.take off ++ cs ++ cur.toList.drop (off + cs.length)).toArray)) : wpList P ops Q (o :: rest) a w :=
  wpList_plain hgd fun _ hK => wp_copy_any d s dT sT ho elem hu size n hsz g off dLen dCap ad sLen sCap hd hs cur t hg cs hm hn hsrc hfit h1 (hK _ _ h)
theorem step_copy_any {P : Program} {ops : Array Oper} {o : Oper} {a : Act} {w : World} {K : Act → World → Prop} {Q : Exit → Act → World → Prop} {E : Prop} (hgd : o.guard = none) (d s : Operand) (dT sT : TypeId)
    (ho : o.op = .call { callee := .builtin .copy, args := #[d, s], argTypes := #[dT, sT] }) (elem : TypeId) (hu : P.underlying dT = some (.slice elem)) (size n : Nat) (hsz : (P.info? elem).map (·.size) = some size)
    (g off dLen dCap : Nat) (ad : Addr) (sLen sCap : Nat) (hd : a.eval d = .slice (some ⟨g, off, none⟩) dLen dCap) (hs : a.eval s = .slice (some ad) sLen sCap)
    (cur : Array Value) (t : TypeId) (hg : w.heap[g]? = some (.cells cur t (0, 0))) (cs : List Value) (hm : Nat.min sLen dLen = n) (hn : cs.length = n * size)
    (hsrc : ∀ j v, cs[j]? = some v → w.cell? (ad.add j) = some v) (hfit : off + cs.length ≤ cur.size) (h1 : ∀ v ∈ cs, v.oneCell' = true)
    (h : K (a.put o.dst (goInt n)) (w.setRow g (cur.toList.take off ++ cs ++ cur.toList.drop (off + cs.length)).toArray)) :
    if Region.wanted o (yielded ops a.tmps) = true then Oper.wp P o a w K Q else E := by
  have hw : Region.wanted o (yielded ops a.tmps) = true := by simp [Region.wanted, hgd]
  rw [if_pos hw]
  exact wp_copy_any d s dT sT ho elem hu size n hsz g off dLen dCap ad sLen sCap hd hs cur t hg cs hm hn hsrc hfit h1 h
theorem own_pre {w : World} {base : Nat} {e : TypeId} {size g n c : Nat} {xs : List Value} (h : w.ownsRow base e size (.slice (some ⟨g, 0, none⟩) n c) n xs) {i : Nat} (hi : i ≤ n) : w.ownsRow base e size (.slice (some ⟨g, 0, none⟩) i c) i (xs.take (i * size)) := by
  have hl : i * size ≤ n * size := Nat.mul_le_mul_right _ hi
  refine ⟨by rw [List.length_take, h.1]; omega, ?_⟩
  rcases h.2 with ⟨q, _⟩ | ⟨g', c', cur, e1, q1, q2, q3, q4, q5, q6⟩
  · cases q
  · cases e1
    exact .inr ⟨g, c, cur, rfl, q1, q2, by omega, q4, q5, by rw [← q6, List.take_take, Nat.min_eq_left hl]⟩
theorem grown_row {w : World} {g : Nat} (cs : Array Value) : w.grownBy (w.setRow g cs) (some g) :=
  ⟨rfl, rfl, rfl, by simp [World.setRow], fun k _ hk => setRow_other w g k cs (fun e => hk (by rw [e]))⟩
theorem self_copy {α : Type} (L : List α) (o m : Nat) (h : o + m ≤ L.length) : L.take o ++ (L.drop o).take m ++ L.drop (o + ((L.drop o).take m).length) = L := by
  have hl : ((L.drop o).take m).length = m := by simp; omega
  rw [hl, List.append_assoc]
  have h2 : (L.drop o).take m ++ L.drop (o + m) = L.drop o := by
    rw [← List.drop_drop]; exact List.take_append_drop _ _
  rw [h2, List.take_append_drop]
end Go.Proofs.YtehifednpbdokaaGreatDoor
namespace Go.Proofs.YtehifednpbdokaaGreatDoor
open Go.RowKit
set_option linter.unusedSimpArgs false
set_option linter.unusedVariables false
theorem layTx {cur xs : List Value} {k n : Nat} {x0 x1 x2 : Value} (h : cur.take n = xs) (hn : n ≤ cur.length) (hk : k + 3 ≤ n) : (cur.take k ++ [x0, x1, x2] ++ cur.drop (k + 3)).take n = xs.take k ++ [x0, x1, x2] ++ xs.drop (k + 3) := by
  have hxl : xs.length = n := by rw [← h, List.length_take]; omega
  obtain ⟨r, hr⟩ : ∃ r, cur = xs ++ r := ⟨cur.drop n, by rw [← h]; exact (List.take_append_drop n cur).symm⟩
  have e1 : cur.take k = xs.take k := by rw [hr, List.take_append_of_le_length (by omega)]
  have e2 : cur.drop (k + 3) = xs.drop (k + 3) ++ r := by rw [hr, List.drop_append_of_le_length (by omega)]
  rw [e1, e2, ← List.append_assoc, List.take_append_of_le_length (by simp; omega)]
  exact List.take_of_length_le (by simp; omega)
theorem wpList_copy_row {P : Program} {w : World} {ops : Array Oper} {rest : List Oper} {o : Oper} {a : Act} {Q : Exit → Act → World → Prop} (hgd : o.guard = none) (d s : Operand) (dT sT : TypeId)
    (ho : o.op = .call { callee := .builtin .copy, args := #[d, s], argTypes := #[dT, sT] }) (elem : TypeId) (hu : P.underlying dT = some (.slice elem)) (size n : Nat) (hsz : (P.info? elem).map (·.size) = some size)
    (g off dLen dCap : Nat) (ad : Addr) (sLen sCap : Nat) (hd : a.eval d = .slice (some ⟨g, off, none⟩) dLen dCap) (hs : a.eval s = .slice (some ad) sLen sCap)
    (cur : Array Value) (t : TypeId) (hg : w.heap[g]? = some (.cells cur t (0, 0))) (cs : List Value) (hm : Nat.min sLen dLen = n) (hn : cs.length = n * size)
    (hsrc : ∀ j v, cs[j]? = some v → w.cell? (ad.add j) = some v) (hfit : off + cs.length ≤ cur.size) (h1 : ∀ v ∈ cs, v.oneCell' = true)
    (new : Array Value) (hnew : (cur.toList.take off ++ cs ++ cur.toList.drop (off + cs.length)).toArray = new)
    (h : ∀ w', Hid (w'.heap[g]? = some (.cells new t (0, 0))) → Hid (w.grownBy w' (some g)) → wpList P ops Q rest (a.put o.dst (goInt n)) w') : wpList P ops Q (o :: rest) a w := by
  subst hnew
  exact wpList_copy_any hgd d s dT sT ho elem hu size n hsz g off dLen dCap ad sLen sCap hd hs cur t hg cs hm hn hsrc hfit h1 (h _ (hid (setRow_heap w g cur _ t _ hg)) (hid (grown_row _)))
theorem step_copy_row {P : Program} {ops : Array Oper} {o : Oper} {a : Act} {w : World} {K : Act → World → Prop} {Q : Exit → Act → World → Prop} {E : Prop} (hgd : o.guard = none) (d s : Operand) (dT sT : TypeId)
    (ho : o.op = .call { callee := .builtin .copy, args := #[d, s], argTypes := #[dT, sT] }) (elem : TypeId) (hu : P.underlying dT = some (.slice elem)) (size n : Nat) (hsz : (P.info? elem).map (·.size) = some size)
    (g off dLen dCap : Nat) (ad : Addr) (sLen sCap : Nat) (hd : a.eval d = .slice (some ⟨g, off, none⟩) dLen dCap) (hs : a.eval s = .slice (some ad) sLen sCap)
    (cur : Array Value) (t : TypeId) (hg : w.heap[g]? = some (.cells cur t (0, 0))) (cs : List Value) (hm : Nat.min sLen dLen = n) (hn : cs.length = n * size)
    (hsrc : ∀ j v, cs[j]? = some v → w.cell? (ad.add j) = some v) (hfit : off + cs.length ≤ cur.size) (h1 : ∀ v ∈ cs, v.oneCell' = true)
    (new : Array Value) (hnew : (cur.toList.take off ++ cs ++ cur.toList.drop (off + cs.length)).toArray = new)
    (h : ∀ w', Hid (w'.heap[g]? = some (.cells new t (0, 0))) → Hid (w.grownBy w' (some g)) → K (a.put o.dst (goInt n)) w') :
    if Region.wanted o (yielded ops a.tmps) = true then Oper.wp P o a w K Q else E := by
  subst hnew
  exact step_copy_any hgd d s dT sT ho elem hu size n hsz g off dLen dCap ad sLen sCap hd hs cur t hg cs hm hn hsrc hfit h1 (h _ (hid (setRow_heap w g cur _ t _ hg)) (hid (grown_row _)))
theorem clear_none (a : Addr) (cp : Nat) (ty : TypeId) (W : World) : (Builtin.clear_ #[37] ty #[.slice (some a) 0 cp]).run Tryz.prog W = .ok (.tuple #[]) W := by
  simp [Builtin.clear_, run_underlying Tryz.underlying37]
theorem sizeTx : (Tryz.prog.info? 84).map (fun i => i.size) = some 3 := by
  obtain ⟨i0, hi0, hz0, hz1, hz2⟩ := info_parts Tryz.infoTx
  rw [hi0]; simp [hz1]
end Go.Proofs.YtehifednpbdokaaGreatDoor
namespace Go.Proofs.YtehifednpbdokaaGreatDoor
open Go.RowKit
set_option linter.unusedSimpArgs false
set_option linter.unusedVariables false
theorem flatK_set {α : Type} (K : Kd α) (q : α × Value) : ∀ (ps : List (α × Value)) (i : Nat), i < ps.length → flatK K (ps.set i q) = (flatK K ps).take (i * K.sz) ++ K.vals q.1 q.2 ++ (flatK K ps).drop (i * K.sz + K.sz)
  | [], i, h => absurd h (by simp)
  | p :: ps, 0, _ => by
    simp only [flatK, List.set_cons_zero, List.flatMap_cons, Nat.zero_mul, List.take_zero, List.nil_append, Nat.zero_add]
    have h := K.len p.1 p.2
    rw [← h, List.drop_left]
  | p :: ps, i + 1, h => by
    have ih := flatK_set K q ps i (by simpa using h)
    have hl := K.len p.1 p.2
    simp only [flatK, List.set_cons_succ, List.flatMap_cons] at ih ⊢
    rw [ih, show (i + 1) * K.sz = K.sz + i * K.sz by rw [Nat.succ_mul]; omega]
    rw [← hl, List.take_length_add_append, show (K.vals p.1 p.2).length + i * (K.vals p.1 p.2).length + (K.vals p.1 p.2).length = (K.vals p.1 p.2).length + (i * (K.vals p.1 p.2).length + (K.vals p.1 p.2).length) by omega, List.drop_length_add_append]
    simp only [List.append_assoc]
theorem LX.setAt {α : Type} {K : Kd α} {t : TypeId} {base hi : Nat} {W w' : World} {c : Nat} {xs : List α} {ps : List (α × Value)} {x : α} {sv : Value} {i g g' c' : Nat} (h : LX K t base hi W (.slice (some ⟨g, 0, none⟩) xs.length c) xs ps) (hi' : i < xs.length)
    (hsub : ∀ lo up, up ≤ w'.heap.size → K.sub lo up w' sv x)
    (hown : w'.ownsRow base t K.sz (.slice (some ⟨g', 0, none⟩) xs.length c') xs.length ((flatK K ps).take (i * K.sz) ++ K.vals x sv ++ (flatK K ps).drop (i * K.sz + K.sz))) (hg : W.grownBy w' (some g)) (hat : g = g' ∨ g' = W.heap.size) (hlt : g' < w'.heap.size) :
    LX K t base w'.heap.size w' (.slice (some ⟨g', 0, none⟩) xs.length c') (xs.set i x) (ps.set i (x, sv)) := by
  have hpl := h.plen
  obtain ⟨h1, h2, h3, h4, lo, up, h5, h6⟩ := h
  have hgs := hg.size
  refine ⟨by rw [List.map_set, h1], ?_, fun q e => by simp [Value.ownBlock] at e; omega, Nat.le_refl _, lo, up, fun j hj => ?_, fun a b hab hb => h6 a b hab (by simpa using hb)⟩
  · rw [List.length_set, flatK_set K (x, sv) ps i (by omega)]; exact hown
  · have hj' : j < ps.length := by simpa using hj
    obtain ⟨a1, a2, a3, a4⟩ := h5 j hj'
    have a4' := a4 g rfl
    have hgg := h3 g rfl
    have hfr : ∀ q, lo j ≤ q → q < up j → w'.heap[q]? = W.heap[q]? := fun q q1 q2 => hg.block q (by omega) (fun e => by cases e; omega)
    refine ⟨?_, a2, by omega, fun q e => ?_⟩
    · by_cases e : i = j
      · subst e
        rw [List.getElem_set_self]
        exact hsub _ _ (by omega)
      · rw [List.getElem_set_ne e]
        exact K.frame a1 hfr hgs
    · simp [Value.ownBlock] at e
      subst e
      rcases hat with e | e
      · subst e; exact a4'
      · right; omega
end Go.Proofs.YtehifednpbdokaaGreatDoor
namespace Go.Proofs.YtehifednpbdokaaGreatDoor
open Go.RowKit
set_option linter.unusedSimpArgs false
set_option linter.unusedVariables false
def putT (now : Int) (ts : List Tx) (f : Nat) : List Tx := if f = ts.length then ts ++ [(now, true, [])] else ts.set f (now, true, [])
theorem flatK_one {α : Type} {K : Kd α} {t : TypeId} {base hi : Nat} {w : World} {v : Value} {xs : List α} {ps : List (α × Value)} (h : LX K t base hi w v xs ps) : ∀ u ∈ flatK K ps, u.oneCell' = true := by
  obtain ⟨h1, h2, h3, h4, lo, up, h5, h6⟩ := h
  intro u hu
  unfold flatK at hu
  rw [List.mem_flatMap] at hu
  obtain ⟨q, hq, hu⟩ := hu
  obtain ⟨j, hj, rfl⟩ := List.getElem_of_mem hq
  exact K.one (h5 j hj).1 u hu
theorem subT_nil (lo up : Nat) (w : World) (now : Int) (h : up ≤ w.heap.size) : KT.sub lo up w (.slice none 0 0) (now, true, []) := ⟨h, .inl ⟨rfl, rfl⟩⟩
end Go.Proofs.YtehifednpbdokaaGreatDoor
namespace Go.Proofs.YtehifednpbdokaaGreatDoor
open Go.RowKit
set_option linter.unusedSimpArgs false
set_option linter.unusedVariables false
set_option maxRecDepth 100000 in
set_option maxHeartbeats 1000000 in
theorem store_copiedL (now : Int) (B D rc tc : Nat) (rs : List Rw) (ts : List Tx) (w : World) (hm : rs.length ≤ 1099511627776) (htm : ts.length ≤ 1099511627776) (hr : RwsZ w B rs) (ht : TxsS w D ts) : Calls Tryz.prog 98 #[.agg #[.int .i64 now, .slice (some ⟨B, 0, none⟩) rs.length rc, .slice (some ⟨D, 0, none⟩) ts.length tc]] w fun e w' => ∃ g c tg tcc mid, e = .returned (.agg #[.int .i64 now, .slice (some ⟨g, 0, none⟩) rs.length c, .slice (some ⟨tg, 0, none⟩) ts.length tcc]) ∧ (LC KR mid w'.heap.size w' (.slice (some ⟨g, 0, none⟩) rs.length c) rs ∧ ∃ px, LX KT 84 w.heap.size mid w' (.slice (some ⟨tg, 0, none⟩) ts.length tcc) ts px) ∧ RwsZ w' g rs ∧ w.heap.size ≤ mid ∧ mid ≤ w'.heap.size ∧ Below w.heap.size w w' := by
  have HK := hid (fun (W : World) (hb : Below w.heap.size w W) => kept_tx D tc ts W htm (ht.below hb))
  have HR := hid (fun (W : World) (hb : Below w.heap.size w W) => rowsZ_copied now B rc rs W hm (hr.below hb))
  clear hr ht
  generalize hnr : rs.length = nr at *
  generalize hnt : ts.length = nt at *
  have HNR := hid hnr
  have HNT := hid hnt
  clear hnr hnt
  have hB : Below w.heap.size w ((w.alloc (.cells #[.int .i64 now, .slice (some ⟨B, 0, none⟩) nr rc, .slice (some ⟨D, 0, none⟩) nt tc] 39)).alloc (.cells #[.int .i64 0, .slice none 0 0, .slice none 0 0] 39)) := balloc (balloc (Below.refl _ _) _) _
  have g0 := old_alloc (o' := .cells #[.int .i64 0, .slice none 0 0, .slice none 0 0] 39) (new_alloc w w.heap.size (.cells #[.int .i64 now, .slice (some ⟨B, 0, none⟩) nr rc, .slice (some ⟨D, 0, none⟩) nt tc] 39) rfl)
  have g1 := new_alloc (w.alloc (.cells #[.int .i64 now, .slice (some ⟨B, 0, none⟩) nr rc, .slice (some ⟨D, 0, none⟩) nt tc] 39)) (w.heap.size + 1) (.cells #[.int .i64 0, .slice none 0 0, .slice none 0 0] 39) (by simp)
  go_enter Tryz.func98, Tryz.ntmps98
  go_upto_region 1 with fail
  generalize (w.alloc (.cells #[.int .i64 now, .slice (some ⟨B, 0, none⟩) nr rc, .slice (some ⟨D, 0, none⟩) nt tc] 39)).alloc (.cells #[.int .i64 0, .slice none 0 0, .slice none 0 0] 39) = W at *
  obtain ⟨⟨d0, d1, d2⟩, _⟩ := cellk3 g0
  have hWs := lt_of_block g1
  go_wp2_with fail
  refine (HK.out _ hB).mono ?_
  rintro e y ⟨v, px, rfl, hX, ⟨tg, tcc, rfl⟩, hy⟩
  replace g0 := keepheap2 hy g0
  replace g1 := keepheap2 hy g1
  replace hB := btrans hB hy
  have hyz := hy.size
  have HX := hid hX
  clear hy hX HK d0 d1 d2
  obtain ⟨⟨d0, d1, d2⟩, _⟩ := cellk3 g0
  go_wp2_with fail
  refine (HR.out _ hB).mono ?_
  rintro e z ⟨g, c, pr, rfl, hX2, hz⟩
  replace g1 := keepheap2 hz g1
  replace hB := btrans hB hz
  have hzz := hz.size
  have HX1 := hid (HX.out.below hz)
  have HX2 := hid hX2
  clear hz hX2 HR HX g0 d0 d1 d2
  obtain ⟨⟨v0, v1, v2⟩, u0, u1, u2⟩ := cellk3 g1
  have HB := hid hB
  clear hB
  go_wp2_with fail
  have gF := setk3 g1 (.int .i64 now) (.slice (some ⟨g, 0, none⟩) nr c) (.slice (some ⟨tg, 0, none⟩) nt tcc)
  have bF := bset (bset (bset HB.out (q := w.heap.size + 1) (k := 0) (by omega) (.int .i64 now)) (q := w.heap.size + 1) (k := 1) (by omega) (.slice (some ⟨g, 0, none⟩) nr c)) (q := w.heap.size + 1) (k := 2) (by omega) (.slice (some ⟨tg, 0, none⟩) nt tcc)
  have hfar : ∀ b, b ≠ w.heap.size + 1 → (((z.setCell ⟨w.heap.size + 1, 0, none⟩ (.int .i64 now)).setCell ⟨w.heap.size + 1, 1, none⟩ (.slice (some ⟨g, 0, none⟩) nr c)).setCell ⟨w.heap.size + 1, 2, none⟩ (.slice (some ⟨tg, 0, none⟩) nt tcc)).heap[b]? = z.heap[b]? := fun b hb => by rw [Below.heap_setCell _ _ _ _ (by dsimp only; omega), Below.heap_setCell _ _ _ _ (by dsimp only; omega), Below.heap_setCell _ _ _ _ (by dsimp only; omega)]
  have hwz : (((z.setCell ⟨w.heap.size + 1, 0, none⟩ (.int .i64 now)).setCell ⟨w.heap.size + 1, 1, none⟩ (.slice (some ⟨g, 0, none⟩) nr c)).setCell ⟨w.heap.size + 1, 2, none⟩ (.slice (some ⟨tg, 0, none⟩) nt tcc)).heap.size = z.heap.size := by simp only [World.size_setCell]
  generalize (((z.setCell ⟨w.heap.size + 1, 0, none⟩ (.int .i64 now)).setCell ⟨w.heap.size + 1, 1, none⟩ (.slice (some ⟨g, 0, none⟩) nr c)).setCell ⟨w.heap.size + 1, 2, none⟩ (.slice (some ⟨tg, 0, none⟩) nt tcc)) = wf at *
  have x1 := ((HX2.out.frame (w' := wf) (fun b h1 h2 => hfar b (by omega)) (by omega)).mono (hi' := wf.heap.size) (Nat.le_refl _) (by omega) (Nat.le_refl _)).lc
  have x2 := ((HX1.out.frame (w' := wf) (fun b h1 h2 => hfar b (by omega)) (by omega)).mono (base' := w.heap.size) (hi' := y.heap.size) (by omega) (Nat.le_refl _) (by omega))
  have hrz : RwsZ wf g rs := by
    refine LC.rwsZ (cap := c) (base := y.heap.size) (hi := wf.heap.size) ?_
    rw [HNR.out]; exact x1
  obtain ⟨⟨z0, z1, z2⟩, _⟩ := cellk3 gF
  exact bodyPost_ret (v := .agg #[.int .i64 now, .slice (some ⟨g, 0, none⟩) nr c, .slice (some ⟨tg, 0, none⟩) nt tcc]) (by simp [results, Tryz.results98, go_sem, z0, z1, z2]) rfl ⟨g, c, tg, tcc, y.heap.size, rfl, ⟨x1, _, x2⟩, hrz, by omega, by omega, bF⟩
end Go.Proofs.YtehifednpbdokaaGreatDoor
namespace Go.Proofs.YtehifednpbdokaaGreatDoor
open Go.RowKit
set_option linter.unusedSimpArgs false
set_option linter.unusedVariables false
def kcn (xs : List Ch) : Int := (xs.map (fun r => 3 + 2 * (r.2.2.2.length : Int))).sum
def kkc (k0 : Int) (xs : List Ch) (j : Nat) : Int := k0 + kcn (xs.take j)
theorem kkc_next {k0 : Int} {xs : List Ch} {j : Nat} (h : j < xs.length) : kkc k0 xs (j + 1) = kkc k0 xs j + 3 + 2 * (xs[j].2.2.2.length : Int) := by
  unfold kkc kcn
  rw [List.take_add_one, List.getElem?_eq_getElem h, List.map_append, List.sum_append]
  simp only [Option.toList, List.map_cons, List.map_nil, List.sum_cons, List.sum_nil]
  omega
theorem kkc_bound {k0 : Int} {xs : List Ch} (hl : ∀ m (h : m < xs.length), xs[m].2.2.2.length ≤ 1048576) : ∀ j, j ≤ xs.length → k0 ≤ kkc k0 xs j ∧ kkc k0 xs j ≤ k0 + (j : Int) * 2097155 := by
  intro j
  induction j with
  | zero => intro _; simp [kkc, kcn]
  | succ j ih =>
    intro hj
    obtain ⟨h1, h2⟩ := ih (by omega)
    have h3 := hl j (by omega)
    rw [kkc_next (by omega)]
    constructor <;> omega
def mke (k : Int) (r : Ch) : Ch := (k, ((k + 1) % 3 == 0), k + 2, tkk (k + 3) r.2.2.2.length)
def mkc (k0 : Int) (xs : List Ch) : List Ch := xs.mapIdx (fun j r => mke (kkc k0 xs j) r)
theorem mkc_len (k0 : Int) (xs : List Ch) : (mkc k0 xs).length = xs.length := by simp [mkc]
theorem mkc_at {k0 : Int} {xs : List Ch} {j : Nat} (h : j < xs.length) : (mkc k0 xs)[j]'(by rw [mkc_len]; exact h) = mke (kkc k0 xs j) xs[j] := by simp [mkc]
theorem mkc_S {k0 : Int} {xs : List Ch} (h : chS xs) : chS (mkc k0 xs) := by
  refine ⟨by rw [mkc_len]; exact h.1, fun m hm => ?_⟩
  have hm' := hm
  rw [mkc_len] at hm'
  rw [mkc_at hm']
  simp only [mke, tkk_len]
  exact h.2 m hm'
def ktn (ts : List Tx) : Int := (ts.map (fun r => 2 + kcn r.2.2)).sum
def kkt (k0 : Int) (ts : List Tx) (j : Nat) : Int := k0 + ktn (ts.take j)
theorem kkt_next {k0 : Int} {ts : List Tx} {j : Nat} (h : j < ts.length) : kkt k0 ts (j + 1) = kkc (kkt k0 ts j + 2) ts[j].2.2 ts[j].2.2.length := by
  unfold kkt ktn kkc
  rw [List.take_add_one, List.getElem?_eq_getElem h, List.map_append, List.sum_append, List.take_length]
  simp only [Option.toList, List.map_cons, List.map_nil, List.sum_cons, List.sum_nil]
  omega
theorem kkt_bound {k0 : Int} {ts : List Tx} (hl : ∀ m (h : m < ts.length), chS ts[m].2.2) : ∀ j, j ≤ ts.length → k0 ≤ kkt k0 ts j ∧ kkt k0 ts j ≤ k0 + (j : Int) * 2199026401282 := by
  intro j
  induction j with
  | zero => intro _; simp [kkt, ktn]
  | succ j ih =>
    intro hj
    obtain ⟨h1, h2⟩ := ih (by omega)
    have h3 := hl j (by omega)
    obtain ⟨h4, h5⟩ := kkc_bound (k0 := kkt k0 ts j + 2) h3.2 ts[j].2.2.length (Nat.le_refl _)
    have h6 := h3.1
    rw [kkt_next (by omega)]
    constructor <;> omega
def mkt (k : Int) (r : Tx) : Tx := (k, ((k + 1) % 3 == 0), mkc (k + 2) r.2.2)
def mks (k0 : Int) (ts : List Tx) : List Tx := ts.mapIdx (fun j r => mkt (kkt k0 ts j) r)
theorem mks_len (k0 : Int) (ts : List Tx) : (mks k0 ts).length = ts.length := by simp [mks]
theorem mks_at {k0 : Int} {ts : List Tx} {j : Nat} (h : j < ts.length) : (mks k0 ts)[j]'(by rw [mks_len]; exact h) = mkt (kkt k0 ts j) ts[j] := by simp [mks]
def rwS (xs : List Rw) : Prop := xs.length ≤ 1048576 ∧ ∀ m (h : m < xs.length), xs[m].2.2.2.2.length ≤ 1048576
def krn (xs : List Rw) : Int := (xs.map (fun r => 4 + 2 * (r.2.2.2.2.length : Int))).sum
def kkr (k0 : Int) (xs : List Rw) (j : Nat) : Int := k0 + krn (xs.take j)
theorem kkr_next {k0 : Int} {xs : List Rw} {j : Nat} (h : j < xs.length) : kkr k0 xs (j + 1) = kkr k0 xs j + 4 + 2 * (xs[j].2.2.2.2.length : Int) := by
  unfold kkr krn
  rw [List.take_add_one, List.getElem?_eq_getElem h, List.map_append, List.sum_append]
  simp only [Option.toList, List.map_cons, List.map_nil, List.sum_cons, List.sum_nil]
  omega
theorem kkr_bound {k0 : Int} {xs : List Rw} (hl : ∀ m (h : m < xs.length), xs[m].2.2.2.2.length ≤ 1048576) : ∀ j, j ≤ xs.length → k0 ≤ kkr k0 xs j ∧ kkr k0 xs j ≤ k0 + (j : Int) * 2097156 := by
  intro j
  induction j with
  | zero => intro _; simp [kkr, krn]
  | succ j ih =>
    intro hj
    obtain ⟨h1, h2⟩ := ih (by omega)
    have h3 := hl j (by omega)
    rw [kkr_next (by omega)]
    constructor <;> omega
def mkr1 (k : Int) (r : Rw) : Rw := (k, k + 1, k + 2, k + 3, tkk (k + 4) r.2.2.2.2.length)
def mkr (k0 : Int) (xs : List Rw) : List Rw := xs.mapIdx (fun j r => mkr1 (kkr k0 xs j) r)
theorem mkr_len (k0 : Int) (xs : List Rw) : (mkr k0 xs).length = xs.length := by simp [mkr]
theorem mkr_at {k0 : Int} {xs : List Rw} {j : Nat} (h : j < xs.length) : (mkr k0 xs)[j]'(by rw [mkr_len]; exact h) = mkr1 (kkr k0 xs j) xs[j] := by simp [mkr]
end Go.Proofs.YtehifednpbdokaaGreatDoor
namespace Go.Proofs.YtehifednpbdokaaGreatDoor
open Go.RowKit
set_option linter.unusedSimpArgs false
set_option linter.unusedVariables false
set_option maxRecDepth 100000 in
set_option maxHeartbeats 4000000 in
theorem mark_chsX (base hi : Nat) (v : Value) (xs : List Ch) (k0 : Int) (w : World) (hs : chS xs) (h0 : 0 ≤ k0) (h1 : k0 ≤ 4500000000000000000) (h : LC KC base hi w v xs) : Calls Tryz.prog 82 #[v, .int .i64 k0] w fun e w' => e = .returned (.int .i64 (kkc k0 xs xs.length)) ∧ LC KC base hi w' v (mkc k0 xs) ∧ Mid base hi w w' := by
  obtain ⟨hih, h⟩ := h
  rcases h with ⟨rfl, rfl⟩ | ⟨g, cap, ss, lo, up, rfl, hcap, hbg, hgh, hth, hel, hd⟩
  · go_enter Tryz.func82, Tryz.ntmps82
    go_wp2_with fail
    go_loopw [1, 5] (fun tk' ti wr => tk' = .int .i64 k0 ∧ ti = .int .i64 0 ∧ wr = w) (fun _ _ _ => 0)
    case atStart => exact ⟨rfl, rfl, rfl⟩
    case round =>
      obtain ⟨rfl, rfl, rfl⟩ := hrel
      go_wp2_with fail
      go_ret
      exact ⟨by simp [kkc, kcn], ⟨hih, .inl ⟨by simp [mkc], rfl⟩⟩, mid_refl _ _ _⟩
  have HL := hid hs.2
  have hm := hs.1
  have HE := hid (fun j hj => (hel j hj).1)
  have HC := hid (fun j hj => (hel j hj).2)
  have HD := hid hd
  have HK := hid (kkc_bound (k0 := k0) hs.2)
  clear hs hel hd
  obtain ⟨n, hn⟩ : ∃ n, n = xs.length := ⟨_, rfl⟩
  have HN := hid hn.symm
  rw [← hn] at hm hth hcap ⊢
  have HTT := hid hth
  have HF : Hid (∀ (W : World) (q : Int), q = kkc k0 xs n → Mid base hi w W → W.there g 0 (n * 4) → (∀ i (h : i < xs.length), i < n → ElX KC W g i (mke (kkc k0 xs i) xs[i]) (ss i) (lo i) (up i)) → (Ending.returned (.int .i64 q) = .returned (.int .i64 (kkc k0 xs n)) ∧ LC KC base hi W (.slice (some ⟨g, 0, none⟩) n cap) (mkc k0 xs))) := hid (fun W q hq hM hT h => ⟨by rw [hq], by
    refine ⟨Nat.le_trans hih hM.2.2.2.1, .inr ⟨g, cap, ss, lo, up, by rw [mkc_len, ← hn], by rw [mkc_len, ← hn]; exact hcap, hbg, hgh, by rw [mkc_len, ← hn]; exact hT, fun j hj => ?_, fun i j hne hi' hj => ?_⟩⟩
    · have hj' := hj
      rw [mkc_len] at hj'
      rw [mkc_at hj']
      exact ⟨h j hj' (by omega), HC.out j hj'⟩
    · rw [mkc_len] at hi' hj
      exact HD.out i j hne hi' hj⟩)
  clear hth hcap hn
  have hmid0 := mid_refl base hi w
  have hgw : g < w.heap.size := by omega
  go_enter Tryz.func82, Tryz.ntmps82
  go_wp2_with fail
  go_loopw [1, 5] (fun tk' ti wr => ∃ j : Nat, ∃ k : Int, ti = .int .i64 j ∧ tk' = .int .i64 k ∧ j ≤ n ∧ Hid (k = kkc k0 xs j) ∧ Hid (Mid base hi w wr) ∧ Hid (wr.there g 0 (n * 4)) ∧ Hid (∀ i (h : i < xs.length), i < j → ElX KC wr g i (mke (kkc k0 xs i) xs[i]) (ss i) (lo i) (up i)) ∧ Hid (∀ i (h : i < xs.length), j ≤ i → ElX KC wr g i xs[i] (ss i) (lo i) (up i))) (fun _ ti _ => n - (intOf ti).toNat)
  case atStart => exact ⟨0, k0, rfl, rfl, Nat.zero_le _, hid (by simp [kkc, kcn]), hid hmid0, HTT, hid (fun i h hh => absurd hh (by omega)), hid (fun i h _ => HE.out i h)⟩
  case round =>
    clear hmid0
    obtain ⟨j, k, rfl, rfl, hj, HKJ, HM, HT, HA, HZ⟩ := hrel
    by_cases hlt : j < n
    · have c1 : (j : Int) < (n : Int) := by omega
      have hjr : j < xs.length := by rw [HN.out]; exact hlt
      obtain ⟨hk0, hk1⟩ := HK.out j (by omega)
      rw [← HKJ.out] at hk0 hk1
      have hk2 : k ≤ 4600000000000000000 := by omega
      have hk3 : 0 ≤ k := by omega
      have HKN := hid (kkc_next (k0 := k0) hjr)
      rw [← HKJ.out] at HKN
      obtain ⟨zc, zs⟩ := HZ.out j hjr (Nat.le_refl _)
      obtain ⟨hcb, hch, hcg⟩ := HC.out j hjr
      have hws := HM.out.2.2.2.1
      obtain ⟨_, c, cp, esv, b1, b2, b3, b4, b5⟩ := zs
      have hnp := HL.out j hjr
      have HMK : Hid (∀ W, (∀ t, t < 4 → W.cell? ⟨g, j * 4 + t, none⟩ = ([.int .i64 k, .bool ((k + 1) % 3 == 0), .int .i64 (k + 2), ss j] : List Value)[t]?) → PtsOwn W c (tkk (k + 3) xs[j].2.2.2.length) → up j ≤ W.heap.size → ElX KC W g j (mke (kkc k0 xs j) xs[j]) (ss j) (lo j) (up j)) := hid (fun W h1 h2 h3 => by
        rw [← HKJ.out]
        refine ⟨h1, h3, c, cp, ?_, ?_, ?_, b3, b4, h2⟩
        · simp only [mke, tkk_len]; exact esv
        · simp only [mke, tkk_len]; exact b1
        · simp only [mke, tkk_len]; exact b2)
      generalize hps : xs[j].2.2.2 = ps at *
      clear hps
      obtain ⟨sv, hsv⟩ : ∃ sv, sv = ss j := ⟨_, rfl⟩
      have HSJ := hid hsv
      rw [← hsv] at zc HMK esv
      clear hsv
      subst esv
      have q3 := zc 3 (by decide)
      simp only [KC, List.getElem?_cons_succ, List.getElem?_cons_zero] at q3
      have HDJ : Hid (∀ i, i < xs.length → i ≠ j → up i ≤ lo j ∨ up j ≤ lo i) := hid (fun i hi' hne => HD.out i j hne hi' hjr)
      obtain ⟨u0, z0, y0⟩ := there_at HT.out (show j * 4 < n * 4 by omega)
      obtain ⟨u1, z1, y1⟩ := there_at HT.out (show j * 4 + 1 < n * 4 by omega)
      obtain ⟨u2, z2, y2⟩ := there_at HT.out (show j * 4 + 2 < n * 4 by omega)
      have z1' : ∀ a0, (wr.setCell ⟨g, j * 4, none⟩ a0).cell? ⟨g, j * 4 + 1, none⟩ = some u1 := fun a0 => by rw [World.cell?_setCell_other _ _ _ _ (by simp)]; exact z1
      have y1' : ∀ a0, (wr.setCell ⟨g, j * 4, none⟩ a0).frozen? ⟨g, j * 4 + 1, none⟩ = false := fun a0 => by rw [World.frozen?_setCell]; exact y1
      have z2' : ∀ a0 a1, ((wr.setCell ⟨g, j * 4, none⟩ a0).setCell ⟨g, j * 4 + 1, none⟩ a1).cell? ⟨g, j * 4 + 2, none⟩ = some u2 := fun a0 a1 => by rw [World.cell?_setCell_other _ _ _ _ (by simp), World.cell?_setCell_other _ _ _ _ (by simp)]; exact z2
      have y2' : ∀ a0 a1, ((wr.setCell ⟨g, j * 4, none⟩ a0).setCell ⟨g, j * 4 + 1, none⟩ a1).frozen? ⟨g, j * 4 + 2, none⟩ = false := fun a0 a1 => by rw [World.frozen?_setCell, World.frozen?_setCell]; exact y2
      have zl' : ∀ a0 a1 a2, (((wr.setCell ⟨g, j * 4, none⟩ a0).setCell ⟨g, j * 4 + 1, none⟩ a1).setCell ⟨g, j * 4 + 2, none⟩ a2).cell? ⟨g, j * 4 + 3, none⟩ = some (.slice (some ⟨c, 0, none⟩) ps.length cp) := fun a0 a1 a2 => by rw [World.cell?_setCell_other _ _ _ _ (by simp), World.cell?_setCell_other _ _ _ _ (by simp), World.cell?_setCell_other _ _ _ _ (by simp)]; exact q3
      have HM3 := hid (fun a0 a1 a2 => (mid_set (mid_set (mid_set (HM.out) hbg hgh a0) hbg hgh a1) hbg hgh a2 : Mid base hi w (((wr.setCell ⟨g, j * 4, none⟩ a0).setCell ⟨g, j * 4 + 1, none⟩ a1).setCell ⟨g, j * 4 + 2, none⟩ a2)))
      have HT3 := hid (fun a0 a1 a2 => (there_set (there_set (there_set (HT.out) a0) a1) a2 : (((wr.setCell ⟨g, j * 4, none⟩ a0).setCell ⟨g, j * 4 + 1, none⟩ a1).setCell ⟨g, j * 4 + 2, none⟩ a2).there g 0 (n * 4)))
      have HA3 : Hid (∀ a0 a1 a2 i (h : i < xs.length), i < j → ElX KC (((wr.setCell ⟨g, j * 4, none⟩ a0).setCell ⟨g, j * 4 + 1, none⟩ a1).setCell ⟨g, j * 4 + 2, none⟩ a2) g i (mke (kkc k0 xs i) xs[i]) (ss i) (lo i) (up i)) := hid (fun a0 a1 a2 i h h1 => ((((HA.out i h h1).set (HC.out i h).2.2 (by show _ < i * 4 ∨ i * 4 + 4 ≤ _; omega) a0).set (HC.out i h).2.2 (by show _ < i * 4 ∨ i * 4 + 4 ≤ _; omega) a1).set (HC.out i h).2.2 (by show _ < i * 4 ∨ i * 4 + 4 ≤ _; omega) a2))
      have HZ3 : Hid (∀ a0 a1 a2 i (h : i < xs.length), j + 1 ≤ i → ElX KC (((wr.setCell ⟨g, j * 4, none⟩ a0).setCell ⟨g, j * 4 + 1, none⟩ a1).setCell ⟨g, j * 4 + 2, none⟩ a2) g i xs[i] (ss i) (lo i) (up i)) := hid (fun a0 a1 a2 i h h1 => ((((HZ.out i h (by omega)).set (HC.out i h).2.2 (by show _ < i * 4 ∨ i * 4 + 4 ≤ _; omega) a0).set (HC.out i h).2.2 (by show _ < i * 4 ∨ i * 4 + 4 ≤ _; omega) a1).set (HC.out i h).2.2 (by show _ < i * 4 ∨ i * 4 + 4 ≤ _; omega) a2))
      have x0 : ∀ a0 a1 a2, (((wr.setCell ⟨g, j * 4, none⟩ a0).setCell ⟨g, j * 4 + 1, none⟩ a1).setCell ⟨g, j * 4 + 2, none⟩ a2).cell? ⟨g, j * 4, none⟩ = some a0 := fun a0 a1 a2 => by rw [World.cell?_setCell_other _ _ _ _ (by simp), World.cell?_setCell_other _ _ _ _ (by simp)]; exact World.cell?_setCell_same _ _ _ z0
      have x1 : ∀ a0 a1 a2, (((wr.setCell ⟨g, j * 4, none⟩ a0).setCell ⟨g, j * 4 + 1, none⟩ a1).setCell ⟨g, j * 4 + 2, none⟩ a2).cell? ⟨g, j * 4 + 1, none⟩ = some a1 := fun a0 a1 a2 => by rw [World.cell?_setCell_other _ _ _ _ (by simp)]; exact World.cell?_setCell_same _ _ _ (z1' a0)
      have x2 : ∀ a0 a1 a2, (((wr.setCell ⟨g, j * 4, none⟩ a0).setCell ⟨g, j * 4 + 1, none⟩ a1).setCell ⟨g, j * 4 + 2, none⟩ a2).cell? ⟨g, j * 4 + 2, none⟩ = some a2 := fun a0 a1 a2 => by exact World.cell?_setCell_same _ _ _ (z2' a0 a1)
      have HX := hid (fun a0 a1 a2 => (⟨x0 a0 a1 a2, x1 a0 a1 a2, x2 a0 a1 a2, zl' a0 a1 a2⟩ : (((wr.setCell ⟨g, j * 4, none⟩ a0).setCell ⟨g, j * 4 + 1, none⟩ a1).setCell ⟨g, j * 4 + 2, none⟩ a2).cell? ⟨g, j * 4, none⟩ = some a0 ∧ (((wr.setCell ⟨g, j * 4, none⟩ a0).setCell ⟨g, j * 4 + 1, none⟩ a1).setCell ⟨g, j * 4 + 2, none⟩ a2).cell? ⟨g, j * 4 + 1, none⟩ = some a1 ∧ (((wr.setCell ⟨g, j * 4, none⟩ a0).setCell ⟨g, j * 4 + 1, none⟩ a1).setCell ⟨g, j * 4 + 2, none⟩ a2).cell? ⟨g, j * 4 + 2, none⟩ = some a2 ∧ (((wr.setCell ⟨g, j * 4, none⟩ a0).setCell ⟨g, j * 4 + 1, none⟩ a1).setCell ⟨g, j * 4 + 2, none⟩ a2).cell? ⟨g, j * 4 + 3, none⟩ = some (.slice (some ⟨c, 0, none⟩) ps.length cp)))
      have HP3 := hid (fun a0 a1 a2 => (own_blk b5 (by rw [Below.heap_setCell _ _ _ _ (by dsimp only; omega), Below.heap_setCell _ _ _ _ (by dsimp only; omega), Below.heap_setCell _ _ _ _ (by dsimp only; omega)]) (by simp only [World.size_setCell]; exact b5.1) : PtsOwn (((wr.setCell ⟨g, j * 4, none⟩ a0).setCell ⟨g, j * 4 + 1, none⟩ a1).setCell ⟨g, j * 4 + 2, none⟩ a2) c ps))
      have HSZ := hid (fun a0 a1 a2 => (by simp only [World.size_setCell] : (((wr.setCell ⟨g, j * 4, none⟩ a0).setCell ⟨g, j * 4 + 1, none⟩ a1).setCell ⟨g, j * 4 + 2, none⟩ a2).heap.size = wr.heap.size))
      clear b5 zc
      clear HM HT HA HZ q3 z1 y1 z2 y2 x0 x1 x2
      go_wp2_with fail
      refine (mark_ptsK _ c ps.length cp ps (k + 1 + 1 + 1) (by omega) (by omega) hnp rfl (HP3.out _ _ _)).mono ?_
      rintro e w1 ⟨rfl, hp1, hg⟩
      have hgne : some g ≠ some c := fun e => by cases e; omega
      have hsz1 := hg.size
      rw [HSZ.out] at hsz1
      have HM5 := hid (mid_grown (HM3.out (.int .i64 k) (.bool ((k + 1) % 3 == 0)) (.int .i64 (k + 1 + 1))) hg (by omega) (by omega))
      have HT5 : Hid (w1.there g 0 (n * 4)) := hid (fun i hi' => by
        obtain ⟨s1, s2⟩ := HT3.out (.int .i64 k) (.bool ((k + 1) % 3 == 0)) (.int .i64 (k + 1 + 1)) i hi'
        have hb := hg.block g (by rw [HSZ.out]; omega) hgne
        simp only [World.cell?, World.frozen?, hb]; exact ⟨s1, s2⟩)
      have HFR : Hid (∀ i, i < xs.length → i ≠ j → ∀ q, lo i ≤ q → q < up i → q < wr.heap.size → w1.heap[q]? = _) := hid (fun i hi' hne q q1 q2 q3 => hg.block q (by rw [HSZ.out]; exact q3) (fun e => by cases e; have := HDJ.out i hi' hne; omega))
      have HA5 : Hid (∀ i (h : i < xs.length), i < j + 1 → ElX KC w1 g i (mke (kkc k0 xs i) xs[i]) (ss i) (lo i) (up i)) := hid (fun i h h1 => by
        by_cases e : i = j
        · subst e
          obtain ⟨s0, s1, s2, s3⟩ := HX.out (.int .i64 k) (.bool ((k + 1) % 3 == 0)) (.int .i64 (k + 1 + 1))
          rw [← HSJ.out]
          refine HMK.out w1 (fun t ht => ?_) (by rw [show k + 3 = k + 1 + 1 + 1 by omega]; exact hp1) (by omega)
          rcases (show t = 0 ∨ t = 1 ∨ t = 2 ∨ t = 3 by omega) with e | e | e | e <;> subst e
          · exact hg.cell s0 hgne
          · exact hg.cell s1 hgne
          · show _ = some (Value.int .i64 (k + 2)); rw [show k + 2 = k + 1 + 1 by omega]; exact hg.cell s2 hgne
          · exact hg.cell s3 hgne
        · have hx := HA3.out (.int .i64 k) (.bool ((k + 1) % 3 == 0)) (.int .i64 (k + 1 + 1)) i h (by omega)
          have htp := KC.top hx.2
          rw [HSZ.out] at htp
          exact hx.blk (hg.block g (by rw [HSZ.out]; omega) hgne) (fun q q1 q2 => HFR.out i h e q q1 q2 (by omega)) (by rw [HSZ.out]; exact hsz1))
      have HZ5 : Hid (∀ i (h : i < xs.length), j + 1 ≤ i → ElX KC w1 g i xs[i] (ss i) (lo i) (up i)) := hid (fun i h h1 => by
        have hx := HZ3.out (.int .i64 k) (.bool ((k + 1) % 3 == 0)) (.int .i64 (k + 1 + 1)) i h h1
        have htp := KC.top hx.2
        rw [HSZ.out] at htp
        exact hx.blk (hg.block g (by rw [HSZ.out]; omega) hgne) (fun q q1 q2 => HFR.out i h (by omega) q q1 q2 (by omega)) (by rw [HSZ.out]; exact hsz1))
      have HK5 : Hid (k + 1 + 1 + 1 + 2 * (ps.length : Int) = kkc k0 xs (j + 1)) := hid (by rw [HKN.out]; omega)
      clear hg hp1 HM3 HT3 HA3 HZ3 HX HFR HP3 HSZ zl' z1' z2' y1' y2' 
      go_wp2_with fail
      go_roundw
      case rel => exact ⟨j + 1, _, by go_num, rfl, by omega, HK5, HM5, HT5, HA5, HZ5⟩
      case measure => simp [intOf]; omega
    · obtain rfl : j = n := by omega
      have c1 : (j : Int) ≤ (j : Int) := by omega
      go_wp2_with fail
      go_ret
      obtain ⟨e1, e2⟩ := HF.out wr k HKJ.out HM.out HT.out HA.out
      exact ⟨e1, e2, HM.out⟩
end Go.Proofs.YtehifednpbdokaaGreatDoor
namespace Go.Proofs.YtehifednpbdokaaGreatDoor
open Go.RowKit
set_option linter.unusedSimpArgs false
set_option linter.unusedVariables false
set_option maxRecDepth 100000 in
set_option maxHeartbeats 4000000 in
theorem mark_txsX (base hi : Nat) (v : Value) (xs : List Tx) (k0 : Int) (w : World) (hs : txS xs) (h0 : 0 ≤ k0) (h1 : k0 ≤ 2000000000000000000) (h : LC KT base hi w v xs) : Calls Tryz.prog 44 #[v, .int .i64 k0] w fun e w' => e = .returned (.int .i64 (kkt k0 xs xs.length)) ∧ LC KT base hi w' v (mks k0 xs) ∧ Mid base hi w w' := by
  obtain ⟨hih, h⟩ := h
  rcases h with ⟨rfl, rfl⟩ | ⟨g, cap, ss, lo, up, rfl, hcap, hbg, hgh, hth, hel, hd⟩
  · go_enter Tryz.func44, Tryz.ntmps44
    go_wp2_with fail
    go_loopw [1, 5] (fun tk' ti wr => tk' = .int .i64 k0 ∧ ti = .int .i64 0 ∧ wr = w) (fun _ _ _ => 0)
    case atStart => exact ⟨rfl, rfl, rfl⟩
    case round =>
      obtain ⟨rfl, rfl, rfl⟩ := hrel
      go_wp2_with fail
      go_ret
      exact ⟨by simp [kkt, ktn], ⟨hih, .inl ⟨by simp [mks], rfl⟩⟩, mid_refl _ _ _⟩
  have HL := hid hs.2
  have hm := hs.1
  have HE := hid (fun j hj => (hel j hj).1)
  have HC := hid (fun j hj => (hel j hj).2)
  have HD := hid hd
  have HK := hid (kkt_bound (k0 := k0) hs.2)
  clear hs hel hd
  obtain ⟨n, hn⟩ : ∃ n, n = xs.length := ⟨_, rfl⟩
  have HN := hid hn.symm
  rw [← hn] at hm hth hcap ⊢
  have HTT := hid hth
  have HF : Hid (∀ (W : World) (q : Int), q = kkt k0 xs n → Mid base hi w W → W.there g 0 (n * 3) → (∀ i (h : i < xs.length), i < n → ElX KT W g i (mkt (kkt k0 xs i) xs[i]) (ss i) (lo i) (up i)) → (Ending.returned (.int .i64 q) = .returned (.int .i64 (kkt k0 xs n)) ∧ LC KT base hi W (.slice (some ⟨g, 0, none⟩) n cap) (mks k0 xs))) := hid (fun W q hq hM hT h => ⟨by rw [hq], by
    refine ⟨Nat.le_trans hih hM.2.2.2.1, .inr ⟨g, cap, ss, lo, up, by rw [mks_len, ← hn], by rw [mks_len, ← hn]; exact hcap, hbg, hgh, by rw [mks_len, ← hn]; exact hT, fun j hj => ?_, fun i j hne hi' hj => ?_⟩⟩
    · have hj' := hj
      rw [mks_len] at hj'
      rw [mks_at hj']
      exact ⟨h j hj' (by omega), HC.out j hj'⟩
    · rw [mks_len] at hi' hj
      exact HD.out i j hne hi' hj⟩)
  clear hth hcap hn
  have hmid0 := mid_refl base hi w
  have hgw : g < w.heap.size := by omega
  go_enter Tryz.func44, Tryz.ntmps44
  go_wp2_with fail
  go_loopw [1, 5] (fun tk' ti wr => ∃ j : Nat, ∃ k : Int, ti = .int .i64 j ∧ tk' = .int .i64 k ∧ j ≤ n ∧ Hid (k = kkt k0 xs j) ∧ Hid (Mid base hi w wr) ∧ Hid (wr.there g 0 (n * 3)) ∧ Hid (∀ i (h : i < xs.length), i < j → ElX KT wr g i (mkt (kkt k0 xs i) xs[i]) (ss i) (lo i) (up i)) ∧ Hid (∀ i (h : i < xs.length), j ≤ i → ElX KT wr g i xs[i] (ss i) (lo i) (up i))) (fun _ ti _ => n - (intOf ti).toNat)
  case atStart => exact ⟨0, k0, rfl, rfl, Nat.zero_le _, hid (by simp [kkt, ktn]), hid hmid0, HTT, hid (fun i h hh => absurd hh (by omega)), hid (fun i h _ => HE.out i h)⟩
  case round =>
    clear hmid0
    obtain ⟨j, k, rfl, rfl, hj, HKJ, HM, HT, HA, HZ⟩ := hrel
    by_cases hlt : j < n
    · have c1 : (j : Int) < (n : Int) := by omega
      have hjr : j < xs.length := by rw [HN.out]; exact hlt
      obtain ⟨hk0, hk1⟩ := HK.out j (by omega)
      rw [← HKJ.out] at hk0 hk1
      have hk2 : k ≤ 4400000000000000000 := by omega
      have hk3 : 0 ≤ k := by omega
      have HKN := hid (kkt_next (k0 := k0) hjr)
      rw [← HKJ.out] at HKN
      obtain ⟨zc, zs⟩ := HZ.out j hjr (Nat.le_refl _)
      obtain ⟨hcb, hch, hcg⟩ := HC.out j hjr
      have hws := HM.out.2.2.2.1
      have hcs := HL.out j hjr
      have HMK : Hid (∀ W, (∀ t, t < 3 → W.cell? ⟨g, j * 3 + t, none⟩ = ([.int .i64 k, .bool ((k + 1) % 3 == 0), ss j] : List Value)[t]?) → LC KC (lo j) (up j) W (ss j) (mkc (k + 2) xs[j].2.2) → ElX KT W g j (mkt (kkt k0 xs j) xs[j]) (ss j) (lo j) (up j)) := hid (fun W h1 h2 => by
        rw [← HKJ.out]
        exact ⟨h1, h2⟩)
      have ZS : Hid (LC KC (lo j) (up j) wr (ss j) xs[j].2.2) := hid zs
      clear zs
      generalize hps : xs[j].2.2 = cs at *
      clear hps
      obtain ⟨sv, hsv⟩ : ∃ sv, sv = ss j := ⟨_, rfl⟩
      have HSJ := hid hsv
      rw [← hsv] at zc HMK ZS
      clear hsv
      have hut := ZS.out.1
      have q3 := zc 2 (by decide)
      simp only [KT, List.getElem?_cons_succ, List.getElem?_cons_zero] at q3
      have HDJ : Hid (∀ i, i < xs.length → i ≠ j → up i ≤ lo j ∨ up j ≤ lo i) := hid (fun i hi' hne => HD.out i j hne hi' hjr)
      obtain ⟨u0, z0, y0⟩ := there_at HT.out (show j * 3 < n * 3 by omega)
      obtain ⟨u1, z1, y1⟩ := there_at HT.out (show j * 3 + 1 < n * 3 by omega)
      have z1' : ∀ a0, (wr.setCell ⟨g, j * 3, none⟩ a0).cell? ⟨g, j * 3 + 1, none⟩ = some u1 := fun a0 => by rw [World.cell?_setCell_other _ _ _ _ (by simp)]; exact z1
      have y1' : ∀ a0, (wr.setCell ⟨g, j * 3, none⟩ a0).frozen? ⟨g, j * 3 + 1, none⟩ = false := fun a0 => by rw [World.frozen?_setCell]; exact y1
      have zl' : ∀ a0 a1, ((wr.setCell ⟨g, j * 3, none⟩ a0).setCell ⟨g, j * 3 + 1, none⟩ a1).cell? ⟨g, j * 3 + 2, none⟩ = some sv := fun a0 a1 => by rw [World.cell?_setCell_other _ _ _ _ (by simp), World.cell?_setCell_other _ _ _ _ (by simp)]; exact q3
      have HM3 := hid (fun a0 a1 => (mid_set (mid_set (HM.out) hbg hgh a0) hbg hgh a1 : Mid base hi w ((wr.setCell ⟨g, j * 3, none⟩ a0).setCell ⟨g, j * 3 + 1, none⟩ a1)))
      have HT3 := hid (fun a0 a1 => (there_set (there_set (HT.out) a0) a1 : ((wr.setCell ⟨g, j * 3, none⟩ a0).setCell ⟨g, j * 3 + 1, none⟩ a1).there g 0 (n * 3)))
      have HA3 : Hid (∀ a0 a1 i (h : i < xs.length), i < j → ElX KT ((wr.setCell ⟨g, j * 3, none⟩ a0).setCell ⟨g, j * 3 + 1, none⟩ a1) g i (mkt (kkt k0 xs i) xs[i]) (ss i) (lo i) (up i)) := hid (fun a0 a1 i h h1 => (((HA.out i h h1).set (HC.out i h).2.2 (by show _ < i * 3 ∨ i * 3 + 3 ≤ _; omega) a0).set (HC.out i h).2.2 (by show _ < i * 3 ∨ i * 3 + 3 ≤ _; omega) a1))
      have HZ3 : Hid (∀ a0 a1 i (h : i < xs.length), j + 1 ≤ i → ElX KT ((wr.setCell ⟨g, j * 3, none⟩ a0).setCell ⟨g, j * 3 + 1, none⟩ a1) g i xs[i] (ss i) (lo i) (up i)) := hid (fun a0 a1 i h h1 => (((HZ.out i h (by omega)).set (HC.out i h).2.2 (by show _ < i * 3 ∨ i * 3 + 3 ≤ _; omega) a0).set (HC.out i h).2.2 (by show _ < i * 3 ∨ i * 3 + 3 ≤ _; omega) a1))
      have x0 : ∀ a0 a1, ((wr.setCell ⟨g, j * 3, none⟩ a0).setCell ⟨g, j * 3 + 1, none⟩ a1).cell? ⟨g, j * 3, none⟩ = some a0 := fun a0 a1 => by rw [World.cell?_setCell_other _ _ _ _ (by simp)]; exact World.cell?_setCell_same _ _ _ z0
      have x1 : ∀ a0 a1, ((wr.setCell ⟨g, j * 3, none⟩ a0).setCell ⟨g, j * 3 + 1, none⟩ a1).cell? ⟨g, j * 3 + 1, none⟩ = some a1 := fun a0 a1 => by exact World.cell?_setCell_same _ _ _ (z1' a0)
      have HX := hid (fun a0 a1 => (⟨x0 a0 a1, x1 a0 a1, zl' a0 a1⟩ : ((wr.setCell ⟨g, j * 3, none⟩ a0).setCell ⟨g, j * 3 + 1, none⟩ a1).cell? ⟨g, j * 3, none⟩ = some a0 ∧ ((wr.setCell ⟨g, j * 3, none⟩ a0).setCell ⟨g, j * 3 + 1, none⟩ a1).cell? ⟨g, j * 3 + 1, none⟩ = some a1 ∧ ((wr.setCell ⟨g, j * 3, none⟩ a0).setCell ⟨g, j * 3 + 1, none⟩ a1).cell? ⟨g, j * 3 + 2, none⟩ = some sv))
      have HP3 := hid (fun a0 a1 => (ZS.out.frame (fun q q1 q2 => by rw [Below.heap_setCell _ _ _ _ (by dsimp only; omega), Below.heap_setCell _ _ _ _ (by dsimp only; omega)]) (by simp) : LC KC (lo j) (up j) ((wr.setCell ⟨g, j * 3, none⟩ a0).setCell ⟨g, j * 3 + 1, none⟩ a1) sv cs))
      have HSZ := hid (fun a0 a1 => (by simp only [World.size_setCell] : ((wr.setCell ⟨g, j * 3, none⟩ a0).setCell ⟨g, j * 3 + 1, none⟩ a1).heap.size = wr.heap.size))
      clear ZS zc
      clear HM HT HA HZ q3 z1 y1 x0 x1
      go_wp2_with fail
      refine (mark_chsX (lo j) (up j) sv cs (k + 1 + 1) _ hcs (by omega) (by omega) (HP3.out _ _)).mono ?_
      rintro e w1 ⟨rfl, hp1, hg⟩
      have hsz1 := hg.2.2.2.1
      rw [HSZ.out] at hsz1
      have HM5 := hid (mid_trans (HM3.out (.int .i64 k) (.bool ((k + 1) % 3 == 0))) (mid_wide hg hcb hch))
      have hbg1 := mid_blk hg (c := g) (by rw [HSZ.out]; omega) hcg
      have HT5 : Hid (w1.there g 0 (n * 3)) := hid (fun i hi' => by
        obtain ⟨s1, s2⟩ := HT3.out (.int .i64 k) (.bool ((k + 1) % 3 == 0)) i hi'
        simp only [World.cell?, World.frozen?, hbg1]; exact ⟨s1, s2⟩)
      have HA5 : Hid (∀ i (h : i < xs.length), i < j + 1 → ElX KT w1 g i (mkt (kkt k0 xs i) xs[i]) (ss i) (lo i) (up i)) := hid (fun i h h1 => by
        by_cases e : i = j
        · subst e
          obtain ⟨s0, s1, s2⟩ := HX.out (.int .i64 k) (.bool ((k + 1) % 3 == 0))
          rw [← HSJ.out]
          refine HMK.out w1 (fun t ht => ?_) (by rw [show k + 2 = k + 1 + 1 by omega]; exact hp1)
          rcases (show t = 0 ∨ t = 1 ∨ t = 2 by omega) with e | e | e <;> subst e
          · exact mid_cell hg s0 hcg
          · exact mid_cell hg s1 hcg
          · exact mid_cell hg s2 hcg
        · exact (HA3.out (.int .i64 k) (.bool ((k + 1) % 3 == 0)) i h (by omega)).mid hg (by rw [HSZ.out]; omega) hcg (HDJ.out i h e))
      have HZ5 : Hid (∀ i (h : i < xs.length), j + 1 ≤ i → ElX KT w1 g i xs[i] (ss i) (lo i) (up i)) := hid (fun i h h1 => (HZ3.out (.int .i64 k) (.bool ((k + 1) % 3 == 0)) i h h1).mid hg (by rw [HSZ.out]; omega) hcg (HDJ.out i h (by omega)))
      have HK5 : Hid (kkc (k + 1 + 1) cs cs.length = kkt k0 xs (j + 1)) := hid (by rw [HKN.out, show k + 2 = k + 1 + 1 by omega])
      clear hg hp1 HM3 HT3 HA3 HZ3 HX HP3 HSZ zl' z1' y1' hbg1
      obtain ⟨kq0, kq1⟩ := kkc_bound (k0 := k + 1 + 1) hcs.2 cs.length (Nat.le_refl _)
      generalize kkc (k + 1 + 1) cs cs.length = kq at *
      go_wp2_with fail
      go_roundw
      case rel => exact ⟨j + 1, _, by go_num, rfl, by omega, HK5, HM5, HT5, HA5, HZ5⟩
      case measure => simp [intOf]; omega
    · obtain rfl : j = n := by omega
      have c1 : (j : Int) ≤ (j : Int) := by omega
      go_wp2_with fail
      go_ret
      obtain ⟨e1, e2⟩ := HF.out wr k HKJ.out HM.out HT.out HA.out
      exact ⟨e1, e2, HM.out⟩
end Go.Proofs.YtehifednpbdokaaGreatDoor
namespace Go.Proofs.YtehifednpbdokaaGreatDoor
open Go.RowKit
set_option linter.unusedSimpArgs false
set_option linter.unusedVariables false
set_option maxRecDepth 100000 in
set_option maxHeartbeats 4000000 in
theorem mark_rwsX (base hi : Nat) (v : Value) (xs : List Rw) (k0 : Int) (w : World) (hs : rwS xs) (h0 : 0 ≤ k0) (h1 : k0 ≤ 2000000000000000000) (h : LC KR base hi w v xs) : Calls Tryz.prog 81 #[v, .int .i64 k0] w fun e w' => e = .returned (.int .i64 (kkr k0 xs xs.length)) ∧ LC KR base hi w' v (mkr k0 xs) ∧ Mid base hi w w' := by
  obtain ⟨hih, h⟩ := h
  rcases h with ⟨rfl, rfl⟩ | ⟨g, cap, ss, lo, up, rfl, hcap, hbg, hgh, hth, hel, hd⟩
  · go_enter Tryz.func81, Tryz.ntmps81
    go_wp2_with fail
    go_loopw [1, 5] (fun tk' ti wr => tk' = .int .i64 k0 ∧ ti = .int .i64 0 ∧ wr = w) (fun _ _ _ => 0)
    case atStart => exact ⟨rfl, rfl, rfl⟩
    case round =>
      obtain ⟨rfl, rfl, rfl⟩ := hrel
      go_wp2_with fail
      go_ret
      exact ⟨by simp [kkr, krn], ⟨hih, .inl ⟨by simp [mkr], rfl⟩⟩, mid_refl _ _ _⟩
  have HL := hid hs.2
  have hm := hs.1
  have HE := hid (fun j hj => (hel j hj).1)
  have HC := hid (fun j hj => (hel j hj).2)
  have HD := hid hd
  have HK := hid (kkr_bound (k0 := k0) hs.2)
  clear hs hel hd
  obtain ⟨n, hn⟩ : ∃ n, n = xs.length := ⟨_, rfl⟩
  have HN := hid hn.symm
  rw [← hn] at hm hth hcap ⊢
  have HTT := hid hth
  have HF : Hid (∀ (W : World) (q : Int), q = kkr k0 xs n → Mid base hi w W → W.there g 0 (n * 5) → (∀ i (h : i < xs.length), i < n → ElX KR W g i (mkr1 (kkr k0 xs i) xs[i]) (ss i) (lo i) (up i)) → (Ending.returned (.int .i64 q) = .returned (.int .i64 (kkr k0 xs n)) ∧ LC KR base hi W (.slice (some ⟨g, 0, none⟩) n cap) (mkr k0 xs))) := hid (fun W q hq hM hT h => ⟨by rw [hq], by
    refine ⟨Nat.le_trans hih hM.2.2.2.1, .inr ⟨g, cap, ss, lo, up, by rw [mkr_len, ← hn], by rw [mkr_len, ← hn]; exact hcap, hbg, hgh, by rw [mkr_len, ← hn]; exact hT, fun j hj => ?_, fun i j hne hi' hj => ?_⟩⟩
    · have hj' := hj
      rw [mkr_len] at hj'
      rw [mkr_at hj']
      exact ⟨h j hj' (by omega), HC.out j hj'⟩
    · rw [mkr_len] at hi' hj
      exact HD.out i j hne hi' hj⟩)
  clear hth hcap hn
  have hmid0 := mid_refl base hi w
  have hgw : g < w.heap.size := by omega
  go_enter Tryz.func81, Tryz.ntmps81
  go_wp2_with fail
  go_loopw [1, 5] (fun tk' ti wr => ∃ j : Nat, ∃ k : Int, ti = .int .i64 j ∧ tk' = .int .i64 k ∧ j ≤ n ∧ Hid (k = kkr k0 xs j) ∧ Hid (Mid base hi w wr) ∧ Hid (wr.there g 0 (n * 5)) ∧ Hid (∀ i (h : i < xs.length), i < j → ElX KR wr g i (mkr1 (kkr k0 xs i) xs[i]) (ss i) (lo i) (up i)) ∧ Hid (∀ i (h : i < xs.length), j ≤ i → ElX KR wr g i xs[i] (ss i) (lo i) (up i))) (fun _ ti _ => n - (intOf ti).toNat)
  case atStart => exact ⟨0, k0, rfl, rfl, Nat.zero_le _, hid (by simp [kkr, krn]), hid hmid0, HTT, hid (fun i h hh => absurd hh (by omega)), hid (fun i h _ => HE.out i h)⟩
  case round =>
    clear hmid0
    obtain ⟨j, k, rfl, rfl, hj, HKJ, HM, HT, HA, HZ⟩ := hrel
    by_cases hlt : j < n
    · have c1 : (j : Int) < (n : Int) := by omega
      have hjr : j < xs.length := by rw [HN.out]; exact hlt
      obtain ⟨hk0, hk1⟩ := HK.out j (by omega)
      rw [← HKJ.out] at hk0 hk1
      have hk2 : k ≤ 4400000000000000000 := by omega
      have hk3 : 0 ≤ k := by omega
      have HKN := hid (kkr_next (k0 := k0) hjr)
      rw [← HKJ.out] at HKN
      obtain ⟨zc, zs⟩ := HZ.out j hjr (Nat.le_refl _)
      obtain ⟨hcb, hch, hcg⟩ := HC.out j hjr
      have hws := HM.out.2.2.2.1
      obtain ⟨_, c, cp, esv, b1, b2, b3, b4, b5⟩ := zs
      have hnp := HL.out j hjr
      have HMK : Hid (∀ W, (∀ t, t < 5 → W.cell? ⟨g, j * 5 + t, none⟩ = ([.int .i64 k, .int .i64 (k + 1), .int .i64 (k + 2), .int .i64 (k + 3), ss j] : List Value)[t]?) → PtsOwn W c (tkk (k + 4) xs[j].2.2.2.2.length) → up j ≤ W.heap.size → ElX KR W g j (mkr1 (kkr k0 xs j) xs[j]) (ss j) (lo j) (up j)) := hid (fun W h1 h2 h3 => by
        rw [← HKJ.out]
        refine ⟨h1, h3, c, cp, ?_, ?_, ?_, b3, b4, h2⟩
        · simp only [mkr1, tkk_len]; exact esv
        · simp only [mkr1, tkk_len]; exact b1
        · simp only [mkr1, tkk_len]; exact b2)
      generalize hps : xs[j].2.2.2.2 = ps at *
      clear hps
      obtain ⟨sv, hsv⟩ : ∃ sv, sv = ss j := ⟨_, rfl⟩
      have HSJ := hid hsv
      rw [← hsv] at zc HMK esv
      clear hsv
      subst esv
      have q3 := zc 4 (by decide)
      simp only [KR, List.getElem?_cons_succ, List.getElem?_cons_zero] at q3
      have HDJ : Hid (∀ i, i < xs.length → i ≠ j → up i ≤ lo j ∨ up j ≤ lo i) := hid (fun i hi' hne => HD.out i j hne hi' hjr)
      obtain ⟨u0, z0, y0⟩ := there_at HT.out (show j * 5 < n * 5 by omega)
      obtain ⟨u1, z1, y1⟩ := there_at HT.out (show j * 5 + 1 < n * 5 by omega)
      obtain ⟨u2, z2, y2⟩ := there_at HT.out (show j * 5 + 2 < n * 5 by omega)
      obtain ⟨u3, z3, y3⟩ := there_at HT.out (show j * 5 + 3 < n * 5 by omega)
      have z1' : ∀ a0, (wr.setCell ⟨g, j * 5, none⟩ a0).cell? ⟨g, j * 5 + 1, none⟩ = some u1 := fun a0 => by rw [World.cell?_setCell_other _ _ _ _ (by simp)]; exact z1
      have y1' : ∀ a0, (wr.setCell ⟨g, j * 5, none⟩ a0).frozen? ⟨g, j * 5 + 1, none⟩ = false := fun a0 => by rw [World.frozen?_setCell]; exact y1
      have z2' : ∀ a0 a1, ((wr.setCell ⟨g, j * 5, none⟩ a0).setCell ⟨g, j * 5 + 1, none⟩ a1).cell? ⟨g, j * 5 + 2, none⟩ = some u2 := fun a0 a1 => by rw [World.cell?_setCell_other _ _ _ _ (by simp), World.cell?_setCell_other _ _ _ _ (by simp)]; exact z2
      have y2' : ∀ a0 a1, ((wr.setCell ⟨g, j * 5, none⟩ a0).setCell ⟨g, j * 5 + 1, none⟩ a1).frozen? ⟨g, j * 5 + 2, none⟩ = false := fun a0 a1 => by rw [World.frozen?_setCell, World.frozen?_setCell]; exact y2
      have z3' : ∀ a0 a1 a2, (((wr.setCell ⟨g, j * 5, none⟩ a0).setCell ⟨g, j * 5 + 1, none⟩ a1).setCell ⟨g, j * 5 + 2, none⟩ a2).cell? ⟨g, j * 5 + 3, none⟩ = some u3 := fun a0 a1 a2 => by rw [World.cell?_setCell_other _ _ _ _ (by simp), World.cell?_setCell_other _ _ _ _ (by simp), World.cell?_setCell_other _ _ _ _ (by simp)]; exact z3
      have y3' : ∀ a0 a1 a2, (((wr.setCell ⟨g, j * 5, none⟩ a0).setCell ⟨g, j * 5 + 1, none⟩ a1).setCell ⟨g, j * 5 + 2, none⟩ a2).frozen? ⟨g, j * 5 + 3, none⟩ = false := fun a0 a1 a2 => by rw [World.frozen?_setCell, World.frozen?_setCell, World.frozen?_setCell]; exact y3
      have zl' : ∀ a0 a1 a2 a3, ((((wr.setCell ⟨g, j * 5, none⟩ a0).setCell ⟨g, j * 5 + 1, none⟩ a1).setCell ⟨g, j * 5 + 2, none⟩ a2).setCell ⟨g, j * 5 + 3, none⟩ a3).cell? ⟨g, j * 5 + 4, none⟩ = some (.slice (some ⟨c, 0, none⟩) ps.length cp) := fun a0 a1 a2 a3 => by rw [World.cell?_setCell_other _ _ _ _ (by simp), World.cell?_setCell_other _ _ _ _ (by simp), World.cell?_setCell_other _ _ _ _ (by simp), World.cell?_setCell_other _ _ _ _ (by simp)]; exact q3
      have HM3 := hid (fun a0 a1 a2 a3 => (mid_set (mid_set (mid_set (mid_set (HM.out) hbg hgh a0) hbg hgh a1) hbg hgh a2) hbg hgh a3 : Mid base hi w ((((wr.setCell ⟨g, j * 5, none⟩ a0).setCell ⟨g, j * 5 + 1, none⟩ a1).setCell ⟨g, j * 5 + 2, none⟩ a2).setCell ⟨g, j * 5 + 3, none⟩ a3)))
      have HT3 := hid (fun a0 a1 a2 a3 => (there_set (there_set (there_set (there_set (HT.out) a0) a1) a2) a3 : ((((wr.setCell ⟨g, j * 5, none⟩ a0).setCell ⟨g, j * 5 + 1, none⟩ a1).setCell ⟨g, j * 5 + 2, none⟩ a2).setCell ⟨g, j * 5 + 3, none⟩ a3).there g 0 (n * 5)))
      have HA3 : Hid (∀ a0 a1 a2 a3 i (h : i < xs.length), i < j → ElX KR ((((wr.setCell ⟨g, j * 5, none⟩ a0).setCell ⟨g, j * 5 + 1, none⟩ a1).setCell ⟨g, j * 5 + 2, none⟩ a2).setCell ⟨g, j * 5 + 3, none⟩ a3) g i (mkr1 (kkr k0 xs i) xs[i]) (ss i) (lo i) (up i)) := hid (fun a0 a1 a2 a3 i h h1 => (((((HA.out i h h1).set (HC.out i h).2.2 (by show _ < i * 5 ∨ i * 5 + 5 ≤ _; omega) a0).set (HC.out i h).2.2 (by show _ < i * 5 ∨ i * 5 + 5 ≤ _; omega) a1).set (HC.out i h).2.2 (by show _ < i * 5 ∨ i * 5 + 5 ≤ _; omega) a2).set (HC.out i h).2.2 (by show _ < i * 5 ∨ i * 5 + 5 ≤ _; omega) a3))
      have HZ3 : Hid (∀ a0 a1 a2 a3 i (h : i < xs.length), j + 1 ≤ i → ElX KR ((((wr.setCell ⟨g, j * 5, none⟩ a0).setCell ⟨g, j * 5 + 1, none⟩ a1).setCell ⟨g, j * 5 + 2, none⟩ a2).setCell ⟨g, j * 5 + 3, none⟩ a3) g i xs[i] (ss i) (lo i) (up i)) := hid (fun a0 a1 a2 a3 i h h1 => (((((HZ.out i h (by omega)).set (HC.out i h).2.2 (by show _ < i * 5 ∨ i * 5 + 5 ≤ _; omega) a0).set (HC.out i h).2.2 (by show _ < i * 5 ∨ i * 5 + 5 ≤ _; omega) a1).set (HC.out i h).2.2 (by show _ < i * 5 ∨ i * 5 + 5 ≤ _; omega) a2).set (HC.out i h).2.2 (by show _ < i * 5 ∨ i * 5 + 5 ≤ _; omega) a3))
      have x0 : ∀ a0 a1 a2 a3, ((((wr.setCell ⟨g, j * 5, none⟩ a0).setCell ⟨g, j * 5 + 1, none⟩ a1).setCell ⟨g, j * 5 + 2, none⟩ a2).setCell ⟨g, j * 5 + 3, none⟩ a3).cell? ⟨g, j * 5, none⟩ = some a0 := fun a0 a1 a2 a3 => by rw [World.cell?_setCell_other _ _ _ _ (by simp), World.cell?_setCell_other _ _ _ _ (by simp), World.cell?_setCell_other _ _ _ _ (by simp)]; exact World.cell?_setCell_same _ _ _ z0
      have x1 : ∀ a0 a1 a2 a3, ((((wr.setCell ⟨g, j * 5, none⟩ a0).setCell ⟨g, j * 5 + 1, none⟩ a1).setCell ⟨g, j * 5 + 2, none⟩ a2).setCell ⟨g, j * 5 + 3, none⟩ a3).cell? ⟨g, j * 5 + 1, none⟩ = some a1 := fun a0 a1 a2 a3 => by rw [World.cell?_setCell_other _ _ _ _ (by simp), World.cell?_setCell_other _ _ _ _ (by simp)]; exact World.cell?_setCell_same _ _ _ (z1' a0)
      have x2 : ∀ a0 a1 a2 a3, ((((wr.setCell ⟨g, j * 5, none⟩ a0).setCell ⟨g, j * 5 + 1, none⟩ a1).setCell ⟨g, j * 5 + 2, none⟩ a2).setCell ⟨g, j * 5 + 3, none⟩ a3).cell? ⟨g, j * 5 + 2, none⟩ = some a2 := fun a0 a1 a2 a3 => by rw [World.cell?_setCell_other _ _ _ _ (by simp)]; exact World.cell?_setCell_same _ _ _ (z2' a0 a1)
      have x3 : ∀ a0 a1 a2 a3, ((((wr.setCell ⟨g, j * 5, none⟩ a0).setCell ⟨g, j * 5 + 1, none⟩ a1).setCell ⟨g, j * 5 + 2, none⟩ a2).setCell ⟨g, j * 5 + 3, none⟩ a3).cell? ⟨g, j * 5 + 3, none⟩ = some a3 := fun a0 a1 a2 a3 => by exact World.cell?_setCell_same _ _ _ (z3' a0 a1 a2)
      have HX := hid (fun a0 a1 a2 a3 => (⟨x0 a0 a1 a2 a3, x1 a0 a1 a2 a3, x2 a0 a1 a2 a3, x3 a0 a1 a2 a3, zl' a0 a1 a2 a3⟩ : ((((wr.setCell ⟨g, j * 5, none⟩ a0).setCell ⟨g, j * 5 + 1, none⟩ a1).setCell ⟨g, j * 5 + 2, none⟩ a2).setCell ⟨g, j * 5 + 3, none⟩ a3).cell? ⟨g, j * 5, none⟩ = some a0 ∧ ((((wr.setCell ⟨g, j * 5, none⟩ a0).setCell ⟨g, j * 5 + 1, none⟩ a1).setCell ⟨g, j * 5 + 2, none⟩ a2).setCell ⟨g, j * 5 + 3, none⟩ a3).cell? ⟨g, j * 5 + 1, none⟩ = some a1 ∧ ((((wr.setCell ⟨g, j * 5, none⟩ a0).setCell ⟨g, j * 5 + 1, none⟩ a1).setCell ⟨g, j * 5 + 2, none⟩ a2).setCell ⟨g, j * 5 + 3, none⟩ a3).cell? ⟨g, j * 5 + 2, none⟩ = some a2 ∧ ((((wr.setCell ⟨g, j * 5, none⟩ a0).setCell ⟨g, j * 5 + 1, none⟩ a1).setCell ⟨g, j * 5 + 2, none⟩ a2).setCell ⟨g, j * 5 + 3, none⟩ a3).cell? ⟨g, j * 5 + 3, none⟩ = some a3 ∧ ((((wr.setCell ⟨g, j * 5, none⟩ a0).setCell ⟨g, j * 5 + 1, none⟩ a1).setCell ⟨g, j * 5 + 2, none⟩ a2).setCell ⟨g, j * 5 + 3, none⟩ a3).cell? ⟨g, j * 5 + 4, none⟩ = some (.slice (some ⟨c, 0, none⟩) ps.length cp)))
      have HP3 := hid (fun a0 a1 a2 a3 => (own_blk b5 (by rw [Below.heap_setCell _ _ _ _ (by dsimp only; omega), Below.heap_setCell _ _ _ _ (by dsimp only; omega), Below.heap_setCell _ _ _ _ (by dsimp only; omega), Below.heap_setCell _ _ _ _ (by dsimp only; omega)]) (by simp only [World.size_setCell]; exact b5.1) : PtsOwn ((((wr.setCell ⟨g, j * 5, none⟩ a0).setCell ⟨g, j * 5 + 1, none⟩ a1).setCell ⟨g, j * 5 + 2, none⟩ a2).setCell ⟨g, j * 5 + 3, none⟩ a3) c ps))
      have HSZ := hid (fun a0 a1 a2 a3 => (by simp only [World.size_setCell] : ((((wr.setCell ⟨g, j * 5, none⟩ a0).setCell ⟨g, j * 5 + 1, none⟩ a1).setCell ⟨g, j * 5 + 2, none⟩ a2).setCell ⟨g, j * 5 + 3, none⟩ a3).heap.size = wr.heap.size))
      clear b5 zc
      clear HM HT HA HZ q3 z1 y1 z2 y2 z3 y3 x0 x1 x2 x3
      go_wp2_with fail
      refine (mark_ptsK _ c ps.length cp ps (k + 1 + 1 + 1 + 1) (by omega) (by omega) hnp rfl (HP3.out _ _ _ _)).mono ?_
      rintro e w1 ⟨rfl, hp1, hg⟩
      have hgne : some g ≠ some c := fun e => by cases e; omega
      have hsz1 := hg.size
      rw [HSZ.out] at hsz1
      have HM5 := hid (mid_grown (HM3.out (.int .i64 k) (.int .i64 (k + 1)) (.int .i64 (k + 1 + 1)) (.int .i64 (k + 1 + 1 + 1))) hg (by omega) (by omega))
      have HT5 : Hid (w1.there g 0 (n * 5)) := hid (fun i hi' => by
        obtain ⟨s1, s2⟩ := HT3.out (.int .i64 k) (.int .i64 (k + 1)) (.int .i64 (k + 1 + 1)) (.int .i64 (k + 1 + 1 + 1)) i hi'
        have hb := hg.block g (by rw [HSZ.out]; omega) hgne
        simp only [World.cell?, World.frozen?, hb]; exact ⟨s1, s2⟩)
      have HFR : Hid (∀ i, i < xs.length → i ≠ j → ∀ q, lo i ≤ q → q < up i → q < wr.heap.size → w1.heap[q]? = _) := hid (fun i hi' hne q q1 q2 q3 => hg.block q (by rw [HSZ.out]; exact q3) (fun e => by cases e; have := HDJ.out i hi' hne; omega))
      have HA5 : Hid (∀ i (h : i < xs.length), i < j + 1 → ElX KR w1 g i (mkr1 (kkr k0 xs i) xs[i]) (ss i) (lo i) (up i)) := hid (fun i h h1 => by
        by_cases e : i = j
        · subst e
          obtain ⟨s0, s1, s2, s3, s4⟩ := HX.out (.int .i64 k) (.int .i64 (k + 1)) (.int .i64 (k + 1 + 1)) (.int .i64 (k + 1 + 1 + 1))
          rw [← HSJ.out]
          refine HMK.out w1 (fun t ht => ?_) (by rw [show k + 4 = k + 1 + 1 + 1 + 1 by omega]; exact hp1) (by omega)
          rcases (show t = 0 ∨ t = 1 ∨ t = 2 ∨ t = 3 ∨ t = 4 by omega) with e | e | e | e | e <;> subst e
          · exact hg.cell s0 hgne
          · exact hg.cell s1 hgne
          · show _ = some (Value.int .i64 (k + 2)); rw [show k + 2 = k + 1 + 1 by omega]; exact hg.cell s2 hgne
          · show _ = some (Value.int .i64 (k + 3)); rw [show k + 3 = k + 1 + 1 + 1 by omega]; exact hg.cell s3 hgne
          · exact hg.cell s4 hgne
        · have hx := HA3.out (.int .i64 k) (.int .i64 (k + 1)) (.int .i64 (k + 1 + 1)) (.int .i64 (k + 1 + 1 + 1)) i h (by omega)
          have htp := KR.top hx.2
          rw [HSZ.out] at htp
          exact hx.blk (hg.block g (by rw [HSZ.out]; omega) hgne) (fun q q1 q2 => HFR.out i h e q q1 q2 (by omega)) (by rw [HSZ.out]; exact hsz1))
      have HZ5 : Hid (∀ i (h : i < xs.length), j + 1 ≤ i → ElX KR w1 g i xs[i] (ss i) (lo i) (up i)) := hid (fun i h h1 => by
        have hx := HZ3.out (.int .i64 k) (.int .i64 (k + 1)) (.int .i64 (k + 1 + 1)) (.int .i64 (k + 1 + 1 + 1)) i h h1
        have htp := KR.top hx.2
        rw [HSZ.out] at htp
        exact hx.blk (hg.block g (by rw [HSZ.out]; omega) hgne) (fun q q1 q2 => HFR.out i h (by omega) q q1 q2 (by omega)) (by rw [HSZ.out]; exact hsz1))
      have HK5 : Hid (k + 1 + 1 + 1 + 1 + 2 * (ps.length : Int) = kkr k0 xs (j + 1)) := hid (by rw [HKN.out]; omega)
      clear hg hp1 HM3 HT3 HA3 HZ3 HX HFR HP3 HSZ zl' z1' z2' z3' y1' y2' y3' 
      go_wp2_with fail
      go_roundw
      case rel => exact ⟨j + 1, _, by go_num, rfl, by omega, HK5, HM5, HT5, HA5, HZ5⟩
      case measure => simp [intOf]; omega
    · obtain rfl : j = n := by omega
      have c1 : (j : Int) ≤ (j : Int) := by omega
      go_wp2_with fail
      go_ret
      obtain ⟨e1, e2⟩ := HF.out wr k HKJ.out HM.out HT.out HA.out
      exact ⟨e1, e2, HM.out⟩
end Go.Proofs.YtehifednpbdokaaGreatDoor
namespace Go.Proofs.YtehifednpbdokaaGreatDoor
open Go.RowKit
set_option linter.unusedSimpArgs false
set_option linter.unusedVariables false
theorem bnes (b : Bool) : (b != b) = false := by cases b <;> rfl
set_option maxRecDepth 100000 in
set_option maxHeartbeats 2000000 in
theorem held_chsX {N : Nat → Prop} (a : Option Addr) (n cap : Nat) (xs : List Ch) (k0 : Int) (w : World) (hn : xs.length = n) (hs : chS xs) (h0 : 0 ≤ k0) (h1 : k0 ≤ 4500000000000000000) (h : Chs N 1099511627776 w a (mkc k0 xs)) : Calls Tryz.prog 106 #[.slice a n cap, .int .i64 k0] w fun e w' => e = .returned (.int .i64 (kkc k0 xs n)) ∧ w' = w := by
  have hm := hs.1
  rw [hn] at hm
  have HL := hid hs.2
  have HR := hid h
  have HN := hid hn
  have HK := hid (kkc_bound (k0 := k0) hs.2)
  clear hs h hn
  have HF : Hid (∀ k : Int, k = kkc k0 xs n → Ending.returned (.int .i64 k) = .returned (.int .i64 (kkc k0 xs n))) := hid (fun k e => by rw [e])
  go_enter Tryz.func106, Tryz.ntmps106
  go_wp2_with fail
  go_loopw [1, 5] (fun tk' ti wr => ∃ j : Nat, ∃ k : Int, ti = .int .i64 j ∧ tk' = .int .i64 k ∧ j ≤ n ∧ Hid (k = kkc k0 xs j) ∧ wr = w) (fun _ ti _ => n - (intOf ti).toNat)
  case atStart => exact ⟨0, k0, rfl, rfl, Nat.zero_le _, hid (by simp [kkc, kcn]), rfl⟩
  case round =>
    obtain ⟨j, k, rfl, rfl, hj, HKJ, hw⟩ := hrel
    subst hw
    by_cases hlt : j < n
    · have c1 : (j : Int) < (n : Int) := by omega
      have hjr : j < xs.length := by rw [HN.out]; exact hlt
      obtain ⟨hk0, hk1⟩ := HK.out j (by omega)
      rw [← HKJ.out] at hk0 hk1
      have hk2 : k ≤ 4600000000000000000 := by omega
      have hk3 : 0 ≤ k := by omega
      have HKN := hid (kkc_next (k0 := k0) hjr)
      rw [← HKJ.out] at HKN
      have hma := mkc_at (k0 := k0) hjr
      rw [← HKJ.out] at hma
      obtain ⟨b, o, rfl, hbs, a', cap', q0, q1, q2, q4, q5, q6, q7, _⟩ := HR.out.at j (by rw [mkc_len]; exact hjr)
      rw [hma] at q0 q1 q2 q4 q5 q6 q7
      simp only [mke, tkk_len] at q0 q1 q2 q4 q5 q6 q7
      have hnp := HL.out j hjr
      generalize hps : xs[j].2.2.2.length = np at *
      clear hps hma
      rw [show k + 2 = k + 1 + 1 by omega] at q2
      rw [show k + 3 = k + 1 + 1 + 1 by omega] at q7
      have HP := hid (held_ptsK wr a' cap' np (k + 1 + 1 + 1) (by omega) (by omega) hnp q7)
      have HK5 : Hid (k + 1 + 1 + 1 + 2 * (np : Int) = kkc k0 xs (j + 1)) := hid (by rw [HKN.out]; omega)
      have hpos : ¬ (k + 1 + 1 + 1 + 2 * (np : Int) < 0) := by omega
      have hbb := bnes ((k + 1) % 3 == 0)
      clear q5 q6 q7
      go_wp2_with fail
      refine HP.out.mono ?_
      rintro e w1 ⟨rfl, hw1⟩
      replace hw1 := hw1.symm
      subst hw1
      go_wp2_with fail
      go_roundw
      case rel => exact ⟨j + 1, _, by go_num, rfl, by omega, HK5, by first | rfl | trivial⟩
      case measure => simp [intOf]; omega
    · obtain rfl : j = n := by omega
      have c1 : (j : Int) ≤ (j : Int) := by omega
      go_wp2_with fail
      go_ret
      exact ⟨HF.out k HKJ.out, rfl⟩
set_option maxRecDepth 100000 in
set_option maxHeartbeats 2000000 in
theorem held_txsX {N : Nat → Prop} (a : Option Addr) (n cap : Nat) (xs : List Tx) (k0 : Int) (w : World) (hn : xs.length = n) (hs : txS xs) (h0 : 0 ≤ k0) (h1 : k0 ≤ 2000000000000000000) (h : Txs N 1099511627776 w a (mks k0 xs)) : Calls Tryz.prog 62 #[.slice a n cap, .int .i64 k0] w fun e w' => e = .returned (.int .i64 (kkt k0 xs n)) ∧ w' = w := by
  have hm := hs.1
  rw [hn] at hm
  have HL := hid hs.2
  have HR := hid h
  have HN := hid hn
  have HK := hid (kkt_bound (k0 := k0) hs.2)
  clear hs h hn
  have HF : Hid (∀ k : Int, k = kkt k0 xs n → Ending.returned (.int .i64 k) = .returned (.int .i64 (kkt k0 xs n))) := hid (fun k e => by rw [e])
  go_enter Tryz.func62, Tryz.ntmps62
  go_wp2_with fail
  go_loopw [1, 5] (fun tk' ti wr => ∃ j : Nat, ∃ k : Int, ti = .int .i64 j ∧ tk' = .int .i64 k ∧ j ≤ n ∧ Hid (k = kkt k0 xs j) ∧ wr = w) (fun _ ti _ => n - (intOf ti).toNat)
  case atStart => exact ⟨0, k0, rfl, rfl, Nat.zero_le _, hid (by simp [kkt, ktn]), rfl⟩
  case round =>
    obtain ⟨j, k, rfl, rfl, hj, HKJ, hw⟩ := hrel
    subst hw
    by_cases hlt : j < n
    · have c1 : (j : Int) < (n : Int) := by omega
      have hjr : j < xs.length := by rw [HN.out]; exact hlt
      obtain ⟨hk0, hk1⟩ := HK.out j (by omega)
      rw [← HKJ.out] at hk0 hk1
      have hk2 : k ≤ 4400000000000000000 := by omega
      have hk3 : 0 ≤ k := by omega
      have HKN := hid (kkt_next (k0 := k0) hjr)
      rw [← HKJ.out] at HKN
      have hma := mks_at (k0 := k0) hjr
      rw [← HKJ.out] at hma
      obtain ⟨b, o, rfl, hbs, a', cap', q0, q1, q2, q4, q5, q6, _⟩ := HR.out.at j (by rw [mks_len]; exact hjr)
      rw [hma] at q0 q1 q2 q4 q5 q6
      simp only [mkt, mkc_len] at q0 q1 q2 q4 q5 q6
      have hcs := HL.out j hjr
      generalize hps : xs[j].2.2 = cs at *
      clear hps hma
      rw [show k + 2 = k + 1 + 1 by omega] at q6
      rw [show k + 2 = k + 1 + 1 by omega] at HKN
      have HP := hid (held_chsX a' cs.length cap' cs (k + 1 + 1) wr rfl hcs (by omega) (by omega) q6)
      have HK5 : Hid (kkc (k + 1 + 1) cs cs.length = kkt k0 xs (j + 1)) := hid HKN.out.symm
      obtain ⟨kq0, kq1⟩ := kkc_bound (k0 := k + 1 + 1) hcs.2 cs.length (Nat.le_refl _)
      generalize kkc (k + 1 + 1) cs cs.length = kq at *
      have hpos : ¬ (kq < 0) := by omega
      have hbb := bnes ((k + 1) % 3 == 0)
      clear q4 q5 q6
      go_wp2_with fail
      refine HP.out.mono ?_
      rintro e w1 ⟨rfl, hw1⟩
      replace hw1 := hw1.symm
      subst hw1
      go_wp2_with fail
      go_roundw
      case rel => exact ⟨j + 1, _, by go_num, rfl, by omega, HK5, by first | rfl | trivial⟩
      case measure => simp [intOf]; omega
    · obtain rfl : j = n := by omega
      have c1 : (j : Int) ≤ (j : Int) := by omega
      go_wp2_with fail
      go_ret
      exact ⟨HF.out k HKJ.out, rfl⟩
set_option maxRecDepth 100000 in
set_option maxHeartbeats 2000000 in
theorem held_rwsX {N : Nat → Prop} (a : Option Addr) (n cap : Nat) (xs : List Rw) (k0 : Int) (w : World) (hn : xs.length = n) (hs : rwS xs) (h0 : 0 ≤ k0) (h1 : k0 ≤ 2000000000000000000) (h : Rws N w a (mkr k0 xs)) : Calls Tryz.prog 105 #[.slice a n cap, .int .i64 k0] w fun e w' => e = .returned (.int .i64 (kkr k0 xs n)) ∧ w' = w := by
  have hm := hs.1
  rw [hn] at hm
  have HL := hid hs.2
  have HR := hid h
  have HN := hid hn
  have HK := hid (kkr_bound (k0 := k0) hs.2)
  clear hs h hn
  have HF : Hid (∀ k : Int, k = kkr k0 xs n → Ending.returned (.int .i64 k) = .returned (.int .i64 (kkr k0 xs n))) := hid (fun k e => by rw [e])
  go_enter Tryz.func105, Tryz.ntmps105
  go_wp2_with fail
  go_loopw [1, 5] (fun tk' ti wr => ∃ j : Nat, ∃ k : Int, ti = .int .i64 j ∧ tk' = .int .i64 k ∧ j ≤ n ∧ Hid (k = kkr k0 xs j) ∧ wr = w) (fun _ ti _ => n - (intOf ti).toNat)
  case atStart => exact ⟨0, k0, rfl, rfl, Nat.zero_le _, hid (by simp [kkr, krn]), rfl⟩
  case round =>
    obtain ⟨j, k, rfl, rfl, hj, HKJ, hw⟩ := hrel
    subst hw
    by_cases hlt : j < n
    · have c1 : (j : Int) < (n : Int) := by omega
      have hjr : j < xs.length := by rw [HN.out]; exact hlt
      obtain ⟨hk0, hk1⟩ := HK.out j (by omega)
      rw [← HKJ.out] at hk0 hk1
      have hk2 : k ≤ 4400000000000000000 := by omega
      have hk3 : 0 ≤ k := by omega
      have HKN := hid (kkr_next (k0 := k0) hjr)
      rw [← HKJ.out] at HKN
      have hma := mkr_at (k0 := k0) hjr
      rw [← HKJ.out] at hma
      obtain ⟨b, o, rfl, hbs, a', cap', q0, q1, q2, q3, q4, q5, q6, q7, _⟩ := HR.out.at j (by rw [mkr_len]; exact hjr)
      rw [hma] at q0 q1 q2 q3 q4 q5 q6 q7
      simp only [mkr1, tkk_len] at q0 q1 q2 q3 q4 q5 q6 q7
      have hnp := HL.out j hjr
      generalize hps : xs[j].2.2.2.2.length = np at *
      clear hps hma
      rw [show k + 2 = k + 1 + 1 by omega] at q2
      rw [show k + 3 = k + 1 + 1 + 1 by omega] at q3
      rw [show k + 4 = k + 1 + 1 + 1 + 1 by omega] at q7
      have HP := hid (held_ptsK wr a' cap' np (k + 1 + 1 + 1 + 1) (by omega) (by omega) hnp q7)
      have HK5 : Hid (k + 1 + 1 + 1 + 1 + 2 * (np : Int) = kkr k0 xs (j + 1)) := hid (by rw [HKN.out]; omega)
      have hpos : ¬ (k + 1 + 1 + 1 + 1 + 2 * (np : Int) < 0) := by omega
      clear q5 q6 q7
      go_wp2_with fail
      refine HP.out.mono ?_
      rintro e w1 ⟨rfl, hw1⟩
      replace hw1 := hw1.symm
      subst hw1
      go_wp2_with fail
      go_roundw
      case rel => exact ⟨j + 1, _, by go_num, rfl, by omega, HK5, by first | rfl | trivial⟩
      case measure => simp [intOf]; omega
    · obtain rfl : j = n := by omega
      have c1 : (j : Int) ≤ (j : Int) := by omega
      go_wp2_with fail
      go_ret
      exact ⟨HF.out k HKJ.out, rfl⟩
set_option maxHeartbeats 400000 in
theorem markRowsX_of (w : World) (now : Int) (a : Option Addr) (cap : Nat) (rs : List Rw) (kr : Int) (b1 u1 : Nat) (HM : ∀ w', LC KR b1 u1 w' (.slice a rs.length cap) rs → Calls Tryz.prog 81 #[.slice a rs.length cap, .int .i64 1] w' fun e w'' => e = .returned (.int .i64 kr) ∧ LC KR b1 u1 w'' (.slice a rs.length cap) (mkr 1 rs) ∧ Mid b1 u1 w' w'') (h : LC KR b1 u1 w (.slice a rs.length cap) rs) : Calls Tryz.prog 43 #[.agg #[.int .i64 now, .slice a rs.length cap], .int .i64 1] w fun e w' => e = .returned (.int .i64 kr) ∧ LC KR b1 u1 w' (.slice a rs.length cap) (mkr 1 rs) ∧ Mid b1 u1 w w' := by
  have hB : Below w.heap.size w (w.alloc (.cells #[.int .i64 now, .slice a rs.length cap] 36)) := balloc (Below.refl _ _) _
  have H := hid (HM _ (h.below hB))
  clear HM h
  go_enter Tryz.func43, Tryz.ntmps43
  go_wp2_with fail
  refine H.out.mono ?_
  rintro e y ⟨rfl, r1, m1⟩
  have HR := hid r1
  have HB := hid (mid_trans (mid_below (lo := b1) (hi := u1) hB) m1)
  clear r1 m1 hB
  go_wp2_with fail
  go_ret
  exact ⟨rfl, HR.out, HB.out⟩
set_option maxHeartbeats 400000 in
theorem heldRowsX_of (now : Int) (a : Option Addr) (cap : Nat) (rs : List Rw) (kr : Int) (w : World) (hk : ¬ kr < 0) (HM : ∀ w', Below w.heap.size w w' → Calls Tryz.prog 105 #[.slice a rs.length cap, .int .i64 1] w' fun e w'' => e = .returned (.int .i64 kr) ∧ w'' = w') : Calls Tryz.prog 61 #[.agg #[.int .i64 now, .slice a rs.length cap], .int .i64 1] w fun e w' => e = .returned (.int .i64 kr) ∧ Below w.heap.size w w' := by
  have hB : Below w.heap.size w (w.alloc (.cells #[.int .i64 now, .slice a rs.length cap] 36)) := balloc (Below.refl _ _) _
  have H := hid (HM _ hB)
  clear HM
  go_enter Tryz.func61, Tryz.ntmps61
  go_wp2_with fail
  refine H.out.mono ?_
  rintro e y ⟨rfl, hy⟩
  replace hy := hy.symm
  subst hy
  go_wp2_with fail
  go_ret
  exact ⟨rfl, hB⟩
/-- The last number of a store's marks. -/
def kst (rs : List Rw) (ts : List Tx) : Int := kkt (kkr 1 rs rs.length) ts ts.length
theorem kst_pos {rs : List Rw} {ts : List Tx} (hr : rwS rs) (ht : txS ts) : (1 ≤ kkr 1 rs rs.length ∧ kkr 1 rs rs.length ≤ 2199027449858) ∧ 1 ≤ kst rs ts := by
  obtain ⟨a, b⟩ := kkr_bound (k0 := 1) hr.2 rs.length (Nat.le_refl _)
  obtain ⟨c, d⟩ := kkt_bound (k0 := kkr 1 rs rs.length) ht.2 ts.length (Nat.le_refl _)
  have := hr.1
  refine ⟨⟨a, by omega⟩, by unfold kst; omega⟩
set_option maxRecDepth 100000 in
set_option maxHeartbeats 1000000 in
theorem mark_storeX (b1 u1 b2 u2 lo hi : Nat) (now : Int) (a ta : Option Addr) (cap tcap : Nat) (rs : List Rw) (ts : List Tx) (w : World) (hr : rwS rs) (ht : txS ts) (e1 : lo ≤ b1) (e2 : u1 ≤ hi) (e3 : lo ≤ b2) (e4 : u2 ≤ hi) (e5 : u1 ≤ b2 ∨ u2 ≤ b1) (e6 : hi ≤ w.heap.size) (h1 : LC KR b1 u1 w (.slice a rs.length cap) rs) (h2 : LC KT b2 u2 w (.slice ta ts.length tcap) ts) : Calls Tryz.prog 14 #[.agg #[.int .i64 now, .slice a rs.length cap, .slice ta ts.length tcap], .int .i64 1] w fun e w' => e = .returned (.int .i64 (kst rs ts)) ∧ LC KR b1 u1 w' (.slice a rs.length cap) (mkr 1 rs) ∧ LC KT b2 u2 w' (.slice ta ts.length tcap) (mks (kkr 1 rs rs.length) ts) ∧ Mid lo hi w w' := by
  have H1 := hid h1
  have H2 := hid h2
  obtain ⟨⟨p1, p2⟩, p3⟩ := kst_pos hr ht
  have HM := hid (fun w' (h : LC KR b1 u1 w' (.slice a rs.length cap) rs) => mark_rwsX b1 u1 (.slice a rs.length cap) rs 1 w' hr (by omega) (by omega) h)
  have HT := hid (fun w' (h : LC KT b2 u2 w' (.slice ta ts.length tcap) ts) => mark_txsX b2 u2 (.slice ta ts.length tcap) ts (kkr 1 rs rs.length) w' ht (by omega) (by omega) h)
  have HKS : Hid (kkt (kkr 1 rs rs.length) ts ts.length = kst rs ts) := hid rfl
  rw [HKS.out] at HT
  clear h1 h2 HKS
  generalize kst rs ts = ks at *
  generalize kkr 1 rs rs.length = kr at *
  go_enter Tryz.func14, Tryz.ntmps14
  go_wp2_with fail
  have gS := new_alloc w w.heap.size (.cells #[.int .i64 now, .slice a rs.length cap, .slice ta ts.length tcap] 39) rfl
  have hal : Below w.heap.size w (w.alloc (.cells #[.int .i64 now, .slice a rs.length cap, .slice ta ts.length tcap] 39)) := balloc (Below.refl _ _) _
  have hwz : w.heap.size < (w.alloc (.cells #[.int .i64 now, .slice a rs.length cap, .slice ta ts.length tcap] 39)).heap.size := by simp
  replace H1 := hid (H1.out.below hal)
  replace H2 := hid (H2.out.below hal)
  have HMB := hid (mid_below (lo := lo) (hi := hi) hal)
  clear hal
  generalize w.alloc (.cells #[.int .i64 now, .slice a rs.length cap, .slice ta ts.length tcap] 39) = W at *
  refine (markRowsX_of _ now a cap rs kr b1 u1 (HM.out) H1.out).mono ?_
  rintro e y ⟨rfl, r1, m1⟩
  have g1 : y.heap[w.heap.size]? = _ := (mid_blk m1 hwz (by omega)).trans gS
  have R1 := hid r1
  have HM1 := hid m1
  replace H2 := hid (H2.out.frame (fun c c1 c2 => mid_blk m1 (by have := H2.out.1; omega) (by omega)) m1.2.2.2.1)
  obtain ⟨⟨x0, x1, x2⟩, _⟩ := cellk3 g1
  clear r1 m1 g1 gS
  go_wp2_with fail
  refine (HT.out _ H2.out).mono ?_
  rintro e z ⟨rfl, r2, m2⟩
  have R2 := hid r2
  have R3 := hid (R1.out.frame (fun c c1 c2 => mid_blk m2 (by have := R1.out.1; omega) (by omega)) m2.2.2.2.1)
  have HM3 := hid (mid_trans (mid_trans HMB.out (mid_wide HM1.out e1 e2)) (mid_wide m2 e3 e4))
  clear r2 m2
  go_wp2_with fail
  go_ret
  exact ⟨rfl, R3.out, R2.out, HM3.out⟩
set_option maxHeartbeats 1000000 in
theorem held_storeX {N1 N2 : Nat → Prop} (now : Int) (a ta : Option Addr) (cap tcap : Nat) (rs : List Rw) (ts : List Tx) (w : World) (hr : rwS rs) (ht : txS ts) (h1 : Rws N1 w a (mkr 1 rs)) (h2 : Txs N2 1099511627776 w ta (mks (kkr 1 rs rs.length) ts)) : Calls Tryz.prog 26 #[.agg #[.int .i64 now, .slice a rs.length cap, .slice ta ts.length tcap], .int .i64 1] w fun e w' => e = .returned (.int .i64 (kst rs ts)) ∧ Below w.heap.size w w' := by
  obtain ⟨⟨p1, p2⟩, p3⟩ := kst_pos hr ht
  have HM := hid (fun w' (h : Below w.heap.size w w') => held_rwsX a rs.length cap rs 1 w' rfl hr (by omega) (by omega) (h1.below h))
  have HT := hid (fun w' (h : Below w.heap.size w w') => held_txsX ta ts.length tcap ts (kkr 1 rs rs.length) w' rfl ht (by omega) (by omega) (h2.below h))
  have HKS : Hid (kkt (kkr 1 rs rs.length) ts ts.length = kst rs ts) := hid rfl
  rw [HKS.out] at HT
  clear h1 h2 HKS
  generalize kst rs ts = ks at *
  generalize kkr 1 rs rs.length = kr at *
  have n1 : ¬ kr < 0 := by omega
  have n2 : ¬ ks < 0 := by omega
  go_enter Tryz.func26, Tryz.ntmps26
  go_wp2_with fail
  have gS := new_alloc w w.heap.size (.cells #[.int .i64 now, .slice a rs.length cap, .slice ta ts.length tcap] 39) rfl
  have hB : Below w.heap.size w (w.alloc (.cells #[.int .i64 now, .slice a rs.length cap, .slice ta ts.length tcap] 39)) := balloc (Below.refl _ _) _
  generalize w.alloc (.cells #[.int .i64 now, .slice a rs.length cap, .slice ta ts.length tcap] 39) = W at *
  refine (heldRowsX_of now a cap rs kr W (by omega) (fun w' h => HM.out w' (btrans hB h))).mono ?_
  rintro e y ⟨rfl, hy⟩
  have g1 := keepheap2 hy gS
  replace hB := btrans hB hy
  obtain ⟨⟨x0, x1, x2⟩, _⟩ := cellk3 g1
  clear hy gS g1
  go_wp2_with fail
  refine (HT.out _ hB).mono ?_
  rintro e z ⟨rfl, hz⟩
  replace hz := hz.symm
  subst hz
  go_wp2_with fail
  go_ret
  exact ⟨rfl, hB⟩
end Go.Proofs.YtehifednpbdokaaGreatDoor
