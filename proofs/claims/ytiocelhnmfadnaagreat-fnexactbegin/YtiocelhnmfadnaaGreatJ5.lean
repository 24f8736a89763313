/- Texts of stores, joined: Za, Zb, Zc, Zd, Ze, Zf. -/
import Derived.Test.YtiocelhnmfadnaaGreatJ4
import Derived.Laws.CopyRow
import Derived.Deep.AppendLies
import Derived.Deep.RegionLaw
import Derived.Test.YtiocelhnmfadnaaGreatJ2
namespace Go.Proofs.YtiocelhnmfadnaaGreat
open Go.RowKit
set_option linter.unusedSimpArgs false
set_option linter.unusedVariables false
/-- The place of the first transaction that is not open. -/
def frk (ts : List Tx) : Nat := ts.findIdx (fun t => !t.2.1)
theorem frk_le (ts : List Tx) : frk ts ≤ ts.length := List.findIdx_le_length
theorem frk_yes {ts : List Tx} {i : Nat} (hi : i < ts.length) (hb : ∀ m (h : m < ts.length), m < i → ts[m].2.1 = true) (h : ts[i].2.1 = false) : frk ts = i := by
  unfold frk
  rw [List.findIdx_eq hi]
  exact ⟨by simp [h], fun j hj => by simp [hb j (by omega) hj]⟩
theorem frk_no {ts : List Tx} (hb : ∀ m (h : m < ts.length), ts[m].2.1 = true) : frk ts = ts.length := by
  unfold frk
  rw [List.findIdx_eq_length]
  intro x hx
  obtain ⟨m, hm, rfl⟩ := List.getElem_of_mem hx
  simp [hb m hm]
/-- The number of Begin's transaction, and the transactions behind it. -/
def begb (now : Int) (rs : List Rw) (ts : List Tx) : Bool := storeb now rs ts && decide (frk ts < 40)
def begN (now : Int) (rs : List Rw) (ts : List Tx) : Int := if begb now rs ts = true then (frk ts : Int) else -1
def begT (now : Int) (rs : List Rw) (ts : List Tx) : List Tx := if begb now rs ts = true then (if frk ts = ts.length then ts ++ [(now, true, [])] else ts.set (frk ts) (now, true, [])) else ts
def frI (ts : List Tx) : Int := if frk ts < ts.length then (frk ts : Int) else if ts.length < 40 then (ts.length : Int) else -1
theorem storeb_40 {now : Int} {rs : List Rw} {ts : List Tx} (h : storeb now rs ts = true) : ts.length ≤ 40 := by
  unfold storeb at h
  simp only [Bool.and_eq_true, decide_eq_true_eq] at h
  omega
theorem frI_begb {now : Int} {rs : List Rw} {ts : List Tx} (h : storeb now rs ts = true) : (frI ts = -1 ↔ begb now rs ts = false) ∧ (begb now rs ts = true → frI ts = (frk ts : Int)) := by
  have h1 := storeb_40 h
  have h2 := frk_le ts
  unfold frI begb
  rw [h]
  simp only [Bool.true_and, decide_eq_false_iff_not, decide_eq_true_eq]
  refine ⟨?_, ?_⟩
  · split
    · constructor
      · intro e; omega
      · intro e; omega
    · split
      · constructor
        · intro e; omega
        · intro e; omega
      · constructor
        · intro e; omega
        · intro e; rfl
  · intro e
    split
    · rfl
    · rw [if_pos (by omega)]; omega
set_option maxHeartbeats 1000000 in
theorem free_1 (st : Int) (op : Bool) (a : Option Addr) (n cap : Nat) (w : World) : Calls Tryz.prog 83 #[.agg #[.int .i64 st, .bool op, .slice a n cap]] w fun e w' => e = .returned (.bool (!op)) ∧ Below w.heap.size w w' := by
  have hB : Below w.heap.size w (w.alloc (.cells #[.int .i64 st, .bool op, .slice a n cap] 56)) := balloc (Below.refl _ _) _
  go_enter Tryz.func83, Tryz.ntmps83
  go_wp2_with fail
  go_ret
  exact ⟨rfl, hB⟩
set_option maxRecDepth 100000 in
set_option maxHeartbeats 2000000 in
theorem index_free {N : Nat → Prop} (a : Option Addr) (cap : Nat) (ts : List Tx) (w : World) (hm : ts.length ≤ 1099511627776) (h : Txs N 1099511627776 w a ts) : Calls Tryz.prog 82 #[.slice a ts.length cap, .func (.func 83) #[] #[]] w fun e w' => e = .returned (.int .i64 (if frk ts < ts.length then (frk ts : Int) else -1)) ∧ Below w.heap.size w w' := by
  have HR := hid h
  clear h
  have HNO : Hid ((∀ m (h : m < ts.length), ts[m].2.1 = true) → (if frk ts < ts.length then (frk ts : Int) else -1) = -1) := hid (fun hb => by rw [frk_no hb]; simp)
  have HYE : Hid (∀ i (hi : i < ts.length), (∀ m (h : m < ts.length), m < i → ts[m].2.1 = true) → ts[i].2.1 = false → (if frk ts < ts.length then (frk ts : Int) else -1) = (i : Int)) := hid (fun i hi hb h => by rw [frk_yes hi hb h, if_pos hi])
  generalize (if frk ts < ts.length then (frk ts : Int) else -1) = q at *
  obtain ⟨n, hn⟩ : ∃ n, n = ts.length := ⟨_, rfl⟩
  have HN := hid hn.symm
  rw [← hn] at hm ⊢
  clear hn
  go_enter Tryz.func82, Tryz.ntmps82
  go_wp2_with fail
  go_loopw [8] (fun ti wr => ∃ i : Nat, ti = .int .i64 i ∧ i ≤ n ∧ Hid (∀ m (h : m < ts.length), m < i → ts[m].2.1 = true) ∧ Hid (Below w.heap.size w wr)) (fun ti _ => n - (intOf ti).toNat)
  case atStart => exact ⟨0, rfl, Nat.zero_le _, hid (fun m h hh => absurd hh (by omega)), hid (Below.refl _ _)⟩
  case round =>
    obtain ⟨i, rfl, hi, HA, HBW⟩ := hrel
    by_cases hlt : i < n
    · have c1 : (i : Int) < (n : Int) := by omega
      have hir : i < ts.length := by rw [HN.out]; exact hlt
      obtain ⟨b, o, rfl, hbs, a', cap', k0, k1, k2, _, _, _, _⟩ := (HR.out.below HBW.out).at i hir
      have HY := hid (HYE.out i hir HA.out)
      have HX : Hid (ts[i].2.1 = true → ∀ m (h : m < ts.length), m < i + 1 → ts[m].2.1 = true) := hid (fun e m h hm => by
        by_cases e2 : m = i
        · subst e2; exact e
        · exact HA.out m h (by omega))
      generalize ts[i].1 = st at *
      generalize ts[i].2.1 = op at *
      generalize ts[i].2.2.length = np at *
      go_wp2_with fail
      refine (free_1 st op a' np cap' _).mono ?_
      rintro e z ⟨rfl, hz⟩
      have HBz := hid (btrans HBW.out hz)
      clear hz k0 k1 k2
      cases op
      · have HF := hid (HY.out rfl)
        go_wp2_with fail
        go_ret
        exact ⟨by rw [HF.out]; rfl, HBz.out⟩
      · have HF := hid (HX.out rfl)
        go_wp2_with fail
        go_roundw
        case rel => exact ⟨i + 1, by go_num, by omega, HF, HBz⟩
        case measure => simp [intOf]; omega
    · have c1 : (n : Int) ≤ (i : Int) := by omega
      have HF := hid (HNO.out (fun m h => HA.out m h (by have := HN.out; omega)))
      go_wp2_with fail
      go_ret
      exact ⟨by rw [HF.out]; rfl, HBW.out⟩
set_option maxRecDepth 100000 in
set_option maxHeartbeats 2000000 in
theorem impl_free {N : Nat → Prop} (now : Int) (a ta : Option Addr) (rn cap tcap : Nat) (ts : List Tx) (w : World) (hm : ts.length ≤ 1099511627776) (h : Txs N 1099511627776 w ta ts) : Calls Tryz.prog 51 #[.agg #[.int .i64 now, .slice a rn cap, .slice ta ts.length tcap]] w fun e w' => e = .returned (.int .i64 (frI ts)) ∧ Below w.heap.size w w' := by
  have HI := hid (fun (W : World) (hb : Below w.heap.size w W) => index_free ta tcap ts W hm (h.below hb))
  clear h
  have HF : Hid (frI ts = if frk ts < ts.length then (frk ts : Int) else if ts.length < 40 then (ts.length : Int) else -1) := hid rfl
  generalize frI ts = q at *
  generalize frk ts = f at *
  generalize ts.length = n at *
  have hB : Below w.heap.size w (w.alloc (.cells #[.int .i64 now, .slice a rn cap, .slice ta n tcap] 34)) := balloc (Below.refl _ _) _
  have g0 := new_alloc w w.heap.size (.cells #[.int .i64 now, .slice a rn cap, .slice ta n tcap] 34) rfl
  go_enter Tryz.func51, Tryz.ntmps51
  go_upto_region 1 with fail
  generalize w.alloc (.cells #[.int .i64 now, .slice a rn cap, .slice ta n tcap] 34) = W at *
  obtain ⟨⟨d0, d1, d2⟩, _⟩ := cellk3 g0
  go_wp2_with fail
  refine (HI.out _ hB).mono ?_
  rintro e z ⟨rfl, hz⟩
  replace g0 := keepheap2 hz g0
  have HB := hid (btrans hB hz)
  clear hB hz d0 d1 d2 HI
  obtain ⟨⟨d0, d1, d2⟩, _⟩ := cellk3 g0
  by_cases h1 : f < n
  · rw [if_pos h1]
    have e1 : ¬ ((f : Int) < 0) := by omega
    have HQ : Hid (q = (f : Int)) := hid (by rw [HF.out, if_pos h1])
    clear h1
    go_wp2_with fail
    go_ret
    exact ⟨by rw [HQ.out]; rfl, HB.out⟩
  · rw [if_neg h1]
    by_cases h2 : n < 40
    · have e2 : (n : Int) < 40 := by omega
      have HQ : Hid (q = (n : Int)) := hid (by rw [HF.out, if_neg h1, if_pos h2])
      clear h1 h2
      go_wp2_with fail
      go_ret
      exact ⟨by rw [HQ.out]; rfl, HB.out⟩
    · have e2 : ¬ ((n : Int) < 40) := by omega
      have HQ : Hid (q = -1) := hid (by rw [HF.out, if_neg h1, if_neg h2])
      clear h1 h2
      go_wp2_with fail
      go_ret
      exact ⟨by rw [HQ.out]; rfl, HB.out⟩
end Go.Proofs.YtiocelhnmfadnaaGreat
namespace Go.Proofs.YtiocelhnmfadnaaGreat
open Go.RowKit
set_option linter.unusedSimpArgs false
set_option linter.unusedVariables false
theorem run_copy_any {P : Program} (w : World) (dT sT ty elem : TypeId) (size n : Nat) (g o dLen dCap : Nat) (a : Addr) (sLen sCap : Nat) (cur : Array Value) (t : TypeId) (cs : List Value)
    (hu : P.underlying dT = some (.slice elem)) (hs : (P.info? elem).map (·.size) = some size)
    (hg : w.heap[g]? = some (.cells cur t (0, 0))) (hm : Nat.min sLen dLen = n) (hn : cs.length = n * size)
    (hsrc : ∀ j v, cs[j]? = some v → w.cell? (a.add j) = some v) (hfit : o + cs.length ≤ cur.size) (h1 : ∀ v ∈ cs, v.oneCell' = true) :
    (Builtin.copy_ #[dT, sT] ty #[.slice (some ⟨g, o, none⟩) dLen dCap, .slice (some a) sLen sCap]).run P w =
      .ok (goInt n) (w.setRow g (cur.toList.take o ++ cs ++ cur.toList.drop (o + cs.length)).toArray) := by
  have hl := run_loadCells_list (P := P) w a cs hsrc
  have hst := run_storeCells_at P g o t cs 0 cur w hg (by simpa using hfit) h1
  cases hq : P.info? elem with
  | none => simp [hq] at hs
  | some i =>
    have hi : i.size = size := by simpa [hq] using hs
    simp [Builtin.copy_, run_underlying hu, Builtin.lenOf, Builtin.firstCells, sizeOf, typeInfo, hq, hi, hm, ← hn, hl, hst]
theorem wp_copy_any {P : Program} {w : World} {o : Oper} {a : Act} {K : Act → World → Prop} {Q : Exit → Act → World → Prop} (d s : Operand) (dT sT : TypeId)
    (ho : o.op = .call { callee := .builtin .copy, args := #[d, s], argTypes := #[dT, sT] }) (elem : TypeId) (hu : P.underlying dT = some (.slice elem)) (size n : Nat) (hsz : (P.info? elem).map (·.size) = some size)
    (g off dLen dCap : Nat) (ad : Addr) (sLen sCap : Nat) (hd : a.eval d = .slice (some ⟨g, off, none⟩) dLen dCap) (hs : a.eval s = .slice (some ad) sLen sCap)
    (cur : Array Value) (t : TypeId) (hg : w.heap[g]? = some (.cells cur t (0, 0))) (cs : List Value) (hm : Nat.min sLen dLen = n) (hn : cs.length = n * size)
    (hsrc : ∀ j v, cs[j]? = some v → w.cell? (ad.add j) = some v) (hfit : off + cs.length ≤ cur.size) (h1 : ∀ v ∈ cs, v.oneCell' = true)
    (h : K (a.put o.dst (goInt n)) (w.setRow g (cur.toList.take off ++ cs ++ cur.toList.drop (off + cs.length)).toArray)) : o.wp P a w K Q := by
  have hrun := run_copy_any (P := P) w dT sT o.type elem size n g off dLen dCap ad sLen sCap cur t cs hu hsz hg hm hn hsrc hfit h1
  unfold Oper.wp execOp
  simp only [ho, resolve, invoke, builtin, Sem.run_bind, Sem.run_pure, Result.andThen_ok, List.map_toArray, List.map_cons, List.map_nil, hd, hs, hrun]
  exact h
theorem wpList_copy_any {P : Program} {w : World} {ops : Array Oper} {rest : List Oper} {o : Oper} {a : Act} {Q : Exit → Act → World → Prop} (hgd : o.guard = none) (d s : Operand) (dT sT : TypeId)
    (ho : o.op = .call { callee := .builtin .copy, args := #[d, s], argTypes := #[dT, sT] }) (elem : TypeId) (hu : P.underlying dT = some (.slice elem)) (size n : Nat) (hsz : (P.info? elem).map (·.size) = some size)
    (g off dLen dCap : Nat) (ad : Addr) (sLen sCap : Nat) (hd : a.eval d = .slice (some ⟨g, off, none⟩) dLen dCap) (hs : a.eval s = .slice (some ad) sLen sCap)
    (cur : Array Value) (t : TypeId) (hg : w.heap[g]? = some (.cells cur t (0, 0))) (cs : List Value) (hm : Nat.min sLen dLen = n) (hn : cs.length = n * size)
    (hsrc : ∀ j v, cs[j]? = some v → w.cell? (ad.add j) = some v) (hfit : off + cs.length ≤ cur.size) (h1 : ∀ v ∈ cs, v.oneCell' = true)
    (h : wpList P ops Q rest (a.put o.dst (goInt n)) (w.setRow g (cur.toList.take off ++ cs ++ cur.toList.drop (off + cs.length)).toArray)) : wpList P ops Q (o :: rest) a w :=
  wpList_plain hgd fun _ hK => wp_copy_any d s dT sT ho elem hu size n hsz g off dLen dCap ad sLen sCap hd hs cur t hg cs hm hn hsrc hfit h1 (hK _ _ h)
theorem step_copy_any {P : Program} {ops : Array Oper} {o : Oper} {a : Act} {w : World} {K : Act → World → Prop} {Q : Exit → Act → World → Prop} {E : Prop} (hgd : o.guard = none) (d s : Operand) (dT sT : TypeId)
    (ho : o.op = .call { callee := .builtin .copy, args := #[d, s], argTypes := #[dT, sT] }) (elem : TypeId) (hu : P.underlying dT = some (.slice elem)) (size n : Nat) (hsz : (P.info? elem).map (·.size) = some size)
    (g off dLen dCap : Nat) (ad : Addr) (sLen sCap : Nat) (hd : a.eval d = .slice (some ⟨g, off, none⟩) dLen dCap) (hs : a.eval s = .slice (some ad) sLen sCap)
    (cur : Array Value) (t : TypeId) (hg : w.heap[g]? = some (.cells cur t (0, 0))) (cs : List Value) (hm : Nat.min sLen dLen = n) (hn : cs.length = n * size)
    (hsrc : ∀ j v, cs[j]? = some v → w.cell? (ad.add j) = some v) (hfit : off + cs.length ≤ cur.size) (h1 : ∀ v ∈ cs, v.oneCell' = true)
    (h : K (a.put o.dst (goInt n)) (w.setRow g (cur.toList.take off ++ cs ++ cur.toList.drop (off + cs.length)).toArray)) :
    if Region.wanted o (yielded ops a.tmps) = true then Oper.wp P o a w K Q else E := by
  have hw : Region.wanted o (yielded ops a.tmps) = true := by simp [Region.wanted, hgd]
  rw [if_pos hw]
  exact wp_copy_any d s dT sT ho elem hu size n hsz g off dLen dCap ad sLen sCap hd hs cur t hg cs hm hn hsrc hfit h1 h
set_option maxRecDepth 100000 in
set_option maxHeartbeats 1000000 in
/-- One that is put behind all others. -/
theorem insert_end (base g c n p vc : Nat) (x0 x1 x2 : Value) (xs : List Value) (w : World) (hn : n ≤ 1099511627776) (h : w.ownsRow base 56 3 (.slice (some ⟨g, 0, none⟩) n c) n xs) (hb : base ≤ w.heap.size) (k : ∀ j u, [x0, x1, x2][j]? = some u → w.cell? ((⟨p, 0, none⟩ : Addr).add j) = some u) (h1 : ∀ u ∈ [x0, x1, x2], u.oneCell' = true) : Calls Tryz.prog 84 #[.slice (some ⟨g, 0, none⟩) n c, .int .i64 n, .slice (some ⟨p, 0, none⟩) 1 vc] w fun e w' => ∃ g' c', e = .returned (.slice (some ⟨g', 0, none⟩) (n + 1) c') ∧ w'.ownsRow base 56 3 (.slice (some ⟨g', 0, none⟩) (n + 1) c') (n + 1) (xs ++ [x0, x1, x2]) ∧ w.grownBy w' (some g) ∧ (g = g' ∨ g' = w.heap.size) ∧ g' < w'.heap.size := by
  obtain ⟨i0, hi0, hz0, hz1, hz2⟩ := info_parts Tryz.infoTx
  have hnc : n ≤ c ∧ c ≤ maxLen := by
    rcases h.2 with ⟨q, _⟩ | ⟨_, _, _, e, _, _, h3, h4, _⟩
    · cases q
    · cases e; exact ⟨h3, h4⟩
  have hnc1 := hnc.1
  have hc63 : (c : Int) ≤ 9223372036854775807 := by have := hnc.2; unfold maxLen at this; omega
  have c1 : (n : Int) ≤ (c : Int) := by omega
  have HK := hid k
  have H1 := hid h1
  clear k h1 hnc
  go_enter Tryz.func84, Tryz.ntmps84
  go_wp2_with (at_builtin; refine wpList_append_lies _ rfl (.tmp 23) (.tmp 24) 32 rfl base 56 i0 _ 3 40 Tryz.underlying32 hi0 hz0 hz1 hz2 rfl (by decide) (.slice (some ⟨g, 0, none⟩) n c) _ _ rfl h ⟨p, 0, none⟩ 1 vc [x0, x1, x2] rfl rfl HK.out H1.out (by omega) (by unfold maxLen; omega) (by omega) hb w.heap.size rfl ?_; intro gg cp w2 hown2 hgrow hat hlt2)
  all_goals
    go_ret
    exact ⟨gg, cp, rfl, hown2, hgrow, (by simpa [Value.ownBlock] using hat), hlt2⟩
theorem own_pre {w : World} {base : Nat} {e : TypeId} {size g n c : Nat} {xs : List Value} (h : w.ownsRow base e size (.slice (some ⟨g, 0, none⟩) n c) n xs) {i : Nat} (hi : i ≤ n) : w.ownsRow base e size (.slice (some ⟨g, 0, none⟩) i c) i (xs.take (i * size)) := by
  have hl : i * size ≤ n * size := Nat.mul_le_mul_right _ hi
  refine ⟨by rw [List.length_take, h.1]; omega, ?_⟩
  rcases h.2 with ⟨q, _⟩ | ⟨g', c', cur, e1, q1, q2, q3, q4, q5, q6⟩
  · cases q
  · cases e1
    exact .inr ⟨g, c, cur, rfl, q1, q2, by omega, q4, q5, by rw [← q6, List.take_take, Nat.min_eq_left hl]⟩
set_option maxRecDepth 100000 in
set_option maxHeartbeats 1000000 in
theorem rep_end (base g c n p vc : Nat) (x0 x1 x2 : Value) (xs : List Value) (w : World) (hn : n ≤ 1099511627776) (h : w.ownsRow base 56 3 (.slice (some ⟨g, 0, none⟩) n c) n xs) (hb : base ≤ w.heap.size) (k : ∀ j u, [x0, x1, x2][j]? = some u → w.cell? ((⟨p, 0, none⟩ : Addr).add j) = some u) (h1 : ∀ u ∈ [x0, x1, x2], u.oneCell' = true) : Calls Tryz.prog 52 #[.slice (some ⟨g, 0, none⟩) n c, .int .i64 n, .int .i64 n, .slice (some ⟨p, 0, none⟩) 1 vc] w fun e w' => ∃ g' c', e = .returned (.slice (some ⟨g', 0, none⟩) (n + 1) c') ∧ w'.ownsRow base 56 3 (.slice (some ⟨g', 0, none⟩) (n + 1) c') (n + 1) (xs ++ [x0, x1, x2]) ∧ w.grownBy w' (some g) ∧ (g = g' ∨ g' = w.heap.size) ∧ g' < w'.heap.size := by
  have HI := hid (insert_end base g c n p vc x0 x1 x2 xs w hn h hb k h1)
  have hnc : n ≤ c ∧ c ≤ maxLen := by
    rcases h.2 with ⟨q, _⟩ | ⟨_, _, _, e, _, _, h3, h4, _⟩
    · cases q
    · cases e; exact ⟨h3, h4⟩
  have hnc1 := hnc.1
  have hc63 : (c : Int) ≤ 9223372036854775807 := by have := hnc.2; unfold maxLen at this; omega
  have c1 : (n : Int) ≤ (c : Int) := by omega
  clear h k h1 hnc
  have hsp : c = n ∨ (¬ c = n ∧ (n : Int) < (c : Int)) := by omega
  rcases hsp with hcn | ⟨hcn, c2⟩
  · subst hcn
    go_enter Tryz.func52, Tryz.ntmps52
    go_wp2_with fail
    refine HI.out.mono ?_
    rintro e w' ⟨g', c', rfl, q1, q2, q3, q4⟩
    have Q1 := hid q1
    have Q2 := hid q2
    have Q3 := hid q3
    clear q1 q2 q3
    go_wp2_with fail
    go_ret
    exact ⟨g', c', rfl, Q1.out, Q2.out, Q3.out, q4⟩
  · skip
    go_enter Tryz.func52, Tryz.ntmps52
    go_wp2_with fail
    refine HI.out.mono ?_
    rintro e w' ⟨g', c', rfl, q1, q2, q3, q4⟩
    have Q1 := hid q1
    have Q2 := hid q2
    have Q3 := hid q3
    clear q1 q2 q3
    go_wp2_with fail
    go_ret
    exact ⟨g', c', rfl, Q1.out, Q2.out, Q3.out, q4⟩
set_option maxRecDepth 100000 in
set_option maxHeartbeats 1000000 in
theorem rep_last (base g c i p vc : Nat) (x0 x1 x2 : Value) (xs : List Value) (w : World) (hn : i + 1 ≤ 1099511627776) (h : w.ownsRow base 56 3 (.slice (some ⟨g, 0, none⟩) (i + 1) c) (i + 1) xs) (hb : base ≤ w.heap.size) (k : ∀ j u, [x0, x1, x2][j]? = some u → w.cell? ((⟨p, 0, none⟩ : Addr).add j) = some u) (h1 : ∀ u ∈ [x0, x1, x2], u.oneCell' = true) : Calls Tryz.prog 52 #[.slice (some ⟨g, 0, none⟩) (i + 1) c, .int .i64 i, .int .i64 (i + 1 : Nat), .slice (some ⟨p, 0, none⟩) 1 vc] w fun e w' => ∃ g' c', e = .returned (.slice (some ⟨g', 0, none⟩) (i + 1) c') ∧ w'.ownsRow base 56 3 (.slice (some ⟨g', 0, none⟩) (i + 1) c') (i + 1) (xs.take (i * 3) ++ [x0, x1, x2]) ∧ w.grownBy w' (some g) ∧ (g = g' ∨ g' = w.heap.size) ∧ g' < w'.heap.size := by
  obtain ⟨i0, hi0, hz0, hz1, hz2⟩ := info_parts Tryz.infoTx
  have hnc : i + 1 ≤ c ∧ c ≤ maxLen := by
    rcases h.2 with ⟨q, _⟩ | ⟨_, _, _, e, _, _, h3, h4, _⟩
    · cases q
    · cases e; exact ⟨h3, h4⟩
  have hnc1 := hnc.1
  have hc63 : (c : Int) ≤ 9223372036854775807 := by have := hnc.2; unfold maxLen at this; omega
  have c1 : (i : Int) + 1 ≤ (c : Int) := by omega
  have c2 : (i : Int) < (c : Int) := by omega
  have hp := own_pre h (i := i) (by omega)
  have HK := hid k
  have H1 := hid h1
  clear k h1 hnc h
  go_enter Tryz.func52, Tryz.ntmps52
  go_wp2_with (at_builtin; refine wpList_append_lies _ rfl (.tmp 32) (.tmp 33) 32 rfl base 56 i0 _ 3 40 Tryz.underlying32 hi0 hz0 hz1 hz2 rfl (by decide) (.slice (some ⟨g, 0, none⟩) i c) _ _ rfl hp ⟨p, 0, none⟩ 1 vc [x0, x1, x2] rfl rfl HK.out H1.out (by omega) (by unfold maxLen; omega) (by omega) hb w.heap.size rfl ?_; intro gg cp w2 hown2 hgrow hat hlt2)
  all_goals
    go_ret
    exact ⟨gg, cp, rfl, hown2, hgrow, (by simpa [Value.ownBlock] using hat), hlt2⟩
theorem grown_row {w : World} {g : Nat} (cs : Array Value) : w.grownBy (w.setRow g cs) (some g) :=
  ⟨rfl, rfl, rfl, by simp [World.setRow], fun k _ hk => setRow_other w g k cs (fun e => hk (by rw [e]))⟩
theorem self_copy {α : Type} (L : List α) (o m : Nat) (h : o + m ≤ L.length) : L.take o ++ (L.drop o).take m ++ L.drop (o + ((L.drop o).take m).length) = L := by
  have hl : ((L.drop o).take m).length = m := by simp; omega
  rw [hl, List.append_assoc]
  have h2 : (L.drop o).take m ++ L.drop (o + m) = L.drop o := by
    rw [← List.drop_drop]; exact List.take_append_drop _ _
  rw [h2, List.take_append_drop]
end Go.Proofs.YtiocelhnmfadnaaGreat
namespace Go.Proofs.YtiocelhnmfadnaaGreat
open Go.RowKit
set_option linter.unusedSimpArgs false
set_option linter.unusedVariables false
theorem layTx {cur xs : List Value} {k n : Nat} {x0 x1 x2 : Value} (h : cur.take n = xs) (hn : n ≤ cur.length) (hk : k + 3 ≤ n) : (cur.take k ++ [x0, x1, x2] ++ cur.drop (k + 3)).take n = xs.take k ++ [x0, x1, x2] ++ xs.drop (k + 3) := by
  have hxl : xs.length = n := by rw [← h, List.length_take]; omega
  obtain ⟨r, hr⟩ : ∃ r, cur = xs ++ r := ⟨cur.drop n, by rw [← h]; exact (List.take_append_drop n cur).symm⟩
  have e1 : cur.take k = xs.take k := by rw [hr, List.take_append_of_le_length (by omega)]
  have e2 : cur.drop (k + 3) = xs.drop (k + 3) ++ r := by rw [hr, List.drop_append_of_le_length (by omega)]
  rw [e1, e2, ← List.append_assoc, List.take_append_of_le_length (by simp; omega)]
  exact List.take_of_length_le (by simp; omega)
theorem wpList_copy_row {P : Program} {w : World} {ops : Array Oper} {rest : List Oper} {o : Oper} {a : Act} {Q : Exit → Act → World → Prop} (hgd : o.guard = none) (d s : Operand) (dT sT : TypeId)
    (ho : o.op = .call { callee := .builtin .copy, args := #[d, s], argTypes := #[dT, sT] }) (elem : TypeId) (hu : P.underlying dT = some (.slice elem)) (size n : Nat) (hsz : (P.info? elem).map (·.size) = some size)
    (g off dLen dCap : Nat) (ad : Addr) (sLen sCap : Nat) (hd : a.eval d = .slice (some ⟨g, off, none⟩) dLen dCap) (hs : a.eval s = .slice (some ad) sLen sCap)
    (cur : Array Value) (t : TypeId) (hg : w.heap[g]? = some (.cells cur t (0, 0))) (cs : List Value) (hm : Nat.min sLen dLen = n) (hn : cs.length = n * size)
    (hsrc : ∀ j v, cs[j]? = some v → w.cell? (ad.add j) = some v) (hfit : off + cs.length ≤ cur.size) (h1 : ∀ v ∈ cs, v.oneCell' = true)
    (new : Array Value) (hnew : (cur.toList.take off ++ cs ++ cur.toList.drop (off + cs.length)).toArray = new)
    (h : ∀ w', Hid (w'.heap[g]? = some (.cells new t (0, 0))) → Hid (w.grownBy w' (some g)) → wpList P ops Q rest (a.put o.dst (goInt n)) w') : wpList P ops Q (o :: rest) a w := by
  subst hnew
  exact wpList_copy_any hgd d s dT sT ho elem hu size n hsz g off dLen dCap ad sLen sCap hd hs cur t hg cs hm hn hsrc hfit h1 (h _ (hid (setRow_heap w g cur _ t _ hg)) (hid (grown_row _)))
theorem step_copy_row {P : Program} {ops : Array Oper} {o : Oper} {a : Act} {w : World} {K : Act → World → Prop} {Q : Exit → Act → World → Prop} {E : Prop} (hgd : o.guard = none) (d s : Operand) (dT sT : TypeId)
    (ho : o.op = .call { callee := .builtin .copy, args := #[d, s], argTypes := #[dT, sT] }) (elem : TypeId) (hu : P.underlying dT = some (.slice elem)) (size n : Nat) (hsz : (P.info? elem).map (·.size) = some size)
    (g off dLen dCap : Nat) (ad : Addr) (sLen sCap : Nat) (hd : a.eval d = .slice (some ⟨g, off, none⟩) dLen dCap) (hs : a.eval s = .slice (some ad) sLen sCap)
    (cur : Array Value) (t : TypeId) (hg : w.heap[g]? = some (.cells cur t (0, 0))) (cs : List Value) (hm : Nat.min sLen dLen = n) (hn : cs.length = n * size)
    (hsrc : ∀ j v, cs[j]? = some v → w.cell? (ad.add j) = some v) (hfit : off + cs.length ≤ cur.size) (h1 : ∀ v ∈ cs, v.oneCell' = true)
    (new : Array Value) (hnew : (cur.toList.take off ++ cs ++ cur.toList.drop (off + cs.length)).toArray = new)
    (h : ∀ w', Hid (w'.heap[g]? = some (.cells new t (0, 0))) → Hid (w.grownBy w' (some g)) → K (a.put o.dst (goInt n)) w') :
    if Region.wanted o (yielded ops a.tmps) = true then Oper.wp P o a w K Q else E := by
  subst hnew
  exact step_copy_any hgd d s dT sT ho elem hu size n hsz g off dLen dCap ad sLen sCap hd hs cur t hg cs hm hn hsrc hfit h1 (h _ (hid (setRow_heap w g cur _ t _ hg)) (hid (grown_row _)))
theorem clear_none (a : Addr) (cp : Nat) (ty : TypeId) (W : World) : (Builtin.clear_ #[32] ty #[.slice (some a) 0 cp]).run Tryz.prog W = .ok (.tuple #[]) W := by
  simp [Builtin.clear_, run_underlying Tryz.underlying32]
theorem sizeTx : (Tryz.prog.info? 56).map (fun i => i.size) = some 3 := by
  obtain ⟨i0, hi0, hz0, hz1, hz2⟩ := info_parts Tryz.infoTx
  rw [hi0]; simp [hz1]
set_option maxRecDepth 100000 in
set_option maxHeartbeats 2000000 in
theorem rep_mid (base g c i m p vc : Nat) (x0 x1 x2 : Value) (xs : List Value) (w : World) (hn : i + 1 + m ≤ 1099511627776) (h0 : 0 < m) (h : w.ownsRow base 56 3 (.slice (some ⟨g, 0, none⟩) (i + 1 + m) c) (i + 1 + m) xs) (hx : ∀ u ∈ xs, u.oneCell' = true) (k : ∀ j u, [x0, x1, x2][j]? = some u → w.cell? ((⟨p, 0, none⟩ : Addr).add j) = some u) (h1 : ∀ u ∈ [x0, x1, x2], u.oneCell' = true) : Calls Tryz.prog 52 #[.slice (some ⟨g, 0, none⟩) (i + 1 + m) c, .int .i64 i, .int .i64 (i + 1 : Nat), .slice (some ⟨p, 0, none⟩) 1 vc] w fun e w' => e = .returned (.slice (some ⟨g, 0, none⟩) (i + 1 + m) c) ∧ w'.ownsRow base 56 3 (.slice (some ⟨g, 0, none⟩) (i + 1 + m) c) (i + 1 + m) (xs.take (i * 3) ++ [x0, x1, x2] ++ xs.drop (i * 3 + 3)) ∧ w.grownBy w' (some g) := by
  have h' := h.1
  obtain ⟨cur, hb, hg, hnc, hcm, hcs, htk⟩ : ∃ cur, base ≤ g ∧ w.heap[g]? = some (.cells cur 56 (0, 0)) ∧ i + 1 + m ≤ c ∧ c ≤ maxLen ∧ cur.size = c * 3 ∧ cur.toList.take ((i + 1 + m) * 3) = xs := by
    rcases h.2 with ⟨q, _⟩ | ⟨g', c', cur, e, q1, q2, q3, q4, q5, q6⟩
    · cases q
    · cases e; exact ⟨cur, q1, q2, q3, q4, q5, q6⟩
  have hcl : cur.toList.length = c * 3 := by simpa using hcs
  obtain ⟨A, hA⟩ : ∃ A, A = (cur.toList.take (i * 3) ++ [x0, x1, x2] ++ cur.toList.drop (i * 3 + 3)).toArray := ⟨_, rfl⟩
  have hAs : A.size = c * 3 := by rw [hA]; simp; omega
  have hAt : A.toList.take ((i + 1 + m) * 3) = xs.take (i * 3) ++ [x0, x1, x2] ++ xs.drop (i * 3 + 3) := by
    rw [hA]; exact layTx htk (by omega) (by omega)
  have hA1 : ∀ v ∈ (A.toList.drop (i * 3 + 3)).take (m * 3), v.oneCell' = true := by
    intro v hv
    have e1 : (A.toList.drop (i * 3 + 3)).take (m * 3) = xs.drop (i * 3 + 3) := by
      have e2 : (A.toList.take ((i + 1 + m) * 3)).drop (i * 3 + 3) = (A.toList.drop (i * 3 + 3)).take (m * 3) := by
        rw [List.drop_take]; congr 1; omega
      rw [← e2, hAt]
      have e3 : (xs.take (i * 3) ++ [x0, x1, x2]).length = i * 3 + 3 := by simp; omega
      rw [← e3, List.drop_left]
    rw [e1] at hv
    exact hx v (List.mem_of_mem_drop hv)
  have HF : Hid (∀ w' : World, w'.heap[g]? = some (.cells A 56 (0, 0)) → w'.ownsRow base 56 3 (.slice (some ⟨g, 0, none⟩) (i + 1 + m) c) (i + 1 + m) (xs.take (i * 3) ++ [x0, x1, x2] ++ xs.drop (i * 3 + 3))) := hid (fun w' hw => ⟨by simp; omega, .inr ⟨g, c, A, rfl, hb, hw, hnc, hcm, hAs, hAt⟩⟩)
  have HS : Hid (∀ w' : World, w'.heap[g]? = some (.cells A 56 (0, 0)) → ∀ j v, ((A.toList.drop (i * 3 + 3)).take (m * 3))[j]? = some v → w'.cell? ((⟨g, i * 3 + 3, none⟩ : Addr).add j) = some v) := hid (fun w' hw j v hv => by
    rw [Addr.add_mid]
    rw [List.getElem?_take] at hv
    split at hv
    · rw [List.getElem?_drop] at hv
      simp only [World.cell?, hw]
      simpa using hv
    · cases hv)
  have HE : Hid ((A.toList.take (i * 3 + 3) ++ (A.toList.drop (i * 3 + 3)).take (m * 3) ++ A.toList.drop (i * 3 + 3 + ((A.toList.drop (i * 3 + 3)).take (m * 3)).length)).toArray = A) := hid (by
    rw [self_copy A.toList (i * 3 + 3) (m * 3) (by simp; omega)])
  have HL : Hid (((A.toList.drop (i * 3 + 3)).take (m * 3)).length = m * 3) := hid (by simp; omega)
  have HO := hid hA1
  have HG := hid hg
  have HA := hid hA.symm
  have HK := hid k
  have H1 := hid h1
  have hAs' := hAs
  rw [show i * 3 + 3 = (i + 1) * 3 by omega] at HS HE HL HO
  generalize (A.toList.drop ((i + 1) * 3)).take (m * 3) = cs at HS HE HL HO
  have hc63 : (c : Int) ≤ 9223372036854775807 := by unfold maxLen at hcm; omega
  have c1 : (i : Int) + 1 ≤ (c : Int) := by omega
  have c2 : (i : Int) < (c : Int) := by omega
  have c3 : (i : Int) + 1 < (c : Int) := by omega
  have c4 : (i : Int) + 1 + (m : Int) ≤ (c : Int) := by omega
  have c5 : (0 : Int) < (m : Int) := by omega
  clear h h' htk hA hAs hAt hA1 k h1 hx hg hcm
  go_enter Tryz.func52, Tryz.ntmps52
  go_wp2_with fail
  go_quiet (fail)
  go_wp2_with (refine wpList_copy_row rfl (.tmp 95) (.tmp 96) 32 32 rfl 56 Tryz.underlying32 3 1 sizeTx g (i * 3) _ _ ⟨p, 0, none⟩ 1 vc rfl rfl cur 56 HG.out [x0, x1, x2] (by show min 1 _ = 1; omega) rfl HK.out (by show i * 3 + 3 ≤ cur.size; omega) H1.out A HA.out ?_; intro w1 HG1 HR1)
  have s0 : IntKind.i64.wrap ((i : Int) + 1) = (i : Int) + 1 := by rw [IntKind.wrap_i64]; omega
  have s1 : (0 : Int) ≤ (i : Int) + 1 := by omega
  have s2 : (i : Int) + 1 ≤ (i : Int) + 1 + (m : Int) := by omega
  have s3 : ((i : Int) + 1).toNat = i + 1 := by omega
  have s4 : ¬ c = i + 1 := by omega
  refine wp_region_held_drew (S := fun w' => w'.heap[g]? = some (.cells A 56 (0, 0))) (by kernel_rfl) ?_ (fun hHeld => ?_)
  · exact HG1.out
  refine wpAnyH_take (i := 0) (v := ?_) rfl (by kernel_rfl) (by kernel_rfl) (by kernel_rfl) (fun _ _ _ h => h) (Or.inl ⟨by rfl, ?_⟩) hHeld ?_
  rotate_left
  · intro w hSw; (try dsimp only at hSw); go_simp; try (with_reducible rfl)
  try simp only [sq]
  refine wpAnyH_take (i := 1) (v := ?_) rfl (by kernel_rfl) (by kernel_rfl) (by kernel_rfl) (fun _ _ _ h => h) (Or.inl ⟨by rfl, ?_⟩) hHeld ?_
  rotate_left
  · intro w hSw; (try dsimp only at hSw); go_simp; try (with_reducible rfl)
  try simp only [sq]
  refine wpAnyH_take (i := 2) (v := ?_) rfl (by kernel_rfl) (by kernel_rfl) (by kernel_rfl) (fun _ _ _ h => h) (Or.inl ⟨by rfl, ?_⟩) hHeld ?_
  rotate_left
  · intro w hSw; (try dsimp only at hSw); go_simp; try (with_reducible rfl)
  try simp only [sq]
  refine wpAnyH_take (i := 3) (v := ?_) rfl (by kernel_rfl) (by kernel_rfl) (by kernel_rfl) (fun _ _ _ h => h) (Or.inl ⟨by rfl, ?_⟩) hHeld ?_
  rotate_left
  · intro w hSw; (try dsimp only at hSw); go_simp; try (with_reducible rfl)
  try simp only [sq]
  refine wpAnyH_take (i := 4) (v := ?_) rfl (by kernel_rfl) (by kernel_rfl) (by kernel_rfl) (fun _ _ _ h => h) (Or.inl ⟨by rfl, ?_⟩) hHeld ?_
  rotate_left
  · intro w hSw; (try dsimp only at hSw); go_simp; try (with_reducible rfl)
  try simp only [sq]
  refine wpAnyH_take (i := 5) (v := ?_) rfl (by kernel_rfl) (by kernel_rfl) (by kernel_rfl) (fun _ _ _ h => h) (Or.inl ⟨by rfl, ?_⟩) hHeld ?_
  rotate_left
  · intro w hSw; (try dsimp only at hSw); go_simp; try (with_reducible rfl)
  try simp only [sq]
  refine wpAnyH_take (i := 6) (v := ?_) rfl (by kernel_rfl) (by kernel_rfl) (by kernel_rfl) (fun _ _ _ h => h) (Or.inl ⟨by rfl, ?_⟩) hHeld ?_
  rotate_left
  · intro w hSw; (try dsimp only at hSw); go_simp; try (with_reducible rfl)
  try simp only [sq]
  refine wpAnyH_take (i := 7) (v := ?_) rfl (by kernel_rfl) (by kernel_rfl) (by kernel_rfl) (fun _ _ _ h => h) (Or.inl ⟨by rfl, ?_⟩) hHeld ?_
  rotate_left
  · intro w hSw; (try dsimp only at hSw); go_simp; try (with_reducible rfl)
  try simp only [sq]
  refine wpAnyH_take (i := 8) (v := ?_) rfl (by kernel_rfl) (by kernel_rfl) (by kernel_rfl) (fun _ _ _ h => h) (Or.inl ⟨by rfl, ?_⟩) hHeld ?_
  rotate_left
  · intro w hSw; (try dsimp only at hSw); go_simp; try (with_reducible rfl)
  try simp only [sq]
  refine wpAnyH_ready (rs := [9]) (by kernel_rfl) (by simp) ?_
  refine AllReadyH.cons rfl (fun K hK => ?_) AllReadyH.nil
  refine step_copy_row rfl (.tmp 103) (.tmp 106) 32 32 rfl 56 Tryz.underlying32 3 m sizeTx g ((i + 1) * 3) _ _ ⟨g, (i + 1) * 3, none⟩ _ _ rfl rfl A 56 HG1.out cs (by show min _ _ = m; omega) HL.out (HS.out _ HG1.out) (by have := HL.out; omega) HO.out A HE.out ?_
  intro w2 HG2 HR2
  refine hK.out _ _ ?_ (fun hHeld => ?_)
  · exact HG2.out
  clear hK K
  refine wpAnyH_done (by kernel_rfl) ?_ _
  have hclr := clear_none
  go_wp2_with fail
  all_goals
    go_ret
    exact ⟨(by first | rfl | (have hc : c = i + 1 + m := by omega
                              rw [hc]; rfl)), HF.out _ HG2.out, (grown_trans (grown_trans (show w.grownBy (w.drewN nq) (some g) from ⟨rfl, rfl, rfl, Nat.le_refl _, fun _ _ _ => rfl⟩) HR1.out) (grown_trans (show w1.grownBy w1.drew (some g) from ⟨rfl, rfl, rfl, Nat.le_refl _, fun _ _ _ => rfl⟩) HR2.out))⟩
end Go.Proofs.YtiocelhnmfadnaaGreat
namespace Go.Proofs.YtiocelhnmfadnaaGreat
open Go.RowKit
set_option linter.unusedSimpArgs false
set_option linter.unusedVariables false
theorem flatK_set {α : Type} (K : Kd α) (q : α × Value) : ∀ (ps : List (α × Value)) (i : Nat), i < ps.length → flatK K (ps.set i q) = (flatK K ps).take (i * K.sz) ++ K.vals q.1 q.2 ++ (flatK K ps).drop (i * K.sz + K.sz)
  | [], i, h => absurd h (by simp)
  | p :: ps, 0, _ => by
    simp only [flatK, List.set_cons_zero, List.flatMap_cons, Nat.zero_mul, List.take_zero, List.nil_append, Nat.zero_add]
    have h := K.len p.1 p.2
    rw [← h, List.drop_left]
  | p :: ps, i + 1, h => by
    have ih := flatK_set K q ps i (by simpa using h)
    have hl := K.len p.1 p.2
    simp only [flatK, List.set_cons_succ, List.flatMap_cons] at ih ⊢
    rw [ih, show (i + 1) * K.sz = K.sz + i * K.sz by rw [Nat.succ_mul]; omega]
    rw [← hl, List.take_length_add_append, show (K.vals p.1 p.2).length + i * (K.vals p.1 p.2).length + (K.vals p.1 p.2).length = (K.vals p.1 p.2).length + (i * (K.vals p.1 p.2).length + (K.vals p.1 p.2).length) by omega, List.drop_length_add_append]
    simp only [List.append_assoc]
theorem LX.setAt {α : Type} {K : Kd α} {t : TypeId} {base hi : Nat} {W w' : World} {c : Nat} {xs : List α} {ps : List (α × Value)} {x : α} {sv : Value} {i g g' c' : Nat} (h : LX K t base hi W (.slice (some ⟨g, 0, none⟩) xs.length c) xs ps) (hi' : i < xs.length)
    (hsub : ∀ lo up, up ≤ w'.heap.size → K.sub lo up w' sv x)
    (hown : w'.ownsRow base t K.sz (.slice (some ⟨g', 0, none⟩) xs.length c') xs.length ((flatK K ps).take (i * K.sz) ++ K.vals x sv ++ (flatK K ps).drop (i * K.sz + K.sz))) (hg : W.grownBy w' (some g)) (hat : g = g' ∨ g' = W.heap.size) (hlt : g' < w'.heap.size) :
    LX K t base w'.heap.size w' (.slice (some ⟨g', 0, none⟩) xs.length c') (xs.set i x) (ps.set i (x, sv)) := by
  have hpl := h.plen
  obtain ⟨h1, h2, h3, h4, lo, up, h5, h6⟩ := h
  have hgs := hg.size
  refine ⟨by rw [List.map_set, h1], ?_, fun q e => by simp [Value.ownBlock] at e; omega, Nat.le_refl _, lo, up, fun j hj => ?_, fun a b hab hb => h6 a b hab (by simpa using hb)⟩
  · rw [List.length_set, flatK_set K (x, sv) ps i (by omega)]; exact hown
  · have hj' : j < ps.length := by simpa using hj
    obtain ⟨a1, a2, a3, a4⟩ := h5 j hj'
    have a4' := a4 g rfl
    have hgg := h3 g rfl
    have hfr : ∀ q, lo j ≤ q → q < up j → w'.heap[q]? = W.heap[q]? := fun q q1 q2 => hg.block q (by omega) (fun e => by cases e; omega)
    refine ⟨?_, a2, by omega, fun q e => ?_⟩
    · by_cases e : i = j
      · subst e
        rw [List.getElem_set_self]
        exact hsub _ _ (by omega)
      · rw [List.getElem_set_ne e]
        exact K.frame a1 hfr hgs
    · simp [Value.ownBlock] at e
      subst e
      rcases hat with e | e
      · subst e; exact a4'
      · right; omega
end Go.Proofs.YtiocelhnmfadnaaGreat
namespace Go.Proofs.YtiocelhnmfadnaaGreat
open Go.RowKit
set_option linter.unusedSimpArgs false
set_option linter.unusedVariables false
def putT (now : Int) (ts : List Tx) (f : Nat) : List Tx := if f = ts.length then ts ++ [(now, true, [])] else ts.set f (now, true, [])
theorem flatK_one {α : Type} {K : Kd α} {t : TypeId} {base hi : Nat} {w : World} {v : Value} {xs : List α} {ps : List (α × Value)} (h : LX K t base hi w v xs ps) : ∀ u ∈ flatK K ps, u.oneCell' = true := by
  obtain ⟨h1, h2, h3, h4, lo, up, h5, h6⟩ := h
  intro u hu
  unfold flatK at hu
  rw [List.mem_flatMap] at hu
  obtain ⟨q, hq, hu⟩ := hu
  obtain ⟨j, hj, rfl⟩ := List.getElem_of_mem hq
  exact K.one (h5 j hj).1 u hu
theorem subT_nil (lo up : Nat) (w : World) (now : Int) (h : up ≤ w.heap.size) : KT.sub lo up w (.slice none 0 0) (now, true, []) := ⟨h, .inl ⟨rfl, rfl⟩⟩
set_option maxHeartbeats 1000000 in
theorem rep_tx (base hi g c f p : Nat) (now j : Int) (ts : List Tx) (ps : List (Tx × Value)) (w : World) (hn : ts.length ≤ 1048576) (hb : base ≤ w.heap.size) (hbh : base ≤ hi) (hf : f ≤ ts.length) (hj : j = ((min (f + 1) ts.length : Nat) : Int)) (h : LX KT 56 base hi w (.slice (some ⟨g, 0, none⟩) ts.length c) ts ps) (k : ∀ j u, [Value.int .i64 now, .bool true, .slice none 0 0][j]? = some u → w.cell? ((⟨p, 0, none⟩ : Addr).add j) = some u) : Calls Tryz.prog 52 #[.slice (some ⟨g, 0, none⟩) ts.length c, .int .i64 f, .int .i64 j, .slice (some ⟨p, 0, none⟩) 1 1] w fun e w' => ∃ g' c' ps', e = .returned (.slice (some ⟨g', 0, none⟩) (putT now ts f).length c') ∧ LX KT 56 base w'.heap.size w' (.slice (some ⟨g', 0, none⟩) (putT now ts f).length c') (putT now ts f) ps' ∧ w.grownBy w' (some g) := by
  have h1 : ∀ u ∈ [Value.int .i64 now, .bool true, .slice none 0 0], u.oneCell' = true := by
    intro u hu
    simp at hu
    rcases hu with rfl | rfl | rfl <;> rfl
  have hx := flatK_one h
  have ho := h.2.1
  have hh := h.2.2.2.1
  have hgh := h.2.2.1 g rfl
  subst hj
  by_cases e : f = ts.length
  · subst e
    rw [show min (ts.length + 1) ts.length = ts.length by omega]
    refine (rep_end base g c ts.length p 1 _ _ _ (flatK KT ps) w (by omega) ho hb k h1).mono ?_
    rintro e w' ⟨g', c', rfl, q1, q2, q3, q4⟩
    unfold putT
    rw [if_pos rfl]
    refine ⟨g', c', ps ++ [((now, true, []), .slice none 0 0)], by simp, ?_, q2⟩
    have := LX.snoc (x := ((now, true, []) : Tx)) (sv := .slice none 0 0) (l := hi) (u := hi) h (Nat.le_refl _) hbh (subT_nil _ _ _ _ hh) q1 q2 (by simpa [Value.ownBlock] using q3) q4
    rw [List.length_append]
    exact this
  · have hlt : f < ts.length := by omega
    rw [show min (f + 1) ts.length = f + 1 by omega]
    have hpt : putT now ts f = ts.set f (now, true, []) := by unfold putT; rw [if_neg e]
    rw [hpt, List.length_set]
    obtain ⟨m, hm⟩ : ∃ m, ts.length = f + 1 + m := ⟨ts.length - (f + 1), by omega⟩
    have hfl : (flatK KT ps).length = ts.length * 3 := by rw [flatK_len, h.plen]; rfl
    rcases Nat.eq_zero_or_pos m with e0 | e0
    · subst e0
      rw [Nat.add_zero] at hm
      rw [hm] at ho ⊢
      refine (rep_last base g c f p 1 _ _ _ (flatK KT ps) w (by omega) ho hb k h1).mono ?_
      rintro e w' ⟨g', c', rfl, q1, q2, q3, q4⟩
      refine ⟨g', c', ps.set f ((now, true, []), .slice none 0 0), rfl, ?_, q2⟩
      have hd : (flatK KT ps).drop (f * 3 + 3) = [] := List.drop_of_length_le (by omega)
      have := LX.setAt (x := ((now, true, []) : Tx)) (sv := .slice none 0 0) (i := f) (g' := g') (c' := c') h hlt (fun lo up hu => subT_nil _ _ _ _ hu) (by rw [hm]; show w'.ownsRow base _ 3 _ _ ((flatK KT ps).take (f * 3) ++ [Value.int .i64 now, .bool true, .slice none 0 0] ++ (flatK KT ps).drop (f * 3 + 3)); rw [hd, List.append_nil]; exact q1) q2 q3 q4
      rw [hm] at this
      exact this
    · rw [hm] at ho ⊢
      refine (rep_mid base g c f m p 1 _ _ _ (flatK KT ps) w (by omega) e0 ho hx k h1).mono ?_
      rintro e w' ⟨rfl, q1, q2⟩
      refine ⟨g, c, ps.set f ((now, true, []), .slice none 0 0), rfl, ?_, q2⟩
      have hgl : g < w'.heap.size := Nat.lt_of_lt_of_le (by omega) q2.size
      have := LX.setAt (x := ((now, true, []) : Tx)) (sv := .slice none 0 0) (i := f) (g' := g) (c' := c) h hlt (fun lo up hu => subT_nil _ _ _ _ hu) (by rw [hm]; exact q1) q2 (.inl rfl) hgl
      rw [hm] at this
      exact this
end Go.Proofs.YtiocelhnmfadnaaGreat
namespace Go.Proofs.YtiocelhnmfadnaaGreat
open Go.RowKit
set_option linter.unusedSimpArgs false
set_option linter.unusedVariables false
set_option maxRecDepth 100000 in
set_option maxHeartbeats 1000000 in
theorem store_copiedL (now : Int) (B D rc tc : Nat) (rs : List Rw) (ts : List Tx) (w : World) (hm : rs.length ≤ 1099511627776) (htm : ts.length ≤ 1099511627776) (hr : RwsZ w B rs) (ht : TxsS w D ts) : Calls Tryz.prog 23 #[.agg #[.int .i64 now, .slice (some ⟨B, 0, none⟩) rs.length rc, .slice (some ⟨D, 0, none⟩) ts.length tc]] w fun e w' => ∃ g c tg tcc mid, e = .returned (.agg #[.int .i64 now, .slice (some ⟨g, 0, none⟩) rs.length c, .slice (some ⟨tg, 0, none⟩) ts.length tcc]) ∧ (LC KR mid w'.heap.size w' (.slice (some ⟨g, 0, none⟩) rs.length c) rs ∧ ∃ px, LX KT 56 w.heap.size mid w' (.slice (some ⟨tg, 0, none⟩) ts.length tcc) ts px) ∧ RwsZ w' g rs ∧ w.heap.size ≤ mid ∧ mid ≤ w'.heap.size ∧ Below w.heap.size w w' := by
  have HK := hid (fun (W : World) (hb : Below w.heap.size w W) => kept_tx D tc ts W htm (ht.below hb))
  have HR := hid (fun (W : World) (hb : Below w.heap.size w W) => rowsZ_copied now B rc rs W hm (hr.below hb))
  clear hr ht
  generalize hnr : rs.length = nr at *
  generalize hnt : ts.length = nt at *
  have HNR := hid hnr
  have HNT := hid hnt
  clear hnr hnt
  have hB : Below w.heap.size w ((w.alloc (.cells #[.int .i64 now, .slice (some ⟨B, 0, none⟩) nr rc, .slice (some ⟨D, 0, none⟩) nt tc] 34)).alloc (.cells #[.int .i64 0, .slice none 0 0, .slice none 0 0] 34)) := balloc (balloc (Below.refl _ _) _) _
  have g0 := old_alloc (o' := .cells #[.int .i64 0, .slice none 0 0, .slice none 0 0] 34) (new_alloc w w.heap.size (.cells #[.int .i64 now, .slice (some ⟨B, 0, none⟩) nr rc, .slice (some ⟨D, 0, none⟩) nt tc] 34) rfl)
  have g1 := new_alloc (w.alloc (.cells #[.int .i64 now, .slice (some ⟨B, 0, none⟩) nr rc, .slice (some ⟨D, 0, none⟩) nt tc] 34)) (w.heap.size + 1) (.cells #[.int .i64 0, .slice none 0 0, .slice none 0 0] 34) (by simp)
  go_enter Tryz.func23, Tryz.ntmps23
  go_upto_region 1 with fail
  generalize (w.alloc (.cells #[.int .i64 now, .slice (some ⟨B, 0, none⟩) nr rc, .slice (some ⟨D, 0, none⟩) nt tc] 34)).alloc (.cells #[.int .i64 0, .slice none 0 0, .slice none 0 0] 34) = W at *
  obtain ⟨⟨d0, d1, d2⟩, _⟩ := cellk3 g0
  have hWs := lt_of_block g1
  go_wp2_with fail
  refine (HK.out _ hB).mono ?_
  rintro e y ⟨v, px, rfl, hX, ⟨tg, tcc, rfl⟩, hy⟩
  replace g0 := keepheap2 hy g0
  replace g1 := keepheap2 hy g1
  replace hB := btrans hB hy
  have hyz := hy.size
  have HX := hid hX
  clear hy hX HK d0 d1 d2
  obtain ⟨⟨d0, d1, d2⟩, _⟩ := cellk3 g0
  go_wp2_with fail
  refine (HR.out _ hB).mono ?_
  rintro e z ⟨g, c, pr, rfl, hX2, hz⟩
  replace g1 := keepheap2 hz g1
  replace hB := btrans hB hz
  have hzz := hz.size
  have HX1 := hid (HX.out.below hz)
  have HX2 := hid hX2
  clear hz hX2 HR HX g0 d0 d1 d2
  obtain ⟨⟨v0, v1, v2⟩, u0, u1, u2⟩ := cellk3 g1
  have HB := hid hB
  clear hB
  go_wp2_with fail
  have gF := setk3 g1 (.int .i64 now) (.slice (some ⟨g, 0, none⟩) nr c) (.slice (some ⟨tg, 0, none⟩) nt tcc)
  have bF := bset (bset (bset HB.out (q := w.heap.size + 1) (k := 0) (by omega) (.int .i64 now)) (q := w.heap.size + 1) (k := 1) (by omega) (.slice (some ⟨g, 0, none⟩) nr c)) (q := w.heap.size + 1) (k := 2) (by omega) (.slice (some ⟨tg, 0, none⟩) nt tcc)
  have hfar : ∀ b, b ≠ w.heap.size + 1 → (((z.setCell ⟨w.heap.size + 1, 0, none⟩ (.int .i64 now)).setCell ⟨w.heap.size + 1, 1, none⟩ (.slice (some ⟨g, 0, none⟩) nr c)).setCell ⟨w.heap.size + 1, 2, none⟩ (.slice (some ⟨tg, 0, none⟩) nt tcc)).heap[b]? = z.heap[b]? := fun b hb => by rw [Below.heap_setCell _ _ _ _ (by dsimp only; omega), Below.heap_setCell _ _ _ _ (by dsimp only; omega), Below.heap_setCell _ _ _ _ (by dsimp only; omega)]
  have hwz : (((z.setCell ⟨w.heap.size + 1, 0, none⟩ (.int .i64 now)).setCell ⟨w.heap.size + 1, 1, none⟩ (.slice (some ⟨g, 0, none⟩) nr c)).setCell ⟨w.heap.size + 1, 2, none⟩ (.slice (some ⟨tg, 0, none⟩) nt tcc)).heap.size = z.heap.size := by simp only [World.size_setCell]
  generalize (((z.setCell ⟨w.heap.size + 1, 0, none⟩ (.int .i64 now)).setCell ⟨w.heap.size + 1, 1, none⟩ (.slice (some ⟨g, 0, none⟩) nr c)).setCell ⟨w.heap.size + 1, 2, none⟩ (.slice (some ⟨tg, 0, none⟩) nt tcc)) = wf at *
  have x1 := ((HX2.out.frame (w' := wf) (fun b h1 h2 => hfar b (by omega)) (by omega)).mono (hi' := wf.heap.size) (Nat.le_refl _) (by omega) (Nat.le_refl _)).lc
  have x2 := ((HX1.out.frame (w' := wf) (fun b h1 h2 => hfar b (by omega)) (by omega)).mono (base' := w.heap.size) (hi' := y.heap.size) (by omega) (Nat.le_refl _) (by omega))
  have hrz : RwsZ wf g rs := by
    refine LC.rwsZ (cap := c) (base := y.heap.size) (hi := wf.heap.size) ?_
    rw [HNR.out]; exact x1
  obtain ⟨⟨z0, z1, z2⟩, _⟩ := cellk3 gF
  exact bodyPost_ret (v := .agg #[.int .i64 now, .slice (some ⟨g, 0, none⟩) nr c, .slice (some ⟨tg, 0, none⟩) nt tcc]) (by simp [results, Tryz.results23, go_sem, z0, z1, z2]) rfl ⟨g, c, tg, tcc, y.heap.size, rfl, ⟨x1, _, x2⟩, hrz, by omega, by omega, bF⟩
end Go.Proofs.YtiocelhnmfadnaaGreat
