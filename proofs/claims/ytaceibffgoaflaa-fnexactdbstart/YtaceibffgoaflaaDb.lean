/- DbStart of both sides. -/
import Derived.Test.YtaceibffgoaflaaDa
import Derived.Laws.CopyRow
import Derived.Deep.AppendLies
import Derived.Deep.RegionLaw
namespace Go.Proofs.Ytaceibffgoaflaa
open Go.RowKit
set_option linter.unusedSimpArgs false
set_option linter.unusedVariables false
theorem run_copy_any {P : Program} (w : World) (dT sT ty elem : TypeId) (size n : Nat) (g o dLen dCap : Nat) (a : Addr) (sLen sCap : Nat) (cur : Array Value) (t : TypeId) (cs : List Value)
    (hu : P.underlying dT = some (.slice elem)) (hs : (P.info? elem).map (·.size) = some size)
    (hg : w.heap[g]? = some (.cells cur t (0, 0))) (hm : Nat.min sLen dLen = n) (hn : cs.length = n * size)
    (hsrc : ∀ j v, cs[j]? = some v → w.cell? (a.add j) = some v) (hfit : o + cs.length ≤ cur.size) (h1 : ∀ v ∈ cs, v.oneCell' = true) :
    (Builtin.copy_ #[dT, sT] ty #[.slice (some ⟨g, o, none⟩) dLen dCap, .slice (some a) sLen sCap]).run P w =
      .ok (goInt n) (w.setRow g (cur.toList.take o ++ cs ++ cur.toList.drop (o + cs.length)).toArray) := by
  have hl := run_loadCells_list (P := P) w a cs hsrc
  have hst := run_storeCells_at P g o t cs 0 cur w hg (by simpa using hfit) h1
  cases hq : P.info? elem with
  | none => simp [hq] at hs
  | some i =>
    have hi : i.size = size := by simpa [hq] using hs
    simp [Builtin.copy_, run_underlying hu, Builtin.lenOf, Builtin.firstCells, sizeOf, typeInfo, hq, hi, hm, ← hn, hl, hst]
theorem wp_copy_any {P : Program} {w : World} {o : Oper} {a : Act} {K : Act → World → Prop} {Q : Exit → Act → World → Prop} (d s : Operand) (dT sT : TypeId)
    (ho : o.op = .call { callee := .builtin .copy, args := #[d, s], argTypes := #[dT, sT] }) (elem : TypeId) (hu : P.underlying dT = some (.slice elem)) (size n : Nat) (hsz : (P.info? elem).map (·.size) = some size)
    (g off dLen dCap : Nat) (ad : Addr) (sLen sCap : Nat) (hd : a.eval d = .slice (some ⟨g, off, none⟩) dLen dCap) (hs : a.eval s = .slice (some ad) sLen sCap)
    (cur : Array Value) (t : TypeId) (hg : w.heap[g]? = some (.cells cur t (0, 0))) (cs : List Value) (hm : Nat.min sLen dLen = n) (hn : cs.length = n * size)
    (hsrc : ∀ j v, cs[j]? = some v → w.cell? (ad.add j) = some v) (hfit : off + cs.length ≤ cur.size) (h1 : ∀ v ∈ cs, v.oneCell' = true)
    (h : K (a.put o.dst (goInt n)) (w.setRow g (cur.toList.take off ++ cs ++ cur.toList.drop (off + cs.length)).toArray)) : o.wp P a w K Q := by
  have hrun := run_copy_any (P := P) w dT sT o.type elem size n g off dLen dCap ad sLen sCap cur t cs hu hsz hg hm hn hsrc hfit h1
  unfold Oper.wp execOp
  simp only [ho, resolve, invoke, builtin, Sem.run_bind, Sem.run_pure, Result.andThen_ok, List.map_toArray, List.map_cons, List.map_nil, hd, hs, hrun]
  exact h
theorem wpList_copy_any {P : Program} {w : World} {ops : Array Oper} {rest : List Oper} {o : Oper} {a : Act} {Q : Exit → Act → World → Prop} (hgd : o.guard = none) (d s : Operand) (dT sT : TypeId)
    (ho : o.op = .call { callee := .builtin .copy, args := #[d, s], argTypes := #[dT, sT] }) (elem : TypeId) (hu : P.underlying dT = some (.slice elem)) (size n : Nat) (hsz : (P.info? elem).map (·.size) = some size)
    (g off dLen dCap : Nat) (ad : Addr) (sLen sCap : Nat) (hd : a.eval d = .slice (some ⟨g, off, none⟩) dLen dCap) (hs : a.eval s = .slice (some ad) sLen sCap)
    (cur : Array Value) (t : TypeId) (hg : w.heap[g]? = some (.cells cur t (0, 0))) (cs : List Value) (hm : Nat.min sLen dLen = n) (hn : cs.length = n * size)
    (hsrc : ∀ j v, cs[j]? = some v → w.cell? (ad.add j) = some v) (hfit : off + cs.length ≤ cur.size) (h1 : ∀ v ∈ cs, v.oneCell' = true)
    (h : wpList P ops Q rest (a.put o.dst (goInt n)) (w.setRow g (cur.toList.take off ++ cs ++ cur.toList.drop (off + cs.length)).toArray)) : wpList P ops Q (o :: rest) a w :=
  wpList_plain hgd fun _ hK => wp_copy_any d s dT sT ho elem hu size n hsz g off dLen dCap ad sLen sCap hd hs cur t hg cs hm hn hsrc hfit h1 (hK _ _ h)
theorem step_copy_any {P : Program} {ops : Array Oper} {o : Oper} {a : Act} {w : World} {K : Act → World → Prop} {Q : Exit → Act → World → Prop} {E : Prop} (hgd : o.guard = none) (d s : Operand) (dT sT : TypeId)
    (ho : o.op = .call { callee := .builtin .copy, args := #[d, s], argTypes := #[dT, sT] }) (elem : TypeId) (hu : P.underlying dT = some (.slice elem)) (size n : Nat) (hsz : (P.info? elem).map (·.size) = some size)
    (g off dLen dCap : Nat) (ad : Addr) (sLen sCap : Nat) (hd : a.eval d = .slice (some ⟨g, off, none⟩) dLen dCap) (hs : a.eval s = .slice (some ad) sLen sCap)
    (cur : Array Value) (t : TypeId) (hg : w.heap[g]? = some (.cells cur t (0, 0))) (cs : List Value) (hm : Nat.min sLen dLen = n) (hn : cs.length = n * size)
    (hsrc : ∀ j v, cs[j]? = some v → w.cell? (ad.add j) = some v) (hfit : off + cs.length ≤ cur.size) (h1 : ∀ v ∈ cs, v.oneCell' = true)
    (h : K (a.put o.dst (goInt n)) (w.setRow g (cur.toList.take off ++ cs ++ cur.toList.drop (off + cs.length)).toArray)) :
    if Region.wanted o (yielded ops a.tmps) = true then Oper.wp P o a w K Q else E := by
  have hw : Region.wanted o (yielded ops a.tmps) = true := by simp [Region.wanted, hgd]
  rw [if_pos hw]
  exact wp_copy_any d s dT sT ho elem hu size n hsz g off dLen dCap ad sLen sCap hd hs cur t hg cs hm hn hsrc hfit h1 h
theorem grown_row {w : World} {g : Nat} (cs : Array Value) : w.grownBy (w.setRow g cs) (some g) :=
  ⟨rfl, rfl, rfl, by simp [World.setRow], fun k _ hk => setRow_other w g k cs (fun e => hk (by rw [e]))⟩
theorem wpList_copy_row {P : Program} {w : World} {ops : Array Oper} {rest : List Oper} {o : Oper} {a : Act} {Q : Exit → Act → World → Prop} (hgd : o.guard = none) (d s : Operand) (dT sT : TypeId)
    (ho : o.op = .call { callee := .builtin .copy, args := #[d, s], argTypes := #[dT, sT] }) (elem : TypeId) (hu : P.underlying dT = some (.slice elem)) (size n : Nat) (hsz : (P.info? elem).map (·.size) = some size)
    (g off dLen dCap : Nat) (ad : Addr) (sLen sCap : Nat) (hd : a.eval d = .slice (some ⟨g, off, none⟩) dLen dCap) (hs : a.eval s = .slice (some ad) sLen sCap)
    (cur : Array Value) (t : TypeId) (hg : w.heap[g]? = some (.cells cur t (0, 0))) (cs : List Value) (hm : Nat.min sLen dLen = n) (hn : cs.length = n * size)
    (hsrc : ∀ j v, cs[j]? = some v → w.cell? (ad.add j) = some v) (hfit : off + cs.length ≤ cur.size) (h1 : ∀ v ∈ cs, v.oneCell' = true)
    (new : Array Value) (hnew : (cur.toList.take off ++ cs ++ cur.toList.drop (off + cs.length)).toArray = new)
    (h : ∀ w', Hid (w'.heap[g]? = some (.cells new t (0, 0))) → Hid (w.grownBy w' (some g)) → wpList P ops Q rest (a.put o.dst (goInt n)) w') : wpList P ops Q (o :: rest) a w := by
  subst hnew
  exact wpList_copy_any hgd d s dT sT ho elem hu size n hsz g off dLen dCap ad sLen sCap hd hs cur t hg cs hm hn hsrc hfit h1 (h _ (hid (setRow_heap w g cur _ t _ hg)) (hid (grown_row _)))
theorem step_copy_row {P : Program} {ops : Array Oper} {o : Oper} {a : Act} {w : World} {K : Act → World → Prop} {Q : Exit → Act → World → Prop} {E : Prop} (hgd : o.guard = none) (d s : Operand) (dT sT : TypeId)
    (ho : o.op = .call { callee := .builtin .copy, args := #[d, s], argTypes := #[dT, sT] }) (elem : TypeId) (hu : P.underlying dT = some (.slice elem)) (size n : Nat) (hsz : (P.info? elem).map (·.size) = some size)
    (g off dLen dCap : Nat) (ad : Addr) (sLen sCap : Nat) (hd : a.eval d = .slice (some ⟨g, off, none⟩) dLen dCap) (hs : a.eval s = .slice (some ad) sLen sCap)
    (cur : Array Value) (t : TypeId) (hg : w.heap[g]? = some (.cells cur t (0, 0))) (cs : List Value) (hm : Nat.min sLen dLen = n) (hn : cs.length = n * size)
    (hsrc : ∀ j v, cs[j]? = some v → w.cell? (ad.add j) = some v) (hfit : off + cs.length ≤ cur.size) (h1 : ∀ v ∈ cs, v.oneCell' = true)
    (new : Array Value) (hnew : (cur.toList.take off ++ cs ++ cur.toList.drop (off + cs.length)).toArray = new)
    (h : ∀ w', Hid (w'.heap[g]? = some (.cells new t (0, 0))) → Hid (w.grownBy w' (some g)) → K (a.put o.dst (goInt n)) w') :
    if Region.wanted o (yielded ops a.tmps) = true then Oper.wp P o a w K Q else E := by
  subst hnew
  exact step_copy_any hgd d s dT sT ho elem hu size n hsz g off dLen dCap ad sLen sCap hd hs cur t hg cs hm hn hsrc hfit h1 (h _ (hid (setRow_heap w g cur _ t _ hg)) (hid (grown_row _)))
set_option maxHeartbeats 2000000 in
theorem mul64_1 (n : Nat) (hn : n ≤ 20) (w : World) : Calls Try.prog 32 #[.int .u64 1, .int .u64 n] w fun e w' => e = .returned (.tuple #[.int .u64 0, .int .u64 n]) ∧ w' = w := by
  have b1 : bits BinOp.and IntKind.u64 1 4294967295 = 1 := by decide
  have b0 : bits BinOp.and IntKind.u64 0 4294967295 = 0 := by decide
  have b2 : bits BinOp.and IntKind.u64 (n : Int) 4294967295 = (n : Int) := by
    have : ∀ m : Fin 21, bits BinOp.and IntKind.u64 ((m.val : Nat) : Int) 4294967295 = ((m.val : Nat) : Int) := by decide
    exact this ⟨n, by omega⟩
  have d1 : (n : Int) / 4294967296 = 0 := by omega
  have w1 : IntKind.u64.wrap (n : Int) = (n : Int) := by rw [IntKind.wrap_u64]; omega
  have w0 : IntKind.u64.wrap 0 = 0 := by decide
  go_enter Try.func32, Try.ntmps32
  go_wp2_with fail
  exact bodyPost_ret (v := .tuple #[.int .u64 0, .int .u64 n]) (by simp [results, Try.results32, go_sem, b0, b1, b2, d1, w0, w1]) rfl ⟨rfl, rfl⟩
set_option maxHeartbeats 2000000 in
theorem mul_1 (n : Nat) (hn : n ≤ 20) (w : World) : Calls Try.prog 24 #[.int .u64 1, .int .u64 n] w fun e w' => e = .returned (.tuple #[.int .u64 0, .int .u64 n]) ∧ w' = w := by
  go_enter Try.func24, Try.ntmps24
  go_wp2_with fail
  refine (mul64_1 n hn _).mono ?_
  rintro e z ⟨rfl, hz⟩
  replace hz := hz.symm
  subst hz
  go_wp2_with fail
  exact bodyPost_ret (v := .tuple #[.int .u64 0, .int .u64 n]) (by simp [results, Try.results24, go_sem]) rfl ⟨rfl, rfl⟩
theorem make_n (n : Nat) (hn : n ≤ 1099511627776) (w : World) : (Instr.makeSlice 28 (.int .i64 n) (.int .i64 n)).run Try.prog w = .ok (.slice (some ⟨w.heap.size, 0, none⟩) n n) (w.alloc (.cells (madeCells #[.int .i64 0] n) 3)) := by
  obtain ⟨i0, hi, hz0, hz1, hz2⟩ := info_parts Try.infoI
  have := run_make (P := Try.prog) w 28 3 i0 _ Try.underlying28 hi hz0 .i64 .i64 n n (by omega) (by omega) (by rw [hz2]; omega) (by omega)
  rw [hz1, Nat.mul_one] at this
  exact this
theorem sizeI : (Try.prog.info? 3).map (fun i => i.size) = some 1 := by kernel_rfl
theorem rep_row {cur : Array Value} {n k m : Nat} (hs : cur.size = n) (hkm : k + m ≤ n) (h : ∀ j, j < k → cur[j]? = some (.int .i64 (-1))) : ∃ new, (cur.toList.take k ++ List.replicate m (Value.int .i64 (-1)) ++ cur.toList.drop (k + (List.replicate m (Value.int .i64 (-1))).length)).toArray = new ∧ new.size = n ∧ ∀ j, j < k + m → new[j]? = some (.int .i64 (-1)) := by
  refine ⟨_, rfl, ?_, ?_⟩
  · simp; omega
  · intro j hj
    simp only [List.getElem?_toArray, List.append_assoc]
    by_cases h1 : j < k
    · rw [List.getElem?_append_left (by simp; omega), List.getElem?_take_of_lt h1]
      simpa using h j h1
    · rw [List.getElem?_append_right (by simp; omega), List.getElem?_append_left (by simp; omega)]
      rw [List.getElem?_replicate, if_pos (by simp; omega)]
set_option maxRecDepth 100000 in
set_option maxHeartbeats 4000000 in
theorem impl_repeat (n X : Nat) (hn : n ≤ 20) (w : World) (gx : w.heap[X]? = some (.cells #[.int .i64 (-1)] 3 (0, 0))) : Calls Try.prog 17 #[.slice (some ⟨X, 0, none⟩) 1 1, .int .i64 n] w fun e w' => e = .returned (.slice (some ⟨w.heap.size, 0, none⟩) n n) ∧ (∃ cur, w'.heap[w.heap.size]? = some (.cells cur 3 (0, 0)) ∧ cur.size = n ∧ ∀ j, j < n → cur[j]? = some (.int .i64 (-1))) ∧ Below w.heap.size w w' := by
  have hXs := lt_of_block gx
  have hmk := make_n n (by omega)
  have n0 : ¬ ((n : Int) < 0) := by omega
  have w1 : IntKind.u64.wrap (n : Int) = (n : Int) := by rw [IntKind.wrap_u64]; omega
  have w2 : IntKind.i64.wrap (n : Int) = (n : Int) := by rw [IntKind.wrap_i64]; omega
  have n1 : ¬ ((9223372036854775807 : Int) < (n : Int)) := by omega
  have hB0 : Below w.heap.size w (w.alloc (.cells (madeCells #[.int .i64 0] n) 3)) := balloc (Below.refl _ _) _
  have gN := new_alloc w w.heap.size (.cells (madeCells #[.int .i64 0] n) 3) rfl
  have hsz : (madeCells #[Value.int .i64 0] n).size = n := by simp [madeCells]
  have gX := keepz hB0 gx
  have hlt : w.heap.size < (w.alloc (.cells (madeCells #[.int .i64 0] n) 3)).heap.size := by simp
  go_enter Try.func17, Try.ntmps17
  go_wp2_with fail
  refine (mul_1 n hn _).mono ?_
  rintro e z ⟨rfl, hz⟩
  replace hz := hz.symm
  subst hz
  go_upto_region 7 with fail
  generalize w.alloc (.cells (madeCells #[.int .i64 0] n) 3) = W at *
  obtain ⟨m0, hm0⟩ : ∃ m0, min 1 n = m0 := ⟨_, rfl⟩
  obtain ⟨A, hA, hAs, hAr⟩ := rep_row (k := 0) (m := m0) hsz (by omega) (fun j hj => absurd hj (by omega))
  have HS0 : Hid (∀ j v, (List.replicate m0 (Value.int .i64 (-1)))[j]? = some v → W.cell? ((⟨X, 0, none⟩ : Addr).add j) = some v) := hid (fun j v hv => by
    rw [List.getElem?_replicate] at hv
    split at hv
    · rename_i hj
      cases hv
      have : j = 0 := by omega
      subst this
      simp [World.cell?, Addr.add, gX]
    · cases hv)
  have hO : ∀ m (u : Value), u ∈ List.replicate m (Value.int .i64 (-1)) → u.oneCell' = true := fun m u hu => by rw [List.eq_of_mem_replicate hu]; rfl
  go_wp2_with (refine wpList_copy_row rfl (.tmp 31) (.tmp 32) 28 28 rfl 3 Try.underlying28 1 m0 sizeI w.heap.size 0 _ _ ⟨X, 0, none⟩ 1 1 rfl rfl (madeCells #[.int .i64 0] n) 3 gN (List.replicate m0 (.int .i64 (-1))) (by show min 1 n = m0; exact hm0) (by simp) HS0.out (by simp [hsz]; omega) (hO m0) A hA ?_; intro w1' HG1 HR1)
  have HB1 := hid (bgrown hB0 HR1.out (Nat.le_refl _))
  clear HS0 hB0 gN gX hA hmk gx HR1
  go_loopw [8] (fun tk wr => ∃ (k : Nat) (cur : Array Value), tk = .int .i64 k ∧ k ≤ n ∧ (n = 0 ∨ 1 ≤ k) ∧ Hid (wr.heap[w.heap.size]? = some (.cells cur 3 (0, 0))) ∧ cur.size = n ∧ Hid (∀ j, j < k → cur[j]? = some (.int .i64 (-1))) ∧ Hid (Below w.heap.size w wr)) (fun tk _ => n - (intOf tk).toNat)
  case atStart => exact ⟨m0, A, rfl, by omega, by omega, HG1, hAs, hid (fun j hj => hAr j (by omega)), HB1⟩
  case round =>
    clear HG1 HB1 hAs hAr
    obtain ⟨k, cur, rfl, hk, hk1, HG, hcs, HA, HB⟩ := hrel
    by_cases hlt2 : k < n
    · have c1 : (k : Int) < (n : Int) := by omega
      have c2 : (0 : Int) ≤ (k : Int) := by omega
      have c3 : (k : Int) ≤ (n : Int) := by omega
      have c4 : ((k : Nat) : Int).toNat = k := by omega
      have c5 : ¬ n = k := by omega
      obtain ⟨m, hm⟩ : ∃ m, min k (n - k) = m := ⟨_, rfl⟩
      obtain ⟨A2, hA2, hAs2, hAr2⟩ := rep_row (k := k) (m := m) hcs (by omega) HA.out
      have HS2 : Hid (∀ W : World, W.heap[w.heap.size]? = some (.cells cur 3 (0, 0)) → ∀ j v, (List.replicate m (Value.int .i64 (-1)))[j]? = some v → W.cell? ((⟨w.heap.size, 0, none⟩ : Addr).add j) = some v) := hid (fun W hW j v hv => by
        rw [List.getElem?_replicate] at hv
        split at hv
        · rename_i hj
          cases hv
          have := HA.out j (by omega)
          cases j with
          | zero => simp [World.cell?, Addr.add, hW, this]
          | succ j => simp [World.cell?, Addr.add, hW, this]
        · cases hv)
      have HA2 := hid hA2
      have HR2' := hid hAr2
      clear hA2 hAr2
      go_wp2_with fail
      refine wp_region_held_drew (S := fun _ => True) (by kernel_rfl) ?_ (fun hHeld => ?_)
      · trivial
      refine wpAnyH_take (i := 0) (v := ?_) rfl (by kernel_rfl) (by kernel_rfl) (by kernel_rfl) (fun _ _ _ h => h) (Or.inl ⟨by rfl, ?_⟩) hHeld ?_
      rotate_left
      · intro w hSw; (try dsimp only at hSw); go_simp; try (with_reducible rfl)
      try simp only [sq]
      refine wpAnyH_take (i := 1) (v := ?_) rfl (by kernel_rfl) (by kernel_rfl) (by kernel_rfl) (fun _ _ _ h => h) (Or.inl ⟨by rfl, ?_⟩) hHeld ?_
      rotate_left
      · intro w hSw; (try dsimp only at hSw); go_simp; try (with_reducible rfl)
      try simp only [sq]
      refine wpAnyH_take (i := 2) (v := ?_) rfl (by kernel_rfl) (by kernel_rfl) (by kernel_rfl) (fun _ _ _ h => h) (Or.inl ⟨by rfl, ?_⟩) hHeld ?_
      rotate_left
      · intro w hSw; (try dsimp only at hSw); go_simp; try (with_reducible rfl)
      try simp only [sq]
      refine wpAnyH_take (i := 3) (v := ?_) rfl (by kernel_rfl) (by kernel_rfl) (by kernel_rfl) (fun _ _ _ h => h) (Or.inl ⟨by rfl, ?_⟩) hHeld ?_
      rotate_left
      · intro w hSw; (try dsimp only at hSw); go_simp; try (with_reducible rfl)
      try simp only [sq]
      refine wpAnyH_take (i := 4) (v := ?_) rfl (by kernel_rfl) (by kernel_rfl) (by kernel_rfl) (fun _ _ _ h => h) (Or.inl ⟨by rfl, ?_⟩) hHeld ?_
      rotate_left
      · intro w hSw; (try dsimp only at hSw); go_simp; try (with_reducible rfl)
      try simp only [sq]
      refine wpAnyH_take (i := 5) (v := ?_) rfl (by kernel_rfl) (by kernel_rfl) (by kernel_rfl) (fun _ _ _ h => h) (Or.inl ⟨by rfl, ?_⟩) hHeld ?_
      rotate_left
      · intro w hSw; (try dsimp only at hSw); go_simp; try (with_reducible rfl)
      try simp only [sq]
      refine wpAnyH_take (i := 6) (v := ?_) rfl (by kernel_rfl) (by kernel_rfl) (by kernel_rfl) (fun _ _ _ h => h) (Or.inl ⟨by rfl, ?_⟩) hHeld ?_
      rotate_left
      · intro w hSw; (try dsimp only at hSw); go_simp; try (with_reducible rfl)
      try simp only [sq]
      refine wpAnyH_ready (rs := [7]) (by kernel_rfl) (by simp) ?_
      refine AllReadyH.cons rfl (fun K hK => ?_) AllReadyH.nil
      refine step_copy_row rfl (.tmp 41) (.tmp 44) 28 28 rfl 3 Try.underlying28 1 m sizeI w.heap.size k _ _ ⟨w.heap.size, 0, none⟩ _ _ rfl rfl cur 3 HG.out (List.replicate m (.int .i64 (-1))) (by show min _ _ = m; omega) (by simp) (HS2.out _ HG.out) (by simp; omega) (hO m) A2 HA2.out ?_
      intro w2 HG2 HR2
      refine hK.out _ _ ?_ (fun hHeld => ?_)
      · trivial
      clear hK K
      try simp only [sq]
      have s0 : IntKind.i64.wrap ((k : Int) + (m : Int)) = (k : Int) + (m : Int) := by rw [IntKind.wrap_i64]; omega
      refine wpAnyH_take (i := 8) (v := ?_) rfl (by kernel_rfl) (by kernel_rfl) (by kernel_rfl) (fun _ _ _ h => h) (Or.inl ⟨by rfl, ?_⟩) hHeld ?_
      rotate_left
      · intro w hSw; (try dsimp only at hSw); go_simp; try (with_reducible rfl)
      try simp only [sq]
      refine wpAnyH_take (i := 9) (v := ?_) rfl (by kernel_rfl) (by kernel_rfl) (by kernel_rfl) (fun _ _ _ h => h) (Or.inl ⟨by rfl, ?_⟩) hHeld ?_
      rotate_left
      · intro w hSw; (try dsimp only at hSw); go_simp; try (with_reducible rfl)
      try simp only [sq]
      refine wpAnyH_done (by kernel_rfl) ?_ _
      have HB2 := hid (bgrown (bdrew HB.out) HR2.out (Nat.le_refl _))
      go_wp2_with fail
      go_roundw
      case rel => exact ⟨k + m, A2, by go_num, by omega, by omega, HG2, hAs2, HR2', HB2⟩
      case measure => simp [intOf]; omega
    · have e : k = n := by omega
      subst e
      have c1 : ¬ ((k : Int) < (k : Int)) := by omega
      go_wp2_with fail
      go_ret
      exact ⟨rfl, ⟨cur, HG.out, hcs, HA.out⟩, HB.out⟩
theorem own_none1 {w : World} {g n : Nat} {cur : Array Value} {t : TypeId} (hg : w.heap[g]? = some (.cells cur t (0, 0))) (hs : cur.size = n) (h : ∀ j, j < n → cur[j]? = some (.int .i64 (-1))) : OwnI w (some ⟨g, 0, none⟩) (none1 n) := by
  refine .inr ⟨g, rfl, lt_of_block hg, fun k hk => ?_, fun j hj => ?_⟩
  · rw [none1_len] at hk
    rw [none1_at hk, Nat.zero_add]
    simp [World.cell?, hg, h k hk]
  · rw [none1_len] at hj
    have hj' : j < cur.size := by omega
    simp [World.cell?, World.frozen?, hg, hj']
/-- What DbStart answers: both sides. -/
def dsn (z : Int) : Nat := if 0 ≤ z ∧ z ≤ 20 then z.toNat else 0
def dsb (z : Int) : Bool := decide (0 ≤ z ∧ z ≤ 20)
def DS (w : World) (z : Int) (e : Ending) (w' : World) : Prop :=
  ∃ a c, e = .returned (.tuple #[.agg #[.int .i64 0, .slice none 0 0, .slice none 0 0, .slice a (dsn z) c], .bool (dsb z)]) ∧ OwnI w' a (none1 (dsn z)) ∧ (∀ b off, a = some ⟨b, off, none⟩ → w.heap.size ≤ b) ∧ Below w.heap.size w w'
theorem ds_no {w w' : World} {z : Int} (h : ¬ (0 ≤ z ∧ z ≤ 20)) (hb : Below w.heap.size w w') : DS w z (.returned (.tuple #[.agg #[.int .i64 0, .slice none 0 0, .slice none 0 0, .slice none 0 0], .bool false])) w' := by
  have e1 : dsn z = 0 := by unfold dsn; rw [if_neg h]
  have e2 : dsb z = false := by unfold dsb; simp; omega
  unfold DS
  rw [e1, e2]
  exact ⟨none, 0, rfl, .inl ⟨rfl, rfl⟩, fun b off e => by (cases e), hb⟩
theorem ds_yes {w w' : World} {n c : Nat} {a : Option Addr} (h : n ≤ 20) (ho : OwnI w' a (none1 n)) (ha : ∀ b off, a = some ⟨b, off, none⟩ → w.heap.size ≤ b) (hb : Below w.heap.size w w') : DS w (n : Int) (.returned (.tuple #[.agg #[.int .i64 0, .slice none 0 0, .slice none 0 0, .slice a n c], .bool true])) w' := by
  have e1 : dsn (n : Int) = n := by unfold dsn; rw [if_pos (by omega)]; rfl
  have e2 : dsb (n : Int) = true := by unfold dsb; simp; omega
  unfold DS
  rw [e1, e2]
  exact ⟨a, c, rfl, ho, ha, hb⟩
set_option maxHeartbeats 2000000 in
theorem impl_idle (n : Nat) (hn : n ≤ 20) (w : World) : Calls Try.prog 10 #[.int .i64 n] w fun e w' => ∃ g, e = .returned (.slice (some ⟨g, 0, none⟩) n n) ∧ w.heap.size ≤ g ∧ (∃ cur, w'.heap[g]? = some (.cells cur 3 (0, 0)) ∧ cur.size = n ∧ ∀ j, j < n → cur[j]? = some (.int .i64 (-1))) ∧ Below w.heap.size w w' := by
  have gX := new_alloc w w.heap.size (.cells #[.int .i64 (-1)] 3) rfl
  have hB : Below w.heap.size w (w.alloc (.cells #[.int .i64 (-1)] 3)) := balloc (Below.refl _ _) _
  have hsz : (w.alloc (.cells #[.int .i64 (-1)] 3)).heap.size = w.heap.size + 1 := by simp
  go_enter Try.func10, Try.ntmps10
  go_wp2_with fail
  refine (impl_repeat n w.heap.size hn _ gX).mono ?_
  rintro e y ⟨rfl, hc, hy⟩
  rw [hsz] at hc
  have HC := hid hc
  clear hc
  go_wp2_with fail
  go_ret
  exact ⟨_, rfl, Nat.le_succ _, HC.out, btrans hB hy⟩
set_option maxRecDepth 100000 in
set_option maxHeartbeats 4000000 in
theorem impl_DbStart (z : Int) (w : World) : Calls Try.prog 5 #[.int .i64 z] w fun e w' => DS w z e w' := by
  have gZ := new_alloc w w.heap.size (.cells #[.int .i64 0, .slice none 0 0, .slice none 0 0, .slice none 0 0] 30) rfl
  have hB : Below w.heap.size w (w.alloc (.cells #[.int .i64 0, .slice none 0 0, .slice none 0 0, .slice none 0 0] 30)) := balloc (Below.refl _ _) _
  have hlt : w.heap.size < (w.alloc (.cells #[.int .i64 0, .slice none 0 0, .slice none 0 0, .slice none 0 0] 30)).heap.size := by simp
  go_enter Try.func5, Try.ntmps5
  go_upto_region 1 with fail
  generalize w.alloc (.cells #[.int .i64 0, .slice none 0 0, .slice none 0 0, .slice none 0 0] 30) = W at *
  by_cases h : 0 ≤ z ∧ z ≤ 20
  · obtain ⟨dn, rfl⟩ := Int.eq_ofNat_of_zero_le h.1
    have hn : dn ≤ 20 := by omega
    have c1 : ¬ ((dn : Int) < 0) := by omega
    have c2 : ¬ ((20 : Int) < (dn : Int)) := by omega
    clear h
    go_wp2_with fail
    refine (impl_idle dn hn _).mono ?_
    rintro e y ⟨G, rfl, hG, ⟨cur, hc1, hc2, hc3⟩, hy⟩
    replace gZ := keepz hy gZ
    replace hB := btrans hB hy
    have hyz := hy.size
    have hsz : w.heap.size < W.heap.size := hlt
    clear hy
    obtain ⟨_, s0, s1, s2, s3⟩ := cellz4 gZ
    go_wp2_with fail
    have gF := setz4 gZ (.int .i64 0) (.slice none 0 0) (.slice none 0 0) (.slice (some ⟨G, 0, none⟩) dn dn)
    have bF := bset (bset (bset (bset hB (q := w.heap.size) (k := 0) (by omega) (.int .i64 0)) (q := w.heap.size) (k := 1) (by omega) (.slice none 0 0)) (q := w.heap.size) (k := 2) (by omega) (.slice none 0 0)) (q := w.heap.size) (k := 3) (by omega) (.slice (some ⟨G, 0, none⟩) dn dn)
    have hfar : ∀ b, b ≠ w.heap.size → (((((y.setCell ⟨w.heap.size, 0, none⟩ (.int .i64 0)).setCell ⟨w.heap.size, 1, none⟩ (.slice none 0 0)).setCell ⟨w.heap.size, 2, none⟩ (.slice none 0 0)).setCell ⟨w.heap.size, 3, none⟩ (.slice (some ⟨G, 0, none⟩) dn dn))).heap[b]? = y.heap[b]? := fun b hb => by rw [Below.heap_setCell _ _ _ _ (by dsimp only; omega), Below.heap_setCell _ _ _ _ (by dsimp only; omega), Below.heap_setCell _ _ _ _ (by dsimp only; omega), Below.heap_setCell _ _ _ _ (by dsimp only; omega)]
    have hszF : y.heap.size ≤ (((((y.setCell ⟨w.heap.size, 0, none⟩ (.int .i64 0)).setCell ⟨w.heap.size, 1, none⟩ (.slice none 0 0)).setCell ⟨w.heap.size, 2, none⟩ (.slice none 0 0)).setCell ⟨w.heap.size, 3, none⟩ (.slice (some ⟨G, 0, none⟩) dn dn))).heap.size := by simp
    generalize ((((y.setCell ⟨w.heap.size, 0, none⟩ (.int .i64 0)).setCell ⟨w.heap.size, 1, none⟩ (.slice none 0 0)).setCell ⟨w.heap.size, 2, none⟩ (.slice none 0 0)).setCell ⟨w.heap.size, 3, none⟩ (.slice (some ⟨G, 0, none⟩) dn dn)) = wf at *
    obtain ⟨⟨z0, z1, z2, z3⟩, _⟩ := cellz4 gF
    exact bodyPost_ret (v := .tuple #[.agg #[.int .i64 0, .slice none 0 0, .slice none 0 0, .slice (some ⟨G, 0, none⟩) dn dn], .bool true]) (by simp [results, Try.results5, go_sem, z0, z1, z2, z3]) rfl (ds_yes hn (own_none1 ((hfar _ (by omega)).trans hc1) hc2 hc3) (fun b off e => by cases e; omega) bF)
  · have HN := hid h
    have hz : z < 0 ∨ 20 < z := by omega
    clear h
    by_cases c1 : z < 0
    · skip
      obtain ⟨_, s0, s1, s2, s3⟩ := cellz4 gZ
      go_wp2_with fail
      have gF := setz4 gZ (.int .i64 0) (.slice none 0 0) (.slice none 0 0) (.slice none 0 0)
      have bF := bset (bset (bset (bset hB (q := w.heap.size) (k := 0) (by omega) (.int .i64 0)) (q := w.heap.size) (k := 1) (by omega) (.slice none 0 0)) (q := w.heap.size) (k := 2) (by omega) (.slice none 0 0)) (q := w.heap.size) (k := 3) (by omega) (.slice none 0 0)
      have hfar : ∀ b, b ≠ w.heap.size → (((((W.setCell ⟨w.heap.size, 0, none⟩ (.int .i64 0)).setCell ⟨w.heap.size, 1, none⟩ (.slice none 0 0)).setCell ⟨w.heap.size, 2, none⟩ (.slice none 0 0)).setCell ⟨w.heap.size, 3, none⟩ (.slice none 0 0))).heap[b]? = W.heap[b]? := fun b hb => by rw [Below.heap_setCell _ _ _ _ (by dsimp only; omega), Below.heap_setCell _ _ _ _ (by dsimp only; omega), Below.heap_setCell _ _ _ _ (by dsimp only; omega), Below.heap_setCell _ _ _ _ (by dsimp only; omega)]
      have hszF : W.heap.size ≤ (((((W.setCell ⟨w.heap.size, 0, none⟩ (.int .i64 0)).setCell ⟨w.heap.size, 1, none⟩ (.slice none 0 0)).setCell ⟨w.heap.size, 2, none⟩ (.slice none 0 0)).setCell ⟨w.heap.size, 3, none⟩ (.slice none 0 0))).heap.size := by simp
      generalize ((((W.setCell ⟨w.heap.size, 0, none⟩ (.int .i64 0)).setCell ⟨w.heap.size, 1, none⟩ (.slice none 0 0)).setCell ⟨w.heap.size, 2, none⟩ (.slice none 0 0)).setCell ⟨w.heap.size, 3, none⟩ (.slice none 0 0)) = wf at *
      obtain ⟨⟨z0, z1, z2, z3⟩, _⟩ := cellz4 gF
      exact bodyPost_ret (v := .tuple #[.agg #[.int .i64 0, .slice none 0 0, .slice none 0 0, .slice none 0 0], .bool false]) (by simp [results, Try.results5, go_sem, z0, z1, z2, z3]) rfl (ds_no HN.out bF)
    · have c2 : (20 : Int) < z := by omega
      obtain ⟨_, s0, s1, s2, s3⟩ := cellz4 gZ
      go_wp2_with fail
      have gF := setz4 gZ (.int .i64 0) (.slice none 0 0) (.slice none 0 0) (.slice none 0 0)
      have bF := bset (bset (bset (bset hB (q := w.heap.size) (k := 0) (by omega) (.int .i64 0)) (q := w.heap.size) (k := 1) (by omega) (.slice none 0 0)) (q := w.heap.size) (k := 2) (by omega) (.slice none 0 0)) (q := w.heap.size) (k := 3) (by omega) (.slice none 0 0)
      have hfar : ∀ b, b ≠ w.heap.size → (((((W.setCell ⟨w.heap.size, 0, none⟩ (.int .i64 0)).setCell ⟨w.heap.size, 1, none⟩ (.slice none 0 0)).setCell ⟨w.heap.size, 2, none⟩ (.slice none 0 0)).setCell ⟨w.heap.size, 3, none⟩ (.slice none 0 0))).heap[b]? = W.heap[b]? := fun b hb => by rw [Below.heap_setCell _ _ _ _ (by dsimp only; omega), Below.heap_setCell _ _ _ _ (by dsimp only; omega), Below.heap_setCell _ _ _ _ (by dsimp only; omega), Below.heap_setCell _ _ _ _ (by dsimp only; omega)]
      have hszF : W.heap.size ≤ (((((W.setCell ⟨w.heap.size, 0, none⟩ (.int .i64 0)).setCell ⟨w.heap.size, 1, none⟩ (.slice none 0 0)).setCell ⟨w.heap.size, 2, none⟩ (.slice none 0 0)).setCell ⟨w.heap.size, 3, none⟩ (.slice none 0 0))).heap.size := by simp
      generalize ((((W.setCell ⟨w.heap.size, 0, none⟩ (.int .i64 0)).setCell ⟨w.heap.size, 1, none⟩ (.slice none 0 0)).setCell ⟨w.heap.size, 2, none⟩ (.slice none 0 0)).setCell ⟨w.heap.size, 3, none⟩ (.slice none 0 0)) = wf at *
      obtain ⟨⟨z0, z1, z2, z3⟩, _⟩ := cellz4 gF
      exact bodyPost_ret (v := .tuple #[.agg #[.int .i64 0, .slice none 0 0, .slice none 0 0, .slice none 0 0], .bool false]) (by simp [results, Try.results5, go_sem, z0, z1, z2, z3]) rfl (ds_no HN.out bF)
end Go.Proofs.Ytaceibffgoaflaa
