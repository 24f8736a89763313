/- Texts of stores, joined: Zq, Zr, Zs, Zt, Zu, Zv, Zz, Pg, Ph, Zx, Pi, Zad, Sm. -/
import Derived.Test.YtnajddjalagmoaaGreatDoorC5
import Derived.Lib.AppendZeros
import Derived.Lib.AppendZerosOnto
import Derived.Laws.NewBlocks
import Derived.Lib.Overlaps
import Derived.Test.YtnajddjalagmoaaGreatDoorC2
import Derived.Test.YtnajddjalagmoaaGreatDoorC3
import Derived.Test.YtnajddjalagmoaaGreatDoorC4
import Derived.Test.YtnajddjalagmoaaGreatDoorC6
namespace Go.Proofs.YtnajddjalagmoaaGreatDoor
open Go.RowKit
set_option linter.unusedSimpArgs false
set_option linter.unusedVariables false
/-- An append whose two lists are of two named types. -/
theorem run_append_two {P : Program} {t t' e : TypeId} {i : TypeInfo} (ht : P.underlying t = some (.slice e)) (ht' : P.underlying t' = some (.slice e)) (hi : P.info? e = some i) (ty : TypeId) (a b : Option Addr) (n cap m c : Nat) (w : World) : (Builtin.append_ #[t, t'] ty #[.slice a n cap, .slice b m c]).run P w = (Builtin.append_ #[t, t] ty #[.slice a n cap, .slice b m c]).run P w := by
  simp [Builtin.append_, run_underlying ht, run_underlying ht', sizeOf, typeInfo, hi]
set_option maxRecDepth 100000 in
set_option maxHeartbeats 1000000 in
theorem insE_end (base g c n p vc : Nat) (x0 x1 x2 x3 : Value) (xs : List Value) (w : World) (hn : n ≤ 1099511627776) (h : w.ownsRow base 66 4 (.slice (some ⟨g, 0, none⟩) n c) n xs) (hb : base ≤ w.heap.size) (k : ∀ j u, [x0, x1, x2, x3][j]? = some u → w.cell? ((⟨p, 0, none⟩ : Addr).add j) = some u) (h1 : ∀ u ∈ [x0, x1, x2, x3], u.oneCell' = true) : Calls Tryz.prog 96 #[.slice (some ⟨g, 0, none⟩) n c, .int .i64 n, .slice (some ⟨p, 0, none⟩) 1 vc] w fun e w' => ∃ g' c', e = .returned (.slice (some ⟨g', 0, none⟩) (n + 1) c') ∧ w'.ownsRow base 66 4 (.slice (some ⟨g', 0, none⟩) (n + 1) c') (n + 1) (xs ++ [x0, x1, x2, x3]) ∧ w.grownBy w' (some g) ∧ (g = g' ∨ g' = w.heap.size) ∧ g' < w'.heap.size := by
  obtain ⟨i0, hi0, hz0, hz1, hz2⟩ := info_parts Tryz.infoCh
  have hnc : n ≤ c ∧ c ≤ maxLen := by
    rcases h.2 with ⟨q, _⟩ | ⟨_, _, _, e, _, _, h3, h4, _⟩
    · cases q
    · cases e; exact ⟨h3, h4⟩
  have hnc1 := hnc.1
  have hc63 : (c : Int) ≤ 9223372036854775807 := by have := hnc.2; unfold maxLen at this; omega
  have c1 : (n : Int) ≤ (c : Int) := by omega
  obtain ⟨gg, cp, w2, hr, hown2, hgrow, hat, hlt2⟩ := run_append_lies (P := Tryz.prog) w 102 102 base 66 i0 _ 4 _ Tryz.underlying102 hi0 hz0 hz1 hz2 rfl (by decide) (.slice (some ⟨g, 0, none⟩) n c) n xs h ⟨p, 0, none⟩ 1 vc [x0, x1, x2, x3] rfl k h1 (by omega) (by unfold maxLen; omega) (by omega) hb w.heap.size rfl
  have HR := hid ((run_append_two Tryz.underlying102 Tryz.underlying60 hi0 102 (some ⟨g, 0, none⟩) (some ⟨p, 0, none⟩) n c 1 vc w).trans hr)
  have HO := hid hown2
  have HG := hid hgrow
  have hat' : g = gg ∨ gg = w.heap.size := by simpa [Value.ownBlock] using hat
  clear k h1 hnc h hr hown2 hgrow hat
  go_enter Tryz.func96, Tryz.ntmps96
  go_wp2_with (at_builtin; refine Lib.wpList_append_run _ rfl _ _ _ _ rfl _ _ rfl rfl _ _ HR.out ?_)
  all_goals
    go_ret
    exact ⟨gg, cp, rfl, HO.out, HG.out, hat', hlt2⟩
end Go.Proofs.YtnajddjalagmoaaGreatDoor
namespace Go.Proofs.YtnajddjalagmoaaGreatDoor
open Go.RowKit
set_option linter.unusedSimpArgs false
set_option linter.unusedVariables false
theorem sizeCh : (Tryz.prog.info? 66).map (fun i => i.size) = some 4 := by
  obtain ⟨i0, hi0, hz0, hz1, hz2⟩ := info_parts Tryz.infoCh
  rw [hi0]; simp [hz1]
theorem cells_in {w : World} {g k : Nat} {cur : Array Value} {t : TypeId} (hw : w.heap[g]? = some (.cells cur t (0, 0))) : ∀ j v, (cur.toList.drop k)[j]? = some v → w.cell? ((⟨g, k, none⟩ : Addr).add j) = some v := fun j v hv => by
  rw [Addr.add_mid]
  rw [List.getElem?_drop] at hv
  simp only [World.cell?, hw]
  simpa using hv
theorem layMid {ROW xs : List Value} {i n : Nat} {x0 x1 x2 x3 : Value} (hx : xs.length = n * 4) (hi : i < n) (hR : ROW.take (i * 4) = xs.take (i * 4)) (hl : (n + 1) * 4 ≤ ROW.length) :
    (((ROW.take (i * 4) ++ [x0, x1, x2, x3] ++ ROW.drop (i * 4 + 4)).take ((i + 1) * 4) ++ xs.drop (i * 4) ++ (ROW.take (i * 4) ++ [x0, x1, x2, x3] ++ ROW.drop (i * 4 + 4)).drop ((i + 1) * 4 + (xs.drop (i * 4)).length))).take ((n + 1) * 4) = xs.take (i * 4) ++ [x0, x1, x2, x3] ++ xs.drop (i * 4) := by
  have e1 : (ROW.take (i * 4) ++ [x0, x1, x2, x3]).length = (i + 1) * 4 := by simp; omega
  have e2 : (ROW.take (i * 4) ++ [x0, x1, x2, x3] ++ ROW.drop (i * 4 + 4)).take ((i + 1) * 4) = ROW.take (i * 4) ++ [x0, x1, x2, x3] := by rw [← e1, List.take_left]
  rw [e2, hR]
  have e3 : (xs.take (i * 4) ++ [x0, x1, x2, x3] ++ xs.drop (i * 4)).length = (n + 1) * 4 := by simp; omega
  rw [← e3, List.take_left]
set_option maxRecDepth 100000 in
set_option maxHeartbeats 2000000 in
theorem insE_grow (base g n i p vc : Nat) (x0 x1 x2 x3 : Value) (xs : List Value) (w : World) (hn : n ≤ 1099511627776) (hi : i < n) (h : w.ownsRow base 66 4 (.slice (some ⟨g, 0, none⟩) n n) n xs) (hb : base ≤ w.heap.size) (hx : ∀ u ∈ xs, u.oneCell' = true) (k : ∀ j u, [x0, x1, x2, x3][j]? = some u → w.cell? ((⟨p, 0, none⟩ : Addr).add j) = some u) (h1 : ∀ u ∈ [x0, x1, x2, x3], u.oneCell' = true) : Calls Tryz.prog 96 #[.slice (some ⟨g, 0, none⟩) n n, .int .i64 i, .slice (some ⟨p, 0, none⟩) 1 vc] w fun e w' => ∃ c', e = .returned (.slice (some ⟨w.heap.size, 0, none⟩) (n + 1) c') ∧ w'.ownsRow base 66 4 (.slice (some ⟨w.heap.size, 0, none⟩) (n + 1) c') (n + 1) (xs.take (i * 4) ++ [x0, x1, x2, x3] ++ xs.drop (i * 4)) ∧ w.grownBy w' none ∧ w.heap.size < w'.heap.size := by
  obtain ⟨i0, hi0, hz0, hz1, hz2⟩ := info_parts Tryz.infoCh
  have hxl : xs.length = n * 4 := h.1
  obtain ⟨cur, hg, htk⟩ : ∃ cur, w.heap[g]? = some (.cells cur 66 (0, 0)) ∧ cur.toList = xs := by
    rcases h.2 with ⟨q, _⟩ | ⟨g', c', cur, e, q1, q2, q3, q4, q5, q6⟩
    · cases q
    · cases e
      refine ⟨cur, q2, ?_⟩
      rw [← q6, List.take_of_length_le (by simp; omega)]
  have hgw : g < w.heap.size := lt_of_block hg
  have hpw : p < w.heap.size := block_lt_of_cell (k 0 x0 rfl)
  have hold : (Builtin.firstCells i0.size i (.slice (some ⟨g, 0, none⟩) i n)).run Tryz.prog w.drew = .ok (xs.take (i * 4)).toArray w.drew := by
    rw [hz1]
    exact run_firstCells_some w.drew 4 i ⟨g, 0, none⟩ i n (xs.take (i * 4)) (by rw [List.length_take]; omega) (fun j v hj => by
      rw [List.getElem?_take] at hj
      split at hj
      · exact cells_in (w := w.drew) (k := 0) hg j v (by rw [htk]; simpa using hj)
      · cases hj)
  have hkk : (n : Int) + 1 - (i : Int) = ((n + 1 - i : Nat) : Int) := by omega
  have hik : i + (n + 1 - i) = n + 1 := by omega
  have hrz : (Builtin.append_ #[102, 3] 102 #[.slice (some ⟨g, 0, none⟩) i n, .int .i64 ((n : Int) + 1 - (i : Int))]).run Tryz.prog w = .ok (.slice (some ⟨w.heap.size, 0, none⟩) (n + 1) (grownCap w (n + 1) n 66)) (w.drew.alloc (.cells ((xs.take (i * 4)).toArray ++ Builtin.zeroCells (Value.agg #[.int .i64 0, .bool false, .int .i64 0, .slice none 0 0]).cells (n + 1 - i) ++ Builtin.zeroCells (Value.agg #[.int .i64 0, .bool false, .int .i64 0, .slice none 0 0]).cells (grownCap w (n + 1) n 66 - (n + 1))) 66)) := by
    have h := Lib.run_append_grow_zeros w 102 3 102 66 i0 _ .i64 .i64 Tryz.underlying102 Tryz.underlying3 hi0 hz0 (some ⟨g, 0, none⟩) i n (xs.take (i * 4)) hold (n + 1 - i) (by omega) (by omega) (by omega) (by omega) (by rw [hz2]; omega) (by rw [hz2, hik]; exact growslice_fits (by omega) (by omega))
    rw [hik] at h
    rw [hkk]
    exact h
  obtain ⟨G, hG⟩ : ∃ G, G = grownCap w (n + 1) n 66 := ⟨_, rfl⟩
  have hGn : n + 1 ≤ G := by rw [hG]; exact grownCap_ge w _ _ _
  have hGm : G ≤ maxLen := by rw [hG]; exact grownCap_le_maxLen w _ _ _ (by unfold maxLen; omega)
  rw [← hG] at hrz
  obtain ⟨ROW, hROW⟩ : ∃ ROW : Array Value, ROW = (xs.take (i * 4)).toArray ++ Builtin.zeroCells (Value.agg #[.int .i64 0, .bool false, .int .i64 0, .slice none 0 0]).cells (n + 1 - i) ++ Builtin.zeroCells (Value.agg #[.int .i64 0, .bool false, .int .i64 0, .slice none 0 0]).cells (G - (n + 1)) := ⟨_, rfl⟩
  rw [← hROW] at hrz
  have hRs : ROW.size = G * 4 := by
    rw [hROW]
    simp [Builtin.zeroCells, Value.cells]
    omega
  have hRt : ROW.toList.take (i * 4) = xs.take (i * 4) := by
    have e1 : (xs.take (i * 4)).length = i * 4 := by simp; omega
    rw [hROW, Array.toList_append, Array.toList_append, List.append_assoc]
    exact List.take_left' e1
  obtain ⟨W1, hW1⟩ : ∃ W1, W1 = w.drew.alloc (.cells ROW 66) := ⟨_, rfl⟩
  rw [← hW1] at hrz
  obtain ⟨H, hH⟩ : ∃ H, H = w.heap.size := ⟨_, rfl⟩
  have hg1 : W1.heap[H]? = some (.cells ROW 66 (0, 0)) := by rw [hW1, hH]; exact new_alloc w.drew w.heap.size (.cells ROW 66) rfl
  have hgr1 : w.grownBy W1 none := by
    rw [hW1]
    exact ⟨rfl, rfl, rfl, (by show w.heap.size ≤ (w.drew.alloc _).heap.size; have : w.drew.heap.size = w.heap.size := rfl; simp [this]), fun k hk _ => (balloc (w := w.drew) (Below.refl _ _) (.cells ROW 66)).block k hk⟩
  obtain ⟨A, hA⟩ : ∃ A, A = (ROW.toList.take (i * 4) ++ [x0, x1, x2, x3] ++ ROW.toList.drop (i * 4 + 4)).toArray := ⟨_, rfl⟩
  have hAs : A.size = G * 4 := by rw [hA]; simp; omega
  obtain ⟨A2, hA2⟩ : ∃ A2, A2 = (A.toList.take ((i + 1) * 4) ++ xs.drop (i * 4) ++ A.toList.drop ((i + 1) * 4 + (xs.drop (i * 4)).length)).toArray := ⟨_, rfl⟩
  have hA2s : A2.size = G * 4 := by rw [hA2]; simp; omega
  have hA2t : A2.toList.take ((n + 1) * 4) = xs.take (i * 4) ++ [x0, x1, x2, x3] ++ xs.drop (i * 4) := by
    rw [hA2, hA]; exact layMid hxl hi hRt (by simp; omega)
  have hbH : base ≤ H := by omega
  have hdl : (xs.drop (i * 4)).length = (n - i) * 4 := by simp; omega
  have HF : Hid (∀ w' : World, w'.heap[H]? = some (.cells A2 66 (0, 0)) → w'.ownsRow base 66 4 (.slice (some ⟨H, 0, none⟩) (n + 1) G) (n + 1) (xs.take (i * 4) ++ [x0, x1, x2, x3] ++ xs.drop (i * 4))) := hid (fun w' hw => ⟨by simp; omega, .inr ⟨H, G, A2, rfl, hbH, hw, hGn, hGm, hA2s, hA2t⟩⟩)
  have HK : Hid (∀ W : World, w.grownBy W none → ∀ j u, [x0, x1, x2, x3][j]? = some u → W.cell? ((⟨p, 0, none⟩ : Addr).add j) = some u) := hid (fun W hW j u hj => by
    have q := k j u hj
    rw [Addr.add_mid] at q ⊢
    exact (World.cell?_of_block (hW.block p hpw (by simp))).trans q)
  have HS : Hid (∀ W : World, w.grownBy W none → ∀ j v, (xs.drop (i * 4))[j]? = some v → W.cell? ((⟨g, i * 4, none⟩ : Addr).add j) = some v) := hid (fun W hW j v hj => cells_in ((hW.block g hgw (by simp)).trans hg) j v (by rw [htk]; exact hj))
  have HT : Hid (∀ W W' : World, w.grownBy W none → W.grownBy W' (some H) → w.grownBy W' none) := hid (fun W W' q r => ⟨r.os.trans q.os, r.tape.trans q.tape, r.output.trans q.output, by have := q.size; have := r.size; omega, fun b hb _ => (r.block b (by have := q.size; omega) (by simp; omega)).trans (q.block b hb (by simp))⟩)
  have HA := hid hA.symm
  have HA2 := hid hA2.symm
  have HG1 := hid hg1
  have HGR := hid hgr1
  have H1 := hid h1
  have HX : Hid (∀ u ∈ xs.drop (i * 4), u.oneCell' = true) := hid (fun u hu => hx u (List.mem_of_mem_drop hu))
  have HR := hid hrz
  have HL := hid hdl
  rw [← hH] at HR ⊢
  have HH := hid hH
  clear hg1 hgr1 hA hA2 hrz hx h1 k h hold hROW hRt hW1 hG hA2s hA2t hkk hik htk hdl hxl hg hH
  generalize xs.drop (i * 4) = ds at *
  have hc63 : (n : Int) ≤ 1099511627776 := by omega
  have s0 : IntKind.i64.wrap ((i : Int) + 1) = (i : Int) + 1 := by rw [IntKind.wrap_i64]; omega
  have s00 : IntKind.i64.wrap ((n : Int) + 1) = (n : Int) + 1 := by rw [IntKind.wrap_i64]; omega
  have s01 : IntKind.i64.wrap ((n : Int) + 1 - (i : Int)) = (n : Int) + 1 - (i : Int) := by rw [IntKind.wrap_i64]; omega
  have s1 : (0 : Int) ≤ (i : Int) + 1 := by omega
  have s2 : (i : Int) + 1 ≤ (n : Int) + 1 := by omega
  have s3 : ((i : Int) + 1).toNat = i + 1 := by omega
  have s4 : ¬ G = i + 1 := by omega
  have s5 : ¬ G = i := by omega
  have s6 : ¬ n = i := by omega
  have s7 : ¬ ((i : Int) = (n : Int)) := by omega
  have s8 : (i : Int) ≤ (n : Int) := by omega
  have s9 : (n : Int) < (n : Int) + 1 := by omega
  have hin : i ≤ n := by omega
  have s10 : (i : Int) ≤ (n : Int) + 1 := by omega
  have hGi : (n : Int) + 1 ≤ (G : Int) := by omega
  go_enter Tryz.func96, Tryz.ntmps96
  go_wp2_with (first
    | (at_builtin; refine Lib.wpList_append_run _ rfl _ _ _ _ rfl _ _ rfl rfl _ _ HR.out ?_)
    | (refine wpList_copy_row rfl (.tmp 43) (.tmp 44) 102 60 rfl 66 Tryz.underlying102 4 1 sizeCh H (i * 4) _ _ ⟨p, 0, none⟩ 1 vc rfl rfl ROW 66 HG1.out [x0, x1, x2, x3] (by show min 1 _ = 1; omega) rfl (HK.out _ HGR.out) (by show i * 4 + 4 ≤ ROW.size; omega) H1.out A HA.out ?_; intro w1 HG2 HR2))
  refine wp_region_held_drew (S := fun _ => True) (by kernel_rfl) ?_ (fun hHeld => ?_)
  · exact trivial
  refine wpAnyH_take (i := 0) (v := ?_) rfl (by kernel_rfl) (by kernel_rfl) (by kernel_rfl) (fun _ _ _ h => h) (Or.inl ⟨by rfl, ?_⟩) hHeld ?_
  rotate_left
  · intro w hSw; (try dsimp only at hSw); go_simp; try (with_reducible rfl)
  try simp only [sq]
  refine wpAnyH_take (i := 1) (v := ?_) rfl (by kernel_rfl) (by kernel_rfl) (by kernel_rfl) (fun _ _ _ h => h) (Or.inl ⟨by rfl, ?_⟩) hHeld ?_
  rotate_left
  · intro w hSw; (try dsimp only at hSw); go_simp; try (with_reducible rfl)
  try simp only [sq]
  refine wpAnyH_take (i := 2) (v := ?_) rfl (by kernel_rfl) (by kernel_rfl) (by kernel_rfl) (fun _ _ _ h => h) (Or.inl ⟨by rfl, ?_⟩) hHeld ?_
  rotate_left
  · intro w hSw; (try dsimp only at hSw); go_simp; try (with_reducible rfl)
  try simp only [sq]
  refine wpAnyH_take (i := 3) (v := ?_) rfl (by kernel_rfl) (by kernel_rfl) (by kernel_rfl) (fun _ _ _ h => h) (Or.inl ⟨by rfl, ?_⟩) hHeld ?_
  rotate_left
  · intro w hSw; (try dsimp only at hSw); go_simp; try (with_reducible rfl)
  try simp only [sq]
  refine wpAnyH_take (i := 4) (v := ?_) rfl (by kernel_rfl) (by kernel_rfl) (by kernel_rfl) (fun _ _ _ h => h) (Or.inl ⟨by rfl, ?_⟩) hHeld ?_
  rotate_left
  · intro w hSw; (try dsimp only at hSw); go_simp; try (with_reducible rfl)
  try simp only [sq]
  refine wpAnyH_take (i := 5) (v := ?_) rfl (by kernel_rfl) (by kernel_rfl) (by kernel_rfl) (fun _ _ _ h => h) (Or.inl ⟨by rfl, ?_⟩) hHeld ?_
  rotate_left
  · intro w hSw; (try dsimp only at hSw); go_simp; try (with_reducible rfl)
  try simp only [sq]
  refine wpAnyH_take (i := 6) (v := ?_) rfl (by kernel_rfl) (by kernel_rfl) (by kernel_rfl) (fun _ _ _ h => h) (Or.inl ⟨by rfl, ?_⟩) hHeld ?_
  rotate_left
  · intro w hSw; (try dsimp only at hSw); go_simp; try (with_reducible rfl)
  try simp only [sq]
  refine wpAnyH_take (i := 7) (v := ?_) rfl (by kernel_rfl) (by kernel_rfl) (by kernel_rfl) (fun _ _ _ h => h) (Or.inl ⟨by rfl, ?_⟩) hHeld ?_
  rotate_left
  · intro w hSw; (try dsimp only at hSw); go_simp; try (with_reducible rfl)
  try simp only [sq]
  refine wpAnyH_ready (rs := [8]) (by kernel_rfl) (by simp) ?_
  refine AllReadyH.cons rfl (fun K hK => ?_) AllReadyH.nil
  have q := HT.out _ _ HGR.out HR2.out
  have HGR2 : Hid (w.grownBy w1.drew none) := hid ⟨q.os, q.tape, q.output, q.size, q.block⟩
  clear q
  refine step_copy_row rfl (.tmp 50) (.tmp 53) 102 102 rfl 66 Tryz.underlying102 4 (n - i) sizeCh H ((i + 1) * 4) _ _ ⟨g, i * 4, none⟩ _ _ rfl rfl A 66 HG2.out ds (by show min _ _ = n - i; omega) HL.out (HS.out _ HGR2.out) (by have := HL.out; omega) HX.out A2 HA2.out ?_
  intro w2 HG3 HR3
  refine hK.out _ _ ?_ (fun hHeld => ?_)
  · exact trivial
  clear hK K
  refine wpAnyH_done (by kernel_rfl) ?_ _
  go_wp2_with fail
  all_goals
    go_ret
    exact ⟨G, rfl, HF.out _ HG3.out, HT.out _ _ HGR2.out HR3.out, (by have := lt_of_block HG3.out; have := HH.out; omega)⟩
end Go.Proofs.YtnajddjalagmoaaGreatDoor
namespace Go.Proofs.YtnajddjalagmoaaGreatDoor
open Go.RowKit
set_option linter.unusedSimpArgs false
set_option linter.unusedVariables false
theorem layIn {cur xs : List Value} {i n : Nat} {x0 x1 x2 x3 : Value} (hx : xs.length = n * 4) (hi : i < n) (hR : cur.take (n * 4) = xs) (hl : (n + 1) * 4 ≤ cur.length) :
    ((cur.take ((i + 1) * 4) ++ xs.drop (i * 4) ++ cur.drop ((i + 1) * 4 + (xs.drop (i * 4)).length)).take (i * 4) ++ [x0, x1, x2, x3] ++ (cur.take ((i + 1) * 4) ++ xs.drop (i * 4) ++ cur.drop ((i + 1) * 4 + (xs.drop (i * 4)).length)).drop (i * 4 + 4)).take ((n + 1) * 4) = xs.take (i * 4) ++ [x0, x1, x2, x3] ++ xs.drop (i * 4) := by
  have e0 : cur.take (i * 4) = xs.take (i * 4) := by rw [← hR, List.take_take, Nat.min_eq_left (by omega)]
  have e1 : (cur.take ((i + 1) * 4)).length = i * 4 + 4 := by simp; omega
  have e2 : (cur.take ((i + 1) * 4) ++ xs.drop (i * 4) ++ cur.drop ((i + 1) * 4 + (xs.drop (i * 4)).length)).take (i * 4) = xs.take (i * 4) := by
    rw [List.append_assoc, List.take_append_of_le_length (by rw [e1]; omega), List.take_take, Nat.min_eq_left (by omega), e0]
  have e3 : (cur.take ((i + 1) * 4) ++ xs.drop (i * 4) ++ cur.drop ((i + 1) * 4 + (xs.drop (i * 4)).length)).drop (i * 4 + 4) = xs.drop (i * 4) ++ cur.drop ((i + 1) * 4 + (xs.drop (i * 4)).length) := by
    rw [List.append_assoc, ← e1, List.drop_left]
  rw [e2, e3, ← List.append_assoc]
  have e4 : (xs.take (i * 4) ++ [x0, x1, x2, x3] ++ xs.drop (i * 4)).length = (n + 1) * 4 := by simp; omega
  rw [← e4, List.take_left]
set_option maxRecDepth 100000 in
set_option maxHeartbeats 2000000 in
theorem insE_room (base g c n i p vc : Nat) (tp : TypeId) (x0 x1 x2 x3 : Value) (xs : List Value) (w : World) (hn : n ≤ 1099511627776) (hi : i < n) (hc : n + 1 ≤ c) (h : w.ownsRow base 66 4 (.slice (some ⟨g, 0, none⟩) n c) n xs) (hx : ∀ u ∈ xs, u.oneCell' = true) (hp : w.heap[p]? = some (.cells #[x0, x1, x2, x3] tp (0, 0))) (hpg : p ≠ g) (h1 : ∀ u ∈ [x0, x1, x2, x3], u.oneCell' = true) : Calls Tryz.prog 96 #[.slice (some ⟨g, 0, none⟩) n c, .int .i64 i, .slice (some ⟨p, 0, none⟩) 1 vc] w fun e w' => e = .returned (.slice (some ⟨g, 0, none⟩) (n + 1) c) ∧ w'.ownsRow base 66 4 (.slice (some ⟨g, 0, none⟩) (n + 1) c) (n + 1) (xs.take (i * 4) ++ [x0, x1, x2, x3] ++ xs.drop (i * 4)) ∧ w.grownBy w' (some g) := by
  obtain ⟨i0, hi0, hz0, hz1, hz2⟩ := info_parts Tryz.infoCh
  have hxl : xs.length = n * 4 := h.1
  obtain ⟨cur, hb, hg, hcm, hcs, htk⟩ : ∃ cur, base ≤ g ∧ w.heap[g]? = some (.cells cur 66 (0, 0)) ∧ c ≤ maxLen ∧ cur.size = c * 4 ∧ cur.toList.take (n * 4) = xs := by
    rcases h.2 with ⟨q, _⟩ | ⟨g', c', cur, e, q1, q2, q3, q4, q5, q6⟩
    · cases q
    · cases e; exact ⟨cur, q1, q2, q4, q5, q6⟩
  have hszo : ∀ w, (Go.sizeOf 66).run Tryz.prog w = .ok 4 w := fun w => by simp [sizeOf, typeInfo, hi0, hz1]
  have hov : ∀ lb cb, (callFunc 125 #[.slice (some ⟨p, 0, none⟩) 1 vc, .slice (some ⟨g, (i + 1) * 4, none⟩) lb cb]).run Tryz.prog w = .ok (.value (.bool false)) w := fun lb cb => by
    rw [run_callFunc_extern Tryz.func125 (by kernel_rfl) (by kernel_rfl) (by kernel_rfl) (e := Extern.SlicesOverlaps.overlaps #[60, 60] #[4]) (by kernel_rfl),
      Lib.run_overlaps_apart w 60 4 66 Tryz.underlying60 4 hszo ⟨p, 0, none⟩ ⟨g, (i + 1) * 4, none⟩ 1 vc lb cb hpg tp 66 4 (c * 4) (by simp [World.shape?, hp]) (by simp [World.shape?, hg, hcs]) (by omega) (by simp [World.frozen?, hp]) (by simp [World.frozen?, hp])]
    rfl
  obtain ⟨A, hA⟩ : ∃ A, A = (cur.toList.take ((i + 1) * 4) ++ xs.drop (i * 4) ++ cur.toList.drop ((i + 1) * 4 + (xs.drop (i * 4)).length)).toArray := ⟨_, rfl⟩
  have hAs : A.size = c * 4 := by rw [hA]; simp; omega
  obtain ⟨A2, hA2⟩ : ∃ A2, A2 = (A.toList.take (i * 4) ++ [x0, x1, x2, x3] ++ A.toList.drop (i * 4 + 4)).toArray := ⟨_, rfl⟩
  have hA2s : A2.size = c * 4 := by rw [hA2]; simp; omega
  have hA2t : A2.toList.take ((n + 1) * 4) = xs.take (i * 4) ++ [x0, x1, x2, x3] ++ xs.drop (i * 4) := by
    rw [hA2, hA]; exact layIn hxl hi htk (by simp; omega)
  have HF : Hid (∀ w' : World, w'.heap[g]? = some (.cells A2 66 (0, 0)) → w'.ownsRow base 66 4 (.slice (some ⟨g, 0, none⟩) (n + 1) c) (n + 1) (xs.take (i * 4) ++ [x0, x1, x2, x3] ++ xs.drop (i * 4))) := hid (fun w' hw => ⟨by simp; omega, .inr ⟨g, c, A2, rfl, hb, hw, hc, hcm, hA2s, hA2t⟩⟩)
  have HK : Hid (∀ W : World, W.heap[p]? = w.heap[p]? → ∀ j u, [x0, x1, x2, x3][j]? = some u → W.cell? ((⟨p, 0, none⟩ : Addr).add j) = some u) := hid (fun W hW j u hj => cells_in (k := 0) (hW.trans hp) j u (by simpa using hj))
  have HS : Hid (∀ W : World, W.heap[g]? = w.heap[g]? → ∀ j v, (xs.drop (i * 4))[j]? = some v → W.cell? ((⟨g, i * 4, none⟩ : Addr).add j) = some v) := hid (fun W hW j v hj => cells_in (hW.trans hg) j v (by
    rw [List.getElem?_drop] at hj ⊢
    rw [← htk, List.getElem?_take] at hj
    split at hj
    · exact hj
    · cases hj))
  have hpw : p < w.heap.size := lt_of_block hp
  have hdl : (xs.drop (i * 4)).length = (n - i) * 4 := by simp; omega
  have HA := hid hA.symm
  have HA2 := hid hA2.symm
  have HG := hid hg
  have H1 := hid h1
  have HX : Hid (∀ u ∈ xs.drop (i * 4), u.oneCell' = true) := hid (fun u hu => hx u (List.mem_of_mem_drop hu))
  have HL := hid hdl
  clear hA hA2 hx h1 h hA2s hA2t htk hdl hxl hg hp hszo
  generalize xs.drop (i * 4) = ds at *
  have hc63 : (c : Int) ≤ 9223372036854775807 := by unfold maxLen at hcm; omega
  have hn63 : (n : Int) ≤ 1099511627776 := by omega
  have s0 : IntKind.i64.wrap ((i : Int) + 1) = (i : Int) + 1 := by rw [IntKind.wrap_i64]; omega
  have s00 : IntKind.i64.wrap ((n : Int) + 1) = (n : Int) + 1 := by rw [IntKind.wrap_i64]; omega
  have s1 : (0 : Int) ≤ (i : Int) + 1 := by omega
  have s2 : (i : Int) + 1 ≤ (n : Int) + 1 := by omega
  have s3 : ((i : Int) + 1).toNat = i + 1 := by omega
  have s33 : ((n : Int) + 1).toNat = n + 1 := by omega
  have s4 : ¬ c = i + 1 := by omega
  have s5 : ¬ c = i := by omega
  have s7 : ¬ ((i : Int) = (n : Int)) := by omega
  have s8 : (i : Int) ≤ (n : Int) := by omega
  have s9 : ¬ ((c : Int) < (n : Int) + 1) := by omega
  have s11 : (n : Int) + 1 ≤ (c : Int) := by omega
  have s12 : (0 : Int) ≤ (n : Int) + 1 := by omega
  have hin : i ≤ n := by omega
  have s10 : (i : Int) ≤ (n : Int) + 1 := by omega
  have s13 : n ≤ c := by omega
  go_enter Tryz.func96, Tryz.ntmps96
  go_wp2_with (simp only [hov])
  refine wp_region_held_drew (S := fun _ => True) (by kernel_rfl) ?_ (fun hHeld => ?_)
  · exact trivial
  refine wpAnyH_take (i := 0) (v := ?_) rfl (by kernel_rfl) (by kernel_rfl) (by kernel_rfl) (fun _ _ _ h => h) (Or.inl ⟨by rfl, ?_⟩) hHeld ?_
  rotate_left
  · intro w hSw; (try dsimp only at hSw); go_simp; try (with_reducible rfl)
  try simp only [sq]
  refine wpAnyH_take (i := 1) (v := ?_) rfl (by kernel_rfl) (by kernel_rfl) (by kernel_rfl) (fun _ _ _ h => h) (Or.inl ⟨by rfl, ?_⟩) hHeld ?_
  rotate_left
  · intro w hSw; (try dsimp only at hSw); go_simp; try (with_reducible rfl)
  try simp only [sq]
  refine wpAnyH_take (i := 2) (v := ?_) rfl (by kernel_rfl) (by kernel_rfl) (by kernel_rfl) (fun _ _ _ h => h) (Or.inl ⟨by rfl, ?_⟩) hHeld ?_
  rotate_left
  · intro w hSw; (try dsimp only at hSw); go_simp; try (with_reducible rfl)
  try simp only [sq]
  refine wpAnyH_take (i := 3) (v := ?_) rfl (by kernel_rfl) (by kernel_rfl) (by kernel_rfl) (fun _ _ _ h => h) (Or.inl ⟨by rfl, ?_⟩) hHeld ?_
  rotate_left
  · intro w hSw; (try dsimp only at hSw); go_simp; try (with_reducible rfl)
  try simp only [sq]
  refine wpAnyH_take (i := 4) (v := ?_) rfl (by kernel_rfl) (by kernel_rfl) (by kernel_rfl) (fun _ _ _ h => h) (Or.inl ⟨by rfl, ?_⟩) hHeld ?_
  rotate_left
  · intro w hSw; (try dsimp only at hSw); go_simp; try (with_reducible rfl)
  try simp only [sq]
  refine wpAnyH_take (i := 5) (v := ?_) rfl (by kernel_rfl) (by kernel_rfl) (by kernel_rfl) (fun _ _ _ h => h) (Or.inl ⟨by rfl, ?_⟩) hHeld ?_
  rotate_left
  · intro w hSw; (try dsimp only at hSw); go_simp; try (with_reducible rfl)
  try simp only [sq]
  refine wpAnyH_take (i := 6) (v := ?_) rfl (by kernel_rfl) (by kernel_rfl) (by kernel_rfl) (fun _ _ _ h => h) (Or.inl ⟨by rfl, ?_⟩) hHeld ?_
  rotate_left
  · intro w hSw; (try dsimp only at hSw); go_simp; try (with_reducible rfl)
  try simp only [sq]
  refine wpAnyH_take (i := 7) (v := ?_) rfl (by kernel_rfl) (by kernel_rfl) (by kernel_rfl) (fun _ _ _ h => h) (Or.inl ⟨by rfl, ?_⟩) hHeld ?_
  rotate_left
  · intro w hSw; (try dsimp only at hSw); go_simp; try (with_reducible rfl)
  try simp only [sq]
  refine wpAnyH_ready (rs := [8]) (by kernel_rfl) (by simp) ?_
  refine AllReadyH.cons rfl (fun K hK => ?_) AllReadyH.nil
  refine step_copy_row rfl (.tmp 73) (.tmp 76) 102 102 rfl 66 Tryz.underlying102 4 (n - i) sizeCh g ((i + 1) * 4) _ _ ⟨g, i * 4, none⟩ _ _ rfl rfl cur 66 HG.out ds (by show min _ _ = n - i; omega) HL.out (HS.out _ rfl) (by have := HL.out; omega) HX.out A HA.out ?_
  intro w2 HG3 HR3
  refine hK.out _ _ ?_ (fun hHeld => ?_)
  · exact trivial
  clear hK K
  refine wpAnyH_done (by kernel_rfl) ?_ _
  have HP := hid (HR3.out.block p hpw (by simp; omega))
  go_wp2_with (refine wpList_copy_row rfl (.tmp 80) (.tmp 81) 102 60 rfl 66 Tryz.underlying102 4 1 sizeCh g (i * 4) _ _ ⟨p, 0, none⟩ 1 vc rfl rfl A 66 HG3.out [x0, x1, x2, x3] (by show min 1 _ = 1; omega) rfl (HK.out _ HP.out) (by show i * 4 + 4 ≤ A.size; omega) H1.out A2 HA2.out ?_; intro w4 HG4 HR4)
  all_goals
    go_ret
    exact ⟨rfl, HF.out _ HG4.out, grown_trans (grown_trans (show w.grownBy w.drew (some g) from ⟨rfl, rfl, rfl, Nat.le_refl _, fun _ _ _ => rfl⟩) HR3.out) HR4.out⟩
end Go.Proofs.YtnajddjalagmoaaGreatDoor
namespace Go.Proofs.YtnajddjalagmoaaGreatDoor
open Go.RowKit
set_option linter.unusedSimpArgs false
set_option linter.unusedVariables false
theorem insE (base g c n i p vc : Nat) (tp : TypeId) (x0 x1 x2 x3 : Value) (xs : List Value) (w : World) (hn : n ≤ 1099511627776) (hi : i ≤ n) (h : w.ownsRow base 66 4 (.slice (some ⟨g, 0, none⟩) n c) n xs) (hb : base ≤ w.heap.size) (hx : ∀ u ∈ xs, u.oneCell' = true) (hp : w.heap[p]? = some (.cells #[x0, x1, x2, x3] tp (0, 0))) (hpg : p ≠ g) (h1 : ∀ u ∈ [x0, x1, x2, x3], u.oneCell' = true) : Calls Tryz.prog 96 #[.slice (some ⟨g, 0, none⟩) n c, .int .i64 i, .slice (some ⟨p, 0, none⟩) 1 vc] w fun e w' => ∃ g' c', e = .returned (.slice (some ⟨g', 0, none⟩) (n + 1) c') ∧ w'.ownsRow base 66 4 (.slice (some ⟨g', 0, none⟩) (n + 1) c') (n + 1) (xs.take (i * 4) ++ [x0, x1, x2, x3] ++ xs.drop (i * 4)) ∧ w.grownBy w' (some g) ∧ (g = g' ∨ g' = w.heap.size) ∧ g' < w'.heap.size := by
  have hxl : xs.length = n * 4 := h.1
  have k : ∀ j u, [x0, x1, x2, x3][j]? = some u → w.cell? ((⟨p, 0, none⟩ : Addr).add j) = some u := fun j u hj => cells_in (k := 0) hp j u (by simpa using hj)
  have hnc : n ≤ c ∧ g < w.heap.size := by
    rcases h.2 with ⟨q, _⟩ | ⟨_, _, _, e, _, hg, h3, h4, _⟩
    · cases q
    · cases e; exact ⟨h3, lt_of_block hg⟩
  rcases Nat.lt_or_ge i n with hin | hin
  · rcases Nat.lt_or_ge n c with hc | hc
    · refine (insE_room base g c n i p vc tp x0 x1 x2 x3 xs w hn hin hc h hx hp hpg h1).mono ?_
      rintro e w' ⟨rfl, q1, q2⟩
      exact ⟨g, c, rfl, q1, q2, .inl rfl, by have := q2.size; omega⟩
    · obtain rfl : c = n := by omega
      refine (insE_grow base g c i p vc x0 x1 x2 x3 xs w hn hin h hb hx k h1).mono ?_
      rintro e w' ⟨c', rfl, q1, q2, q3⟩
      exact ⟨_, c', rfl, q1, ⟨q2.os, q2.tape, q2.output, q2.size, fun b hb _ => q2.block b hb (by simp)⟩, .inr rfl, q3⟩
  · obtain rfl : i = n := by omega
    refine (insE_end base g c i p vc x0 x1 x2 x3 xs w hn h hb k h1).mono ?_
    rintro e w' ⟨g', c', rfl, q1, q2, q3, q4⟩
    refine ⟨g', c', rfl, ?_, q2, q3, q4⟩
    rw [List.take_of_length_le (by omega), List.drop_of_length_le (by omega), List.append_nil]
    exact q1
end Go.Proofs.YtnajddjalagmoaaGreatDoor
namespace Go.Proofs.YtnajddjalagmoaaGreatDoor
open Go.RowKit
set_option linter.unusedSimpArgs false
set_option linter.unusedVariables false
set_option maxRecDepth 100000 in
set_option maxHeartbeats 4000000 in
theorem set_new (base R g c n i : Nat) (id kd : Int) (gn : Bool) (sa : Option Addr) (sn sc : Nat) (y1 y2 y3 y4 : Value) (xs : List Value) (w : World) (hn : n ≤ 1099511627776) (hi : i ≤ n) (gR : w.heap[R]? = some (.cells #[.slice (some ⟨g, 0, none⟩) n c, y1, y2, y3, y4] 104 (0, 0))) (hRg : R ≠ g) (h : w.ownsRow base 66 4 (.slice (some ⟨g, 0, none⟩) n c) n xs) (hgw : g < w.heap.size) (hb : base ≤ w.heap.size) (hx : ∀ u ∈ xs, u.oneCell' = true) (hpl : ∀ W, Below w.heap.size w W → Calls Tryz.prog 95 #[.slice (some ⟨g, 0, none⟩) n c, .int .i64 id] W fun e w' => e = .returned (.tuple #[.int .i64 i, .bool false]) ∧ Below W.heap.size W w') : Calls Tryz.prog 63 #[.pointer (some ⟨R, 0, none⟩), .agg #[.int .i64 id, .bool gn, .int .i64 kd, .slice sa sn sc]] w fun e w' => e = .returned (.tuple #[]) ∧ ∃ g' c', w'.heap[R]? = some (.cells #[.slice (some ⟨g', 0, none⟩) (n + 1) c', y1, y2, y3, y4] 104 (0, 0)) ∧ w'.ownsRow base 66 4 (.slice (some ⟨g', 0, none⟩) (n + 1) c') (n + 1) (xs.take (i * 4) ++ [.int .i64 id, .bool gn, .int .i64 kd, .slice sa sn sc] ++ xs.drop (i * 4)) ∧ (g' = g ∨ w.heap.size ≤ g') ∧ g' ≠ R ∧ w.heap.size ≤ w'.heap.size ∧ (∀ b, b < w.heap.size → b ≠ R → b ≠ g → w'.heap[b]? = w.heap[b]?) ∧ (w'.os = w.os ∧ w'.tape = w.tape ∧ w'.output = w.output) := by
  have gB := new_alloc w w.heap.size (.cells #[.int .i64 id, .bool gn, .int .i64 kd, .slice sa sn sc] 66) rfl
  have hB : Below w.heap.size w (w.alloc (.cells #[.int .i64 id, .bool gn, .int .i64 kd, .slice sa sn sc] 66)) := balloc (Below.refl _ _) _
  have hRw := lt_of_block gR
  replace gR := keepheapA hB gR
  have HO := hid (own_frame (w' := w.alloc (.cells #[.int .i64 id, .bool gn, .int .i64 kd, .slice sa sn sc] 66)) h (fun k e => hB.block k (by simp [Value.ownBlock] at e; omega)))
  have HX := hid hx
  have HP := hid hpl
  have H1 : Hid (∀ u : Value, u ∈ ([.int .i64 id, .bool gn, .int .i64 kd, .slice sa sn sc] : List Value) → u.oneCell' = true) := hid (by intro u hu; simp at hu; rcases hu with rfl | rfl | rfl | rfl <;> rfl)
  have HF : Hid (∀ (Y : World) (g' c' : Nat), ((Y.os = w.os ∧ Y.tape = w.tape ∧ Y.output = w.output) ∧ w.heap.size ≤ Y.heap.size ∧ (∀ b, b < w.heap.size → b ≠ g → Y.heap[b]? = w.heap[b]?)) → Y.heap[R]? = some (.cells #[.slice (some ⟨g, 0, none⟩) n c, y1, y2, y3, y4] 104 (0, 0)) → Y.ownsRow base 66 4 (.slice (some ⟨g', 0, none⟩) (n + 1) c') (n + 1) (xs.take (i * 4) ++ [.int .i64 id, .bool gn, .int .i64 kd, .slice sa sn sc] ++ xs.drop (i * 4)) → (g' = g ∨ w.heap.size ≤ g') → g' ≠ R → Ending.returned (.tuple #[]) = .returned (.tuple #[]) ∧ ∃ g2 c2, (Y.setCell ⟨R, 0, none⟩ (.slice (some ⟨g', 0, none⟩) (n + 1) c')).heap[R]? = some (.cells #[.slice (some ⟨g2, 0, none⟩) (n + 1) c2, y1, y2, y3, y4] 104 (0, 0)) ∧ (Y.setCell ⟨R, 0, none⟩ (.slice (some ⟨g', 0, none⟩) (n + 1) c')).ownsRow base 66 4 (.slice (some ⟨g2, 0, none⟩) (n + 1) c2) (n + 1) (xs.take (i * 4) ++ [.int .i64 id, .bool gn, .int .i64 kd, .slice sa sn sc] ++ xs.drop (i * 4)) ∧ (g2 = g ∨ w.heap.size ≤ g2) ∧ g2 ≠ R ∧ w.heap.size ≤ (Y.setCell ⟨R, 0, none⟩ (.slice (some ⟨g', 0, none⟩) (n + 1) c')).heap.size ∧ (∀ b, b < w.heap.size → b ≠ R → b ≠ g → (Y.setCell ⟨R, 0, none⟩ (.slice (some ⟨g', 0, none⟩) (n + 1) c')).heap[b]? = w.heap[b]?) ∧ ((Y.setCell ⟨R, 0, none⟩ (.slice (some ⟨g', 0, none⟩) (n + 1) c')).os = w.os ∧ (Y.setCell ⟨R, 0, none⟩ (.slice (some ⟨g', 0, none⟩) (n + 1) c')).tape = w.tape ∧ (Y.setCell ⟨R, 0, none⟩ (.slice (some ⟨g', 0, none⟩) (n + 1) c')).output = w.output)) := hid (fun Y g' c' hB gR hO q1 q2 => ⟨rfl, g', c', set_at (k := 0) gR, own_frame hO (fun k e => Below.heap_setCell _ _ _ _ (by simp [Value.ownBlock] at e; dsimp only; omega)), q1, q2, by simpa using hB.2.1, fun b hb h1 h2 => (Below.heap_setCell _ _ _ _ (by dsimp only; omega)).trans (hB.2.2 b hb h2), hB.1⟩)
  have hWz : (w.alloc (.cells #[.int .i64 id, .bool gn, .int .i64 kd, .slice sa sn sc] 66)).heap.size = w.heap.size + 1 := by simp
  obtain ⟨B, hBe⟩ : ∃ B, B = w.heap.size := ⟨_, rfl⟩
  rw [← hBe] at gB
  clear h hx hpl
  go_enter Tryz.func63, Tryz.ntmps63
  go_upto_region 1 with fail
  rw [← hBe]
  generalize w.alloc (.cells #[.int .i64 id, .bool gn, .int .i64 kd, .slice sa sn sc] 66) = W at *
  have HBE := hid hBe
  clear hBe
  have HS0 : Hid (w.heap.size = B) := hid HBE.out.symm
  refine wp_region_held_drew (S := fun w' => w'.heap[R]? = some (.cells #[.slice (some ⟨g, 0, none⟩) n c, y1, y2, y3, y4] 104 (0, 0)) ∧ w'.heap[B]? = some (.cells #[.int .i64 id, .bool gn, .int .i64 kd, .slice sa sn sc] 66 (0, 0))) (by kernel_rfl) ?_ (fun hHeld => ?_)
  · exact ⟨gR, gB⟩
  refine wpAnyH_take (i := 0) (v := ?_) rfl (by kernel_rfl) (by kernel_rfl) (by kernel_rfl) (fun _ _ _ h => h) (Or.inl ⟨by rfl, ?_⟩) hHeld ?_
  rotate_left
  · intro w' hSw; (try dsimp only at hSw); obtain ⟨hs1, hs2⟩ := hSw; obtain ⟨⟨_, _, _, _, _⟩, _⟩ := cell5g hs1; obtain ⟨⟨_, _, _, _⟩, _⟩ := cellk4 hs2; go_simp; try (with_reducible rfl)
  try simp only [sq]
  refine wpAnyH_take (i := 1) (v := ?_) rfl (by kernel_rfl) (by kernel_rfl) (by kernel_rfl) (fun _ _ _ h => h) (Or.inl ⟨by rfl, ?_⟩) hHeld ?_
  rotate_left
  · intro w' hSw; (try dsimp only at hSw); obtain ⟨hs1, hs2⟩ := hSw; obtain ⟨⟨_, _, _, _, _⟩, _⟩ := cell5g hs1; obtain ⟨⟨_, _, _, _⟩, _⟩ := cellk4 hs2; go_simp; try (with_reducible rfl)
  try simp only [sq]
  refine wpAnyH_take (i := 2) (v := ?_) rfl (by kernel_rfl) (by kernel_rfl) (by kernel_rfl) (fun _ _ _ h => h) (Or.inl ⟨by rfl, ?_⟩) hHeld ?_
  rotate_left
  · intro w' hSw; (try dsimp only at hSw); obtain ⟨hs1, hs2⟩ := hSw; obtain ⟨⟨_, _, _, _, _⟩, _⟩ := cell5g hs1; obtain ⟨⟨_, _, _, _⟩, _⟩ := cellk4 hs2; go_simp; try (with_reducible rfl)
  try simp only [sq]
  refine wpAnyH_take (i := 3) (v := ?_) rfl (by kernel_rfl) (by kernel_rfl) (by kernel_rfl) (fun _ _ _ h => h) (Or.inl ⟨by rfl, ?_⟩) hHeld ?_
  rotate_left
  · intro w' hSw; (try dsimp only at hSw); obtain ⟨hs1, hs2⟩ := hSw; obtain ⟨⟨_, _, _, _, _⟩, _⟩ := cell5g hs1; obtain ⟨⟨_, _, _, _⟩, _⟩ := cellk4 hs2; go_simp; try (with_reducible rfl)
  try simp only [sq]
  refine wpAnyH_take (i := 4) (v := ?_) rfl (by kernel_rfl) (by kernel_rfl) (by kernel_rfl) (fun _ _ _ h => h) (Or.inl ⟨by rfl, ?_⟩) hHeld ?_
  rotate_left
  · intro w' hSw; (try dsimp only at hSw); obtain ⟨hs1, hs2⟩ := hSw; obtain ⟨⟨_, _, _, _, _⟩, _⟩ := cell5g hs1; obtain ⟨⟨_, _, _, _⟩, _⟩ := cellk4 hs2; go_simp; try (with_reducible rfl)
  try simp only [sq]
  refine wpAnyH_ready (rs := [5]) (by kernel_rfl) (by simp) ?_
  refine AllReadyH.cons rfl (fun K hK => ?_) AllReadyH.nil
  try simp only [sq]
  go_simp
  go_at_call 95
  refine (HP.out _ (bdrew hB)).mono ?_
  rintro e z ⟨rfl, hz⟩
  replace gR := keepheapA hz (show W.drew.heap[R]? = _ from gR)
  replace gB := keepheapA hz (show W.drew.heap[B]? = _ from gB)
  replace HO := hid (own_frame (w' := z) HO.out (fun k e => (hz.block k (by simp [Value.ownBlock] at e; show k < W.heap.size; omega)).trans rfl))
  replace hB := btrans (bdrew hB) hz
  have hzs : W.heap.size ≤ z.heap.size := hz.size
  clear hz HP
  go_wp2_with fail
  refine hK.out _ _ ?_ (fun hHeld => ?_)
  · exact ⟨gR, gB⟩
  clear hK K
  try simp only [sq]
  refine wpAnyH_take (i := 6) (v := ?_) rfl (by kernel_rfl) (by kernel_rfl) (by kernel_rfl) (fun _ _ _ h => h) (Or.inl ⟨by rfl, ?_⟩) hHeld ?_
  rotate_left
  · intro w' hSw; (try dsimp only at hSw); go_simp; try (with_reducible rfl)
  try simp only [sq]
  refine wpAnyH_take (i := 7) (v := ?_) rfl (by kernel_rfl) (by kernel_rfl) (by kernel_rfl) (fun _ _ _ h => h) (Or.inl ⟨by rfl, ?_⟩) hHeld ?_
  rotate_left
  · intro w' hSw; (try dsimp only at hSw); go_simp; try (with_reducible rfl)
  try simp only [sq]
  refine wpAnyH_take (i := 8) (v := ?_) rfl (by kernel_rfl) (by kernel_rfl) (by kernel_rfl) (fun _ _ _ h => h) (Or.inl ⟨by rfl, ?_⟩) hHeld ?_
  rotate_left
  · intro w' hSw; (try dsimp only at hSw); go_simp; try (with_reducible rfl)
  try simp only [sq]
  refine wpAnyH_take (i := 9) (v := ?_) rfl (by kernel_rfl) (by kernel_rfl) (by kernel_rfl) (fun _ _ _ h => h) (Or.inl ⟨by rfl, ?_⟩) hHeld ?_
  rotate_left
  · intro w' hSw; (try dsimp only at hSw); go_simp; try (with_reducible rfl)
  try simp only [sq]
  refine wpAnyH_take (i := 10) (v := ?_) rfl (by kernel_rfl) (by kernel_rfl) (by kernel_rfl) (fun _ _ _ h => h) (Or.inl ⟨by rfl, ?_⟩) hHeld ?_
  rotate_left
  · intro w' hSw; (try dsimp only at hSw); go_simp; try (with_reducible rfl)
  try simp only [sq]
  refine wpAnyH_done (by kernel_rfl) ?_ _
  go_upto_region 4 with fail
  refine wp_region_held_drew (S := fun w' => w'.heap[B]? = some (.cells #[.int .i64 id, .bool gn, .int .i64 kd, .slice sa sn sc] 66 (0, 0))) (by kernel_rfl) gB (fun hHeld => ?_)
  replace gR : z.drew.heap[R]? = _ := gR
  replace gB : z.drew.heap[B]? = _ := gB
  replace HO := hid (own_frame (w' := z.drew) HO.out (fun k e => rfl))
  replace hB := bdrew hB
  have hzd : z.heap.size ≤ z.drew.heap.size := Nat.le_refl _
  generalize z.drew = Z0 at *
  refine wpAnyH_take (i := 0) (v := ?_) rfl (by kernel_rfl) (by kernel_rfl) (by kernel_rfl) (fun _ _ _ h => h) (Or.inl ⟨by rfl, ?_⟩) hHeld ?_
  rotate_left
  · intro w' hSw; (try dsimp only at hSw); go_simp; try (with_reducible rfl)
  try simp only [sq]
  refine wpAnyH_take (i := 1) (v := ?_) rfl (by kernel_rfl) (by kernel_rfl) (by kernel_rfl) (fun _ _ _ h => h) (Or.inl ⟨by rfl, ?_⟩) hHeld ?_
  rotate_left
  · intro w' hSw; (try dsimp only at hSw); go_simp; try (with_reducible rfl)
  try simp only [sq]
  refine wpAnyH_take (i := 2) (v := ?_) rfl (by kernel_rfl) (by kernel_rfl) (by kernel_rfl) (fun _ _ _ h => h) (Or.inl ⟨by rfl, ?_⟩) hHeld ?_
  rotate_left
  · intro w' hSw; (try dsimp only at hSw); go_simp; try (with_reducible rfl)
  try simp only [sq]
  refine wpAnyH_take (i := 4) (v := ?_) rfl (by kernel_rfl) (by kernel_rfl) (by kernel_rfl) (fun _ _ _ h => h) (Or.inl ⟨by rfl, ?_⟩) hHeld ?_
  rotate_left
  · intro w' hSw; (try dsimp only at hSw); go_simp; try (with_reducible rfl)
  try simp only [sq]
  refine wpAnyH_take (i := 5) (v := ?_) rfl (by kernel_rfl) (by kernel_rfl) (by kernel_rfl) (fun _ _ _ h => h) (Or.inl ⟨by rfl, ?_⟩) hHeld ?_
  rotate_left
  · intro w' hSw; (try dsimp only at hSw); obtain ⟨⟨_, _, _, _⟩, _⟩ := cellk4 hSw; go_simp; try (with_reducible rfl)
  try simp only [sq]
  have hal : Below Z0.heap.size Z0 (Z0.alloc (.cells #[.int .i64 id, .bool gn, .int .i64 kd, .slice sa sn sc] 66)) := balloc (Below.refl _ _) _
  have gQ := new_alloc Z0 Z0.heap.size (.cells #[.int .i64 id, .bool gn, .int .i64 kd, .slice sa sn sc] 66) rfl
  have gRZ := keepheapA hal gR
  have gBZ := keepheapA hal gB
  have HOZ := hid (own_frame (w' := Z0.alloc (.cells #[.int .i64 id, .bool gn, .int .i64 kd, .slice sa sn sc] 66)) HO.out (fun k e => hal.block k (by simp [Value.ownBlock] at e; have := hB.size; omega)))
  have hBZ := btrans hB hal
  have hQg : Z0.heap.size ≠ g := by have := hB.size; omega
  have hQR : w.heap.size ≤ Z0.heap.size := hB.size
  have hZz : Z0.heap.size < (Z0.alloc (.cells #[.int .i64 id, .bool gn, .int .i64 kd, .slice sa sn sc] 66)).heap.size := by simp
  have hbZ : base ≤ (Z0.alloc (.cells #[.int .i64 id, .bool gn, .int .i64 kd, .slice sa sn sc] 66)).heap.size := by omega
  have hBg : B ≠ g := by have := HBE.out; omega
  have hBR : B ≠ R := by have := HBE.out; omega
  clear HO hal
  refine wpAnyH_ready (rs := [3, 6]) (by kernel_rfl) (by simp) ?_
  refine AllReadyH.cons rfl (fun K hK => ?_) (AllReadyH.cons rfl (fun K hK => ?_) AllReadyH.nil)
  · try simp only [sq]
    obtain ⟨⟨v0, v1, v2, v3, v4⟩, _⟩ := cell5g gR
    go_simp
    refine hK.out _ _ gB (fun hHeld => ?_)
    clear hK K v0 v1 v2 v3 v4 gR gB
    try simp only [sq]
    refine wpAnyH_ready (rs := [6]) (by kernel_rfl) (by simp) ?_
    refine AllReadyH.cons rfl (fun K hK => ?_) AllReadyH.nil
    try simp only [sq]
    go_simp
    refine hK.out _ _ gBZ (fun hHeld => ?_)
    clear hK K
    try simp only [sq]
    generalize Z0.alloc (.cells #[.int .i64 id, .bool gn, .int .i64 kd, .slice sa sn sc] 66) = Z at *
    generalize Z0.heap.size = Q at *
    refine wpAnyH_ready (rs := [7]) (by kernel_rfl) (by simp) ?_
    refine AllReadyH.cons rfl (fun K hK => ?_) AllReadyH.nil
    try simp only [sq]
    go_simp
    go_at_call 96
    refine (insE base g c n i Q 1 66 _ _ _ _ xs Z hn hi HOZ.out hbZ HX.out gQ hQg H1.out).mono ?_
    rintro e Y ⟨g', c', rfl, o1, o2, o3, o4⟩
    have HO2 := hid o1
    have gR2 := (o2.block R (by omega) (by simp; omega)).trans gRZ
    have gB2 := (o2.block B (lt_of_block gBZ) (by simp; omega)).trans gBZ
    have hg' : g' = g ∨ w.heap.size ≤ g' := by rcases o3 with q | q <;> omega
    have hg'R : g' ≠ R := by rcases o3 with q | q <;> omega
    have HB2 : Hid ((Y.os = w.os ∧ Y.tape = w.tape ∧ Y.output = w.output) ∧ w.heap.size ≤ Y.heap.size ∧ (∀ b, b < w.heap.size → b ≠ g → Y.heap[b]? = w.heap[b]?)) := hid ⟨⟨o2.os.trans hBZ.os, o2.tape.trans hBZ.tape, o2.output.trans hBZ.output⟩, by have := o2.size; have := hBZ.size; omega, fun b hb hne => (o2.block b (by have := hBZ.size; omega) (by simp; omega)).trans (hBZ.block b hb)⟩
    clear o1 o2 o3 HOZ gRZ gBZ gQ hBZ
    go_wp2_with fail
    refine hK.out _ _ ?_ (fun hHeld => ?_)
    · exact gB2
    clear hK K
    try simp only [sq]
    refine wpAnyH_take (i := 8) (v := ?_) rfl (by kernel_rfl) (by kernel_rfl) (by kernel_rfl) (fun _ _ _ h => h) (Or.inl ⟨by rfl, ?_⟩) hHeld ?_
    rotate_left
    · intro w' hSw; (try dsimp only at hSw); go_simp; try (with_reducible rfl)
    try simp only [sq]
    obtain ⟨⟨v0, v1, v2, v3, v4⟩, p0, p1, p2, p3, p4⟩ := cell5g gR2
    refine wpAnyH_ready (rs := [9]) (by kernel_rfl) (by simp) ?_
    refine AllReadyH.cons rfl (fun K hK => ?_) AllReadyH.nil
    try simp only [sq]
    go_simp
    refine hK.out _ _ ?_ (fun hHeld => ?_)
    · exact (Below.heap_setCell _ _ _ _ (by dsimp only; omega)).trans gB2
    clear hK K
    refine wpAnyH_done (by kernel_rfl) ?_ _
    go_wp2_with fail
    go_end0
    exact ⟨rfl, (HF.out Y g' c' HB2.out gR2 HO2.out hg' hg'R).2⟩
  · try simp only [sq]
    go_simp
    refine hK.out _ _ gBZ (fun hHeld => ?_)
    clear hK K gR gB
    try simp only [sq]
    generalize Z0.alloc (.cells #[.int .i64 id, .bool gn, .int .i64 kd, .slice sa sn sc] 66) = Z at *
    generalize Z0.heap.size = Q at *
    obtain ⟨⟨v0, v1, v2, v3, v4⟩, _⟩ := cell5g gRZ
    refine wpAnyH_ready (rs := [3]) (by kernel_rfl) (by simp) ?_
    refine AllReadyH.cons rfl (fun K hK => ?_) AllReadyH.nil
    try simp only [sq]
    go_simp
    refine hK.out _ _ gBZ (fun hHeld => ?_)
    clear hK K v0 v1 v2 v3 v4
    try simp only [sq]
    refine wpAnyH_ready (rs := [7]) (by kernel_rfl) (by simp) ?_
    refine AllReadyH.cons rfl (fun K hK => ?_) AllReadyH.nil
    try simp only [sq]
    go_simp
    go_at_call 96
    refine (insE base g c n i Q 1 66 _ _ _ _ xs Z hn hi HOZ.out hbZ HX.out gQ hQg H1.out).mono ?_
    rintro e Y ⟨g', c', rfl, o1, o2, o3, o4⟩
    have HO2 := hid o1
    have gR2 := (o2.block R (by omega) (by simp; omega)).trans gRZ
    have gB2 := (o2.block B (lt_of_block gBZ) (by simp; omega)).trans gBZ
    have hg' : g' = g ∨ w.heap.size ≤ g' := by rcases o3 with q | q <;> omega
    have hg'R : g' ≠ R := by rcases o3 with q | q <;> omega
    have HB2 : Hid ((Y.os = w.os ∧ Y.tape = w.tape ∧ Y.output = w.output) ∧ w.heap.size ≤ Y.heap.size ∧ (∀ b, b < w.heap.size → b ≠ g → Y.heap[b]? = w.heap[b]?)) := hid ⟨⟨o2.os.trans hBZ.os, o2.tape.trans hBZ.tape, o2.output.trans hBZ.output⟩, by have := o2.size; have := hBZ.size; omega, fun b hb hne => (o2.block b (by have := hBZ.size; omega) (by simp; omega)).trans (hBZ.block b hb)⟩
    clear o1 o2 o3 HOZ gRZ gBZ gQ hBZ
    go_wp2_with fail
    refine hK.out _ _ ?_ (fun hHeld => ?_)
    · exact gB2
    clear hK K
    try simp only [sq]
    refine wpAnyH_take (i := 8) (v := ?_) rfl (by kernel_rfl) (by kernel_rfl) (by kernel_rfl) (fun _ _ _ h => h) (Or.inl ⟨by rfl, ?_⟩) hHeld ?_
    rotate_left
    · intro w' hSw; (try dsimp only at hSw); go_simp; try (with_reducible rfl)
    try simp only [sq]
    obtain ⟨⟨v0, v1, v2, v3, v4⟩, p0, p1, p2, p3, p4⟩ := cell5g gR2
    refine wpAnyH_ready (rs := [9]) (by kernel_rfl) (by simp) ?_
    refine AllReadyH.cons rfl (fun K hK => ?_) AllReadyH.nil
    try simp only [sq]
    go_simp
    refine hK.out _ _ ?_ (fun hHeld => ?_)
    · exact (Below.heap_setCell _ _ _ _ (by dsimp only; omega)).trans gB2
    clear hK K
    refine wpAnyH_done (by kernel_rfl) ?_ _
    go_wp2_with fail
    go_end0
    exact ⟨rfl, (HF.out Y g' c' HB2.out gR2 HO2.out hg' hg'R).2⟩
end Go.Proofs.YtnajddjalagmoaaGreatDoor
namespace Go.Proofs.YtnajddjalagmoaaGreatDoor
open Go.RowKit
set_option linter.unusedSimpArgs false
set_option linter.unusedVariables false
theorem set4L {α : Type} (L : List α) (k : Nat) (a b c d : α) (h : k + 4 ≤ L.length) : (((L.set k a).set (k + 1) b).set (k + 2) c).set (k + 3) d = L.take k ++ [a, b, c, d] ++ L.drop (k + 4) := by
  obtain ⟨A, o0, o1, o2, o3, R, rfl, hA⟩ : ∃ A o0 o1 o2 o3 R, L = A ++ o0 :: o1 :: o2 :: o3 :: R ∧ A.length = k := by
    have e := (List.take_append_drop k L).symm
    have hl : (L.drop k).length = L.length - k := by simp
    match hd : L.drop k, hl with
    | [], hl => simp at hl; omega
    | [_], hl => simp at hl; omega
    | [_, _], hl => simp at hl; omega
    | [_, _, _], hl => simp at hl; omega
    | o0 :: o1 :: o2 :: o3 :: R, _ => exact ⟨L.take k, o0, o1, o2, o3, R, by rw [← hd]; exact e, by simp; omega⟩
  subst hA
  simp [List.set_append, List.take_append, List.drop_append]
theorem own_set4 {w : World} {base g c n i : Nat} {t : TypeId} {xs : List Value} (h : w.ownsRow base t 4 (.slice (some ⟨g, 0, none⟩) n c) n xs) (hi : i < n) (x0 x1 x2 x3 : Value) : ((((w.setCell ⟨g, i * 4, none⟩ x0).setCell ⟨g, i * 4 + 1, none⟩ x1).setCell ⟨g, i * 4 + 2, none⟩ x2).setCell ⟨g, i * 4 + 3, none⟩ x3).ownsRow base t 4 (.slice (some ⟨g, 0, none⟩) n c) n (xs.take (i * 4) ++ [x0, x1, x2, x3] ++ xs.drop (i * 4 + 4)) := by
  have hxl := h.1
  refine ⟨by simp; omega, ?_⟩
  rcases h.2 with ⟨q, _⟩ | ⟨g', c', cur, e, q1, q2, q3, q4, q5, q6⟩
  · cases q
  · cases e
    refine .inr ⟨g, c, _, rfl, q1, set_at (set_at (set_at (set_at q2))), q3, q4, by simp; omega, ?_⟩
    have hcl : cur.toList.length = c * 4 := by simpa using q5
    have e1 : ((((cur.setIfInBounds (i * 4) x0).setIfInBounds (i * 4 + 1) x1).setIfInBounds (i * 4 + 2) x2).setIfInBounds (i * 4 + 3) x3).toList = cur.toList.take (i * 4) ++ [x0, x1, x2, x3] ++ cur.toList.drop (i * 4 + 4) := by
      simp only [Array.toList_setIfInBounds]
      exact set4L _ _ _ _ _ _ (by omega)
    rw [e1]
    obtain ⟨r, hr⟩ : ∃ r, cur.toList = xs ++ r := ⟨cur.toList.drop (n * 4), by rw [← q6]; exact (List.take_append_drop _ _).symm⟩
    have f1 : cur.toList.take (i * 4) = xs.take (i * 4) := by rw [hr, List.take_append_of_le_length (by omega)]
    have f2 : cur.toList.drop (i * 4 + 4) = xs.drop (i * 4 + 4) ++ r := by rw [hr, List.drop_append_of_le_length (by omega)]
    rw [f1, f2, ← List.append_assoc, List.take_append_of_le_length (by simp; omega)]
    exact List.take_of_length_le (by simp; omega)
theorem own_cells4 {w : World} {base g c n i : Nat} {t : TypeId} {xs : List Value} (h : w.ownsRow base t 4 (.slice (some ⟨g, 0, none⟩) n c) n xs) (hi : i < n) : ((∃ u, w.cell? ⟨g, i * 4, none⟩ = some u) ∧ (∃ u, w.cell? ⟨g, i * 4 + 1, none⟩ = some u) ∧ (∃ u, w.cell? ⟨g, i * 4 + 2, none⟩ = some u) ∧ (∃ u, w.cell? ⟨g, i * 4 + 3, none⟩ = some u)) ∧ w.frozen? ⟨g, i * 4, none⟩ = false ∧ w.frozen? ⟨g, i * 4 + 1, none⟩ = false ∧ w.frozen? ⟨g, i * 4 + 2, none⟩ = false ∧ w.frozen? ⟨g, i * 4 + 3, none⟩ = false := by
  rcases h.2 with ⟨q, _⟩ | ⟨g', c', cur, e, q1, q2, q3, q4, q5, q6⟩
  · cases q
  · cases e
    have hk : ∀ k, k < c * 4 → ∃ u, w.cell? ⟨g, k, none⟩ = some u := fun k hk => ⟨cur[k]'(by omega), by simp [World.cell?, q2, Array.getElem?_eq_getElem (show k < cur.size by omega)]⟩
    refine ⟨⟨hk _ (by omega), hk _ (by omega), hk _ (by omega), hk _ (by omega)⟩, ?_, ?_, ?_, ?_⟩ <;> simp [World.frozen?, q2]
set_option maxRecDepth 100000 in
set_option maxHeartbeats 4000000 in
theorem set_old (base R g c n i : Nat) (id kd : Int) (gn : Bool) (sa : Option Addr) (sn sc : Nat) (y1 y2 y3 y4 : Value) (xs : List Value) (w : World) (hn : n ≤ 1099511627776) (hi : i < n) (gR : w.heap[R]? = some (.cells #[.slice (some ⟨g, 0, none⟩) n c, y1, y2, y3, y4] 104 (0, 0))) (hRg : R ≠ g) (h : w.ownsRow base 66 4 (.slice (some ⟨g, 0, none⟩) n c) n xs) (hgw : g < w.heap.size) (hb : base ≤ w.heap.size) (hx : ∀ u ∈ xs, u.oneCell' = true) (hpl : ∀ W, Below w.heap.size w W → Calls Tryz.prog 95 #[.slice (some ⟨g, 0, none⟩) n c, .int .i64 id] W fun e w' => e = .returned (.tuple #[.int .i64 i, .bool true]) ∧ Below W.heap.size W w') : Calls Tryz.prog 63 #[.pointer (some ⟨R, 0, none⟩), .agg #[.int .i64 id, .bool gn, .int .i64 kd, .slice sa sn sc]] w fun e w' => e = .returned (.tuple #[]) ∧ w'.heap[R]? = some (.cells #[.slice (some ⟨g, 0, none⟩) n c, y1, y2, y3, y4] 104 (0, 0)) ∧ w'.ownsRow base 66 4 (.slice (some ⟨g, 0, none⟩) n c) n (xs.take (i * 4) ++ [.int .i64 id, .bool gn, .int .i64 kd, .slice sa sn sc] ++ xs.drop (i * 4 + 4)) ∧ w.heap.size ≤ w'.heap.size ∧ (∀ b, b < w.heap.size → b ≠ g → w'.heap[b]? = w.heap[b]?) ∧ (w'.os = w.os ∧ w'.tape = w.tape ∧ w'.output = w.output) := by
  have gB := new_alloc w w.heap.size (.cells #[.int .i64 id, .bool gn, .int .i64 kd, .slice sa sn sc] 66) rfl
  have hB : Below w.heap.size w (w.alloc (.cells #[.int .i64 id, .bool gn, .int .i64 kd, .slice sa sn sc] 66)) := balloc (Below.refl _ _) _
  have hRw := lt_of_block gR
  replace gR := keepheapA hB gR
  have HO := hid (own_frame (w' := w.alloc (.cells #[.int .i64 id, .bool gn, .int .i64 kd, .slice sa sn sc] 66)) h (fun k e => hB.block k (by simp [Value.ownBlock] at e; omega)))
  have HX := hid hx
  have HP := hid hpl
  have H1 : Hid (∀ u : Value, u ∈ ([.int .i64 id, .bool gn, .int .i64 kd, .slice sa sn sc] : List Value) → u.oneCell' = true) := hid (by intro u hu; simp at hu; rcases hu with rfl | rfl | rfl | rfl <;> rfl)
  have HF : Hid (∀ (Y : World), Below w.heap.size w Y → Y.heap[R]? = some (.cells #[.slice (some ⟨g, 0, none⟩) n c, y1, y2, y3, y4] 104 (0, 0)) → Y.ownsRow base 66 4 (.slice (some ⟨g, 0, none⟩) n c) n xs → ((((Y.setCell ⟨g, i * 4, none⟩ (.int .i64 id)).setCell ⟨g, i * 4 + 1, none⟩ (.bool gn)).setCell ⟨g, i * 4 + 2, none⟩ (.int .i64 kd)).setCell ⟨g, i * 4 + 3, none⟩ (.slice sa sn sc)).heap[R]? = some (.cells #[.slice (some ⟨g, 0, none⟩) n c, y1, y2, y3, y4] 104 (0, 0)) ∧ ((((Y.setCell ⟨g, i * 4, none⟩ (.int .i64 id)).setCell ⟨g, i * 4 + 1, none⟩ (.bool gn)).setCell ⟨g, i * 4 + 2, none⟩ (.int .i64 kd)).setCell ⟨g, i * 4 + 3, none⟩ (.slice sa sn sc)).ownsRow base 66 4 (.slice (some ⟨g, 0, none⟩) n c) n (xs.take (i * 4) ++ [.int .i64 id, .bool gn, .int .i64 kd, .slice sa sn sc] ++ xs.drop (i * 4 + 4)) ∧ w.heap.size ≤ ((((Y.setCell ⟨g, i * 4, none⟩ (.int .i64 id)).setCell ⟨g, i * 4 + 1, none⟩ (.bool gn)).setCell ⟨g, i * 4 + 2, none⟩ (.int .i64 kd)).setCell ⟨g, i * 4 + 3, none⟩ (.slice sa sn sc)).heap.size ∧ (∀ b, b < w.heap.size → b ≠ g → ((((Y.setCell ⟨g, i * 4, none⟩ (.int .i64 id)).setCell ⟨g, i * 4 + 1, none⟩ (.bool gn)).setCell ⟨g, i * 4 + 2, none⟩ (.int .i64 kd)).setCell ⟨g, i * 4 + 3, none⟩ (.slice sa sn sc)).heap[b]? = w.heap[b]?) ∧ (((((Y.setCell ⟨g, i * 4, none⟩ (.int .i64 id)).setCell ⟨g, i * 4 + 1, none⟩ (.bool gn)).setCell ⟨g, i * 4 + 2, none⟩ (.int .i64 kd)).setCell ⟨g, i * 4 + 3, none⟩ (.slice sa sn sc)).os = w.os ∧ ((((Y.setCell ⟨g, i * 4, none⟩ (.int .i64 id)).setCell ⟨g, i * 4 + 1, none⟩ (.bool gn)).setCell ⟨g, i * 4 + 2, none⟩ (.int .i64 kd)).setCell ⟨g, i * 4 + 3, none⟩ (.slice sa sn sc)).tape = w.tape ∧ ((((Y.setCell ⟨g, i * 4, none⟩ (.int .i64 id)).setCell ⟨g, i * 4 + 1, none⟩ (.bool gn)).setCell ⟨g, i * 4 + 2, none⟩ (.int .i64 kd)).setCell ⟨g, i * 4 + 3, none⟩ (.slice sa sn sc)).output = w.output)) := hid (fun Y hB gR hO => by
    have hfar : ∀ b, b ≠ g → ((((Y.setCell ⟨g, i * 4, none⟩ (.int .i64 id)).setCell ⟨g, i * 4 + 1, none⟩ (.bool gn)).setCell ⟨g, i * 4 + 2, none⟩ (.int .i64 kd)).setCell ⟨g, i * 4 + 3, none⟩ (.slice sa sn sc)).heap[b]? = Y.heap[b]? := fun b hb => (by rw [Below.heap_setCell _ _ _ _ (by dsimp only; omega), Below.heap_setCell _ _ _ _ (by dsimp only; omega), Below.heap_setCell _ _ _ _ (by dsimp only; omega), Below.heap_setCell _ _ _ _ (by dsimp only; omega)])
    refine ⟨(hfar R hRg).trans gR, own_set4 hO hi _ _ _ _, by have := hB.size; simpa using this, fun b hb h2 => (hfar b h2).trans (hB.block b hb), ⟨hB.os, hB.tape, hB.output⟩⟩)
  have hWz : (w.alloc (.cells #[.int .i64 id, .bool gn, .int .i64 kd, .slice sa sn sc] 66)).heap.size = w.heap.size + 1 := by simp
  obtain ⟨B, hBe⟩ : ∃ B, B = w.heap.size := ⟨_, rfl⟩
  rw [← hBe] at gB
  clear h hx hpl
  go_enter Tryz.func63, Tryz.ntmps63
  go_upto_region 1 with fail
  rw [← hBe]
  generalize w.alloc (.cells #[.int .i64 id, .bool gn, .int .i64 kd, .slice sa sn sc] 66) = W at *
  have HBE := hid hBe
  clear hBe
  have HS0 : Hid (w.heap.size = B) := hid HBE.out.symm
  refine wp_region_held_drew (S := fun w' => w'.heap[R]? = some (.cells #[.slice (some ⟨g, 0, none⟩) n c, y1, y2, y3, y4] 104 (0, 0)) ∧ w'.heap[B]? = some (.cells #[.int .i64 id, .bool gn, .int .i64 kd, .slice sa sn sc] 66 (0, 0))) (by kernel_rfl) ?_ (fun hHeld => ?_)
  · exact ⟨gR, gB⟩
  refine wpAnyH_take (i := 0) (v := ?_) rfl (by kernel_rfl) (by kernel_rfl) (by kernel_rfl) (fun _ _ _ h => h) (Or.inl ⟨by rfl, ?_⟩) hHeld ?_
  rotate_left
  · intro w' hSw; (try dsimp only at hSw); obtain ⟨hs1, hs2⟩ := hSw; obtain ⟨⟨_, _, _, _, _⟩, _⟩ := cell5g hs1; obtain ⟨⟨_, _, _, _⟩, _⟩ := cellk4 hs2; go_simp; try (with_reducible rfl)
  try simp only [sq]
  refine wpAnyH_take (i := 1) (v := ?_) rfl (by kernel_rfl) (by kernel_rfl) (by kernel_rfl) (fun _ _ _ h => h) (Or.inl ⟨by rfl, ?_⟩) hHeld ?_
  rotate_left
  · intro w' hSw; (try dsimp only at hSw); obtain ⟨hs1, hs2⟩ := hSw; obtain ⟨⟨_, _, _, _, _⟩, _⟩ := cell5g hs1; obtain ⟨⟨_, _, _, _⟩, _⟩ := cellk4 hs2; go_simp; try (with_reducible rfl)
  try simp only [sq]
  refine wpAnyH_take (i := 2) (v := ?_) rfl (by kernel_rfl) (by kernel_rfl) (by kernel_rfl) (fun _ _ _ h => h) (Or.inl ⟨by rfl, ?_⟩) hHeld ?_
  rotate_left
  · intro w' hSw; (try dsimp only at hSw); obtain ⟨hs1, hs2⟩ := hSw; obtain ⟨⟨_, _, _, _, _⟩, _⟩ := cell5g hs1; obtain ⟨⟨_, _, _, _⟩, _⟩ := cellk4 hs2; go_simp; try (with_reducible rfl)
  try simp only [sq]
  refine wpAnyH_take (i := 3) (v := ?_) rfl (by kernel_rfl) (by kernel_rfl) (by kernel_rfl) (fun _ _ _ h => h) (Or.inl ⟨by rfl, ?_⟩) hHeld ?_
  rotate_left
  · intro w' hSw; (try dsimp only at hSw); obtain ⟨hs1, hs2⟩ := hSw; obtain ⟨⟨_, _, _, _, _⟩, _⟩ := cell5g hs1; obtain ⟨⟨_, _, _, _⟩, _⟩ := cellk4 hs2; go_simp; try (with_reducible rfl)
  try simp only [sq]
  refine wpAnyH_take (i := 4) (v := ?_) rfl (by kernel_rfl) (by kernel_rfl) (by kernel_rfl) (fun _ _ _ h => h) (Or.inl ⟨by rfl, ?_⟩) hHeld ?_
  rotate_left
  · intro w' hSw; (try dsimp only at hSw); obtain ⟨hs1, hs2⟩ := hSw; obtain ⟨⟨_, _, _, _, _⟩, _⟩ := cell5g hs1; obtain ⟨⟨_, _, _, _⟩, _⟩ := cellk4 hs2; go_simp; try (with_reducible rfl)
  try simp only [sq]
  refine wpAnyH_ready (rs := [5]) (by kernel_rfl) (by simp) ?_
  refine AllReadyH.cons rfl (fun K hK => ?_) AllReadyH.nil
  try simp only [sq]
  go_simp
  go_at_call 95
  refine (HP.out _ (bdrew hB)).mono ?_
  rintro e z ⟨rfl, hz⟩
  replace gR := keepheapA hz (show W.drew.heap[R]? = _ from gR)
  replace gB := keepheapA hz (show W.drew.heap[B]? = _ from gB)
  replace HO := hid (own_frame (w' := z) HO.out (fun k e => (hz.block k (by simp [Value.ownBlock] at e; show k < W.heap.size; omega)).trans rfl))
  replace hB := btrans (bdrew hB) hz
  have hzs : W.heap.size ≤ z.heap.size := hz.size
  clear hz HP
  go_wp2_with fail
  refine hK.out _ _ ?_ (fun hHeld => ?_)
  · exact ⟨gR, gB⟩
  clear hK K
  try simp only [sq]
  refine wpAnyH_take (i := 6) (v := ?_) rfl (by kernel_rfl) (by kernel_rfl) (by kernel_rfl) (fun _ _ _ h => h) (Or.inl ⟨by rfl, ?_⟩) hHeld ?_
  rotate_left
  · intro w' hSw; (try dsimp only at hSw); go_simp; try (with_reducible rfl)
  try simp only [sq]
  refine wpAnyH_take (i := 7) (v := ?_) rfl (by kernel_rfl) (by kernel_rfl) (by kernel_rfl) (fun _ _ _ h => h) (Or.inl ⟨by rfl, ?_⟩) hHeld ?_
  rotate_left
  · intro w' hSw; (try dsimp only at hSw); go_simp; try (with_reducible rfl)
  try simp only [sq]
  refine wpAnyH_take (i := 8) (v := ?_) rfl (by kernel_rfl) (by kernel_rfl) (by kernel_rfl) (fun _ _ _ h => h) (Or.inl ⟨by rfl, ?_⟩) hHeld ?_
  rotate_left
  · intro w' hSw; (try dsimp only at hSw); go_simp; try (with_reducible rfl)
  try simp only [sq]
  refine wpAnyH_take (i := 9) (v := ?_) rfl (by kernel_rfl) (by kernel_rfl) (by kernel_rfl) (fun _ _ _ h => h) (Or.inl ⟨by rfl, ?_⟩) hHeld ?_
  rotate_left
  · intro w' hSw; (try dsimp only at hSw); go_simp; try (with_reducible rfl)
  try simp only [sq]
  refine wpAnyH_take (i := 10) (v := ?_) rfl (by kernel_rfl) (by kernel_rfl) (by kernel_rfl) (fun _ _ _ h => h) (Or.inl ⟨by rfl, ?_⟩) hHeld ?_
  rotate_left
  · intro w' hSw; (try dsimp only at hSw); go_simp; try (with_reducible rfl)
  try simp only [sq]
  refine wpAnyH_done (by kernel_rfl) ?_ _
  go_upto_region 3 with fail
  refine wp_region_held_drew (S := fun w' => w'.heap[R]? = some (.cells #[.slice (some ⟨g, 0, none⟩) n c, y1, y2, y3, y4] 104 (0, 0)) ∧ w'.heap[B]? = some (.cells #[.int .i64 id, .bool gn, .int .i64 kd, .slice sa sn sc] 66 (0, 0))) (by kernel_rfl) ⟨gR, gB⟩ (fun hHeld => ?_)
  replace gR : z.drew.heap[R]? = _ := gR
  replace gB : z.drew.heap[B]? = _ := gB
  replace HO := hid (own_frame (w' := z.drew) HO.out (fun k e => rfl))
  replace hB := bdrew hB
  generalize z.drew = Z0 at *
  obtain ⟨⟨⟨u0, k0⟩, ⟨u1, k1⟩, ⟨u2, k2⟩, ⟨u3, k3⟩⟩, f0, f1, f2, f3⟩ := own_cells4 HO.out hi
  have hin : (i : Int) < (n : Int) := by omega
  have hBg : B ≠ g := by have := HBE.out; omega
  refine wpAnyH_take (i := 0) (v := ?_) rfl (by kernel_rfl) (by kernel_rfl) (by kernel_rfl) (fun _ _ _ h => h) (Or.inl ⟨by rfl, ?_⟩) hHeld ?_
  rotate_left
  · intro w' hSw; (try dsimp only at hSw); go_simp; try (with_reducible rfl)
  try simp only [sq]
  refine wpAnyH_take (i := 1) (v := ?_) rfl (by kernel_rfl) (by kernel_rfl) (by kernel_rfl) (fun _ _ _ h => h) (Or.inl ⟨by rfl, ?_⟩) hHeld ?_
  rotate_left
  · intro w' hSw; (try dsimp only at hSw); go_simp; try (with_reducible rfl)
  try simp only [sq]
  refine wpAnyH_take (i := 2) (v := ?_) rfl (by kernel_rfl) (by kernel_rfl) (by kernel_rfl) (fun _ _ _ h => h) (Or.inl ⟨by rfl, ?_⟩) hHeld ?_
  rotate_left
  · intro w' hSw; (try dsimp only at hSw); obtain ⟨hs1, hs2⟩ := hSw; obtain ⟨⟨_, _, _, _, _⟩, _⟩ := cell5g hs1; obtain ⟨⟨_, _, _, _⟩, _⟩ := cellk4 hs2; go_simp; try (with_reducible rfl)
  try simp only [sq]
  refine wpAnyH_take (i := 3) (v := ?_) rfl (by kernel_rfl) (by kernel_rfl) (by kernel_rfl) (fun _ _ _ h => h) (Or.inl ⟨by rfl, ?_⟩) hHeld ?_
  rotate_left
  · intro w' hSw; (try dsimp only at hSw); go_simp; try (with_reducible rfl)
  try simp only [sq]
  refine wpAnyH_take (i := 4) (v := ?_) rfl (by kernel_rfl) (by kernel_rfl) (by kernel_rfl) (fun _ _ _ h => h) (Or.inl ⟨by rfl, ?_⟩) hHeld ?_
  rotate_left
  · intro w' hSw; (try dsimp only at hSw); obtain ⟨hs1, hs2⟩ := hSw; obtain ⟨⟨_, _, _, _, _⟩, _⟩ := cell5g hs1; obtain ⟨⟨_, _, _, _⟩, _⟩ := cellk4 hs2; go_simp; try (with_reducible rfl)
  try simp only [sq]
  refine wpAnyH_take (i := 5) (v := ?_) rfl (by kernel_rfl) (by kernel_rfl) (by kernel_rfl) (fun _ _ _ h => h) (Or.inl ⟨by rfl, ?_⟩) hHeld ?_
  rotate_left
  · intro w' hSw; (try dsimp only at hSw); go_simp; try (with_reducible rfl)
  try simp only [sq]
  refine wpAnyH_ready (rs := [6]) (by kernel_rfl) (by simp) ?_
  refine AllReadyH.cons rfl (fun K hK => ?_) AllReadyH.nil
  try simp only [sq]
  go_simp
  have HB3 := hid hB
  clear hB
  refine hK.out _ _ ?_ (fun hHeld => ?_)
  · exact ⟨(by rw [Below.heap_setCell _ _ _ _ (by dsimp only; omega), Below.heap_setCell _ _ _ _ (by dsimp only; omega), Below.heap_setCell _ _ _ _ (by dsimp only; omega), Below.heap_setCell _ _ _ _ (by dsimp only; omega)]; exact gR), (by rw [Below.heap_setCell _ _ _ _ (by dsimp only; omega), Below.heap_setCell _ _ _ _ (by dsimp only; omega), Below.heap_setCell _ _ _ _ (by dsimp only; omega), Below.heap_setCell _ _ _ _ (by dsimp only; omega)]; exact gB)⟩
  clear hK K
  refine wpAnyH_done (by kernel_rfl) ?_ _
  go_wp2_with fail
  refine bodyPost_ret (results_none rfl _ _ _) rfl ?_
  exact ⟨rfl, HF.out _ HB3.out gR HO.out⟩
end Go.Proofs.YtnajddjalagmoaaGreatDoor
namespace Go.Proofs.YtnajddjalagmoaaGreatDoor
open Go.RowKit
set_option linter.unusedSimpArgs false
set_option linter.unusedVariables false
theorem set_cong {A B : World} {g k : Nat} {u : Value} (h : A.heap[g]? = B.heap[g]?) : (A.setCell ⟨g, k, none⟩ u).heap[g]? = (B.setCell ⟨g, k, none⟩ u).heap[g]? := by
  show (A.heap.modify g _)[g]? = (B.heap.modify g _)[g]?
  rw [Array.getElem?_modify, Array.getElem?_modify, h]
end Go.Proofs.YtnajddjalagmoaaGreatDoor
namespace Go.Proofs.YtnajddjalagmoaaGreatDoor
open Go.RowKit
set_option linter.unusedSimpArgs false
set_option linter.unusedVariables false
theorem LC.wide2 {α : Type} {K : Kd α} {base hi hi' : Nat} {w : World} {v : Value} {xs : List α} (h : LC K base hi w v xs) (e1 : hi ≤ hi') (e2 : hi' ≤ w.heap.size) : LC K base hi' w v xs := by
  obtain ⟨h0, h | ⟨g, cap, ss, lo, up, h1, h2, h3, h4, h5, h6, h7⟩⟩ := h
  · exact ⟨e2, .inl h⟩
  · exact ⟨e2, .inr ⟨g, cap, ss, lo, up, h1, h2, h3, by omega, h5, fun j hj => by obtain ⟨a1, a2, a3, a4⟩ := h6 j hj; exact ⟨a1, a2, by omega, a4⟩, h7⟩⟩
end Go.Proofs.YtnajddjalagmoaaGreatDoor
namespace Go.Proofs.YtnajddjalagmoaaGreatDoor
open Go.RowKit
set_option linter.unusedSimpArgs false
set_option linter.unusedVariables false
/-- A store and a number that a call answers: the rows in one range, no transaction in it; each transaction's changes in two pieces. -/
def SBS (w : World) (now : Int) (rs : List Rw) (ts : List Tx) (n : Int) (e : Ending) (w' : World) : Prop :=
  ∃ a c ta tcc b1 u1 b2 u2, e = .returned (.tuple #[.agg #[.int .i64 now, .slice a rs.length c, .slice ta ts.length tcc], .int .i64 n]) ∧ LC KR b1 u1 w' (.slice a rs.length c) rs ∧ LTS b2 u2 b1 u1 w' (.slice ta ts.length tcc) ts ∧ w.heap.size ≤ b1 ∧ w.heap.size ≤ b2 ∧ Below w.heap.size w w'
theorem sbs_mk {w w' : World} {now n n' : Int} {rs : List Rw} {ts ts' : List Tx} {a ta : Option Addr} {c tcc nr nt b1 u1 b2 u2 : Nat} (e1 : ts = ts') (e2 : n = n') (h1 : rs.length = nr) (h2 : ts'.length = nt) (x1 : LC KR b1 u1 w' (.slice a nr c) rs) (x2 : LTS b2 u2 b1 u1 w' (.slice ta nt tcc) ts') (q1 : w.heap.size ≤ b1) (q2 : w.heap.size ≤ b2) (hb : Below w.heap.size w w') : SBS w now rs ts n (.returned (.tuple #[.agg #[.int .i64 now, .slice a nr c, .slice ta nt tcc], .int .i64 n'])) w' := by
  subst e1 e2 h1 h2
  exact ⟨a, c, ta, tcc, b1, u1, b2, u2, rfl, x1, x2, q1, q2, hb⟩
end Go.Proofs.YtnajddjalagmoaaGreatDoor
namespace Go.Proofs.YtnajddjalagmoaaGreatDoor
open Go.RowKit
set_option linter.unusedSimpArgs false
set_option linter.unusedVariables false
set_option maxRecDepth 100000 in
set_option maxHeartbeats 1000000 in
theorem store_copiedX (now : Int) (B D rc tc : Nat) (rs : List Rw) (ts : List Tx) (w : World) (hm : rs.length ≤ 1099511627776) (htm : ts.length ≤ 1099511627776) (hr : RwsZ w B rs) (ht : TxsS w D ts) : Calls Tryz.prog 56 #[.agg #[.int .i64 now, .slice (some ⟨B, 0, none⟩) rs.length rc, .slice (some ⟨D, 0, none⟩) ts.length tc]] w fun e w' => ∃ g c tg tcc mid, e = .returned (.agg #[.int .i64 now, .slice (some ⟨g, 0, none⟩) rs.length c, .slice (some ⟨tg, 0, none⟩) ts.length tcc]) ∧ (LC KR mid w'.heap.size w' (.slice (some ⟨g, 0, none⟩) rs.length c) rs ∧ ∃ px, LX KX 63 w.heap.size mid w' (.slice (some ⟨tg, 0, none⟩) ts.length tcc) ts px) ∧ RwsZ w' g rs ∧ w.heap.size ≤ mid ∧ mid ≤ w'.heap.size ∧ Below w.heap.size w w' := by
  have HK := hid (fun (W : World) (hb : Below w.heap.size w W) => kept_txY D tc ts W htm (ht.below hb))
  have HR := hid (fun (W : World) (hb : Below w.heap.size w W) => rowsZ_copied now B rc rs W hm (hr.below hb))
  clear hr ht
  generalize hnr : rs.length = nr at *
  generalize hnt : ts.length = nt at *
  have HNR := hid hnr
  have HNT := hid hnt
  clear hnr hnt
  have hB : Below w.heap.size w ((w.alloc (.cells #[.int .i64 now, .slice (some ⟨B, 0, none⟩) nr rc, .slice (some ⟨D, 0, none⟩) nt tc] 38)).alloc (.cells #[.int .i64 0, .slice none 0 0, .slice none 0 0] 38)) := balloc (balloc (Below.refl _ _) _) _
  have g0 := old_alloc (o' := .cells #[.int .i64 0, .slice none 0 0, .slice none 0 0] 38) (new_alloc w w.heap.size (.cells #[.int .i64 now, .slice (some ⟨B, 0, none⟩) nr rc, .slice (some ⟨D, 0, none⟩) nt tc] 38) rfl)
  have g1 := new_alloc (w.alloc (.cells #[.int .i64 now, .slice (some ⟨B, 0, none⟩) nr rc, .slice (some ⟨D, 0, none⟩) nt tc] 38)) (w.heap.size + 1) (.cells #[.int .i64 0, .slice none 0 0, .slice none 0 0] 38) (by simp)
  go_enter Tryz.func56, Tryz.ntmps56
  go_upto_region 1 with fail
  generalize (w.alloc (.cells #[.int .i64 now, .slice (some ⟨B, 0, none⟩) nr rc, .slice (some ⟨D, 0, none⟩) nt tc] 38)).alloc (.cells #[.int .i64 0, .slice none 0 0, .slice none 0 0] 38) = W at *
  obtain ⟨⟨d0, d1, d2⟩, _⟩ := cellk3 g0
  have hWs := lt_of_block g1
  go_wp2_with fail
  refine (HK.out _ hB).mono ?_
  rintro e y ⟨v, px, rfl, hX, ⟨tg, tcc, rfl⟩, hy⟩
  replace g0 := keepheap2 hy g0
  replace g1 := keepheap2 hy g1
  replace hB := btrans hB hy
  have hyz := hy.size
  have HX := hid hX
  clear hy hX HK d0 d1 d2
  obtain ⟨⟨d0, d1, d2⟩, _⟩ := cellk3 g0
  go_wp2_with fail
  refine (HR.out _ hB).mono ?_
  rintro e z ⟨g, c, pr, rfl, hX2, hz⟩
  replace g1 := keepheap2 hz g1
  replace hB := btrans hB hz
  have hzz := hz.size
  have HX1 := hid (HX.out.below hz)
  have HX2 := hid hX2
  clear hz hX2 HR HX g0 d0 d1 d2
  obtain ⟨⟨v0, v1, v2⟩, u0, u1, u2⟩ := cellk3 g1
  have HB := hid hB
  clear hB
  go_wp2_with fail
  have gF := setk3 g1 (.int .i64 now) (.slice (some ⟨g, 0, none⟩) nr c) (.slice (some ⟨tg, 0, none⟩) nt tcc)
  have bF := bset (bset (bset HB.out (q := w.heap.size + 1) (k := 0) (by omega) (.int .i64 now)) (q := w.heap.size + 1) (k := 1) (by omega) (.slice (some ⟨g, 0, none⟩) nr c)) (q := w.heap.size + 1) (k := 2) (by omega) (.slice (some ⟨tg, 0, none⟩) nt tcc)
  have hfar : ∀ b, b ≠ w.heap.size + 1 → (((z.setCell ⟨w.heap.size + 1, 0, none⟩ (.int .i64 now)).setCell ⟨w.heap.size + 1, 1, none⟩ (.slice (some ⟨g, 0, none⟩) nr c)).setCell ⟨w.heap.size + 1, 2, none⟩ (.slice (some ⟨tg, 0, none⟩) nt tcc)).heap[b]? = z.heap[b]? := fun b hb => by rw [Below.heap_setCell _ _ _ _ (by dsimp only; omega), Below.heap_setCell _ _ _ _ (by dsimp only; omega), Below.heap_setCell _ _ _ _ (by dsimp only; omega)]
  have hwz : (((z.setCell ⟨w.heap.size + 1, 0, none⟩ (.int .i64 now)).setCell ⟨w.heap.size + 1, 1, none⟩ (.slice (some ⟨g, 0, none⟩) nr c)).setCell ⟨w.heap.size + 1, 2, none⟩ (.slice (some ⟨tg, 0, none⟩) nt tcc)).heap.size = z.heap.size := by simp only [World.size_setCell]
  generalize (((z.setCell ⟨w.heap.size + 1, 0, none⟩ (.int .i64 now)).setCell ⟨w.heap.size + 1, 1, none⟩ (.slice (some ⟨g, 0, none⟩) nr c)).setCell ⟨w.heap.size + 1, 2, none⟩ (.slice (some ⟨tg, 0, none⟩) nt tcc)) = wf at *
  have x1 := ((HX2.out.frame (w' := wf) (fun b h1 h2 => hfar b (by omega)) (by omega)).mono (hi' := wf.heap.size) (Nat.le_refl _) (by omega) (Nat.le_refl _)).lc
  have x2 := ((HX1.out.frame (w' := wf) (fun b h1 h2 => hfar b (by omega)) (by omega)).mono (base' := w.heap.size) (hi' := y.heap.size) (by omega) (Nat.le_refl _) (by omega))
  have hrz : RwsZ wf g rs := by
    refine LC.rwsZ (cap := c) (base := y.heap.size) (hi := wf.heap.size) ?_
    rw [HNR.out]; exact x1
  obtain ⟨⟨z0, z1, z2⟩, _⟩ := cellk3 gF
  exact bodyPost_ret (v := .agg #[.int .i64 now, .slice (some ⟨g, 0, none⟩) nr c, .slice (some ⟨tg, 0, none⟩) nt tcc]) (by simp [results, Tryz.results56, go_sem, z0, z1, z2]) rfl ⟨g, c, tg, tcc, y.heap.size, rfl, ⟨x1, _, x2⟩, hrz, by omega, by omega, bF⟩
end Go.Proofs.YtnajddjalagmoaaGreatDoor
namespace Go.Proofs.YtnajddjalagmoaaGreatDoor
open Go.RowKit
set_option linter.unusedSimpArgs false
set_option linter.unusedVariables false
set_option maxRecDepth 100000 in
set_option maxHeartbeats 8000000 in
theorem after_x (now n code : Int) (step : Value) (ts2 : List Tx) (B D : Nat) (rs : List Rw) (ts : List Tx) (w : World) (na : Addr) (hm : rs.length ≤ 1099511627776) (htm : ts.length ≤ 1099511627776) (hr : RwsS w B rs) (ht : TxsS w D ts) (hg : w.cell? ⟨0, 0, none⟩ = some (.iface 247 (.pointer (some na)))) (he : w.cell? ⟨3, 0, none⟩ = some (.iface 173 (.agg #[.pointer (some ⟨4, 73, none⟩)]))) (hl2 : ts2.length = ts.length) (hdo : ∀ m : Nat, opn now rs ts n = true → n = (m : Int) → (∀ (W : World) (g c tg tcc b2 u2 P : Nat), Below w.heap.size w W → w.heap.size ≤ b2 → u2 ≤ P → W.heap[P]? = some (.cells #[.int .i64 now, .slice (some ⟨g, 0, none⟩) rs.length c, .slice (some ⟨tg, 0, none⟩) ts.length tcc] 38 (0, 0)) → LC KR u2 P W (.slice (some ⟨g, 0, none⟩) rs.length c) rs → (∃ px, LX KX 63 b2 u2 W (.slice (some ⟨tg, 0, none⟩) ts.length tcc) ts px) → Calls Tryz.prog 60 #[.pointer (some ⟨P, 0, none⟩), .int .i64 m, step] W fun e w' => e = .returned (.int .i64 code) ∧ w'.heap[P]? = some (.cells #[.int .i64 now, .slice (some ⟨g, 0, none⟩) rs.length c, .slice (some ⟨tg, 0, none⟩) ts.length tcc] 38 (0, 0)) ∧ LTS b2 w'.heap.size u2 (P + 1) w' (.slice (some ⟨tg, 0, none⟩) ts.length tcc) ts2 ∧ W.heap.size ≤ w'.heap.size ∧ (∀ b, b < W.heap.size → b ≠ P → (b < b2 ∨ u2 ≤ b) → w'.heap[b]? = W.heap[b]?) ∧ (w'.os = W.os ∧ w'.tape = W.tape ∧ w'.output = W.output))) : Calls Tryz.prog 30 #[.agg #[.int .i64 now, .slice (some ⟨B, 0, none⟩) rs.length rs.length, .slice (some ⟨D, 0, none⟩) ts.length ts.length], .int .i64 n, step] w fun e w' => SBS w now rs (if opn now rs ts n = true then ts2 else ts) (if opn now rs ts n = true then code else 1) e w' := by
  have HCP := hid (fun (W : World) (hb : Below w.heap.size w W) => store_copiedX now B D rs.length ts.length rs ts W hm htm (hr.below hb).z (ht.below hb))
  have HTL : Hid (∀ j (h : j < ts.length), ts[j].2.2.length ≤ 1099511627776) := hid (fun j (hj : j < ts.length) => (ht.2 j hj).choose_spec.choose_spec.2.2.1)
  have HRN : Hid (opn now rs ts n = false → ∀ (W : World) (g c tg tcc b1 u1 b2 u2 : Nat), W.cell? ⟨0, 0, none⟩ = some (.iface 247 (.pointer (some na))) → LC KR b1 u1 W (.slice (some ⟨g, 0, none⟩) rs.length c) rs → LC KT b2 u2 W (.slice (some ⟨tg, 0, none⟩) ts.length tcc) ts → Calls Tryz.prog 57 #[.agg #[.int .i64 now, .slice (some ⟨g, 0, none⟩) rs.length c, .slice (some ⟨tg, 0, none⟩) ts.length tcc], .int .i64 n] W fun e w' => e = .returned (.tuple #[zrun, .iface 111 (.agg #[.int .i64 1, .iface 247 (.pointer (some na))])]) ∧ Below W.heap.size W w') := hid (fun h W g c tg tcc b1 u1 b2 u2 hg x1 x2 => run_no now _ _ c tcc rs ts n W hm htm x1.rws (x2.txs HTL.out) _ _ hg h)
  have HRY : Hid (∀ (m : Nat) (hmt : m < ts.length), storeb now rs ts = true → ts[m].2.1 = true → ∀ (W : World) (g c tg tcc b1 u1 b2 u2 : Nat), LC KR b1 u1 W (.slice (some ⟨g, 0, none⟩) rs.length c) rs → LC KT b2 u2 W (.slice (some ⟨tg, 0, none⟩) ts.length tcc) ts → Calls Tryz.prog 57 #[.agg #[.int .i64 now, .slice (some ⟨g, 0, none⟩) rs.length c, .slice (some ⟨tg, 0, none⟩) ts.length tcc], .int .i64 m] W fun e w' => (∃ ca cn cc st, e = .returned (.tuple #[.agg #[.slice ca cn cc, .int .i64 st, .bool true, .int .i64 now, .slice (some ⟨g, 0, none⟩) rs.length c], .nilIface])) ∧ Below W.heap.size W w') := hid (fun m hmt h1 h2 W g c tg tcc b1 u1 b2 u2 x1 x2 => (run_yes now _ _ c tcc rs ts m W hm htm x1.rws (x2.txs HTL.out) hmt h1 h2).mono (fun e w' ⟨ca, ccap, e1, _, _, hb⟩ => ⟨⟨_, _, _, _, e1⟩, hb⟩))
  have HNO : Hid (opn now rs ts n = false → (if opn now rs ts n = true then ts2 else ts) = ts ∧ (if opn now rs ts n = true then code else 1) = 1) := hid (fun h => by rw [h]; exact ⟨rfl, rfl⟩)
  have HYS : Hid (opn now rs ts n = true → (if opn now rs ts n = true then ts2 else ts) = ts2 ∧ (if opn now rs ts n = true then code else 1) = code) := hid (fun h => by rw [h]; exact ⟨rfl, rfl⟩)
  have HYE : Hid (opn now rs ts n = true → ∃ (m : Nat), n = (m : Int) ∧ (∀ (W : World) (g c tg tcc b1 u1 b2 u2 : Nat), LC KR b1 u1 W (.slice (some ⟨g, 0, none⟩) rs.length c) rs → LC KT b2 u2 W (.slice (some ⟨tg, 0, none⟩) ts.length tcc) ts → Calls Tryz.prog 57 #[.agg #[.int .i64 now, .slice (some ⟨g, 0, none⟩) rs.length c, .slice (some ⟨tg, 0, none⟩) ts.length tcc], .int .i64 m] W fun e w' => (∃ ca cn cc st, e = .returned (.tuple #[.agg #[.slice ca cn cc, .int .i64 st, .bool true, .int .i64 now, .slice (some ⟨g, 0, none⟩) rs.length c], .nilIface])) ∧ Below W.heap.size W w') ∧ (∀ (W : World) (g c tg tcc b2 u2 P : Nat), Below w.heap.size w W → w.heap.size ≤ b2 → u2 ≤ P → W.heap[P]? = some (.cells #[.int .i64 now, .slice (some ⟨g, 0, none⟩) rs.length c, .slice (some ⟨tg, 0, none⟩) ts.length tcc] 38 (0, 0)) → LC KR u2 P W (.slice (some ⟨g, 0, none⟩) rs.length c) rs → (∃ px, LX KX 63 b2 u2 W (.slice (some ⟨tg, 0, none⟩) ts.length tcc) ts px) → Calls Tryz.prog 60 #[.pointer (some ⟨P, 0, none⟩), .int .i64 m, step] W fun e w' => e = .returned (.int .i64 code) ∧ w'.heap[P]? = some (.cells #[.int .i64 now, .slice (some ⟨g, 0, none⟩) rs.length c, .slice (some ⟨tg, 0, none⟩) ts.length tcc] 38 (0, 0)) ∧ LTS b2 w'.heap.size u2 (P + 1) w' (.slice (some ⟨tg, 0, none⟩) ts.length tcc) ts2 ∧ W.heap.size ≤ w'.heap.size ∧ (∀ b, b < W.heap.size → b ≠ P → (b < b2 ∨ u2 ≤ b) → w'.heap[b]? = W.heap[b]?) ∧ (w'.os = W.os ∧ w'.tape = W.tape ∧ w'.output = W.output))) := hid (fun h => by
    obtain ⟨m, e, hmt, h1, h2⟩ := opn_at h
    exact ⟨m, e, HRY.out m hmt h1 h2, hdo m h e⟩)
  clear hr ht HRY hdo
  generalize (if opn now rs ts n = true then ts2 else ts) = bt at *
  generalize (if opn now rs ts n = true then code else 1) = bn at *
  generalize opn now rs ts n = op at *
  obtain ⟨nr, hnr⟩ : ∃ x, x = rs.length := ⟨_, rfl⟩
  obtain ⟨nt, hnt⟩ : ∃ x, x = ts.length := ⟨_, rfl⟩
  have HNR := hid hnr.symm
  have HNT := hid hnt.symm
  rw [← hnr, ← hnt] at HCP HRN HYE ⊢
  rw [← hnt] at hl2
  clear hnr hnt HTL
  have hB : Below w.heap.size w ((w.alloc (.cells #[.int .i64 now, .slice (some ⟨B, 0, none⟩) nr nr, .slice (some ⟨D, 0, none⟩) nt nt] 38)).alloc (.cells #[.int .i64 0, .slice none 0 0, .slice none 0 0] 38)) := balloc (balloc (Below.refl _ _) _) _
  have gP := old_alloc (o' := .cells #[.int .i64 0, .slice none 0 0, .slice none 0 0] 38) (new_alloc w w.heap.size (.cells #[.int .i64 now, .slice (some ⟨B, 0, none⟩) nr nr, .slice (some ⟨D, 0, none⟩) nt nt] 38) rfl)
  have gZ := new_alloc (w.alloc (.cells #[.int .i64 now, .slice (some ⟨B, 0, none⟩) nr nr, .slice (some ⟨D, 0, none⟩) nt nt] 38)) (w.heap.size + 1) (.cells #[.int .i64 0, .slice none 0 0, .slice none 0 0] 38) (by simp)
  have hWs : w.heap.size + 1 < ((w.alloc (.cells #[.int .i64 now, .slice (some ⟨B, 0, none⟩) nr nr, .slice (some ⟨D, 0, none⟩) nt nt] 38)).alloc (.cells #[.int .i64 0, .slice none 0 0, .slice none 0 0] 38)).heap.size := by simp
  have hgl := World.block_lt_of_cell? w ⟨0, 0, none⟩ hg
  have hel := World.block_lt_of_cell? w ⟨3, 0, none⟩ he
  go_enter Tryz.func30, Tryz.ntmps30
  go_upto_region 1 with fail
  generalize (w.alloc (.cells #[.int .i64 now, .slice (some ⟨B, 0, none⟩) nr nr, .slice (some ⟨D, 0, none⟩) nt nt] 38)).alloc (.cells #[.int .i64 0, .slice none 0 0, .slice none 0 0] 38) = W at *
  obtain ⟨⟨d0, d1, d2⟩, _⟩ := cellk3 gP
  go_wp2_with fail
  refine (HCP.out _ hB).mono ?_
  rintro e y ⟨g, c, tg, tcc, mid, rfl, ⟨hx1, px, hxx⟩, hrz, e1, e2, hy⟩
  have hx2 := hxx.kt.lc
  have HXX := hid hxx
  replace gP := keepheapA hy gP
  replace gZ := keepheapA hy gZ
  replace hB := btrans hB hy
  have hyz := hy.size
  have HX1 := hid hx1
  have HX2 := hid hx2
  clear hy hx1 hx2 hxx HCP d0 d1 d2 hrz gP
  go_upto_region 2 with fail
  have hal : Below y.heap.size y (y.alloc (.cells #[.int .i64 now, .slice (some ⟨g, 0, none⟩) nr c, .slice (some ⟨tg, 0, none⟩) nt tcc] 38)) := balloc (Below.refl _ _) _
  have gQ := new_alloc y y.heap.size (.cells #[.int .i64 now, .slice (some ⟨g, 0, none⟩) nr c, .slice (some ⟨tg, 0, none⟩) nt tcc] 38) rfl
  replace gZ := keepheapA hal gZ
  replace hB := btrans hB hal
  replace HX1 := hid (HX1.out.below hal)
  replace HX2 := hid (HX2.out.below hal)
  replace HXX := hid (HXX.out.below hal)
  have hyq : (y.alloc (.cells #[.int .i64 now, .slice (some ⟨g, 0, none⟩) nr c, .slice (some ⟨tg, 0, none⟩) nt tcc] 38)).heap.size = y.heap.size + 1 := by simp
  have hyq1 := Nat.le_of_eq hyq
  have hyq2 := Nat.le_of_eq hyq.symm
  clear hal hyq
  generalize y.alloc (.cells #[.int .i64 now, .slice (some ⟨g, 0, none⟩) nr c, .slice (some ⟨tg, 0, none⟩) nt tcc] 38) = Y at *
  generalize W.heap.size = Wz at *
  generalize y.heap.size = Q at *
  obtain ⟨⟨t0, t1, t2⟩, _⟩ := cellk3 gQ
  cases op
  · obtain ⟨k1, k2⟩ := HNO.out rfl
    have HRN2 := hid (HRN.out rfl Y g c tg tcc _ _ _ _ (keepcell hB hg) HX1.out HX2.out)
    clear HNO HYE HRN HYS
    unfold zrun at HRN2
    go_wp2_with fail
    refine HRN2.out.mono ?_
    rintro e z ⟨rfl, hz⟩
    replace gZ := keepheapA hz gZ
    replace gQ := keepheapA hz gQ
    replace hB := btrans hB hz
    have hzz := hz.size
    replace HX1 := hid (HX1.out.below hz)
    replace HX2 := hid (HX2.out.below hz)
    clear hz t0 t1 t2 HRN2
    go_upto_region 3 with fail
    have hal : Below z.heap.size z (z.alloc (.cells #[.slice none 0 0, .int .i64 0, .bool false, .int .i64 0, .slice none 0 0] 104)) := balloc (Below.refl _ _) _
    replace gZ := keepheapA hal gZ
    replace gQ := keepheapA hal gQ
    replace hB := btrans hB hal
    replace HX1 := hid (HX1.out.below hal)
    replace HX2 := hid (HX2.out.below hal)
    have hvs := hal.size
    clear hal
    generalize z.alloc (.cells #[.slice none 0 0, .int .i64 0, .bool false, .int .i64 0, .slice none 0 0] 104) = V at *
    have hgv := keepcell hB hg
    go_wp2_with fail
    refine (is_hit 1 na _).mono ?_
    rintro e x ⟨rfl, hx⟩
    replace gZ := keepheapA hx gZ
    replace gQ := keepheapA hx gQ
    replace hB := btrans hB hx
    replace HX1 := hid (HX1.out.below hx)
    replace HX2 := hid (HX2.out.below hx)
    have hxs := hx.size
    clear hx hgv
    go_wp2_with fail
    have hex := keepcell hB he
    refine wp_region_held_drew (S := (fun w' => w'.heap[Q]? = some (.cells #[.int .i64 now, .slice (some ⟨g, 0, none⟩) nr c, .slice (some ⟨tg, 0, none⟩) nt tcc] 38 (0, 0)))) (by kernel_rfl) ?_ (fun hHeld => ?_)
    · exact gQ
    replace gQ : x.drew.heap[Q]? = some (.cells #[.int .i64 now, .slice (some ⟨g, 0, none⟩) nr c, .slice (some ⟨tg, 0, none⟩) nt tcc] 38 (0, 0)) := gQ
    replace gZ : x.drew.heap[w.heap.size + 1]? = some (.cells #[.int .i64 0, .slice none 0 0, .slice none 0 0] 38 (0, 0)) := gZ
    replace hB := bdrew hB
    replace HX1 := hid (HX1.out.below (bdrew (Below.refl _ _)))
    replace HX2 := hid (HX2.out.below (bdrew (Below.refl _ _)))
    have hex2 := keepcell hB he
    have hxd : x.heap.size ≤ x.drew.heap.size := Nat.le_refl _
    clear hex
    generalize x.drew = X at *
    refine wpAnyH_take (i := 0) (v := ?_) rfl (by kernel_rfl) (by kernel_rfl) (by kernel_rfl) (fun _ _ _ h => h) (Or.inl ⟨by rfl, ?_⟩) hHeld ?_
    rotate_left
    · intro w' hSw; (try dsimp only at hSw); obtain ⟨⟨_, _, _⟩, _⟩ := cellk3 hSw; go_simp; try (with_reducible rfl)
    try simp only [sq]
    refine wpAnyH_take (i := 1) (v := ?_) rfl (by kernel_rfl) (by kernel_rfl) (by kernel_rfl) (fun _ _ _ h => h) (Or.inl ⟨by rfl, ?_⟩) hHeld ?_
    rotate_left
    · intro w' hSw; (try dsimp only at hSw); go_simp; try (with_reducible rfl)
    try simp only [sq]
    refine wpAnyH_ready (rs := [2]) (by kernel_rfl) (by simp) ?_
    refine AllReadyH.cons rfl (fun K hK => ?_) AllReadyH.nil
    try simp only [sq]
    go_simp
    go_at_call 59
    refine (code_ref 1 _ _ rfl hex2).mono ?_
    rintro e XX ⟨rfl, hx⟩
    replace gZ := keepheapA hx gZ
    replace gQ := keepheapA hx gQ
    replace hB := btrans hB hx
    replace HX1 := hid (HX1.out.below hx)
    replace HX2 := hid (HX2.out.below hx)
    have hxs2 := hx.size
    clear hx hex2
    go_wp2_with fail
    refine hK.out _ _ ?_ (fun hHeld => ?_)
    · exact gQ
    clear hK K
    try simp only [sq]
    obtain ⟨⟨v0, v1, v2⟩, s0, s1, s2⟩ := cellk3 gZ
    refine wpAnyH_ready (rs := [3]) (by kernel_rfl) (by simp) ?_
    refine AllReadyH.cons rfl (fun K hK => ?_) AllReadyH.nil
    try simp only [sq]
    go_simp
    have HB := hid hB
    have hfq : (((XX.setCell ⟨w.heap.size + 1, 0, none⟩ (.int .i64 now)).setCell ⟨w.heap.size + 1, 1, none⟩ (.slice (some ⟨g, 0, none⟩) nr c)).setCell ⟨w.heap.size + 1, 2, none⟩ (.slice (some ⟨tg, 0, none⟩) nt tcc)).heap[Q]? = XX.heap[Q]? := by rw [Below.heap_setCell _ _ _ _ (by dsimp only; omega), Below.heap_setCell _ _ _ _ (by dsimp only; omega), Below.heap_setCell _ _ _ _ (by dsimp only; omega)]
    refine hK.out _ _ ?_ (fun hHeld => ?_)
    · exact hfq.trans gQ
    clear hK K hfq
    try simp only [sq]
    refine wpAnyH_take (i := 4) (v := ?_) rfl (by kernel_rfl) (by kernel_rfl) (by kernel_rfl) (fun _ _ _ h => h) (Or.inl ⟨by rfl, ?_⟩) hHeld ?_
    rotate_left
    · intro w' hSw; (try dsimp only at hSw); go_simp; try (with_reducible rfl)
    try simp only [sq]
    refine wpAnyH_done (by kernel_rfl) ?_ _
    clear hB v0 v1 v2 s0 s1 s2
    have gF := setk3 gZ (.int .i64 now) (.slice (some ⟨g, 0, none⟩) nr c) (.slice (some ⟨tg, 0, none⟩) nt tcc)
    have bF := (bset (bset (bset HB.out (q := w.heap.size + 1) (k := 0) (by omega) (.int .i64 now)) (q := w.heap.size + 1) (k := 1) (by omega) (.slice (some ⟨g, 0, none⟩) nr c)) (q := w.heap.size + 1) (k := 2) (by omega) (.slice (some ⟨tg, 0, none⟩) nt tcc))
    have hfar : ∀ b, b ≠ w.heap.size + 1 → (((XX.setCell ⟨w.heap.size + 1, 0, none⟩ (.int .i64 now)).setCell ⟨w.heap.size + 1, 1, none⟩ (.slice (some ⟨g, 0, none⟩) nr c)).setCell ⟨w.heap.size + 1, 2, none⟩ (.slice (some ⟨tg, 0, none⟩) nt tcc)).heap[b]? = XX.heap[b]? := fun b hb => by rw [Below.heap_setCell _ _ _ _ (by dsimp only; omega), Below.heap_setCell _ _ _ _ (by dsimp only; omega), Below.heap_setCell _ _ _ _ (by dsimp only; omega)]
    have x1 := HX1.out.frame (w' := (((XX.setCell ⟨w.heap.size + 1, 0, none⟩ (.int .i64 now)).setCell ⟨w.heap.size + 1, 1, none⟩ (.slice (some ⟨g, 0, none⟩) nr c)).setCell ⟨w.heap.size + 1, 2, none⟩ (.slice (some ⟨tg, 0, none⟩) nt tcc))) (fun b h1 h2 => hfar b (by omega)) (by simp)
    have x2 := HX2.out.frame (w' := (((XX.setCell ⟨w.heap.size + 1, 0, none⟩ (.int .i64 now)).setCell ⟨w.heap.size + 1, 1, none⟩ (.slice (some ⟨g, 0, none⟩) nr c)).setCell ⟨w.heap.size + 1, 2, none⟩ (.slice (some ⟨tg, 0, none⟩) nt tcc))) (fun b h1 h2 => hfar b (by omega)) (by simp)
    generalize (((XX.setCell ⟨w.heap.size + 1, 0, none⟩ (.int .i64 now)).setCell ⟨w.heap.size + 1, 1, none⟩ (.slice (some ⟨g, 0, none⟩) nr c)).setCell ⟨w.heap.size + 1, 2, none⟩ (.slice (some ⟨tg, 0, none⟩) nt tcc)) = wf at *
    obtain ⟨⟨z0, z1, z2⟩, _⟩ := cellk3 gF
    go_wp2_with fail
    exact bodyPost_ret (v := .tuple #[.agg #[.int .i64 now, .slice (some ⟨g, 0, none⟩) nr c, .slice (some ⟨tg, 0, none⟩) nt tcc], .int .i64 1]) (by simp [results, Tryz.results30, go_sem, z0, z1, z2]) rfl (sbs_mk k1 k2 HNR.out HNT.out x1 (LCH.lts (x2.hole (.inl (Nat.le_refl _)))) (by omega) (by omega) bF)
  · obtain ⟨m, rfl, hry, hdo⟩ := HYE.out rfl
    obtain ⟨k1, k2⟩ := HYS.out rfl
    have HRY := hid (hry Y g c tg tcc _ _ _ _ HX1.out HX2.out)
    have HDO := hid hdo
    clear HNO HYE HRN HYS hry hdo
    go_wp2_with fail
    refine HRY.out.mono ?_
    rintro e z ⟨⟨ca, cn, cc, st, rfl⟩, hz⟩
    replace gZ := keepheapA hz gZ
    replace gQ := keepheapA hz gQ
    replace hB := btrans hB hz
    have hzz := hz.size
    replace HX1 := hid (HX1.out.below hz)
    replace HX2 := hid (HX2.out.below hz)
    replace HXX := hid (HXX.out.below hz)
    clear hz t0 t1 t2 HRY
    go_upto_region 3 with fail
    have hal : Below z.heap.size z (z.alloc (.cells #[.slice ca cn cc, .int .i64 st, .bool true, .int .i64 now, .slice (some ⟨g, 0, none⟩) nr c] 104)) := balloc (Below.refl _ _) _
    replace gZ := keepheapA hal gZ
    replace gQ := keepheapA hal gQ
    replace hB := btrans hB hal
    replace HX1 := hid (HX1.out.below hal)
    replace HX2 := hid (HX2.out.below hal)
    replace HXX := hid (HXX.out.below hal)
    have hvs := hal.size
    clear hal
    generalize z.alloc (.cells #[.slice ca cn cc, .int .i64 st, .bool true, .int .i64 now, .slice (some ⟨g, 0, none⟩) nr c] 104) = V at *
    have hgv := keepcell hB hg
    go_wp2_with fail
    refine (is_none na _).mono ?_
    rintro e x ⟨rfl, hx⟩
    replace hx := hx.symm
    subst hx
    clear hgv
    have HD := hid (HDO.out V g c tg tcc _ _ Q hB (by omega) (by omega) gQ HX1.out ⟨px, HXX.out⟩)
    have htm2 := HX2.out
    have hgt : Wz ≤ tg ∧ tg < mid := by
      obtain ⟨_, ⟨_, q⟩ | ⟨g2, _, _, _, _, q, _, q1, q2, _⟩⟩ := htm2
      · cases q
      · cases q; exact ⟨q1, q2⟩
    clear HDO htm2
    go_wp2_with fail
    refine HD.out.mono ?_
    rintro e x ⟨rfl, hq1, hq2, hq3, hq4, hq5⟩
    replace gZ := (hq4 _ (by have := lt_of_block gZ; omega) (by omega) (by omega)).trans gZ
    replace gQ := hq1
    have HB : Hid (Below w.heap.size w x) := hid ⟨hq5.1.trans hB.os, hq5.2.1.trans hB.tape, hq5.2.2.trans hB.output, by have := hB.size; omega, fun b hb => (hq4 b (by have := hB.size; omega) (by omega) (by omega)).trans (hB.block b hb)⟩
    replace HX1 := hid ((HX1.out.frame (w' := x) (fun b h1 h2 => hq4 b (by omega) (by omega) (by omega)) hq3).wide2 (hi' := Q + 1) (by omega) (by omega))
    have HX3 := hid hq2
    clear hq1 hq2 hq4 hq5 hB HX2 HD
    obtain ⟨⟨v0, v1, v2⟩, s0, s1, s2⟩ := cellk3 gZ
    obtain ⟨⟨t0, t1, t2⟩, _⟩ := cellk3 gQ
    go_wp2_with fail
    have gF := setk3 gZ (.int .i64 now) (.slice (some ⟨g, 0, none⟩) nr c) (.slice (some ⟨tg, 0, none⟩) nt tcc)
    have bF := (bset (bset (bset HB.out (q := w.heap.size + 1) (k := 0) (by omega) (.int .i64 now)) (q := w.heap.size + 1) (k := 1) (by omega) (.slice (some ⟨g, 0, none⟩) nr c)) (q := w.heap.size + 1) (k := 2) (by omega) (.slice (some ⟨tg, 0, none⟩) nt tcc))
    have hfar : ∀ b, b ≠ w.heap.size + 1 → (((x.setCell ⟨w.heap.size + 1, 0, none⟩ (.int .i64 now)).setCell ⟨w.heap.size + 1, 1, none⟩ (.slice (some ⟨g, 0, none⟩) nr c)).setCell ⟨w.heap.size + 1, 2, none⟩ (.slice (some ⟨tg, 0, none⟩) nt tcc)).heap[b]? = x.heap[b]? := fun b hb => by rw [Below.heap_setCell _ _ _ _ (by dsimp only; omega), Below.heap_setCell _ _ _ _ (by dsimp only; omega), Below.heap_setCell _ _ _ _ (by dsimp only; omega)]
    have x1 := HX1.out.frame (w' := (((x.setCell ⟨w.heap.size + 1, 0, none⟩ (.int .i64 now)).setCell ⟨w.heap.size + 1, 1, none⟩ (.slice (some ⟨g, 0, none⟩) nr c)).setCell ⟨w.heap.size + 1, 2, none⟩ (.slice (some ⟨tg, 0, none⟩) nt tcc))) (fun b h1 h2 => hfar b (by omega)) (by simp)
    have x2 := HX3.out.frame (w' := (((x.setCell ⟨w.heap.size + 1, 0, none⟩ (.int .i64 now)).setCell ⟨w.heap.size + 1, 1, none⟩ (.slice (some ⟨g, 0, none⟩) nr c)).setCell ⟨w.heap.size + 1, 2, none⟩ (.slice (some ⟨tg, 0, none⟩) nt tcc))) (fun b h1 h2 h3 => hfar b (by omega)) (by simp)
    generalize (((x.setCell ⟨w.heap.size + 1, 0, none⟩ (.int .i64 now)).setCell ⟨w.heap.size + 1, 1, none⟩ (.slice (some ⟨g, 0, none⟩) nr c)).setCell ⟨w.heap.size + 1, 2, none⟩ (.slice (some ⟨tg, 0, none⟩) nt tcc)) = wf at *
    obtain ⟨⟨z0, z1, z2⟩, _⟩ := cellk3 gF
    exact bodyPost_ret (v := .tuple #[.agg #[.int .i64 now, .slice (some ⟨g, 0, none⟩) nr c, .slice (some ⟨tg, 0, none⟩) nt tcc], .int .i64 code]) (by simp [results, Tryz.results30, go_sem, z0, z1, z2]) rfl (sbs_mk k1 k2 HNR.out hl2 x1 x2 (by omega) (by omega) bF)
end Go.Proofs.YtnajddjalagmoaaGreatDoor
namespace Go.Proofs.YtnajddjalagmoaaGreatDoor
open Go.RowKit
set_option linter.unusedSimpArgs false
set_option linter.unusedVariables false
theorem LCH.wide {α : Type} {K : Kd α} {base hi hi' p q : Nat} {w : World} {v : Value} {xs : List α} (h : LCH K base hi p q w v xs) (e1 : hi ≤ hi') (e2 : hi' ≤ w.heap.size) : LCH K base hi' p q w v xs := by
  obtain ⟨_, h | ⟨g, cap, ss, lo, up, a1, a2, a3, a4, a5, a6, a7, a8⟩⟩ := h
  · exact ⟨e2, .inl h⟩
  · refine ⟨e2, .inr ⟨g, cap, ss, lo, up, a1, a2, a3, by omega, a5, fun j hj => ?_, a7, a8⟩⟩
    obtain ⟨b1, b2, b3, b4⟩ := a6 j hj
    exact ⟨b1, b2, by omega, b4⟩
/-- What a step leaves of the changes of one transaction, and of all else. -/
def PD (W : World) (P tg lo up : Nat) (cs2 : List Ch) (z : World) (na : Option Addr) (nn nc : Nat) : Prop :=
  (∀ w' : World, (∀ b, b < z.heap.size → b ≠ P → b ≠ tg → w'.heap[b]? = z.heap[b]?) → z.heap.size ≤ w'.heap.size → LCH KN lo w'.heap.size up W.heap.size w' (.slice na nn nc) cs2) ∧ (∀ b, b < W.heap.size → (b < lo ∨ up ≤ b) → z.heap[b]? = W.heap[b]?) ∧ W.heap.size ≤ z.heap.size ∧ (z.os = W.os ∧ z.tape = W.tape ∧ z.output = W.output)
/-- What do leaves. -/
def DQ (W : World) (now code : Int) (g rn c tg tn tcc b2 u2 P : Nat) (ts2 : List Tx) (e : Ending) (w' : World) : Prop :=
  e = .returned (.int .i64 code) ∧ w'.heap[P]? = some (.cells #[.int .i64 now, .slice (some ⟨g, 0, none⟩) rn c, .slice (some ⟨tg, 0, none⟩) tn tcc] 38 (0, 0)) ∧ LTS b2 w'.heap.size u2 (P + 1) w' (.slice (some ⟨tg, 0, none⟩) tn tcc) ts2 ∧ W.heap.size ≤ w'.heap.size ∧ (∀ b, b < W.heap.size → b ≠ P → (b < b2 ∨ u2 ≤ b) → w'.heap[b]? = W.heap[b]?) ∧ (w'.os = W.os ∧ w'.tape = W.tape ∧ w'.output = W.output)
end Go.Proofs.YtnajddjalagmoaaGreatDoor
namespace Go.Proofs.YtnajddjalagmoaaGreatDoor
open Go.RowKit
set_option linter.unusedSimpArgs false
set_option linter.unusedVariables false
set_option maxRecDepth 100000 in
set_option maxHeartbeats 4000000 in
theorem impl_seen {N1 N3 : Nat → Prop} (now : Int) (a ca : Option Addr) (cap ccap : Nat) (rs : List Rw) (cs : List Ch) (st : Int) (op : Bool) (id : Int) (w : World) (hm : rs.length ≤ 1099511627776) (hcm : cs.length ≤ 1099511627776) (hr : Rws N1 w a rs) (hc : Chs N3 1099511627776 w ca cs) (hrb : rowsb now rs = true) (hed : edb cs = true) : Calls Tryz.prog 73 #[.agg #[.slice ca cs.length ccap, .int .i64 st, .bool op, .int .i64 now, .slice a rs.length cap], .int .i64 id] w fun e w' => SA w (seK rs cs id st) (seP rs cs id st) (seB rs cs id st) e w' := by
  have HP := hid (fun (W : World) (hb : Below w.heap.size w W) => place_c ca ccap cs id W hcm (hc.below hb) (edb_asc hed))
  have HS := hid (fun (W : World) (hb : Below w.heap.size w W) => impl_shapeAt now a cap rs id st W hm (hr.below hb) (rowsb_pos hrb))
  have HCS := hid hc
  have HPOS := hid (edb_pos hed)
  have HAS := hid (edb_asc hed)
  clear hr hc hrb hed
  have HY := hid (fun i h hb hi => se_some (rs := rs) (cs := cs) (id := id) (t := st) (i := i) h hb hi)
  have HNO := hid (fun hb => se_none (rs := rs) (cs := cs) (id := id) (t := st) hb)
  generalize seK rs cs id st = sk at *
  generalize seP rs cs id st = sp at *
  generalize seB rs cs id st = sb at *
  generalize raK (rat rs id st) = rk at *
  generalize raP (rat rs id st) = rp at *
  generalize (rat rs id st).isSome = rb at *
  generalize rs.length = rn at *
  obtain ⟨n, hn⟩ : ∃ n, n = cs.length := ⟨_, rfl⟩
  have HN := hid hn.symm
  rw [← hn] at hcm HP ⊢
  clear hn
  have hB0 : Below w.heap.size w ((w.alloc (.cells #[.slice ca n ccap, .int .i64 st, .bool op, .int .i64 now, .slice a rn cap] 104)).alloc (.cells #[.int .i64 0, .slice none 0 0] 44)) := balloc (balloc (Below.refl _ _) _) _
  have g0 := old_alloc (o' := (.cells #[.int .i64 0, .slice none 0 0] 44)) (new_alloc w w.heap.size (.cells #[.slice ca n ccap, .int .i64 st, .bool op, .int .i64 now, .slice a rn cap] 104) rfl)
  have g1 := new_alloc (w.alloc (.cells #[.slice ca n ccap, .int .i64 st, .bool op, .int .i64 now, .slice a rn cap] 104)) (w.heap.size + 1) (.cells #[.int .i64 0, .slice none 0 0] 44) (by simp)
  go_enter Tryz.func73, Tryz.ntmps73
  go_upto_region 1 with fail
  generalize (w.alloc (.cells #[.slice ca n ccap, .int .i64 st, .bool op, .int .i64 now, .slice a rn cap] 104)).alloc (.cells #[.int .i64 0, .slice none 0 0] 44) = W0 at *
  obtain ⟨⟨d0, d1, d2, d3, d4⟩, _⟩ := cell5g g0
  go_wp2_with fail
  refine (HP.out _ hB0).mono ?_
  rintro e z ⟨i, rfl, hin, hlo, hhi, hz⟩
  replace g0 := keepheapA hz g0
  have HG1 := hid (keepheapA hz g1)
  have HB := hid (btrans hB0 hz)
  have HLO := hid hlo
  have HHI := hid hhi
  clear hB0 hz HP d0 d1 d2 d3 d4 g1 hlo hhi
  obtain ⟨⟨d0, d1, d2, d3, d4⟩, _⟩ := cell5g g0
  obtain ⟨v0, v1, w0, w1⟩ := cell2r HG1.out
  by_cases hf : i < n ∧ idc cs i = id
  · have hq : (decide (i < n) && decide (idc cs i = id)) = true := by simp [hf.1, hf.2]
    rw [hq]
    have hlt := hf.1
    have hir : i < cs.length := by rw [HN.out]; exact hlt
    have hid2 := hf.2
    rw [idc_at hir] at hid2
    have HYES := hid (HY.out i hir (fun m h h' => by have := HLO.out m h'; rw [idc_at h] at this; omega) hid2)
    clear hq hf hid2
    obtain ⟨b', o', rfl, hbs', a', cap', x0, x1, x2, x3, x4, x5, x6, _⟩ := (HCS.out.below HB.out).at i hir
    have HPS := hid (HPOS.out i hir)
    have K7 := hid x6
    have c1 : (i : Int) < (n : Int) := by omega
    clear x4 x6 HY HNO
    generalize cs[i].1 = id2 at *
    generalize cs[i].2.1 = gn at *
    generalize cs[i].2.2.1 = kd at *
    generalize cs[i].2.2.2 = ps at *
    cases gn
    · obtain ⟨e1, e2, e3⟩ := HYES.out.2 rfl
      subst e1; subst e2; subst e3
      have hps := HPS.out rfl
      go_wp2_with fail
      have gF := set2r HG1.out (.int .i64 sk) (.slice a' sp.length cap')
      have bF := bset (bset HB.out (q := w.heap.size + 1) (k := 0) (by omega) (.int .i64 sk)) (q := w.heap.size + 1) (k := 1) (by omega) (.slice a' sp.length cap')
      have oF := pts_off K7.out hps (by intro i h; cases h) HG1.out (.int .i64 sk) (.slice a' sp.length cap')
      generalize (z.setCell ⟨w.heap.size + 1, 0, none⟩ (.int .i64 sk)).setCell ⟨w.heap.size + 1, 1, none⟩ (.slice a' sp.length cap') = wf at *
      obtain ⟨z0, z1, _, _⟩ := cell2r gF
      exact bodyPost_ret (v := .tuple #[.agg #[.int .i64 sk, .slice a' sp.length cap'], .bool true]) (by simp [results, Tryz.results73, go_sem, z0, z1]) rfl ⟨a', cap', rfl, .inr ⟨rfl, hps, x5, oF⟩, bF⟩
    · obtain ⟨e1, e2, e3⟩ := HYES.out.1 rfl
      subst e1; subst e2; subst e3
      go_wp2_with fail
      have gF := set2r HG1.out (.int .i64 0) (.slice none 0 0)
      have bF := bset (bset HB.out (q := w.heap.size + 1) (k := 0) (by omega) (.int .i64 0)) (q := w.heap.size + 1) (k := 1) (by omega) (.slice none 0 0)
      generalize (z.setCell ⟨w.heap.size + 1, 0, none⟩ (.int .i64 0)).setCell ⟨w.heap.size + 1, 1, none⟩ (.slice none 0 0) = wf at *
      obtain ⟨z0, z1, _, _⟩ := cell2r gF
      exact bodyPost_ret (v := .tuple #[.agg #[.int .i64 0, .slice none 0 0], .bool false]) (by simp [results, Tryz.results73, go_sem, z0, z1]) rfl ⟨none, 0, rfl, .inl ⟨rfl, rfl, rfl, rfl⟩, bF⟩
  · have hq : (decide (i < n) && decide (idc cs i = id)) = false := by
      by_cases h1 : i < n
      · have : ¬ idc cs i = id := fun h => hf ⟨h1, h⟩
        simp [this]
      · simp [h1]
    rw [hq]
    obtain ⟨e1, e2, e3⟩ := HNO.out (fun m h e => by
      have hmn : m < n := by rw [← HN.out]; exact h
      have hm1 := idc_at h
      by_cases h1 : m < i
      · have := HLO.out m h1; omega
      · by_cases h2 : m = i
        · subst h2; exact hf ⟨hmn, by omega⟩
        · have h3 := HAS.out i m (by omega) h
          have h4 := HHI.out i (Nat.le_refl _) (by omega)
          omega)
    subst e1; subst e2; subst e3
    have SR := hid (HS.out z HB.out)
    clear hq hf HY HNO
    go_wp2_with fail
    refine SR.out.mono ?_
    rintro e y ⟨a', cap', rfl, hh, hy⟩
    have g1 := keepheapA hy HG1.out
    have HBy := hid (btrans HB.out hy)
    have HH := hid hh
    clear hh hy d0 d1 d2 d3 d4 v0 v1 w0 w1 SR HS
    obtain ⟨v0, v1, w0, w1⟩ := cell2r g1
    go_wp2_with fail
    have gF := set2r g1 (.int .i64 sk) (.slice a' sp.length cap')
    have bF := bset (bset HBy.out (q := w.heap.size + 1) (k := 0) (by omega) (.int .i64 sk)) (q := w.heap.size + 1) (k := 1) (by omega) (.slice a' sp.length cap')
    have oF : (sb = false ∧ a' = none ∧ cap' = 0 ∧ sp = []) ∨ (sb = true ∧ 0 < sp.length ∧ sp.length ≤ 1099511627776 ∧ Pts ((y.setCell ⟨w.heap.size + 1, 0, none⟩ (.int .i64 sk)).setCell ⟨w.heap.size + 1, 1, none⟩ (.slice a' sp.length cap')) a' sp) := by
      rcases HH.out with h | ⟨h1, h2, h3, h4⟩
      · exact .inl h
      · exact .inr ⟨h1, h2, h3, pts_off h4 h2 (by intro i h; cases h) g1 _ _⟩
    generalize (y.setCell ⟨w.heap.size + 1, 0, none⟩ (.int .i64 sk)).setCell ⟨w.heap.size + 1, 1, none⟩ (.slice a' sp.length cap') = wf at *
    obtain ⟨z0, z1, _, _⟩ := cell2r gF
    exact bodyPost_ret (v := .tuple #[.agg #[.int .i64 sk, .slice a' sp.length cap'], .bool sb]) (by simp [results, Tryz.results73, go_sem, z0, z1]) rfl ⟨a', cap', rfl, oF, bF⟩
end Go.Proofs.YtnajddjalagmoaaGreatDoor
