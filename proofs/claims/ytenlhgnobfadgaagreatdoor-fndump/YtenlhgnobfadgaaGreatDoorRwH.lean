import Derived.Test.YtenlhgnobfadgaaGreatDoorJ11
set_option maxRecDepth 100000
set_option maxHeartbeats 4000000
set_option linter.unusedSimpArgs false
set_option linter.unusedVariables false
namespace Go.Proofs.YtenlhgnobfadgaaGreatDoor
open Go.RowKit
def fli (zs : List Int) : List Value := zs.map (Value.int .i64)
theorem fli_len (zs : List Int) : (fli zs).length = zs.length := by simp [fli]
theorem fli_one (zs : List Int) : ∀ u ∈ fli zs, u.oneCell' = true := by
 intro u hu
 simp only [fli, List.mem_map] at hu
 obtain ⟨z, _, rfl⟩ := hu
 rfl
theorem own_newI {w : World} {B : Nat} (hB : B ≤ w.heap.size) : (w.alloc (.cells #[] 3)).ownsRow B 3 1 (.slice (some ⟨w.heap.size, 0, none⟩) 0 0) 0 [] := by
 have := World.ownsRow_made (base := B) (e := 3) (size := 1) w #[] 0 hB (by decide) rfl
 simpa using this
theorem own_newI2 {w : World} {B X : Nat} (hB : B ≤ w.heap.size) (hX : w.heap.size = X) : (w.alloc (.cells #[] 3)).ownsRow B 3 1 (.slice (some ⟨X, 0, none⟩) 0 0) 0 [] := by
 subst hX; exact own_newI hB
theorem own_cell {w : World} {B g n cap : Nat} {zs : List Int} (h : w.ownsRow B 3 1 (.slice (some ⟨g, 0, none⟩) n cap) n (fli zs)) (hn : zs.length = n) {k : Nat} (hk : k < n) : w.cell? ⟨g, k, none⟩ = some (.int .i64 (zs.getD k 0)) := by
 rw [World.ownsRow.cellAt h k (by omega)]
 simp [fli, List.getD_eq_getElem?_getD, List.getElem?_eq_getElem (show k < zs.length by omega)]
theorem own_I {w : World} {B g n cap : Nat} {zs : List Int} (h : w.ownsRow B 3 1 (.slice (some ⟨g, 0, none⟩) n cap) n (fli zs)) (hn : zs.length = n) : B ≤ g ∧ n ≤ cap ∧ OwnI w (some ⟨g, 0, none⟩) zs := by
 have h' := h
 rcases h.2 with ⟨q, _⟩ | ⟨g', cap', cur, e, hb, hg, hc, _⟩
 ·cases q
 ·cases e
  refine ⟨hb, hc, .inr ⟨g, rfl, (Array.getElem?_eq_some_iff.1 hg).1, fun k hk => ?_, fun j hj => ?_⟩⟩
  ·rw [Nat.zero_add]; exact own_cell h' hn (by omega)
  ·simp only [Nat.zero_add]
   refine ⟨?_, World.ownsRow.frozenAt h' j⟩
   rw [own_cell h' hn (by omega)]; rfl
theorem news_i {w V : World} {B g n cap : Nat} {zs : List Int} (o : Nat) (ys : List Int) (h : w.ownsRow B 3 1 (.slice (some ⟨g, 0, none⟩) n cap) n (fli zs)) (hn : zs.length = n) (hB : Below w.heap.size w V) (hy : ∀ k, k < ys.length → o + k < zs.length ∧ ys.getD k 0 = zs.getD (o + k) 0) : ∀ j u, (fli ys)[j]? = some u → V.cell? ((⟨g, o, none⟩ : Addr).add j) = some u := by
 intro j u hu
 have hj : j < ys.length := by rw [← fli_len]; exact (List.getElem?_eq_some_iff.1 hu).1
 obtain ⟨h1, h2⟩ := hy j hj
 rw [Addr.add_mid]
 have c := keepcell hB (own_cell (k := o + j) h hn (by omega))
 rw [c, ← hu, ← h2]
 simp [fli, List.getD_eq_getElem?_getD, List.getElem?_eq_getElem hj]
theorem news_1 {W : World} {X : Nat} {x : Int} (h : W.cell? ⟨X, 0, none⟩ = some (.int .i64 x)) : ∀ j u, (fli [x])[j]? = some u → W.cell? ((⟨X, 0, none⟩ : Addr).add j) = some u := by
 intro j u hu
 have hj : j = 0 := by have := (List.getElem?_eq_some_iff.1 hu).1; simp [fli] at this; omega
 subst hj
 simp [fli] at hu
 rw [Addr.add_mid, ← hu]
 exact h
theorem take_at (zs : List Int) (j k : Nat) (h : k < (zs.take j).length) : 0 + k < zs.length ∧ (zs.take j).getD k 0 = zs.getD (0 + k) 0 := by
 simp at h
 refine ⟨by omega, ?_⟩
 simp [List.getD_eq_getElem?_getD, List.getElem?_take, show k < j by omega]
theorem drop_at (zs : List Int) (j k : Nat) (h : k < (zs.drop j).length) : j + k < zs.length ∧ (zs.drop j).getD k 0 = zs.getD (j + k) 0 := by
 simp at h
 refine ⟨by omega, ?_⟩
 simp [List.getD_eq_getElem?_getD, List.getElem?_drop]
theorem step_append_any {P : Program} {w : World} {ops : Array Oper} {o : Oper} {a : Act} {K : Act → World → Prop} {Q : Exit → Act → World → Prop} {E : Prop} (hgd : o.guard = none) (s x : Operand) (t : TypeId)
  (ho : o.op = .call { callee := .builtin .append, args := #[s, x], argTypes := #[t, t] })
  (base : Nat) (e : TypeId) (i : TypeInfo) (z : Value) (size bytes : Nat) (ht : P.underlying t = some (.slice e)) (hi : P.info? e = some i) (hz : i.zero = some z)
  (hsize : i.size = size) (hby : i.bytes = bytes) (hzs : z.cells.size = size) (hsz : 0 < size)
  (g0 n0 cap0 : Nat) (n : Nat) (xs : List Value) (hs : a.eval s = .slice (some ⟨g0, 0, none⟩) n0 cap0) (hown : w.ownsRow base e size (.slice (some ⟨g0, 0, none⟩) n0 cap0) n xs)
  (ad : Addr) (m c : Nat) (news : List Value) (hx : a.eval x = .slice (some ad) m c) (hl : news.length = m * size) (hnews : ∀ j u, news[j]? = some u → w.cell? (ad.add j) = some u) (h1 : ∀ u ∈ news, u.oneCell' = true)
  (h63 : n + m ≤ maxLen) (hbytes : (n + m) * bytes ≤ 140737488355328) (hbase : base ≤ w.heap.size)
  (h : ∀ g cap w', w'.ownsRow base e size (.slice (some ⟨g, 0, none⟩) (n + m) cap) (n + m) (xs ++ news) → w.grownBy w' (some g0) → (g = g0 ∨ g = w.heap.size) → K (a.put o.dst (.slice (some ⟨g, 0, none⟩) (n + m) cap)) w') :
  if Region.wanted o (yielded ops a.tmps) = true then Oper.wp P o a w K Q else E := by
 have hw : Region.wanted o (yielded ops a.tmps) = true := by simp [Region.wanted, hgd]
 rw [if_pos hw]
 obtain ⟨v', w', hr, h2, h3, h4, h5⟩ := run_append_own_at (P := P) w base t o.type e i z size bytes ht hi hz hsize hby hzs hsz _ n xs hown ad m c news hl hnews h1 h63 hbytes hbase
 have hne : v' ≠ .slice none 0 0 := fun e => by have := (h4.1 e).1; cases this
 obtain ⟨g, cap, cur, rfl, _⟩ : ∃ g cap cur, v' = .slice (some ⟨g, 0, none⟩) (n + m) cap ∧ cur = () := by
  rcases h2.2 with ⟨q, _⟩ | ⟨g, cap, cur, e, _⟩
  ·exact absurd q hne
  ·exact ⟨g, cap, (), e, rfl⟩
 unfold Oper.wp execOp
 simp only [ho, resolve, invoke, builtin, Sem.run_bind, Sem.run_pure, Result.andThen_ok, List.map_toArray, List.map_cons, List.map_nil, hs, hx, hr]
 refine h g cap w' h2 h3 ?_
 rcases h5 with h5 | h5
 ·left; simpa [Value.ownBlock] using h5
 ·right; simpa [Value.ownBlock] using h5
theorem add_c (B g n cap : Nat) (zs : List Int) (x : Int) (w : World) (hm : n ≤ 1099511627776) (hn : zs.length = n) (hc : n ≤ cap) (hgs : g < w.heap.size) (h : w.ownsRow B 3 1 (.slice (some ⟨g, 0, none⟩) n cap) n (fli zs)) : Calls Tryz.prog 76 #[.slice (some ⟨g, 0, none⟩) n cap, .int .i64 x] w fun e w' => ∃ j g' cap', j ≤ n ∧ (∀ k, k < j → zs.getD k 0 < x) ∧ (j < n → x ≤ zs.getD j 0) ∧ e = .returned (.slice (some ⟨g', 0, none⟩) (n + 1) cap') ∧ w'.ownsRow w.heap.size 3 1 (.slice (some ⟨g', 0, none⟩) (n + 1) cap') (n + 1) (fli (zs.take j ++ x :: zs.drop j)) ∧ Below w.heap.size w w' := by
 obtain ⟨i0, hi0, hz0, hz1, hz2⟩ := info_parts Tryz.infoI
 have HO := hid h
 have HN := hid hn
 have hcc : ∀ k, k < n → w.cell? ⟨g, k, none⟩ = some (.int .i64 (zs.getD k 0)) := fun k hk => own_cell h hn hk
 have HCC := hid hcc
 clear h hn hcc
 go_enter Tryz.func76, Tryz.ntmps76
 go_wp2_with fail
 go_loopw [5] (fun ti wr => ∃ j : Nat, ti = .int .i64 j ∧ j ≤ n ∧ Hid (∀ k, k < j → zs.getD k 0 < x) ∧ wr = w) (fun ti _ => n - (intOf ti).toNat)
 case atStart => exact ⟨0, rfl, Nat.zero_le _, hid (fun k h => absurd h (by omega)), rfl⟩
 case round =>
  obtain ⟨j, rfl, hj, HL, hw⟩ := hrel
  subst hw
  have hgo : (j < n → x ≤ zs.getD j 0) ∨ (j < n ∧ zs.getD j 0 < x) := by
   by_cases h1 : j < n
   ·by_cases h2 : zs.getD j 0 < x
    ·exact .inr ⟨h1, h2⟩
    ·exact .inl (fun _ => by omega)
   ·exact .inl (fun h => absurd h h1)
  rcases hgo with hgo | ⟨hlt, hx⟩
  rotate_left
  ·have c1 : (j : Int) < (n : Int) := by omega
   have d0 := HCC.out j hlt
   have HX : Hid (∀ k, k < j + 1 → zs.getD k 0 < x) := hid (fun k hk => by
    by_cases e : k = j
    ·subst e; exact hx
    ·exact HL.out k (by omega))
   generalize zs.getD j 0 = z at *
   go_wp2_with fail
   go_roundw
   case rel => exact ⟨j + 1, by go_num, by omega, HX, by first | rfl | trivial⟩
   case measure => simp [intOf]; omega
  have HGO := hid hgo
  have hj0 : (0 : Int) ≤ (j : Int) := by omega
  have hj1 : (j : Int) ≤ (n : Int) := by omega
  have hj2 : (j : Int) ≤ (cap : Int) := by omega
  have hnc : (n : Int) ≤ (cap : Int) := by omega
  have htl : (zs.take j).length = j := by rw [List.length_take, HN.out]; omega
  have hdl : (zs.drop j).length = n - j := by rw [List.length_drop, HN.out]
  have HEND : Hid (∀ (W : World) (g' c' : Nat), W.ownsRow wr.heap.size 3 1 (.slice (some ⟨g', 0, none⟩) (j + 1 + (n - j)) c') (j + 1 + (n - j)) ((fli (zs.take j) ++ fli [x]) ++ fli (zs.drop j)) → W.ownsRow wr.heap.size 3 1 (.slice (some ⟨g', 0, none⟩) (n + 1) c') (n + 1) (fli (zs.take j ++ x :: zs.drop j))) := hid (fun W g' c' h => by
   have e1 : j + 1 + (n - j) = n + 1 := by omega
   have e2 : (fli (zs.take j) ++ fli [x]) ++ fli (zs.drop j) = fli (zs.take j ++ x :: zs.drop j) := by simp [fli]
   rw [e1, e2] at h
   exact h)
  have HSTOP : Hid (j < n ∨ j = n) := hid (by omega)
  clear hgo
  by_cases hlt : j < n
  ·have c1 : (j : Int) < (n : Int) := by omega
   have hnx : ¬ (zs.getD j 0 < x) := by have := HGO.out hlt; omega
   have d0 := HCC.out j hlt
   have HNX := hid hnx
   have hnx2 : x ≤ zs.getD j 0 := by omega
   have hcj : ¬ cap = j := by omega
   generalize hz : zs.getD j 0 = z at d0 hnx2
   have HZ := hid hz
   clear hz hnx
   go_wp2_with fail
   clear d0
   go_region_held3 (fun w' => True) (trivial)
    (first
     | (refine step_append_any (by rfl) (.tmp 20) (.tmp 23) 37 (by rfl) wr.heap.size 3 i0 _ 1 8 Tryz.underlying37 hi0 hz0 hz1 hz2 rfl (by omega) _ _ _ 0 [] (by rfl) (by first | with_reducible exact (own_newI (Nat.le_refl _)).drew | with_reducible exact ((own_newI (Nat.le_refl _)).alloc _).drew | with_reducible exact (own_newI2 (by simp) (by simp)).drew) ⟨g, 0, none⟩ j _ (fli (zs.take j)) (by rfl) (by rw [fli_len, htl]; omega) (news_i 0 _ HO.out HN.out (by (with_reducible repeat (first | exact Below.refl _ _ | assumption | (refine btrans ?_ (by assumption)) | refine bdrew ?_ | refine balloc ?_ _))) (take_at zs j)) (fli_one _) (by unfold maxLen; omega) (by omega) (by first | (simp; done) | (simp; omega) | omega) ?_; intro g1 c1 w1 hown1 hgrow1 hat1; simp only [Nat.zero_add, List.nil_append] at hown1; have hownZ : w1.ownsRow wr.heap.size 3 1 (.slice (some ⟨g1, 0, none⟩) (0 + j) c1) j (fli (zs.take j)) := (by rw [Nat.zero_add]; exact hown1); have hB1 : Below wr.heap.size wr w1 := Below.grown (show Below wr.heap.size wr _ by (with_reducible repeat (first | exact Below.refl _ _ | assumption | (refine btrans ?_ (by assumption)) | refine bdrew ?_ | refine balloc ?_ _))) hgrow1 (by first | (simp; done) | (simp; omega)) (fun k e => by cases e; first | omega | (simp; done)); have hgl1 := (hown1.lt g1 rfl).2; (first | (have hX1 : w1.cell? ⟨wr.heap.size + 1, 0, none⟩ = some (.int .i64 x) := by refine hgrow1.cell ?_ (by simp); ( (with_reducible repeat (first | assumption | refine keepdrew ?_ | (refine newcell _ _ _ _ _ _ ?_ rfl; simp; done) | refine keepalloc ?_ _)); done)) | (have hX1 : w1.cell? ⟨wr.heap.size, 0, none⟩ = some (.int .i64 x) := by refine hgrow1.cell ?_ (by simp); ((with_reducible repeat (first | assumption | refine keepdrew ?_ | (refine newcell _ _ _ _ _ _ ?_ rfl; simp; done) | refine keepalloc ?_ _)); done)) | skip))
     | (refine step_append_any (by rfl) (.tmp 24) (.tmp 26) 37 (by rfl) wr.heap.size 3 i0 _ 1 8 Tryz.underlying37 hi0 hz0 hz1 hz2 rfl (by omega) _ _ _ j (fli (zs.take j)) (by rfl) (by first | with_reducible exact hown1 | with_reducible exact hownZ | with_reducible exact hown1.alloc _ | with_reducible exact hownZ.alloc _) _ 1 1 (fli [x]) (by rfl) (by rfl) (by first | with_reducible exact news_1 hX1 | with_reducible exact news_1 (by (with_reducible repeat (first | assumption | refine keepdrew ?_ | (refine newcell _ _ _ _ _ _ ?_ rfl; simp; done) | refine keepalloc ?_ _)); done)) (fli_one _) (by unfold maxLen; omega) (by omega) (by first | exact hB1.size | (have := hB1.size; simp; omega)) ?_; intro g2 c2 w2 hown2 hgrow2 hat2; have hB2 : Below wr.heap.size wr w2 := Below.grown (show Below wr.heap.size wr _ by (with_reducible repeat (first | exact Below.refl _ _ | assumption | (refine btrans ?_ (by assumption)) | refine bdrew ?_ | refine balloc ?_ _))) hgrow2 (by first | exact hB1.size | (have := hB1.size; simp; omega)) (fun k e => by cases e; exact (hown1.lt _ rfl).1))
     | (refine step_append_any (by rfl) (.tmp 27) (.tmp 30) 37 (by rfl) wr.heap.size 3 i0 _ 1 8 Tryz.underlying37 hi0 hz0 hz1 hz2 rfl (by omega) _ _ _ (j + 1) (fli (zs.take j) ++ fli [x]) (by rfl) (hown2) _ (n - j) _ (fli (zs.drop j)) (by rfl) (by rw [fli_len, hdl]; omega) (by first | exact news_i j _ HO.out HN.out hB2 (drop_at zs j) | exact news_i 0 _ HO.out HN.out hB2 (fun k hk => absurd hk (by rw [hdl]; omega))) (fli_one _) (by unfold maxLen; omega) (by omega) (hB2.size) ?_; intro g3 c3 w3 hown3 hgrow3 hat3; have hB3 : Below wr.heap.size wr w3 := Below.grown hB2 hgrow3 hB2.size (fun k e => by cases e; exact (hown2.lt _ rfl).1)))
   all_goals
    have HO3 := hid (HEND.out _ _ _ hown3)
    have HB3 := hid hB3
    clear hown1 hownZ hown2 hown3 hgrow1 hgrow2 hgrow3 hB1 hB2 hB3
    go_wp2_with fail
    go_ret
    exact ⟨j, g3, c3, hj, HL.out, HGO.out, by rw [show j + 1 + (n - j) = n + 1 by omega]; rfl, HO3.out, HB3.out⟩
  ·have c1 : (n : Int) ≤ (j : Int) := by omega
   by_cases hcj : cap = j
   ·go_wp2_with fail
    go_region_held3 (fun w' => True) (trivial)
     (first
      | (refine step_append_any (by rfl) (.tmp 20) (.tmp 23) 37 (by rfl) wr.heap.size 3 i0 _ 1 8 Tryz.underlying37 hi0 hz0 hz1 hz2 rfl (by omega) _ _ _ 0 [] (by rfl) (by first | with_reducible exact (own_newI (Nat.le_refl _)).drew | with_reducible exact ((own_newI (Nat.le_refl _)).alloc _).drew | with_reducible exact (own_newI2 (by simp) (by simp)).drew) ⟨g, 0, none⟩ j _ (fli (zs.take j)) (by rfl) (by rw [fli_len, htl]; omega) (news_i 0 _ HO.out HN.out (by (with_reducible repeat (first | exact Below.refl _ _ | assumption | (refine btrans ?_ (by assumption)) | refine bdrew ?_ | refine balloc ?_ _))) (take_at zs j)) (fli_one _) (by unfold maxLen; omega) (by omega) (by first | (simp; done) | (simp; omega) | omega) ?_; intro g1 c1 w1 hown1 hgrow1 hat1; simp only [Nat.zero_add, List.nil_append] at hown1; have hownZ : w1.ownsRow wr.heap.size 3 1 (.slice (some ⟨g1, 0, none⟩) (0 + j) c1) j (fli (zs.take j)) := (by rw [Nat.zero_add]; exact hown1); have hB1 : Below wr.heap.size wr w1 := Below.grown (show Below wr.heap.size wr _ by (with_reducible repeat (first | exact Below.refl _ _ | assumption | (refine btrans ?_ (by assumption)) | refine bdrew ?_ | refine balloc ?_ _))) hgrow1 (by first | (simp; done) | (simp; omega)) (fun k e => by cases e; first | omega | (simp; done)); have hgl1 := (hown1.lt g1 rfl).2; (first | (have hX1 : w1.cell? ⟨wr.heap.size + 1, 0, none⟩ = some (.int .i64 x) := by refine hgrow1.cell ?_ (by simp); ( (with_reducible repeat (first | assumption | refine keepdrew ?_ | (refine newcell _ _ _ _ _ _ ?_ rfl; simp; done) | refine keepalloc ?_ _)); done)) | (have hX1 : w1.cell? ⟨wr.heap.size, 0, none⟩ = some (.int .i64 x) := by refine hgrow1.cell ?_ (by simp); ((with_reducible repeat (first | assumption | refine keepdrew ?_ | (refine newcell _ _ _ _ _ _ ?_ rfl; simp; done) | refine keepalloc ?_ _)); done)) | skip))
      | (refine step_append_any (by rfl) (.tmp 24) (.tmp 26) 37 (by rfl) wr.heap.size 3 i0 _ 1 8 Tryz.underlying37 hi0 hz0 hz1 hz2 rfl (by omega) _ _ _ j (fli (zs.take j)) (by rfl) (by first | with_reducible exact hown1 | with_reducible exact hownZ | with_reducible exact hown1.alloc _ | with_reducible exact hownZ.alloc _) _ 1 1 (fli [x]) (by rfl) (by rfl) (by first | with_reducible exact news_1 hX1 | with_reducible exact news_1 (by (with_reducible repeat (first | assumption | refine keepdrew ?_ | (refine newcell _ _ _ _ _ _ ?_ rfl; simp; done) | refine keepalloc ?_ _)); done)) (fli_one _) (by unfold maxLen; omega) (by omega) (by first | exact hB1.size | (have := hB1.size; simp; omega)) ?_; intro g2 c2 w2 hown2 hgrow2 hat2; have hB2 : Below wr.heap.size wr w2 := Below.grown (show Below wr.heap.size wr _ by (with_reducible repeat (first | exact Below.refl _ _ | assumption | (refine btrans ?_ (by assumption)) | refine bdrew ?_ | refine balloc ?_ _))) hgrow2 (by first | exact hB1.size | (have := hB1.size; simp; omega)) (fun k e => by cases e; exact (hown1.lt _ rfl).1))
      | (refine step_append_any (by rfl) (.tmp 27) (.tmp 30) 37 (by rfl) wr.heap.size 3 i0 _ 1 8 Tryz.underlying37 hi0 hz0 hz1 hz2 rfl (by omega) _ _ _ (j + 1) (fli (zs.take j) ++ fli [x]) (by rfl) (hown2) _ (n - j) _ (fli (zs.drop j)) (by rfl) (by rw [fli_len, hdl]; omega) (by first | exact news_i j _ HO.out HN.out hB2 (drop_at zs j) | exact news_i 0 _ HO.out HN.out hB2 (fun k hk => absurd hk (by rw [hdl]; omega))) (fli_one _) (by unfold maxLen; omega) (by omega) (hB2.size) ?_; intro g3 c3 w3 hown3 hgrow3 hat3; have hB3 : Below wr.heap.size wr w3 := Below.grown hB2 hgrow3 hB2.size (fun k e => by cases e; exact (hown2.lt _ rfl).1)))
    all_goals
     have HO3 := hid (HEND.out _ _ _ hown3)
     have HB3 := hid hB3
     clear hown1 hownZ hown2 hown3 hgrow1 hgrow2 hgrow3 hB1 hB2 hB3
     go_wp2_with fail
     go_ret
     exact ⟨j, g3, c3, hj, HL.out, HGO.out, by rw [show j + 1 + (n - j) = n + 1 by omega]; rfl, HO3.out, HB3.out⟩
   ·go_wp2_with fail
    go_region_held3 (fun w' => True) (trivial)
     (first
      | (refine step_append_any (by rfl) (.tmp 20) (.tmp 23) 37 (by rfl) wr.heap.size 3 i0 _ 1 8 Tryz.underlying37 hi0 hz0 hz1 hz2 rfl (by omega) _ _ _ 0 [] (by rfl) (by first | with_reducible exact (own_newI (Nat.le_refl _)).drew | with_reducible exact ((own_newI (Nat.le_refl _)).alloc _).drew | with_reducible exact (own_newI2 (by simp) (by simp)).drew) ⟨g, 0, none⟩ j _ (fli (zs.take j)) (by rfl) (by rw [fli_len, htl]; omega) (news_i 0 _ HO.out HN.out (by (with_reducible repeat (first | exact Below.refl _ _ | assumption | (refine btrans ?_ (by assumption)) | refine bdrew ?_ | refine balloc ?_ _))) (take_at zs j)) (fli_one _) (by unfold maxLen; omega) (by omega) (by first | (simp; done) | (simp; omega) | omega) ?_; intro g1 c1 w1 hown1 hgrow1 hat1; simp only [Nat.zero_add, List.nil_append] at hown1; have hownZ : w1.ownsRow wr.heap.size 3 1 (.slice (some ⟨g1, 0, none⟩) (0 + j) c1) j (fli (zs.take j)) := (by rw [Nat.zero_add]; exact hown1); have hB1 : Below wr.heap.size wr w1 := Below.grown (show Below wr.heap.size wr _ by (with_reducible repeat (first | exact Below.refl _ _ | assumption | (refine btrans ?_ (by assumption)) | refine bdrew ?_ | refine balloc ?_ _))) hgrow1 (by first | (simp; done) | (simp; omega)) (fun k e => by cases e; first | omega | (simp; done)); have hgl1 := (hown1.lt g1 rfl).2; (first | (have hX1 : w1.cell? ⟨wr.heap.size + 1, 0, none⟩ = some (.int .i64 x) := by refine hgrow1.cell ?_ (by simp); ( (with_reducible repeat (first | assumption | refine keepdrew ?_ | (refine newcell _ _ _ _ _ _ ?_ rfl; simp; done) | refine keepalloc ?_ _)); done)) | (have hX1 : w1.cell? ⟨wr.heap.size, 0, none⟩ = some (.int .i64 x) := by refine hgrow1.cell ?_ (by simp); ((with_reducible repeat (first | assumption | refine keepdrew ?_ | (refine newcell _ _ _ _ _ _ ?_ rfl; simp; done) | refine keepalloc ?_ _)); done)) | skip))
      | (refine step_append_any (by rfl) (.tmp 24) (.tmp 26) 37 (by rfl) wr.heap.size 3 i0 _ 1 8 Tryz.underlying37 hi0 hz0 hz1 hz2 rfl (by omega) _ _ _ j (fli (zs.take j)) (by rfl) (by first | with_reducible exact hown1 | with_reducible exact hownZ | with_reducible exact hown1.alloc _ | with_reducible exact hownZ.alloc _) _ 1 1 (fli [x]) (by rfl) (by rfl) (by first | with_reducible exact news_1 hX1 | with_reducible exact news_1 (by (with_reducible repeat (first | assumption | refine keepdrew ?_ | (refine newcell _ _ _ _ _ _ ?_ rfl; simp; done) | refine keepalloc ?_ _)); done)) (fli_one _) (by unfold maxLen; omega) (by omega) (by first | exact hB1.size | (have := hB1.size; simp; omega)) ?_; intro g2 c2 w2 hown2 hgrow2 hat2; have hB2 : Below wr.heap.size wr w2 := Below.grown (show Below wr.heap.size wr _ by (with_reducible repeat (first | exact Below.refl _ _ | assumption | (refine btrans ?_ (by assumption)) | refine bdrew ?_ | refine balloc ?_ _))) hgrow2 (by first | exact hB1.size | (have := hB1.size; simp; omega)) (fun k e => by cases e; exact (hown1.lt _ rfl).1))
      | (refine step_append_any (by rfl) (.tmp 27) (.tmp 30) 37 (by rfl) wr.heap.size 3 i0 _ 1 8 Tryz.underlying37 hi0 hz0 hz1 hz2 rfl (by omega) _ _ _ (j + 1) (fli (zs.take j) ++ fli [x]) (by rfl) (hown2) _ (n - j) _ (fli (zs.drop j)) (by rfl) (by rw [fli_len, hdl]; omega) (by first | exact news_i j _ HO.out HN.out hB2 (drop_at zs j) | exact news_i 0 _ HO.out HN.out hB2 (fun k hk => absurd hk (by rw [hdl]; omega))) (fli_one _) (by unfold maxLen; omega) (by omega) (hB2.size) ?_; intro g3 c3 w3 hown3 hgrow3 hat3; have hB3 : Below wr.heap.size wr w3 := Below.grown hB2 hgrow3 hB2.size (fun k e => by cases e; exact (hown2.lt _ rfl).1)))
    all_goals
     have HO3 := hid (HEND.out _ _ _ hown3)
     have HB3 := hid hB3
     clear hown1 hownZ hown2 hown3 hgrow1 hgrow2 hgrow3 hB1 hB2 hB3
     go_wp2_with fail
     go_ret
     exact ⟨j, g3, c3, hj, HL.out, HGO.out, by rw [show j + 1 + (n - j) = n + 1 by omega]; rfl, HO3.out, HB3.out⟩
end Go.Proofs.YtenlhgnobfadgaaGreatDoor
