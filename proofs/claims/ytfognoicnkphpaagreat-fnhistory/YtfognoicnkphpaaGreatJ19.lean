/- Texts of stores, joined: Vj, Hb, Code. -/
import Derived.Test.YtfognoicnkphpaaGreatVi
import Derived.Test.YtfognoicnkphpaaGreatJ14
import Derived.Test.YtfognoicnkphpaaGreatHa
import Derived.Test.YtfognoicnkphpaaGreatJ8
import Derived.ProofKit
import Derived.OpenShut
namespace Go.Proofs.YtfognoicnkphpaaGreat
open Go.RowKit
set_option linter.unusedSimpArgs false
set_option linter.unusedVariables false
theorem flt_map (p : Rw → Bool) (q : El → Bool) : ∀ (rs : List Rw) (xs : List El), xs.length = rs.length → (∀ j (h : j < rs.length) (h2 : j < xs.length), q xs[j] = p rs[j]) → ∃ σ : Nat → Nat, (xs.filter q).length = (rs.filter p).length ∧ (∀ k (h : k < (rs.filter p).length), ∃ h2 : σ k < rs.length, (rs.filter p)[k] = rs[σ k] ∧ (xs.filter q)[k]? = xs[σ k]?) ∧ ∀ i j, i < j → j < (rs.filter p).length → σ i < σ j
  | [], xs, hl, _ => by
    have : xs = [] := List.length_eq_zero_iff.1 (by simpa using hl)
    subst this
    exact ⟨id, rfl, fun k h => by simp at h, fun i j _ h => by simp at h⟩
  | r :: rs, [], hl, _ => by simp at hl
  | r :: rs, x :: xs, hl, hq => by
    have h0 : q x = p r := hq 0 (by simp) (by simp)
    obtain ⟨σ, e1, e2, e3⟩ := flt_map p q rs xs (by simpa using hl) (fun j h h2 => hq (j + 1) (by simpa using h) (by simpa using h2))
    by_cases hp : p r = true
    · have hx : q x = true := by rw [h0]; exact hp
      rw [List.filter_cons_of_pos hp, List.filter_cons_of_pos hx]
      refine ⟨fun k => match k with | 0 => 0 | k + 1 => σ k + 1, by simp [e1], ?_, ?_⟩
      · intro k hk
        cases k with
        | zero => exact ⟨by simp, by simp, by simp⟩
        | succ k =>
          obtain ⟨h2, a1, a2⟩ := e2 k (by simpa using hk)
          exact ⟨by simpa using h2, by simpa using a1, by simpa using a2⟩
      · intro i j hij hj
        cases j with
        | zero => omega
        | succ j =>
          cases i with
          | zero => simp
          | succ i => have := e3 i j (by omega) (by simpa using hj); simp only; omega
    · have hx : ¬ q x = true := by rw [h0]; exact hp
      rw [List.filter_cons_of_neg hp, List.filter_cons_of_neg hx]
      refine ⟨fun k => σ k + 1, e1, ?_, fun i j hij hj => by have := e3 i j hij hj; simp only; omega⟩
      intro k hk
      obtain ⟨h2, a1, a2⟩ := e2 k hk
      exact ⟨by simpa using h2, by simpa using a1, by simpa using a2⟩
theorem RowsX.flt {base hi : Nat} {w w' : World} {g cap : Nat} {rs : List Rw} {xs : List El} {t : Int} (h : RowsX base hi w (.slice (some ⟨g, 0, none⟩) rs.length cap) rs xs) (ho : w'.ownsRow base 61 5 (.slice (some ⟨g, 0, none⟩) (xs.filter (fun x => !eend t x)).length cap) (xs.filter (fun x => !eend t x)).length (flat5 (xs.filter (fun x => !eend t x)))) (hb : But g w w') : RowsX base hi w' (.slice (some ⟨g, 0, none⟩) (rs.filter (vkeep t)).length cap) (rs.filter (vkeep t)) (xs.filter (fun x => !eend t x)) := by
  obtain ⟨h1, h2, h3, h4, c, cp, h5, h6⟩ := h
  obtain ⟨σ, e1, e2, e3⟩ := flt_map (vkeep t) (fun x => !eend t x) rs xs h1 (fun j hj h2 => by
    have := (h5 j hj).1
    rw [List.getElem?_eq_getElem h2] at this
    rw [Option.some.inj this]; rfl)
  rw [e1] at ho
  refine ⟨e1, ho, h3, Nat.le_trans h4 hb.1, fun k => c (σ k), fun k => cp (σ k), fun k hk => ?_, fun i j hij hj => ?_⟩
  · obtain ⟨s1, s2, s3⟩ := e2 k hk
    obtain ⟨a1, a2, a3, a4, a5, a6, a7⟩ := h5 (σ k) s1
    rw [s2]
    refine ⟨s3.trans a1, a2, a3, a4, a5, a6, ?_⟩
    have hcw : c (σ k) < w.heap.size := Nat.lt_of_lt_of_le a5 h4
    have hcg : c (σ k) ≠ g := fun e => a6 (by rw [e]; rfl)
    exact own_blk a7 (hb.2.1 _ hcw hcg) (Nat.lt_of_lt_of_le hcw hb.1)
  · obtain ⟨s1, _⟩ := e2 j hj
    exact h6 _ _ (e3 i j hij hj) s1
set_option maxRecDepth 100000 in
set_option maxHeartbeats 2000000 in
theorem index_nil (a : Option Addr) (cap : Nat) (fv : Value) (w : World) : Calls Tryz.prog 101 #[.slice a 0 cap, fv] w fun e w' => e = .returned (.int .i64 (-1)) ∧ w' = w := by
  go_enter Tryz.func101, Tryz.ntmps101
  go_wp2_with fail
  go_loopw [8] (fun ti wr => ti = .int .i64 0 ∧ wr = w) (fun ti _ => 0)
  case atStart => exact ⟨rfl, rfl⟩
  case round =>
    obtain ⟨rfl, rfl⟩ := hrel
    go_wp2_with fail
    go_ret
    exact ⟨rfl, rfl⟩
set_option maxRecDepth 100000 in
set_option maxHeartbeats 2000000 in
theorem del_nil (a : Option Addr) (cap : Nat) (fv : Value) (w : World) : Calls Tryz.prog 72 #[.slice a 0 cap, fv] w fun e w' => e = .returned (.slice a 0 cap) ∧ w' = w := by
  go_enter Tryz.func72, Tryz.ntmps72
  go_wp2_with fail
  refine (index_nil a cap fv w).mono ?_
  rintro e z ⟨rfl, rfl⟩
  go_wp2_with fail
  go_ret
  exact ⟨rfl, rfl⟩
theorem cell_of {w : World} {p : Nat} {v : Value} {t : TypeId} (h : w.heap[p]? = some (.cells #[v] t (0, 0))) : w.cell? ⟨p, 0, none⟩ = some v := by simp [World.cell?, h]
/-- But for the cells of one range nothing that was there is changed. -/
def Out (base hi Q : Nat) (w w' : World) : Prop := w.heap.size ≤ w'.heap.size ∧ (∀ b, b < w.heap.size → b ≠ Q → (b < base ∨ hi ≤ b) → w'.heap[b]? = w.heap[b]?) ∧ (w'.os = w.os ∧ w'.tape = w.tape ∧ w'.output = w.output)
/-- DeleteFunc of rows that the call has made. -/
theorem del_X (base hi : Nat) (a : Option Addr) (cap : Nat) (rs : List Rw) (xs : List El) (t : Int) (p : Nat) (w : World) (hm : rs.length ≤ 1099511627776) (h : RowsX base hi w (.slice a rs.length cap) rs xs) (hp : p < base ∨ hi ≤ p) (hpw : p < w.heap.size) (c1 : w.cell? ⟨p, 0, none⟩ = some (.int .i64 t)) : Calls Tryz.prog 72 #[.slice a rs.length cap, .func (.func 73) #[] #[.pointer (some ⟨p, 0, none⟩)]] w fun e w' => ∃ ys, e = .returned (.slice a (rs.filter (vkeep t)).length cap) ∧ RowsX base hi w' (.slice a (rs.filter (vkeep t)).length cap) (rs.filter (vkeep t)) ys ∧ w.heap.size ≤ w'.heap.size ∧ (∀ b, b < w.heap.size → (b < base ∨ hi ≤ b) → w'.heap[b]? = w.heap[b]?) ∧ (w'.os = w.os ∧ w'.tape = w.tape ∧ w'.output = w.output) := by
  rcases h.2.1.2 with ⟨q1, q2⟩ | ⟨g, c', cur, e, q1, q2⟩
  · have hr : rs = [] := List.length_eq_zero_iff.1 q2
    subst hr
    refine (del_nil a cap _ w).mono ?_
    rintro e w' ⟨rfl, rfl⟩
    exact ⟨xs, rfl, h, Nat.le_refl _, fun _ _ _ => rfl, rfl, rfl, rfl⟩
  · cases e
    have hxl := h.1
    have hgb : base ≤ g ∧ g < hi := ⟨q1, h.2.2.1 g rfl⟩
    have hD := del_ended base g cap rs.length xs t p w hxl hm h.2.1 (by omega) hpw c1
    refine hD.mono ?_
    rintro e w' ⟨m, rfl, rfl, ho, hb⟩
    have hf := h.flt ho hb
    have hl : (xs.filter (fun x => !eend t x)).length = (rs.filter (vkeep t)).length := hf.1
    exact ⟨_, by rw [hl], hf, hb.1, fun b h1 h2 => hb.2.1 b h1 (by omega), hb.2.2⟩
set_option maxRecDepth 100000 in
set_option maxHeartbeats 2000000 in
theorem vac_rows (now : Int) (Q base hi : Nat) (a : Option Addr) (cap : Nat) (rs : List Rw) (xs : List El) (t : Int) (w : World) (hm : rs.length ≤ 1099511627776) (h : RowsX base hi w (.slice a rs.length cap) rs xs) (hQ : Q < base ∨ hi ≤ Q) (gQ : w.heap[Q]? = some (.cells #[.int .i64 now, .slice a rs.length cap] 26 (0, 0))) : Calls Tryz.prog 46 #[.pointer (some ⟨Q, 0, none⟩), .int .i64 t] w fun e w' => e = .returned (.tuple #[]) ∧ ∃ ys, w'.heap[Q]? = some (.cells #[.int .i64 now, .slice a (rs.filter (vkeep t)).length cap] 26 (0, 0)) ∧ RowsX base hi w' (.slice a (rs.filter (vkeep t)).length cap) (rs.filter (vkeep t)) ys ∧ Out base hi Q w w' := by
  have hhi := h.2.2.2.1
  have hQw := lt_of_block gQ
  have hmf : ∀ (fn : Fn) (first cp : Array Value) (w : World), (Instr.makeFunc fn first cp).run Tryz.prog w = .ok (.func fn first cp) w := fun _ _ _ _ => rfl
  have hB : Below w.heap.size w (w.alloc (.cells #[.int .i64 t] 3)) := balloc (Below.refl _ _) _
  have gp := new_alloc w w.heap.size (.cells #[.int .i64 t] 3) rfl
  have g1 := keepheap2 hB gQ
  have hWs : w.heap.size < (w.alloc (.cells #[.int .i64 t] 3)).heap.size := by simp
  have HD := hid (del_X base hi a cap rs xs t w.heap.size (w.alloc (.cells #[.int .i64 t] 3)) hm (h.below hB) (.inr hhi) hWs (cell_of gp))
  clear h gp
  generalize (rs.filter (vkeep t)) = vs at *
  generalize rs.length = n at *
  go_enter Tryz.func46, Tryz.ntmps46
  go_upto_region 1 with fail
  generalize w.alloc (.cells #[.int .i64 t] 3) = W at *
  obtain ⟨d0, d1, f0, f1⟩ := cell2f g1
  go_wp2_with fail
  refine HD.out.mono ?_
  rintro e y ⟨ys, rfl, hX, y1, y2, y3⟩
  have g2 : y.heap[Q]? = _ := (y2 Q (by omega) hQ).trans g1
  clear HD d0 d1 f0 f1
  obtain ⟨d0, d1, f0, f1⟩ := cell2f g2
  have HX := hid hX
  clear hX
  go_wp2_with fail
  refine bodyPost_end (results_none rfl _ _ _) rfl ?_
  have hfar : ∀ b, b ≠ Q → (y.setCell ⟨Q, 1, none⟩ (.slice a vs.length cap)).heap[b]? = y.heap[b]? := fun b hb => by rw [Below.heap_setCell _ _ _ _ (by dsimp only; omega)]
  refine ⟨rfl, ys, set1r g2 _, HX.out.frame (fun c h1 h2 => hfar c (by omega)) (by simp), by have := hB.size; simp; omega, fun b h1 h2 h3 => (hfar b h2).trans ((y2 b (by have := hB.size; omega) h3).trans (hB.block b h1)), y3.1.trans hB.os, y3.2.1.trans hB.tape, y3.2.2.trans hB.output⟩
end Go.Proofs.YtfognoicnkphpaaGreat
namespace Go.Proofs.YtfognoicnkphpaaGreat
open Go.RowKit
set_option linter.unusedSimpArgs false
set_option linter.unusedVariables false
set_option maxRecDepth 100000 in
set_option maxHeartbeats 2000000 in
theorem kept_copiedG (ra : Option Addr) (cp0 : Nat) (rs : List Rw) (w : World) (hm : rs.length ≤ 1099511627776) (h : RwsG w ra rs) : Calls Tryz.prog 52 #[.slice ra rs.length cp0, .func (.func 53) #[] #[]] w fun e w' => ∃ v xs, e = .returned v ∧ RowsX w.heap.size w'.heap.size w' v (rs.filter allb) xs ∧ Below w.heap.size w w' := by
  obtain ⟨i0, hi0, hz0, hz1, hz2⟩ := info_parts Tryz.infoRow
  have HR := hid h
  clear h
  have hmk := make_rows0 rs.length hm
  obtain ⟨n, hn⟩ : ∃ n, n = rs.length := ⟨_, rfl⟩
  have HN := hid hn.symm
  rw [← hn] at hm hmk ⊢
  clear hn
  have hB0 : Below w.heap.size w (w.alloc (.cells (madeCells #[.int .i64 0, .int .i64 0, .int .i64 0, .int .i64 0, .slice none 0 0] (n * 5)) 61)) := balloc (Below.refl _ _) _
  have HI : Hid (RowsX w.heap.size (w.alloc (.cells (madeCells #[.int .i64 0, .int .i64 0, .int .i64 0, .int .i64 0, .slice none 0 0] (n * 5)) 61)).heap.size (w.alloc (.cells (madeCells #[.int .i64 0, .int .i64 0, .int .i64 0, .int .i64 0, .slice none 0 0] (n * 5)) 61)) (.slice (some ⟨w.heap.size, 0, none⟩) 0 n) [] []) := hid (by
    have := World.ownsRow_made (base := w.heap.size) (e := 61) (size := 5) w (madeCells #[.int .i64 0, .int .i64 0, .int .i64 0, .int .i64 0, .slice none 0 0] (n * 5)) n (Nat.le_refl _) (by unfold maxLen; omega) (size_madeCells _ _)
    exact RowsX.nil this (fun g e => by simp [Value.ownBlock] at e; subst e; simp) (Nat.le_refl _))
  go_enter Tryz.func52, Tryz.ntmps52
  go_upto_region 2 with fail
  generalize w.alloc (.cells (madeCells #[.int .i64 0, .int .i64 0, .int .i64 0, .int .i64 0, .slice none 0 0] (n * 5)) 61) = W0 at *
  clear hmk
  go_wp2_with fail
  go_loopw [5, 15] (fun tv ti wr => ∃ i : Nat, ∃ xs : List El, ti = .int .i64 i ∧ i ≤ n ∧ Hid (RowsX w.heap.size wr.heap.size wr tv ((rs.take i).filter allb) xs) ∧ Hid (Below w.heap.size w wr)) (fun _ ti _ => n - (intOf ti).toNat)
  case atStart => exact ⟨0, [], rfl, Nat.zero_le _, HI, hid hB0⟩
  case round =>
    clear HI hB0
    obtain ⟨i, xs, rfl, hi, HV, HBW⟩ := hrel
    obtain ⟨a5, c5, rfl⟩ := kept_form HV.out
    have hwX := HBW.out.size
    by_cases hlt : i < n
    · have d1 : (i : Int) < (n : Int) := by omega
      have hir : i < rs.length := by rw [HN.out]; exact hlt
      obtain ⟨B, rfl, hRS⟩ := HR.out.at hir
      obtain ⟨ci, cpi, k9, k0, k1, k2, k3, k4, k6, k7⟩ := (hRS.below HBW.out).2 i hir
      clear hRS
      have hbx : Below wr.heap.size wr (wr.alloc (.cells #[.int .i64 rs[i].1, .int .i64 rs[i].2.1, .int .i64 rs[i].2.2.1, .int .i64 rs[i].2.2.2.1, .slice (some ⟨ci, 0, none⟩) rs[i].2.2.2.2.length cpi] 61)) := balloc (Below.refl _ _) _
      have HT := hid (fun (W : World) (hb : Below wr.heap.size wr W) => copied_1 rs[i] ci 0 cpi W k6 (Nat.lt_of_lt_of_le k9 hb.size) (k7.below hb))
      have HX := hid (flt_next (p := allb) hir)
      have hil : ((rs.take i).filter allb).length ≤ i := by have := List.length_filter_le allb (rs.take i); simp at this; omega
      have HK6 := hid k6
      have HSN : Hid (∀ (r : Rw), rs[i] = r → (r.1, r.2.1, r.2.2.1, r.2.2.2.1, r.2.2.2.2) = rs[i]) := hid (fun r e => by rw [e])
      clear k6 k7 k9
      unfold RT rwv at HT
      obtain ⟨r, hr⟩ : ∃ r, r = rs[i] := ⟨_, rfl⟩
      rw [← hr] at k0 k1 k2 k3 k4 HT HX HK6 hbx
      generalize hpr : allb r = q2 at HX HT
      clear hpr hr HSN
      generalize (rs.take i).filter allb = zs at *
      obtain ⟨id, fr, te, kd, ps⟩ := r
      simp only at k0 k1 k2 k3 k4 HT hbx HK6
      have hps : ps.length ≤ 1099511627776 := HK6.out
      go_upto_region 5 with fail
      have gx := new_alloc wr wr.heap.size (.cells #[.int .i64 id, .int .i64 fr, .int .i64 te, .int .i64 kd, .slice (some ⟨ci, 0, none⟩) ps.length cpi] 61) rfl
      have HI1 := hid (HV.out.below hbx)
      have HB1 := hid (btrans HBW.out hbx)
      have HT1 := hid (HT.out _ hbx)
      have hs1 := hbx.size
      clear k0 k1 k2 k3 k4 HT hbx HV
      generalize wr.alloc (.cells #[.int .i64 id, .int .i64 fr, .int .i64 te, .int .i64 kd, .slice (some ⟨ci, 0, none⟩) ps.length cpi] 61) = W1 at *
      generalize wr.heap.size = X at *
      obtain ⟨⟨x0, x1, x2, x3, x4⟩, _⟩ := cell5g gx
      clear gx
      go_wp2_with fail
      refine HT1.out.mono ?_
      rintro e z ⟨g, cp, rfl, hcp, hgs, ho, hz⟩
      have HBz := hid (btrans HB1.out hz)
      have HIz := hid (HI1.out.below hz)
      have HO := hid ho
      have hzs := hz.size
      have hwz := HBz.out.size
      clear hz x0 x1 x2 x3 x4 HT1 HI1 HB1 ho
      cases q2
      · go_wp2_with fail
        have hal : Below z.heap.size z (z.alloc (.cells #[.int .i64 id, .int .i64 fr, .int .i64 te, .int .i64 kd, .slice (some ⟨g, 0, none⟩) ps.length cp] 61)) := balloc (Below.refl _ _) _
        have HV2 : Hid (RowsX w.heap.size (z.alloc (.cells #[.int .i64 id, .int .i64 fr, .int .i64 te, .int .i64 kd, .slice (some ⟨g, 0, none⟩) ps.length cp] 61)).heap.size (z.alloc (.cells #[.int .i64 id, .int .i64 fr, .int .i64 te, .int .i64 kd, .slice (some ⟨g, 0, none⟩) ps.length cp] 61)) (.slice a5 zs.length c5) ((rs.take (i + 1)).filter allb) xs) := hid (by
          rw [HX.out]
          simpa using (HIz.out.below hal).mono (Nat.le_refl _) (Nat.le_trans (by omega) hal.size) (Nat.le_refl _))
        have HBa := hid (btrans HBz.out hal)
        clear hal
        go_roundw
        case rel => exact ⟨i + 1, xs, by go_num, by omega, HV2, HBa⟩
        case measure => simp [intOf]; omega
      · have HX2 : Hid ((rs.take (i + 1)).filter allb = zs ++ [(id, fr, te, kd, ps)]) := hid (by rw [HX.out]; simp)
        clear HX
        go_upto_region 7 with fail
        have hal : Below z.heap.size z (z.alloc (.cells #[.int .i64 id, .int .i64 fr, .int .i64 te, .int .i64 kd, .slice (some ⟨g, 0, none⟩) ps.length cp] 61)) := balloc (Below.refl _ _) _
        have gy := new_alloc z z.heap.size (.cells #[.int .i64 id, .int .i64 fr, .int .i64 te, .int .i64 kd, .slice (some ⟨g, 0, none⟩) ps.length cp] 61) rfl
        have HIa := hid (HIz.out.below hal)
        have HBa := hid (btrans HBz.out hal)
        have HOa := hid (HO.out.below hal)
        have has : z.heap.size < (z.alloc (.cells #[.int .i64 id, .int .i64 fr, .int .i64 te, .int .i64 kd, .slice (some ⟨g, 0, none⟩) ps.length cp] 61)).heap.size := by simp
        clear hal HO HIz HBz
        generalize z.alloc (.cells #[.int .i64 id, .int .i64 fr, .int .i64 te, .int .i64 kd, .slice (some ⟨g, 0, none⟩) ps.length cp] 61) = Z at *
        obtain ⟨⟨x0, x1, x2, x3, x4⟩, _⟩ := cell5g gy
        clear gy
        have hownZ := HIa.out.2.1
        have hgZ := HOa.out.1
        go_wp2_with (at_builtin; (refine wpList_append_lies _ rfl (.tmp 26) (.tmp 28) 24 rfl w.heap.size 61 i0 _ 5 56 Tryz.underlying24 hi0 hz0 hz1 hz2 rfl (by decide) (.slice a5 zs.length c5) zs.length (flat5 xs) rfl (hownZ.alloc _) ⟨Z.heap.size, 0, none⟩ 1 1 (ev (elR (id, fr, te, kd, ps) g cp)) rfl rfl (World.news_of_block (cs := #[.int .i64 id, .int .i64 fr, .int .i64 te, .int .i64 kd, .slice (some ⟨g, 0, none⟩) ps.length cp]) (t := 61) (fr := (0, 0)) (heap_alloc_new Z _)) (by simp [ev, elR, Value.oneCell']) (by omega) (by unfold maxLen; omega) (by omega) (by simp; omega) (Z.heap.size + 1) (by simp) ?_; intro gg cq w2 hown2 hgrow hat hlt2))
        have hal2 : Below Z.heap.size Z (Z.alloc (.cells #[.int .i64 id, .int .i64 fr, .int .i64 te, .int .i64 kd, .slice (some ⟨g, 0, none⟩) ps.length cp] 61)) := balloc (Below.refl _ _) _
        have hsn := RowsX.snoc (r := (id, fr, te, kd, ps)) (c := g) (cp := cp) (HIa.out.below hal2) (by omega) (by omega) (by simp; omega) hcp hps (HOa.out.below hal2) hown2 hgrow (by simpa using hat) hlt2
        have hb2 : Below w.heap.size w w2 := Below.grown (balloc HBa.out _) hgrow (by simp; omega) (fun k e => (hownZ.lt k e).1)
        have HSN2 : Hid (RowsX w.heap.size w2.heap.size w2 (.slice (some ⟨gg, 0, none⟩) (zs.length + 1) cq) ((rs.take (i + 1)).filter allb) (xs ++ [elR (id, fr, te, kd, ps) g cp])) := hid (by rw [HX2.out]; exact hsn)
        have HB2 := hid hb2
        clear hsn hb2 hown2 hgrow hal2 hownZ
        go_roundw
        case rel => exact ⟨i + 1, _, by go_num, by omega, HSN2, HB2⟩
        case measure => simp [intOf]; omega
    · have d1 : (n : Int) ≤ (i : Int) := by omega
      have hin : i = rs.length := by have := HN.out; omega
      have HF : Hid (RowsX w.heap.size wr.heap.size wr (.slice a5 ((rs.take i).filter allb).length c5) (rs.filter allb) xs) := hid (by have := HV.out; rw [hin, List.take_length] at this ⊢; exact this)
      clear hin HV
      go_wp2_with fail
      go_ret
      exact ⟨_, xs, rfl, HF.out, HBW.out⟩
set_option maxRecDepth 100000 in
set_option maxHeartbeats 1000000 in
theorem rows_copiedG (now : Int) (ra : Option Addr) (cp0 : Nat) (rs : List Rw) (w : World) (hm : rs.length ≤ 1099511627776) (h : RwsG w ra rs) : Calls Tryz.prog 26 #[.agg #[.int .i64 now, .slice ra rs.length cp0]] w fun e w' => VR w now rs e w' := by
  have HK := hid (fun (W : World) (hb : Below w.heap.size w W) => kept_copiedG ra cp0 rs W hm (h.below hb))
  have hfl : rs.filter allb = rs := List.filter_eq_self.2 (fun _ _ => rfl)
  rw [hfl] at HK
  clear h hfl
  obtain ⟨n, hn⟩ : ∃ n, n = rs.length := ⟨_, rfl⟩
  have HN := hid hn.symm
  unfold VR
  rw [← hn] at hm HK ⊢
  clear hn
  have hB : Below w.heap.size w ((w.alloc (.cells #[.int .i64 now, .slice ra n cp0] 26)).alloc (.cells #[.int .i64 0, .slice none 0 0] 26)) := balloc (balloc (Below.refl _ _) _) _
  have g0 := old_alloc (o' := .cells #[.int .i64 0, .slice none 0 0] 26) (new_alloc w w.heap.size (.cells #[.int .i64 now, .slice ra n cp0] 26) rfl)
  have g1 := new_alloc (w.alloc (.cells #[.int .i64 now, .slice ra n cp0] 26)) (w.heap.size + 1) (.cells #[.int .i64 0, .slice none 0 0] 26) (by simp)
  go_enter Tryz.func26, Tryz.ntmps26
  go_upto_region 1 with fail
  generalize (w.alloc (.cells #[.int .i64 now, .slice ra n cp0] 26)).alloc (.cells #[.int .i64 0, .slice none 0 0] 26) = W at *
  obtain ⟨d0, d1, _, _⟩ := cell2f g0
  have hWs := lt_of_block g1
  go_wp2_with fail
  refine (HK.out _ hB).mono ?_
  rintro e y ⟨v, xs, rfl, hX, hy⟩
  obtain ⟨a, c, rfl⟩ := kept_form hX
  rw [HN.out] at hX
  rw [HN.out]
  replace g0 := keepheap2 hy g0
  replace g1 := keepheap2 hy g1
  have HB := hid (btrans hB hy)
  have HX := hid hX
  clear hB hy hX HK d0 d1
  obtain ⟨d0, d1, f0, f1⟩ := cell2f g0
  obtain ⟨v0, v1, u0, u1⟩ := cell2f g1
  go_wp2_with fail
  have gF := set2r (set_far (q := w.heap.size) (k := 1) (u := .slice a n c) g1 (by omega)) (.int .i64 now) (.slice a n c)
  have bF := bset (bset (bset HB.out (q := w.heap.size) (k := 1) (Nat.le_refl _) (.slice a n c)) (q := w.heap.size + 1) (k := 0) (by omega) (.int .i64 now)) (q := w.heap.size + 1) (k := 1) (by omega) (.slice a n c)
  have xF := (HX.out.frame (w' := ((y.setCell ⟨w.heap.size, 1, none⟩ (.slice a n c)).setCell ⟨w.heap.size + 1, 0, none⟩ (.int .i64 now)).setCell ⟨w.heap.size + 1, 1, none⟩ (.slice a n c)) (fun b h1 h2 => by rw [Below.heap_setCell _ _ _ _ (by dsimp only; omega), Below.heap_setCell _ _ _ _ (by dsimp only; omega), Below.heap_setCell _ _ _ _ (by dsimp only; omega)]) (by simp)).mono (base' := w.heap.size) (hi' := (((y.setCell ⟨w.heap.size, 1, none⟩ (.slice a n c)).setCell ⟨w.heap.size + 1, 0, none⟩ (.int .i64 now)).setCell ⟨w.heap.size + 1, 1, none⟩ (.slice a n c)).heap.size) (by omega) (by simp) (Nat.le_refl _)
  generalize ((y.setCell ⟨w.heap.size, 1, none⟩ (.slice a n c)).setCell ⟨w.heap.size + 1, 0, none⟩ (.int .i64 now)).setCell ⟨w.heap.size + 1, 1, none⟩ (.slice a n c) = wf at *
  obtain ⟨z0, z1, _, _⟩ := cell2f gF
  exact bodyPost_ret (v := .agg #[.int .i64 now, .slice a n c]) (by simp [results, Tryz.results26, go_sem, z0, z1]) rfl ⟨a, c, xs, rfl, xF, bF⟩
set_option maxRecDepth 100000 in
set_option maxHeartbeats 2000000 in
theorem impl_VacuumG {N : Nat → Prop} (now : Int) (ra : Option Addr) (cp0 : Nat) (rs : List Rw) (t : Int) (w : World) (hm : rs.length ≤ 1099511627776) (h : RwsG w ra rs) (hr : Rws N w ra rs) : Calls Tryz.prog 17 #[.agg #[.int .i64 now, .slice ra rs.length cp0], .int .i64 t] w fun e w' => VR w now (vacb now rs t) e w' := by
  have HOK := hid (fun (W : World) (hb : Below w.heap.size w W) => impl_RowsOk now ra cp0 rs W hm (hr.below hb))
  have HCO := hid (fun (W : World) (hb : Below w.heap.size w W) => rows_copiedG now ra cp0 rs W hm (h.below hb))
  have HVA := hid (fun (Q base hi : Nat) (a : Option Addr) (cap : Nat) (xs : List El) (W : World) => vac_rows now Q base hi a cap rs xs t W hm)
  have HVN : Hid (rowsb now rs = false → vacb now rs t = rs) := hid (fun e => by unfold vacb; rw [if_neg (by rw [e]; simp)])
  have HVY : Hid (rowsb now rs = true → vacb now rs t = rs.filter (vkeep t)) := hid (fun e => by unfold vacb; rw [if_pos e])
  clear h hr
  unfold VR at *
  generalize vacb now rs t = vs at *
  generalize rowsb now rs = ob at *
  obtain ⟨n, hn⟩ : ∃ n, n = rs.length := ⟨_, rfl⟩
  have HN := hid hn.symm
  rw [← hn] at hm HOK HCO HVA ⊢
  clear hn
  have hBx : Below w.heap.size w ((w.alloc (.cells #[.int .i64 now, .slice ra n cp0] 26)).alloc (.cells #[.int .i64 0, .slice none 0 0] 26)) := balloc (balloc (Below.refl _ _) _) _
  have g0 := old_alloc (o' := .cells #[.int .i64 0, .slice none 0 0] 26) (new_alloc w w.heap.size (.cells #[.int .i64 now, .slice ra n cp0] 26) rfl)
  have g1 := new_alloc (w.alloc (.cells #[.int .i64 now, .slice ra n cp0] 26)) (w.heap.size + 1) (.cells #[.int .i64 0, .slice none 0 0] 26) (by simp)
  have hW0 : ((w.alloc (.cells #[.int .i64 now, .slice ra n cp0] 26)).alloc (.cells #[.int .i64 0, .slice none 0 0] 26)).heap.size = w.heap.size + 1 + 1 := by simp
  go_enter Tryz.func17, Tryz.ntmps17
  go_upto_region 1 with fail
  generalize (w.alloc (.cells #[.int .i64 now, .slice ra n cp0] 26)).alloc (.cells #[.int .i64 0, .slice none 0 0] 26) = W0 at *
  obtain ⟨d0, d1, _, _⟩ := cell2f g0
  go_wp2_with fail
  refine (HCO.out W0 hBx).mono ?_
  rintro e y ⟨a, c, xs, rfl, hX, hy⟩
  replace g0 := keepheap2 hy g0
  replace g1 := keepheap2 hy g1
  clear d0 d1
  obtain ⟨d0, d1, _, _⟩ := cell2f g0
  go_upto_region 2 with fail
  have gQ := new_alloc y y.heap.size (.cells #[.int .i64 now, .slice a n c] 26) rfl
  have hal : Below y.heap.size y (y.alloc (.cells #[.int .i64 now, .slice a n c] 26)) := balloc (Below.refl _ _) _
  have HX := hid (hX.below hal)
  have HB := hid (btrans (btrans hBx hy) hal)
  have hys := hy.size
  replace g0 := keepheap2 hal g0
  replace g1 := keepheap2 hal g1
  have hls : (y.alloc (.cells #[.int .i64 now, .slice a n c] 26)).heap.size = y.heap.size + 1 := by simp
  clear hX hy hal hBx d0 d1 HCO
  generalize y.alloc (.cells #[.int .i64 now, .slice a n c] 26) = Y at *
  generalize y.heap.size = Q at *
  obtain ⟨d0, d1, _, _⟩ := cell2f g0
  go_wp2_with fail
  refine (HOK.out Y HB.out).mono ?_
  rintro e z ⟨rfl, hz⟩
  replace g1 := keepheap2 hz g1
  replace gQ := keepheap2 hz gQ
  have HXz := hid (HX.out.below hz)
  have HBz := hid (btrans HB.out hz)
  have hzs := hz.size
  clear hz HX HB g0 d0 d1 HOK
  cases ob
  · have HE := hid (HVN.out rfl)
    clear HVN HVY HVA
    have HG1 := hid g1
    have HGQ := hid gQ
    obtain ⟨v0, v1, u0, u1⟩ := cell2f g1
    obtain ⟨x0, x1, _, _⟩ := cell2f gQ
    clear g1 gQ
    go_wp2_with fail
    have gF := set2r HG1.out (.int .i64 now) (.slice a n c)
    have bF := bset (bset HBz.out (q := w.heap.size + 1) (k := 0) (by omega) (.int .i64 now)) (q := w.heap.size + 1) (k := 1) (by omega) (.slice a n c)
    have xF := (HXz.out.frame (w' := (z.setCell ⟨w.heap.size + 1, 0, none⟩ (.int .i64 now)).setCell ⟨w.heap.size + 1, 1, none⟩ (.slice a n c)) (fun b h1 h2 => by rw [Below.heap_setCell _ _ _ _ (by dsimp only; omega), Below.heap_setCell _ _ _ _ (by dsimp only; omega)]) (by simp)).mono (base' := w.heap.size) (hi' := ((z.setCell ⟨w.heap.size + 1, 0, none⟩ (.int .i64 now)).setCell ⟨w.heap.size + 1, 1, none⟩ (.slice a n c)).heap.size) (by omega) (by simp; omega) (Nat.le_refl _)
    generalize (z.setCell ⟨w.heap.size + 1, 0, none⟩ (.int .i64 now)).setCell ⟨w.heap.size + 1, 1, none⟩ (.slice a n c) = wf at *
    obtain ⟨z0, z1, _, _⟩ := cell2f gF
    exact bodyPost_ret (v := .agg #[.int .i64 now, .slice a n c]) (by simp [results, Tryz.results17, go_sem, z0, z1]) rfl ⟨a, c, xs, by rw [HE.out, HN.out], by rw [HE.out, HN.out]; exact xF, bF⟩
  · have VA := hid (HVA.out Q W0.heap.size Q a c xs z HXz.out (.inr (Nat.le_refl _)) gQ)
    rw [← HVY.out rfl] at VA
    clear HVN HVY HVA HXz
    have HG1 := hid g1
    clear g1 gQ
    go_wp2_with fail
    refine VA.out.mono ?_
    rintro e z3 ⟨rfl, ys, gQ, hX, ho⟩
    have hz1 := lt_of_block HG1.out
    have g1 := (ho.2.1 (w.heap.size + 1) hz1 (by omega) (by omega)).trans HG1.out
    have HB3 : Hid (Below w.heap.size w z3) := hid (HBz.out.trans ⟨ho.2.2.1, ho.2.2.2.1, ho.2.2.2.2, ho.1, fun k hk => ho.2.1 k (by omega) (by omega) (by omega)⟩)
    have HX3 := hid hX
    have hz3 := ho.1
    have HG := hid g1
    clear hX ho VA HBz HG1
    obtain ⟨v0, v1, u0, u1⟩ := cell2f g1
    obtain ⟨x0, x1, _, _⟩ := cell2f gQ
    clear g1 gQ
    obtain ⟨m, hmm⟩ : ∃ m, m = vs.length := ⟨_, rfl⟩
    have HM := hid hmm.symm
    rw [← hmm] at HX3 x1
    clear hmm
    go_wp2_with fail
    have gF := set2r HG.out (.int .i64 now) (.slice a m c)
    have bF := bset (bset HB3.out (q := w.heap.size + 1) (k := 0) (by omega) (.int .i64 now)) (q := w.heap.size + 1) (k := 1) (by omega) (.slice a m c)
    have xF := (HX3.out.frame (w' := (z3.setCell ⟨w.heap.size + 1, 0, none⟩ (.int .i64 now)).setCell ⟨w.heap.size + 1, 1, none⟩ (.slice a m c)) (fun b h1 h2 => by rw [Below.heap_setCell _ _ _ _ (by dsimp only; omega), Below.heap_setCell _ _ _ _ (by dsimp only; omega)]) (by simp)).mono (base' := w.heap.size) (hi' := ((z3.setCell ⟨w.heap.size + 1, 0, none⟩ (.int .i64 now)).setCell ⟨w.heap.size + 1, 1, none⟩ (.slice a m c)).heap.size) (by omega) (by simp; omega) (Nat.le_refl _)
    generalize (z3.setCell ⟨w.heap.size + 1, 0, none⟩ (.int .i64 now)).setCell ⟨w.heap.size + 1, 1, none⟩ (.slice a m c) = wf at *
    obtain ⟨z0, z1, _, _⟩ := cell2f gF
    exact bodyPost_ret (v := .agg #[.int .i64 now, .slice a m c]) (by simp [results, Tryz.results17, go_sem, z0, z1]) rfl ⟨a, c, ys, by rw [HM.out], by rw [HM.out]; exact xF, bF⟩
end Go.Proofs.YtfognoicnkphpaaGreat
namespace Go.Proofs.YtfognoicnkphpaaGreat
open Go.RowKit
/-- A slice of integers that came in: nil, or a row of cap numbers each fitting its kind. -/
def IsRow (k : IntKind) (w : World) (a : Option Addr) (len cap : Nat) (zs : List Int) : Prop :=
  (a = none ∧ len = 0 ∧ cap = 0 ∧ zs = []) ∨
  ∃ x, a = some x ∧ len ≤ cap ∧ cap ≤ maxLen ∧ zs.length = cap ∧ (∀ i, i < zs.length → w.cell? (x.add i) = some (.int k (zs.getD i 0))) ∧ ∀ n ∈ zs, (Lit.int k n).wf = true
theorem code_of {w : World} {a : Option Addr} {len cap : Nat} {zs : List Int} (h : IsRow .u8 w a len cap zs) (hl : len ≤ 1048576) : CodeAt w a len w.heap.size := by
  refine ⟨hl, ?_⟩
  rcases h with ⟨_, h, _⟩ | ⟨x, rfl, h1, h2, h3, h4, h5⟩
  · exact .inl h
  · by_cases h0 : len = 0
    · exact .inl h0
    · obtain ⟨b, off, spot⟩ := x
      have hspot : spot = none := by simpa [Addr.add] using World.cell?_spot (h4 0 (by omega))
      subst hspot
      have hb := World.block_lt_of_cell? w _ (h4 0 (by omega))
      refine .inr ⟨b, off, rfl, by simpa [Addr.add] using hb, fun k hk => ?_⟩
      have hk' : k < zs.length := by omega
      have hw := bounds_u8 (h5 zs[k] (List.getElem_mem hk'))
      refine ⟨zs[k], hw.1, hw.2, ?_⟩
      have hc := h4 k hk'
      rw [Addr.add_lit] at hc
      simpa [List.getD, List.getElem?_eq_getElem hk'] using hc
theorem len_of {k : IntKind} {w : World} {a : Option Addr} {len cap : Nat} {zs : List Int} (h : IsRow k w a len cap zs) : len ≤ 9223372036854775807 := by
  rcases h with ⟨_, h, _⟩ | ⟨x, rfl, h1, h2, _⟩
  · omega
  · unfold maxLen at h2; omega
end Go.Proofs.YtfognoicnkphpaaGreat
