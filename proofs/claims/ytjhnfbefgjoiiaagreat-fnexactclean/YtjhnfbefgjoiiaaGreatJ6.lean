/- Texts of stores, joined: Vj, Ve2, Vk, Vg. -/
import Derived.Test.YtjhnfbefgjoiiaaGreatJ5
import Derived.Test.YtjhnfbefgjoiiaaGreatJ3
namespace Go.Proofs.YtjhnfbefgjoiiaaGreat
open Go.RowKit
set_option linter.unusedSimpArgs false
set_option linter.unusedVariables false
theorem flt_map (p : Rw → Bool) (q : El → Bool) : ∀ (rs : List Rw) (xs : List El), xs.length = rs.length → (∀ j (h : j < rs.length) (h2 : j < xs.length), q xs[j] = p rs[j]) → ∃ σ : Nat → Nat, (xs.filter q).length = (rs.filter p).length ∧ (∀ k (h : k < (rs.filter p).length), ∃ h2 : σ k < rs.length, (rs.filter p)[k] = rs[σ k] ∧ (xs.filter q)[k]? = xs[σ k]?) ∧ ∀ i j, i < j → j < (rs.filter p).length → σ i < σ j
  | [], xs, hl, _ => by
    have : xs = [] := List.length_eq_zero_iff.1 (by simpa using hl)
    subst this
    exact ⟨id, rfl, fun k h => by simp at h, fun i j _ h => by simp at h⟩
  | r :: rs, [], hl, _ => by simp at hl
  | r :: rs, x :: xs, hl, hq => by
    have h0 : q x = p r := hq 0 (by simp) (by simp)
    obtain ⟨σ, e1, e2, e3⟩ := flt_map p q rs xs (by simpa using hl) (fun j h h2 => hq (j + 1) (by simpa using h) (by simpa using h2))
    by_cases hp : p r = true
    · have hx : q x = true := by rw [h0]; exact hp
      rw [List.filter_cons_of_pos hp, List.filter_cons_of_pos hx]
      refine ⟨fun k => match k with | 0 => 0 | k + 1 => σ k + 1, by simp [e1], ?_, ?_⟩
      · intro k hk
        cases k with
        | zero => exact ⟨by simp, by simp, by simp⟩
        | succ k =>
          obtain ⟨h2, a1, a2⟩ := e2 k (by simpa using hk)
          exact ⟨by simpa using h2, by simpa using a1, by simpa using a2⟩
      · intro i j hij hj
        cases j with
        | zero => omega
        | succ j =>
          cases i with
          | zero => simp
          | succ i => have := e3 i j (by omega) (by simpa using hj); simp only; omega
    · have hx : ¬ q x = true := by rw [h0]; exact hp
      rw [List.filter_cons_of_neg hp, List.filter_cons_of_neg hx]
      refine ⟨fun k => σ k + 1, e1, ?_, fun i j hij hj => by have := e3 i j hij hj; simp only; omega⟩
      intro k hk
      obtain ⟨h2, a1, a2⟩ := e2 k hk
      exact ⟨by simpa using h2, by simpa using a1, by simpa using a2⟩
theorem RowsX.flt {base hi : Nat} {w w' : World} {g cap : Nat} {rs : List Rw} {xs : List El} {t : Int} (h : RowsX base hi w (.slice (some ⟨g, 0, none⟩) rs.length cap) rs xs) (ho : w'.ownsRow base 57 5 (.slice (some ⟨g, 0, none⟩) (xs.filter (fun x => !eend t x)).length cap) (xs.filter (fun x => !eend t x)).length (flat5 (xs.filter (fun x => !eend t x)))) (hb : But g w w') : RowsX base hi w' (.slice (some ⟨g, 0, none⟩) (rs.filter (vkeep t)).length cap) (rs.filter (vkeep t)) (xs.filter (fun x => !eend t x)) := by
  obtain ⟨h1, h2, h3, h4, c, cp, h5, h6⟩ := h
  obtain ⟨σ, e1, e2, e3⟩ := flt_map (vkeep t) (fun x => !eend t x) rs xs h1 (fun j hj h2 => by
    have := (h5 j hj).1
    rw [List.getElem?_eq_getElem h2] at this
    rw [Option.some.inj this]; rfl)
  rw [e1] at ho
  refine ⟨e1, ho, h3, Nat.le_trans h4 hb.1, fun k => c (σ k), fun k => cp (σ k), fun k hk => ?_, fun i j hij hj => ?_⟩
  · obtain ⟨s1, s2, s3⟩ := e2 k hk
    obtain ⟨a1, a2, a3, a4, a5, a6, a7⟩ := h5 (σ k) s1
    rw [s2]
    refine ⟨s3.trans a1, a2, a3, a4, a5, a6, ?_⟩
    have hcw : c (σ k) < w.heap.size := Nat.lt_of_lt_of_le a5 h4
    have hcg : c (σ k) ≠ g := fun e => a6 (by rw [e]; rfl)
    exact own_blk a7 (hb.2.1 _ hcw hcg) (Nat.lt_of_lt_of_le hcw hb.1)
  · obtain ⟨s1, _⟩ := e2 j hj
    exact h6 _ _ (e3 i j hij hj) s1
set_option maxRecDepth 100000 in
set_option maxHeartbeats 2000000 in
theorem index_nil (a : Option Addr) (cap : Nat) (fv : Value) (w : World) : Calls Tryz.prog 100 #[.slice a 0 cap, fv] w fun e w' => e = .returned (.int .i64 (-1)) ∧ w' = w := by
  go_enter Tryz.func100, Tryz.ntmps100
  go_wp2_with fail
  go_loopw [8] (fun ti wr => ti = .int .i64 0 ∧ wr = w) (fun ti _ => 0)
  case atStart => exact ⟨rfl, rfl⟩
  case round =>
    obtain ⟨rfl, rfl⟩ := hrel
    go_wp2_with fail
    go_ret
    exact ⟨rfl, rfl⟩
set_option maxRecDepth 100000 in
set_option maxHeartbeats 2000000 in
theorem del_nil (a : Option Addr) (cap : Nat) (fv : Value) (w : World) : Calls Tryz.prog 63 #[.slice a 0 cap, fv] w fun e w' => e = .returned (.slice a 0 cap) ∧ w' = w := by
  go_enter Tryz.func63, Tryz.ntmps63
  go_wp2_with fail
  refine (index_nil a cap fv w).mono ?_
  rintro e z ⟨rfl, rfl⟩
  go_wp2_with fail
  go_ret
  exact ⟨rfl, rfl⟩
theorem cell_of {w : World} {p : Nat} {v : Value} {t : TypeId} (h : w.heap[p]? = some (.cells #[v] t (0, 0))) : w.cell? ⟨p, 0, none⟩ = some v := by simp [World.cell?, h]
/-- But for the cells of one range nothing that was there is changed. -/
def Out (base hi Q : Nat) (w w' : World) : Prop := w.heap.size ≤ w'.heap.size ∧ (∀ b, b < w.heap.size → b ≠ Q → (b < base ∨ hi ≤ b) → w'.heap[b]? = w.heap[b]?) ∧ (w'.os = w.os ∧ w'.tape = w.tape ∧ w'.output = w.output)
/-- DeleteFunc of rows that the call has made. -/
theorem del_X (base hi : Nat) (a : Option Addr) (cap : Nat) (rs : List Rw) (xs : List El) (t : Int) (p : Nat) (w : World) (hm : rs.length ≤ 1099511627776) (h : RowsX base hi w (.slice a rs.length cap) rs xs) (hp : p < base ∨ hi ≤ p) (hpw : p < w.heap.size) (c1 : w.cell? ⟨p, 0, none⟩ = some (.int .i64 t)) : Calls Tryz.prog 63 #[.slice a rs.length cap, .func (.func 64) #[] #[.pointer (some ⟨p, 0, none⟩)]] w fun e w' => ∃ ys, e = .returned (.slice a (rs.filter (vkeep t)).length cap) ∧ RowsX base hi w' (.slice a (rs.filter (vkeep t)).length cap) (rs.filter (vkeep t)) ys ∧ w.heap.size ≤ w'.heap.size ∧ (∀ b, b < w.heap.size → (b < base ∨ hi ≤ b) → w'.heap[b]? = w.heap[b]?) ∧ (w'.os = w.os ∧ w'.tape = w.tape ∧ w'.output = w.output) := by
  rcases h.2.1.2 with ⟨q1, q2⟩ | ⟨g, c', cur, e, q1, q2⟩
  · have hr : rs = [] := List.length_eq_zero_iff.1 q2
    subst hr
    refine (del_nil a cap _ w).mono ?_
    rintro e w' ⟨rfl, rfl⟩
    exact ⟨xs, rfl, h, Nat.le_refl _, fun _ _ _ => rfl, rfl, rfl, rfl⟩
  · cases e
    have hxl := h.1
    have hgb : base ≤ g ∧ g < hi := ⟨q1, h.2.2.1 g rfl⟩
    have hD := del_ended base g cap rs.length xs t p w hxl hm h.2.1 (by omega) hpw c1
    refine hD.mono ?_
    rintro e w' ⟨m, rfl, rfl, ho, hb⟩
    have hf := h.flt ho hb
    have hl : (xs.filter (fun x => !eend t x)).length = (rs.filter (vkeep t)).length := hf.1
    exact ⟨_, by rw [hl], hf, hb.1, fun b h1 h2 => hb.2.1 b h1 (by omega), hb.2.2⟩
set_option maxRecDepth 100000 in
set_option maxHeartbeats 2000000 in
theorem vac_rows (now : Int) (Q base hi : Nat) (a : Option Addr) (cap : Nat) (rs : List Rw) (xs : List El) (t : Int) (w : World) (hm : rs.length ≤ 1099511627776) (h : RowsX base hi w (.slice a rs.length cap) rs xs) (hQ : Q < base ∨ hi ≤ Q) (gQ : w.heap[Q]? = some (.cells #[.int .i64 now, .slice a rs.length cap] 28 (0, 0))) : Calls Tryz.prog 31 #[.pointer (some ⟨Q, 0, none⟩), .int .i64 t] w fun e w' => e = .returned (.tuple #[]) ∧ ∃ ys, w'.heap[Q]? = some (.cells #[.int .i64 now, .slice a (rs.filter (vkeep t)).length cap] 28 (0, 0)) ∧ RowsX base hi w' (.slice a (rs.filter (vkeep t)).length cap) (rs.filter (vkeep t)) ys ∧ Out base hi Q w w' := by
  have hhi := h.2.2.2.1
  have hQw := lt_of_block gQ
  have hmf : ∀ (fn : Fn) (first cp : Array Value) (w : World), (Instr.makeFunc fn first cp).run Tryz.prog w = .ok (.func fn first cp) w := fun _ _ _ _ => rfl
  have hB : Below w.heap.size w (w.alloc (.cells #[.int .i64 t] 3)) := balloc (Below.refl _ _) _
  have gp := new_alloc w w.heap.size (.cells #[.int .i64 t] 3) rfl
  have g1 := keepheap2 hB gQ
  have hWs : w.heap.size < (w.alloc (.cells #[.int .i64 t] 3)).heap.size := by simp
  have HD := hid (del_X base hi a cap rs xs t w.heap.size (w.alloc (.cells #[.int .i64 t] 3)) hm (h.below hB) (.inr hhi) hWs (cell_of gp))
  clear h gp
  generalize (rs.filter (vkeep t)) = vs at *
  generalize rs.length = n at *
  go_enter Tryz.func31, Tryz.ntmps31
  go_upto_region 1 with fail
  generalize w.alloc (.cells #[.int .i64 t] 3) = W at *
  obtain ⟨d0, d1, f0, f1⟩ := cell2f g1
  go_wp2_with fail
  refine HD.out.mono ?_
  rintro e y ⟨ys, rfl, hX, y1, y2, y3⟩
  have g2 : y.heap[Q]? = _ := (y2 Q (by omega) hQ).trans g1
  clear HD d0 d1 f0 f1
  obtain ⟨d0, d1, f0, f1⟩ := cell2f g2
  have HX := hid hX
  clear hX
  go_wp2_with fail
  refine bodyPost_end (results_none rfl _ _ _) rfl ?_
  have hfar : ∀ b, b ≠ Q → (y.setCell ⟨Q, 1, none⟩ (.slice a vs.length cap)).heap[b]? = y.heap[b]? := fun b hb => by rw [Below.heap_setCell _ _ _ _ (by dsimp only; omega)]
  refine ⟨rfl, ys, set1r g2 _, HX.out.frame (fun c h1 h2 => hfar c (by omega)) (by simp), by have := hB.size; simp; omega, fun b h1 h2 h3 => (hfar b h2).trans ((y2 b (by have := hB.size; omega) h3).trans (hB.block b h1)), y3.1.trans hB.os, y3.2.1.trans hB.tape, y3.2.2.trans hB.output⟩
set_option maxRecDepth 100000 in
set_option maxHeartbeats 2000000 in
theorem impl_VacuumJ {N : Nat → Prop} (now : Int) (B : Nat) (rs : List Rw) (t : Int) (w : World) (hm : rs.length ≤ 1099511627776) (h : RwsS w B rs) (hr : Rws N w (some ⟨B, 0, none⟩) rs) : Calls Tryz.prog 9 #[.agg #[.int .i64 now, .slice (some ⟨B, 0, none⟩) rs.length rs.length], .int .i64 t] w fun e w' => VR w now (vacb now rs t) e w' := by
  have HOK := hid (fun (W : World) (hb : Below w.heap.size w W) => impl_RowsOk now (some ⟨B, 0, none⟩) rs.length rs W hm (hr.below hb))
  have HCO := hid (fun (W : World) (hb : Below w.heap.size w W) => rows_copied now B rs W hm (h.below hb))
  have HVA := hid (fun (Q base hi : Nat) (a : Option Addr) (cap : Nat) (xs : List El) (W : World) => vac_rows now Q base hi a cap rs xs t W hm)
  have HVN : Hid (rowsb now rs = false → vacb now rs t = rs) := hid (fun e => by unfold vacb; rw [if_neg (by rw [e]; simp)])
  have HVY : Hid (rowsb now rs = true → vacb now rs t = rs.filter (vkeep t)) := hid (fun e => by unfold vacb; rw [if_pos e])
  clear h hr
  unfold VR at *
  generalize vacb now rs t = vs at *
  generalize rowsb now rs = ob at *
  obtain ⟨n, hn⟩ : ∃ n, n = rs.length := ⟨_, rfl⟩
  have HN := hid hn.symm
  rw [← hn] at hm HOK HCO HVA ⊢
  clear hn
  have hBx : Below w.heap.size w ((w.alloc (.cells #[.int .i64 now, .slice (some ⟨B, 0, none⟩) n n] 28)).alloc (.cells #[.int .i64 0, .slice none 0 0] 28)) := balloc (balloc (Below.refl _ _) _) _
  have g0 := old_alloc (o' := .cells #[.int .i64 0, .slice none 0 0] 28) (new_alloc w w.heap.size (.cells #[.int .i64 now, .slice (some ⟨B, 0, none⟩) n n] 28) rfl)
  have g1 := new_alloc (w.alloc (.cells #[.int .i64 now, .slice (some ⟨B, 0, none⟩) n n] 28)) (w.heap.size + 1) (.cells #[.int .i64 0, .slice none 0 0] 28) (by simp)
  have hW0 : ((w.alloc (.cells #[.int .i64 now, .slice (some ⟨B, 0, none⟩) n n] 28)).alloc (.cells #[.int .i64 0, .slice none 0 0] 28)).heap.size = w.heap.size + 1 + 1 := by simp
  go_enter Tryz.func9, Tryz.ntmps9
  go_upto_region 1 with fail
  generalize (w.alloc (.cells #[.int .i64 now, .slice (some ⟨B, 0, none⟩) n n] 28)).alloc (.cells #[.int .i64 0, .slice none 0 0] 28) = W0 at *
  obtain ⟨d0, d1, _, _⟩ := cell2f g0
  go_wp2_with fail
  refine (HCO.out W0 hBx).mono ?_
  rintro e y ⟨a, c, xs, rfl, hX, hy⟩
  replace g0 := keepheap2 hy g0
  replace g1 := keepheap2 hy g1
  clear d0 d1
  obtain ⟨d0, d1, _, _⟩ := cell2f g0
  go_upto_region 2 with fail
  have gQ := new_alloc y y.heap.size (.cells #[.int .i64 now, .slice a n c] 28) rfl
  have hal : Below y.heap.size y (y.alloc (.cells #[.int .i64 now, .slice a n c] 28)) := balloc (Below.refl _ _) _
  have HX := hid (hX.below hal)
  have HB := hid (btrans (btrans hBx hy) hal)
  have hys := hy.size
  replace g0 := keepheap2 hal g0
  replace g1 := keepheap2 hal g1
  have hls : (y.alloc (.cells #[.int .i64 now, .slice a n c] 28)).heap.size = y.heap.size + 1 := by simp
  clear hX hy hal hBx d0 d1 HCO
  generalize y.alloc (.cells #[.int .i64 now, .slice a n c] 28) = Y at *
  generalize y.heap.size = Q at *
  obtain ⟨d0, d1, _, _⟩ := cell2f g0
  go_wp2_with fail
  refine (HOK.out Y HB.out).mono ?_
  rintro e z ⟨rfl, hz⟩
  replace g1 := keepheap2 hz g1
  replace gQ := keepheap2 hz gQ
  have HXz := hid (HX.out.below hz)
  have HBz := hid (btrans HB.out hz)
  have hzs := hz.size
  clear hz HX HB g0 d0 d1 HOK
  cases ob
  · have HE := hid (HVN.out rfl)
    clear HVN HVY HVA
    have HG1 := hid g1
    have HGQ := hid gQ
    obtain ⟨v0, v1, u0, u1⟩ := cell2f g1
    obtain ⟨x0, x1, _, _⟩ := cell2f gQ
    clear g1 gQ
    go_wp2_with fail
    have gF := set2r HG1.out (.int .i64 now) (.slice a n c)
    have bF := bset (bset HBz.out (q := w.heap.size + 1) (k := 0) (by omega) (.int .i64 now)) (q := w.heap.size + 1) (k := 1) (by omega) (.slice a n c)
    have xF := (HXz.out.frame (w' := (z.setCell ⟨w.heap.size + 1, 0, none⟩ (.int .i64 now)).setCell ⟨w.heap.size + 1, 1, none⟩ (.slice a n c)) (fun b h1 h2 => by rw [Below.heap_setCell _ _ _ _ (by dsimp only; omega), Below.heap_setCell _ _ _ _ (by dsimp only; omega)]) (by simp)).mono (base' := w.heap.size) (hi' := ((z.setCell ⟨w.heap.size + 1, 0, none⟩ (.int .i64 now)).setCell ⟨w.heap.size + 1, 1, none⟩ (.slice a n c)).heap.size) (by omega) (by simp; omega) (Nat.le_refl _)
    generalize (z.setCell ⟨w.heap.size + 1, 0, none⟩ (.int .i64 now)).setCell ⟨w.heap.size + 1, 1, none⟩ (.slice a n c) = wf at *
    obtain ⟨z0, z1, _, _⟩ := cell2f gF
    exact bodyPost_ret (v := .agg #[.int .i64 now, .slice a n c]) (by simp [results, Tryz.results9, go_sem, z0, z1]) rfl ⟨a, c, xs, by rw [HE.out, HN.out], by rw [HE.out, HN.out]; exact xF, bF⟩
  · have VA := hid (HVA.out Q W0.heap.size Q a c xs z HXz.out (.inr (Nat.le_refl _)) gQ)
    rw [← HVY.out rfl] at VA
    clear HVN HVY HVA HXz
    have HG1 := hid g1
    clear g1 gQ
    go_wp2_with fail
    refine VA.out.mono ?_
    rintro e z3 ⟨rfl, ys, gQ, hX, ho⟩
    have hz1 := lt_of_block HG1.out
    have g1 := (ho.2.1 (w.heap.size + 1) hz1 (by omega) (by omega)).trans HG1.out
    have HB3 : Hid (Below w.heap.size w z3) := hid (HBz.out.trans ⟨ho.2.2.1, ho.2.2.2.1, ho.2.2.2.2, ho.1, fun k hk => ho.2.1 k (by omega) (by omega) (by omega)⟩)
    have HX3 := hid hX
    have hz3 := ho.1
    have HG := hid g1
    clear hX ho VA HBz HG1
    obtain ⟨v0, v1, u0, u1⟩ := cell2f g1
    obtain ⟨x0, x1, _, _⟩ := cell2f gQ
    clear g1 gQ
    obtain ⟨m, hmm⟩ : ∃ m, m = vs.length := ⟨_, rfl⟩
    have HM := hid hmm.symm
    rw [← hmm] at HX3 x1
    clear hmm
    go_wp2_with fail
    have gF := set2r HG.out (.int .i64 now) (.slice a m c)
    have bF := bset (bset HB3.out (q := w.heap.size + 1) (k := 0) (by omega) (.int .i64 now)) (q := w.heap.size + 1) (k := 1) (by omega) (.slice a m c)
    have xF := (HX3.out.frame (w' := (z3.setCell ⟨w.heap.size + 1, 0, none⟩ (.int .i64 now)).setCell ⟨w.heap.size + 1, 1, none⟩ (.slice a m c)) (fun b h1 h2 => by rw [Below.heap_setCell _ _ _ _ (by dsimp only; omega), Below.heap_setCell _ _ _ _ (by dsimp only; omega)]) (by simp)).mono (base' := w.heap.size) (hi' := ((z3.setCell ⟨w.heap.size + 1, 0, none⟩ (.int .i64 now)).setCell ⟨w.heap.size + 1, 1, none⟩ (.slice a m c)).heap.size) (by omega) (by simp; omega) (Nat.le_refl _)
    generalize (z3.setCell ⟨w.heap.size + 1, 0, none⟩ (.int .i64 now)).setCell ⟨w.heap.size + 1, 1, none⟩ (.slice a m c) = wf at *
    obtain ⟨z0, z1, _, _⟩ := cell2f gF
    exact bodyPost_ret (v := .agg #[.int .i64 now, .slice a m c]) (by simp [results, Tryz.results9, go_sem, z0, z1]) rfl ⟨a, c, ys, by rw [HM.out], by rw [HM.out]; exact xF, bF⟩
end Go.Proofs.YtjhnfbefgjoiiaaGreat
namespace Go.Proofs.YtjhnfbefgjoiiaaGreat
open Go.RowKit
set_option linter.unusedSimpArgs false
set_option linter.unusedVariables false
set_option maxRecDepth 100000 in
set_option maxHeartbeats 2000000 in
theorem kept_copied2 (B cp0 : Nat) (rs : List Rw) (w : World) (hm : rs.length ≤ 1099511627776) (h : RwsS w B rs) : Calls Tryz.prog 58 #[.slice (some ⟨B, 0, none⟩) rs.length cp0, .func (.func 59) #[] #[]] w fun e w' => ∃ v xs, e = .returned v ∧ RowsX w.heap.size w'.heap.size w' v (rs.filter allb) xs ∧ Below w.heap.size w w' := by
  obtain ⟨i0, hi0, hz0, hz1, hz2⟩ := info_parts Tryz.infoRow
  have HR := hid h
  clear h
  have hmk := make_rows0 rs.length hm
  obtain ⟨n, hn⟩ : ∃ n, n = rs.length := ⟨_, rfl⟩
  have HN := hid hn.symm
  rw [← hn] at hm hmk ⊢
  clear hn
  have hB0 : Below w.heap.size w (w.alloc (.cells (madeCells #[.int .i64 0, .int .i64 0, .int .i64 0, .int .i64 0, .slice none 0 0] (n * 5)) 57)) := balloc (Below.refl _ _) _
  have HI : Hid (RowsX w.heap.size (w.alloc (.cells (madeCells #[.int .i64 0, .int .i64 0, .int .i64 0, .int .i64 0, .slice none 0 0] (n * 5)) 57)).heap.size (w.alloc (.cells (madeCells #[.int .i64 0, .int .i64 0, .int .i64 0, .int .i64 0, .slice none 0 0] (n * 5)) 57)) (.slice (some ⟨w.heap.size, 0, none⟩) 0 n) [] []) := hid (by
    have := World.ownsRow_made (base := w.heap.size) (e := 57) (size := 5) w (madeCells #[.int .i64 0, .int .i64 0, .int .i64 0, .int .i64 0, .slice none 0 0] (n * 5)) n (Nat.le_refl _) (by unfold maxLen; omega) (size_madeCells _ _)
    exact RowsX.nil this (fun g e => by simp [Value.ownBlock] at e; subst e; simp) (Nat.le_refl _))
  go_enter Tryz.func58, Tryz.ntmps58
  go_upto_region 2 with fail
  generalize w.alloc (.cells (madeCells #[.int .i64 0, .int .i64 0, .int .i64 0, .int .i64 0, .slice none 0 0] (n * 5)) 57) = W0 at *
  clear hmk
  go_wp2_with fail
  go_loopw [5, 15] (fun tv ti wr => ∃ i : Nat, ∃ xs : List El, ti = .int .i64 i ∧ i ≤ n ∧ Hid (RowsX w.heap.size wr.heap.size wr tv ((rs.take i).filter allb) xs) ∧ Hid (Below w.heap.size w wr)) (fun _ ti _ => n - (intOf ti).toNat)
  case atStart => exact ⟨0, [], rfl, Nat.zero_le _, HI, hid hB0⟩
  case round =>
    clear HI hB0
    obtain ⟨i, xs, rfl, hi, HV, HBW⟩ := hrel
    obtain ⟨a5, c5, rfl⟩ := kept_form HV.out
    have hwX := HBW.out.size
    by_cases hlt : i < n
    · have d1 : (i : Int) < (n : Int) := by omega
      have hir : i < rs.length := by rw [HN.out]; exact hlt
      obtain ⟨ci, cpi, k9, k0, k1, k2, k3, k4, k6, k7⟩ := (HR.out.below HBW.out).2 i hir
      have hbx : Below wr.heap.size wr (wr.alloc (.cells #[.int .i64 rs[i].1, .int .i64 rs[i].2.1, .int .i64 rs[i].2.2.1, .int .i64 rs[i].2.2.2.1, .slice (some ⟨ci, 0, none⟩) rs[i].2.2.2.2.length cpi] 57)) := balloc (Below.refl _ _) _
      have HT := hid (fun (W : World) (hb : Below wr.heap.size wr W) => copied_1 rs[i] ci 0 cpi W k6 (Nat.lt_of_lt_of_le k9 hb.size) (k7.below hb))
      have HX := hid (flt_next (p := allb) hir)
      have hil : ((rs.take i).filter allb).length ≤ i := by have := List.length_filter_le allb (rs.take i); simp at this; omega
      have HK6 := hid k6
      have HSN : Hid (∀ (r : Rw), rs[i] = r → (r.1, r.2.1, r.2.2.1, r.2.2.2.1, r.2.2.2.2) = rs[i]) := hid (fun r e => by rw [e])
      clear k6 k7 k9
      unfold RT rwv at HT
      obtain ⟨r, hr⟩ : ∃ r, r = rs[i] := ⟨_, rfl⟩
      rw [← hr] at k0 k1 k2 k3 k4 HT HX HK6 hbx
      generalize hpr : allb r = q2 at HX HT
      clear hpr hr HSN
      generalize (rs.take i).filter allb = zs at *
      obtain ⟨id, fr, te, kd, ps⟩ := r
      simp only at k0 k1 k2 k3 k4 HT hbx HK6
      have hps : ps.length ≤ 1099511627776 := HK6.out
      go_upto_region 5 with fail
      have gx := new_alloc wr wr.heap.size (.cells #[.int .i64 id, .int .i64 fr, .int .i64 te, .int .i64 kd, .slice (some ⟨ci, 0, none⟩) ps.length cpi] 57) rfl
      have HI1 := hid (HV.out.below hbx)
      have HB1 := hid (btrans HBW.out hbx)
      have HT1 := hid (HT.out _ hbx)
      have hs1 := hbx.size
      clear k0 k1 k2 k3 k4 HT hbx HV
      generalize wr.alloc (.cells #[.int .i64 id, .int .i64 fr, .int .i64 te, .int .i64 kd, .slice (some ⟨ci, 0, none⟩) ps.length cpi] 57) = W1 at *
      generalize wr.heap.size = X at *
      obtain ⟨⟨x0, x1, x2, x3, x4⟩, _⟩ := cell5g gx
      clear gx
      go_wp2_with fail
      refine HT1.out.mono ?_
      rintro e z ⟨g, cp, rfl, hcp, hgs, ho, hz⟩
      have HBz := hid (btrans HB1.out hz)
      have HIz := hid (HI1.out.below hz)
      have HO := hid ho
      have hzs := hz.size
      have hwz := HBz.out.size
      clear hz x0 x1 x2 x3 x4 HT1 HI1 HB1 ho
      cases q2
      · go_wp2_with fail
        have hal : Below z.heap.size z (z.alloc (.cells #[.int .i64 id, .int .i64 fr, .int .i64 te, .int .i64 kd, .slice (some ⟨g, 0, none⟩) ps.length cp] 57)) := balloc (Below.refl _ _) _
        have HV2 : Hid (RowsX w.heap.size (z.alloc (.cells #[.int .i64 id, .int .i64 fr, .int .i64 te, .int .i64 kd, .slice (some ⟨g, 0, none⟩) ps.length cp] 57)).heap.size (z.alloc (.cells #[.int .i64 id, .int .i64 fr, .int .i64 te, .int .i64 kd, .slice (some ⟨g, 0, none⟩) ps.length cp] 57)) (.slice a5 zs.length c5) ((rs.take (i + 1)).filter allb) xs) := hid (by
          rw [HX.out]
          simpa using (HIz.out.below hal).mono (Nat.le_refl _) (Nat.le_trans (by omega) hal.size) (Nat.le_refl _))
        have HBa := hid (btrans HBz.out hal)
        clear hal
        go_roundw
        case rel => exact ⟨i + 1, xs, by go_num, by omega, HV2, HBa⟩
        case measure => simp [intOf]; omega
      · have HX2 : Hid ((rs.take (i + 1)).filter allb = zs ++ [(id, fr, te, kd, ps)]) := hid (by rw [HX.out]; simp)
        clear HX
        go_upto_region 7 with fail
        have hal : Below z.heap.size z (z.alloc (.cells #[.int .i64 id, .int .i64 fr, .int .i64 te, .int .i64 kd, .slice (some ⟨g, 0, none⟩) ps.length cp] 57)) := balloc (Below.refl _ _) _
        have gy := new_alloc z z.heap.size (.cells #[.int .i64 id, .int .i64 fr, .int .i64 te, .int .i64 kd, .slice (some ⟨g, 0, none⟩) ps.length cp] 57) rfl
        have HIa := hid (HIz.out.below hal)
        have HBa := hid (btrans HBz.out hal)
        have HOa := hid (HO.out.below hal)
        have has : z.heap.size < (z.alloc (.cells #[.int .i64 id, .int .i64 fr, .int .i64 te, .int .i64 kd, .slice (some ⟨g, 0, none⟩) ps.length cp] 57)).heap.size := by simp
        clear hal HO HIz HBz
        generalize z.alloc (.cells #[.int .i64 id, .int .i64 fr, .int .i64 te, .int .i64 kd, .slice (some ⟨g, 0, none⟩) ps.length cp] 57) = Z at *
        obtain ⟨⟨x0, x1, x2, x3, x4⟩, _⟩ := cell5g gy
        clear gy
        have hownZ := HIa.out.2.1
        have hgZ := HOa.out.1
        go_wp2_with (at_builtin; (refine wpList_append_lies _ rfl (.tmp 26) (.tmp 28) 26 rfl w.heap.size 57 i0 _ 5 56 Tryz.underlying26 hi0 hz0 hz1 hz2 rfl (by decide) (.slice a5 zs.length c5) zs.length (flat5 xs) rfl (hownZ.alloc _) ⟨Z.heap.size, 0, none⟩ 1 1 (ev (elR (id, fr, te, kd, ps) g cp)) rfl rfl (World.news_of_block (cs := #[.int .i64 id, .int .i64 fr, .int .i64 te, .int .i64 kd, .slice (some ⟨g, 0, none⟩) ps.length cp]) (t := 57) (fr := (0, 0)) (heap_alloc_new Z _)) (by simp [ev, elR, Value.oneCell']) (by omega) (by unfold maxLen; omega) (by omega) (by simp; omega) (Z.heap.size + 1) (by simp) ?_; intro gg cq w2 hown2 hgrow hat hlt2))
        have hal2 : Below Z.heap.size Z (Z.alloc (.cells #[.int .i64 id, .int .i64 fr, .int .i64 te, .int .i64 kd, .slice (some ⟨g, 0, none⟩) ps.length cp] 57)) := balloc (Below.refl _ _) _
        have hsn := RowsX.snoc (r := (id, fr, te, kd, ps)) (c := g) (cp := cp) (HIa.out.below hal2) (by omega) (by omega) (by simp; omega) hcp hps (HOa.out.below hal2) hown2 hgrow (by simpa using hat) hlt2
        have hb2 : Below w.heap.size w w2 := Below.grown (balloc HBa.out _) hgrow (by simp; omega) (fun k e => (hownZ.lt k e).1)
        have HSN2 : Hid (RowsX w.heap.size w2.heap.size w2 (.slice (some ⟨gg, 0, none⟩) (zs.length + 1) cq) ((rs.take (i + 1)).filter allb) (xs ++ [elR (id, fr, te, kd, ps) g cp])) := hid (by rw [HX2.out]; exact hsn)
        have HB2 := hid hb2
        clear hsn hb2 hown2 hgrow hal2 hownZ
        go_roundw
        case rel => exact ⟨i + 1, _, by go_num, by omega, HSN2, HB2⟩
        case measure => simp [intOf]; omega
    · have d1 : (n : Int) ≤ (i : Int) := by omega
      have hin : i = rs.length := by have := HN.out; omega
      have HF : Hid (RowsX w.heap.size wr.heap.size wr (.slice a5 ((rs.take i).filter allb).length c5) (rs.filter allb) xs) := hid (by have := HV.out; rw [hin, List.take_length] at this ⊢; exact this)
      clear hin HV
      go_wp2_with fail
      go_ret
      exact ⟨_, xs, rfl, HF.out, HBW.out⟩
set_option maxRecDepth 100000 in
set_option maxHeartbeats 1000000 in
theorem rows_copied2 (now : Int) (B cp0 : Nat) (rs : List Rw) (w : World) (hm : rs.length ≤ 1099511627776) (h : RwsS w B rs) : Calls Tryz.prog 29 #[.agg #[.int .i64 now, .slice (some ⟨B, 0, none⟩) rs.length cp0]] w fun e w' => VR w now rs e w' := by
  have HK := hid (fun (W : World) (hb : Below w.heap.size w W) => kept_copied2 B cp0 rs W hm (h.below hb))
  have hfl : rs.filter allb = rs := List.filter_eq_self.2 (fun _ _ => rfl)
  rw [hfl] at HK
  clear h hfl
  obtain ⟨n, hn⟩ : ∃ n, n = rs.length := ⟨_, rfl⟩
  have HN := hid hn.symm
  unfold VR
  rw [← hn] at hm HK ⊢
  clear hn
  have hB : Below w.heap.size w ((w.alloc (.cells #[.int .i64 now, .slice (some ⟨B, 0, none⟩) n cp0] 28)).alloc (.cells #[.int .i64 0, .slice none 0 0] 28)) := balloc (balloc (Below.refl _ _) _) _
  have g0 := old_alloc (o' := .cells #[.int .i64 0, .slice none 0 0] 28) (new_alloc w w.heap.size (.cells #[.int .i64 now, .slice (some ⟨B, 0, none⟩) n cp0] 28) rfl)
  have g1 := new_alloc (w.alloc (.cells #[.int .i64 now, .slice (some ⟨B, 0, none⟩) n cp0] 28)) (w.heap.size + 1) (.cells #[.int .i64 0, .slice none 0 0] 28) (by simp)
  go_enter Tryz.func29, Tryz.ntmps29
  go_upto_region 1 with fail
  generalize (w.alloc (.cells #[.int .i64 now, .slice (some ⟨B, 0, none⟩) n cp0] 28)).alloc (.cells #[.int .i64 0, .slice none 0 0] 28) = W at *
  obtain ⟨d0, d1, _, _⟩ := cell2f g0
  have hWs := lt_of_block g1
  go_wp2_with fail
  refine (HK.out _ hB).mono ?_
  rintro e y ⟨v, xs, rfl, hX, hy⟩
  obtain ⟨a, c, rfl⟩ := kept_form hX
  rw [HN.out] at hX
  rw [HN.out]
  replace g0 := keepheap2 hy g0
  replace g1 := keepheap2 hy g1
  have HB := hid (btrans hB hy)
  have HX := hid hX
  clear hB hy hX HK d0 d1
  obtain ⟨d0, d1, f0, f1⟩ := cell2f g0
  obtain ⟨v0, v1, u0, u1⟩ := cell2f g1
  go_wp2_with fail
  have gF := set2r (set_far (q := w.heap.size) (k := 1) (u := .slice a n c) g1 (by omega)) (.int .i64 now) (.slice a n c)
  have bF := bset (bset (bset HB.out (q := w.heap.size) (k := 1) (Nat.le_refl _) (.slice a n c)) (q := w.heap.size + 1) (k := 0) (by omega) (.int .i64 now)) (q := w.heap.size + 1) (k := 1) (by omega) (.slice a n c)
  have xF := (HX.out.frame (w' := ((y.setCell ⟨w.heap.size, 1, none⟩ (.slice a n c)).setCell ⟨w.heap.size + 1, 0, none⟩ (.int .i64 now)).setCell ⟨w.heap.size + 1, 1, none⟩ (.slice a n c)) (fun b h1 h2 => by rw [Below.heap_setCell _ _ _ _ (by dsimp only; omega), Below.heap_setCell _ _ _ _ (by dsimp only; omega), Below.heap_setCell _ _ _ _ (by dsimp only; omega)]) (by simp)).mono (base' := w.heap.size) (hi' := (((y.setCell ⟨w.heap.size, 1, none⟩ (.slice a n c)).setCell ⟨w.heap.size + 1, 0, none⟩ (.int .i64 now)).setCell ⟨w.heap.size + 1, 1, none⟩ (.slice a n c)).heap.size) (by omega) (by simp) (Nat.le_refl _)
  generalize ((y.setCell ⟨w.heap.size, 1, none⟩ (.slice a n c)).setCell ⟨w.heap.size + 1, 0, none⟩ (.int .i64 now)).setCell ⟨w.heap.size + 1, 1, none⟩ (.slice a n c) = wf at *
  obtain ⟨z0, z1, _, _⟩ := cell2f gF
  exact bodyPost_ret (v := .agg #[.int .i64 now, .slice a n c]) (by simp [results, Tryz.results29, go_sem, z0, z1]) rfl ⟨a, c, xs, rfl, xF, bF⟩
end Go.Proofs.YtjhnfbefgjoiiaaGreat
namespace Go.Proofs.YtjhnfbefgjoiiaaGreat
open Go.RowKit
set_option linter.unusedSimpArgs false
set_option linter.unusedVariables false
set_option maxRecDepth 100000 in
set_option maxHeartbeats 2000000 in
theorem impl_VacuumJ2 {N : Nat → Prop} (now : Int) (B cp0 : Nat) (rs : List Rw) (t : Int) (w : World) (hm : rs.length ≤ 1099511627776) (h : RwsS w B rs) (hr : Rws N w (some ⟨B, 0, none⟩) rs) : Calls Tryz.prog 9 #[.agg #[.int .i64 now, .slice (some ⟨B, 0, none⟩) rs.length cp0], .int .i64 t] w fun e w' => VR w now (vacb now rs t) e w' := by
  have HOK := hid (fun (W : World) (hb : Below w.heap.size w W) => impl_RowsOk now (some ⟨B, 0, none⟩) cp0 rs W hm (hr.below hb))
  have HCO := hid (fun (W : World) (hb : Below w.heap.size w W) => rows_copied2 now B cp0 rs W hm (h.below hb))
  have HVA := hid (fun (Q base hi : Nat) (a : Option Addr) (cap : Nat) (xs : List El) (W : World) => vac_rows now Q base hi a cap rs xs t W hm)
  have HVN : Hid (rowsb now rs = false → vacb now rs t = rs) := hid (fun e => by unfold vacb; rw [if_neg (by rw [e]; simp)])
  have HVY : Hid (rowsb now rs = true → vacb now rs t = rs.filter (vkeep t)) := hid (fun e => by unfold vacb; rw [if_pos e])
  clear h hr
  unfold VR at *
  generalize vacb now rs t = vs at *
  generalize rowsb now rs = ob at *
  obtain ⟨n, hn⟩ : ∃ n, n = rs.length := ⟨_, rfl⟩
  have HN := hid hn.symm
  rw [← hn] at hm HOK HCO HVA ⊢
  clear hn
  have hBx : Below w.heap.size w ((w.alloc (.cells #[.int .i64 now, .slice (some ⟨B, 0, none⟩) n cp0] 28)).alloc (.cells #[.int .i64 0, .slice none 0 0] 28)) := balloc (balloc (Below.refl _ _) _) _
  have g0 := old_alloc (o' := .cells #[.int .i64 0, .slice none 0 0] 28) (new_alloc w w.heap.size (.cells #[.int .i64 now, .slice (some ⟨B, 0, none⟩) n cp0] 28) rfl)
  have g1 := new_alloc (w.alloc (.cells #[.int .i64 now, .slice (some ⟨B, 0, none⟩) n cp0] 28)) (w.heap.size + 1) (.cells #[.int .i64 0, .slice none 0 0] 28) (by simp)
  have hW0 : ((w.alloc (.cells #[.int .i64 now, .slice (some ⟨B, 0, none⟩) n cp0] 28)).alloc (.cells #[.int .i64 0, .slice none 0 0] 28)).heap.size = w.heap.size + 1 + 1 := by simp
  go_enter Tryz.func9, Tryz.ntmps9
  go_upto_region 1 with fail
  generalize (w.alloc (.cells #[.int .i64 now, .slice (some ⟨B, 0, none⟩) n cp0] 28)).alloc (.cells #[.int .i64 0, .slice none 0 0] 28) = W0 at *
  obtain ⟨d0, d1, _, _⟩ := cell2f g0
  go_wp2_with fail
  refine (HCO.out W0 hBx).mono ?_
  rintro e y ⟨a, c, xs, rfl, hX, hy⟩
  replace g0 := keepheap2 hy g0
  replace g1 := keepheap2 hy g1
  clear d0 d1
  obtain ⟨d0, d1, _, _⟩ := cell2f g0
  go_upto_region 2 with fail
  have gQ := new_alloc y y.heap.size (.cells #[.int .i64 now, .slice a n c] 28) rfl
  have hal : Below y.heap.size y (y.alloc (.cells #[.int .i64 now, .slice a n c] 28)) := balloc (Below.refl _ _) _
  have HX := hid (hX.below hal)
  have HB := hid (btrans (btrans hBx hy) hal)
  have hys := hy.size
  replace g0 := keepheap2 hal g0
  replace g1 := keepheap2 hal g1
  have hls : (y.alloc (.cells #[.int .i64 now, .slice a n c] 28)).heap.size = y.heap.size + 1 := by simp
  clear hX hy hal hBx d0 d1 HCO
  generalize y.alloc (.cells #[.int .i64 now, .slice a n c] 28) = Y at *
  generalize y.heap.size = Q at *
  obtain ⟨d0, d1, _, _⟩ := cell2f g0
  go_wp2_with fail
  refine (HOK.out Y HB.out).mono ?_
  rintro e z ⟨rfl, hz⟩
  replace g1 := keepheap2 hz g1
  replace gQ := keepheap2 hz gQ
  have HXz := hid (HX.out.below hz)
  have HBz := hid (btrans HB.out hz)
  have hzs := hz.size
  clear hz HX HB g0 d0 d1 HOK
  cases ob
  · have HE := hid (HVN.out rfl)
    clear HVN HVY HVA
    have HG1 := hid g1
    have HGQ := hid gQ
    obtain ⟨v0, v1, u0, u1⟩ := cell2f g1
    obtain ⟨x0, x1, _, _⟩ := cell2f gQ
    clear g1 gQ
    go_wp2_with fail
    have gF := set2r HG1.out (.int .i64 now) (.slice a n c)
    have bF := bset (bset HBz.out (q := w.heap.size + 1) (k := 0) (by omega) (.int .i64 now)) (q := w.heap.size + 1) (k := 1) (by omega) (.slice a n c)
    have xF := (HXz.out.frame (w' := (z.setCell ⟨w.heap.size + 1, 0, none⟩ (.int .i64 now)).setCell ⟨w.heap.size + 1, 1, none⟩ (.slice a n c)) (fun b h1 h2 => by rw [Below.heap_setCell _ _ _ _ (by dsimp only; omega), Below.heap_setCell _ _ _ _ (by dsimp only; omega)]) (by simp)).mono (base' := w.heap.size) (hi' := ((z.setCell ⟨w.heap.size + 1, 0, none⟩ (.int .i64 now)).setCell ⟨w.heap.size + 1, 1, none⟩ (.slice a n c)).heap.size) (by omega) (by simp; omega) (Nat.le_refl _)
    generalize (z.setCell ⟨w.heap.size + 1, 0, none⟩ (.int .i64 now)).setCell ⟨w.heap.size + 1, 1, none⟩ (.slice a n c) = wf at *
    obtain ⟨z0, z1, _, _⟩ := cell2f gF
    exact bodyPost_ret (v := .agg #[.int .i64 now, .slice a n c]) (by simp [results, Tryz.results9, go_sem, z0, z1]) rfl ⟨a, c, xs, by rw [HE.out, HN.out], by rw [HE.out, HN.out]; exact xF, bF⟩
  · have VA := hid (HVA.out Q W0.heap.size Q a c xs z HXz.out (.inr (Nat.le_refl _)) gQ)
    rw [← HVY.out rfl] at VA
    clear HVN HVY HVA HXz
    have HG1 := hid g1
    clear g1 gQ
    go_wp2_with fail
    refine VA.out.mono ?_
    rintro e z3 ⟨rfl, ys, gQ, hX, ho⟩
    have hz1 := lt_of_block HG1.out
    have g1 := (ho.2.1 (w.heap.size + 1) hz1 (by omega) (by omega)).trans HG1.out
    have HB3 : Hid (Below w.heap.size w z3) := hid (HBz.out.trans ⟨ho.2.2.1, ho.2.2.2.1, ho.2.2.2.2, ho.1, fun k hk => ho.2.1 k (by omega) (by omega) (by omega)⟩)
    have HX3 := hid hX
    have hz3 := ho.1
    have HG := hid g1
    clear hX ho VA HBz HG1
    obtain ⟨v0, v1, u0, u1⟩ := cell2f g1
    obtain ⟨x0, x1, _, _⟩ := cell2f gQ
    clear g1 gQ
    obtain ⟨m, hmm⟩ : ∃ m, m = vs.length := ⟨_, rfl⟩
    have HM := hid hmm.symm
    rw [← hmm] at HX3 x1
    clear hmm
    go_wp2_with fail
    have gF := set2r HG.out (.int .i64 now) (.slice a m c)
    have bF := bset (bset HB3.out (q := w.heap.size + 1) (k := 0) (by omega) (.int .i64 now)) (q := w.heap.size + 1) (k := 1) (by omega) (.slice a m c)
    have xF := (HX3.out.frame (w' := (z3.setCell ⟨w.heap.size + 1, 0, none⟩ (.int .i64 now)).setCell ⟨w.heap.size + 1, 1, none⟩ (.slice a m c)) (fun b h1 h2 => by rw [Below.heap_setCell _ _ _ _ (by dsimp only; omega), Below.heap_setCell _ _ _ _ (by dsimp only; omega)]) (by simp)).mono (base' := w.heap.size) (hi' := ((z3.setCell ⟨w.heap.size + 1, 0, none⟩ (.int .i64 now)).setCell ⟨w.heap.size + 1, 1, none⟩ (.slice a m c)).heap.size) (by omega) (by simp; omega) (Nat.le_refl _)
    generalize (z3.setCell ⟨w.heap.size + 1, 0, none⟩ (.int .i64 now)).setCell ⟨w.heap.size + 1, 1, none⟩ (.slice a m c) = wf at *
    obtain ⟨z0, z1, _, _⟩ := cell2f gF
    exact bodyPost_ret (v := .agg #[.int .i64 now, .slice a m c]) (by simp [results, Tryz.results9, go_sem, z0, z1]) rfl ⟨a, c, ys, by rw [HM.out], by rw [HM.out]; exact xF, bF⟩
end Go.Proofs.YtjhnfbefgjoiiaaGreat
namespace Go.Proofs.YtjhnfbefgjoiiaaGreat
open Go.RowKit
set_option linter.unusedSimpArgs false
set_option linter.unusedVariables false
/-- Rows in a new list, their points where they lay in W0. -/
def RowsY (base lo : Nat) (W0 w : World) (v : Value) (rs : List Rw) (xs : List El) : Prop :=
  xs.length = rs.length ∧ w.ownsRow base 57 5 v rs.length (flat5 xs) ∧ ∀ j (h : j < rs.length), ∃ c cp, xs[j]? = some (elR rs[j] c cp) ∧ rs[j].2.2.2.2.length ≤ cp ∧ rs[j].2.2.2.2.length ≤ 1099511627776 ∧ lo ≤ c ∧ Pts W0 (some ⟨c, 0, none⟩) rs[j].2.2.2.2
theorem RowsY.frame {base lo : Nat} {W0 w w' : World} {v : Value} {rs : List Rw} {xs : List El} (h : RowsY base lo W0 w v rs xs) (hb : ∀ g, v.ownBlock = some g → w'.heap[g]? = w.heap[g]?) : RowsY base lo W0 w' v rs xs := ⟨h.1, own_frame h.2.1 hb, h.2.2⟩
theorem rowsY_snoc {base lo : Nat} {W0 w w' : World} {v v' : Value} {rs : List Rw} {xs : List El} {r : Rw} {c cp : Nat} (h : RowsY base lo W0 w v rs xs) (h1 : r.2.2.2.2.length ≤ cp) (h2 : r.2.2.2.2.length ≤ 1099511627776) (h4 : lo ≤ c) (h3 : Pts W0 (some ⟨c, 0, none⟩) r.2.2.2.2) (ho : w'.ownsRow base 57 5 v' (rs.length + 1) (flat5 xs ++ ev (elR r c cp))) : RowsY base lo W0 w' v' (rs ++ [r]) (xs ++ [elR r c cp]) := by
  obtain ⟨a1, a2, a3⟩ := h
  have hlr : (rs ++ [r]).length = rs.length + 1 := by simp
  refine ⟨by simp [a1], by rw [flat5_snoc, hlr]; exact ho, fun j hj => ?_⟩
  by_cases e : j = rs.length
  · subst e
    have er : (rs ++ [r])[rs.length]'(by simp) = r := by simp
    rw [er]
    exact ⟨c, cp, by rw [← a1]; simp, h1, h2, h4, h3⟩
  · have hjl : j < rs.length := by simp at hj; omega
    have er : (rs ++ [r])[j]'(by simpa using hj) = rs[j] := by rw [List.getElem_append_left hjl]
    rw [er]
    obtain ⟨c', cp', b1, b2, b3, b5, b4⟩ := a3 j hjl
    exact ⟨c', cp', by rw [List.getElem?_append_left (by omega)]; exact b1, b2, b3, b5, b4⟩
theorem RowsY.form {base lo : Nat} {W0 w : World} {v : Value} {rs : List Rw} {xs : List El} (h : RowsY base lo W0 w v rs xs) : ∃ a cap, v = .slice a rs.length cap := by
  rcases h.2.1.2 with ⟨q, hn⟩ | ⟨g, cap, cur, e, _⟩
  · exact ⟨none, 0, by rw [q, hn]⟩
  · exact ⟨_, cap, e⟩
theorem pts_blk {W w : World} {c : Nat} {ps : List (Int × Int)} (h : Pts W (some ⟨c, 0, none⟩) ps) (e : c < W.heap.size → w.heap[c]? = W.heap[c]?) (hs : W.heap.size ≤ w.heap.size) : Pts w (some ⟨c, 0, none⟩) ps := by
  rcases h with h | ⟨b, off, ea, hb, hp⟩
  · exact .inl h
  · cases ea
    refine .inr ⟨c, 0, rfl, by omega, fun k hk => ?_⟩
    simp only [World.cell?, e hb]
    exact hp k hk
theorem RowsY.rws {base lo : Nat} {W0 w : World} {a : Option Addr} {n cap : Nat} {rs : List Rw} {xs : List El} (h : RowsY base lo W0 w (.slice a n cap) rs xs) (H : ∀ b, lo ≤ b → b < W0.heap.size → w.heap[b]? = W0.heap[b]?) (hs : W0.heap.size ≤ w.heap.size) : Rws (fun _ => True) w a rs := by
  obtain ⟨h1, h2, h3⟩ := h
  have h2' := h2
  rcases h2.2 with ⟨q, hn⟩ | ⟨g, cp, cur, e, hb, hg, hc, _⟩
  · exact .inl (List.length_eq_zero_iff.1 hn)
  · cases e
    refine .inr ⟨g, 0, rfl, (Array.getElem?_eq_some_iff.1 hg).1, fun j hj => ?_⟩
    obtain ⟨c, cpj, a1, a2, a3, a5, a4⟩ := h3 j hj
    have hjx : j < xs.length := by omega
    have ex : xs[j] = elR rs[j] c cpj := by
      rw [List.getElem?_eq_getElem hjx] at a1
      exact Option.some.inj a1
    obtain ⟨f0, f1, f2, f3, f4⟩ := flat5_at xs j hjx
    rw [ex] at f0 f1 f2 f3 f4
    rw [Nat.zero_add]
    refine ⟨some ⟨c, 0, none⟩, cpj, ?_, ?_, ?_, ?_, ?_, a2, a3, pts_blk a4 (fun hc => H c a5 hc) hs, fun _ _ _ => trivial⟩
    · rw [World.ownsRow.cellAt h2' _ (by omega)]; exact f0
    · rw [World.ownsRow.cellAt h2' _ (by omega)]; exact f1
    · rw [World.ownsRow.cellAt h2' _ (by omega)]; exact f2
    · rw [World.ownsRow.cellAt h2' _ (by omega)]; exact f3
    · rw [World.ownsRow.cellAt h2' _ (by omega)]; exact f4
theorem vkeep_def (t : Int) (r : Rw) : vkeep t r = (decide (r.2.2.1 = 0) || decide (t < r.2.2.1)) := by
  unfold vkeep
  by_cases h1 : r.2.2.1 = 0
  · simp [h1]
  · by_cases h2 : t < r.2.2.1
    · have : ¬ r.2.2.1 ≤ t := by omega
      simp [h1, h2, this]
    · have : r.2.2.1 ≤ t := by omega
      simp [h1, h2, this]
/-- Rows that the specification answers. -/
def VS (w : World) (now : Int) (rs : List Rw) (e : Ending) (w' : World) : Prop :=
  ∃ a cap, e = .returned (.agg #[.int .i64 now, .slice a rs.length cap]) ∧ Rws (fun _ => True) w' a rs ∧ Below w.heap.size w w'
set_option maxRecDepth 100000 in
set_option maxHeartbeats 4000000 in
theorem spec_Vacuum {N : Nat → Prop} (now : Int) (B : Nat) (rs : List Rw) (t : Int) (w : World) (hm : rs.length ≤ 1099511627776) (h : RwsS w B rs) (hr : Rws N w (some ⟨B, 0, none⟩) rs) : Calls Tryz.prog 7 #[.agg #[.int .i64 now, .slice (some ⟨B, 0, none⟩) rs.length rs.length], .int .i64 t] w fun e w' => VS w now (vacb now rs t) e w' := by
  obtain ⟨i0, hi0, hz0, hz1, hz2⟩ := info_parts Tryz.infoRow
  have HOK := hid (fun (W : World) (hb : Below w.heap.size w W) => spec_RowsOk now (some ⟨B, 0, none⟩) rs.length rs W hm (hr.below hb))
  have HCO := hid (fun (W : World) (hb : Below w.heap.size w W) => spec_copyRows now B rs W hm (h.below hb))
  have HVN : Hid (rowsb now rs = false → vacb now rs t = rs) := hid (fun e => by unfold vacb; rw [if_neg (by rw [e]; simp)])
  have HVY : Hid (rowsb now rs = true → vacb now rs t = rs.filter (vkeep t)) := hid (fun e => by unfold vacb; rw [if_pos e])
  clear h hr
  unfold VS
  unfold VR at HCO
  obtain ⟨n, hn⟩ : ∃ n, n = rs.length := ⟨_, rfl⟩
  have HN := hid hn.symm
  rw [← hn] at hm HOK HCO ⊢
  clear hn
  generalize vacb now rs t = vs at *
  generalize rowsb now rs = ob at *
  have hBx : Below w.heap.size w ((w.alloc (.cells #[.int .i64 now, .slice (some ⟨B, 0, none⟩) n n] 28)).alloc (.cells #[.int .i64 0, .slice none 0 0] 28)) := balloc (balloc (Below.refl _ _) _) _
  have g0 := old_alloc (o' := .cells #[.int .i64 0, .slice none 0 0] 28) (new_alloc w w.heap.size (.cells #[.int .i64 now, .slice (some ⟨B, 0, none⟩) n n] 28) rfl)
  have g1 := new_alloc (w.alloc (.cells #[.int .i64 now, .slice (some ⟨B, 0, none⟩) n n] 28)) (w.heap.size + 1) (.cells #[.int .i64 0, .slice none 0 0] 28) (by simp)
  go_enter Tryz.func7, Tryz.ntmps7
  go_upto_region 1 with fail
  generalize (w.alloc (.cells #[.int .i64 now, .slice (some ⟨B, 0, none⟩) n n] 28)).alloc (.cells #[.int .i64 0, .slice none 0 0] 28) = W0 at *
  obtain ⟨d0, d1, _, _⟩ := cell2f g0
  go_wp2_with fail
  refine (HOK.out _ hBx).mono ?_
  rintro e W ⟨rfl, hz⟩
  replace g0 := keepheap2 hz g0
  replace g1 := keepheap2 hz g1
  have hB := btrans hBx hz
  have hWs := lt_of_block g1
  clear hBx hz d0 d1 HOK
  obtain ⟨d0, d1, _, _⟩ := cell2f g0
  cases ob
  · have CO := hid (HCO.out W hB)
    have HE := hid (HVN.out rfl)
    have HB := hid hB
    have HG1 := hid g1
    clear HCO HVN HVY g0 g1 hB
    go_wp2_with fail
    refine CO.out.mono ?_
    rintro e y ⟨a, c, xs, rfl, hX, hy⟩
    have g1 := keepheap2 hy HG1.out
    have HBy := hid (btrans HB.out hy)
    have HX := hid hX
    clear hX hy d0 d1
    obtain ⟨v0, v1, u0, u1⟩ := cell2f g1
    go_wp2_with fail
    have gF := set2r g1 (.int .i64 now) (.slice a n c)
    have bF := bset (bset HBy.out (q := w.heap.size + 1) (k := 0) (by omega) (.int .i64 now)) (q := w.heap.size + 1) (k := 1) (by omega) (.slice a n c)
    have xF := (HX.out.frame (w' := (y.setCell ⟨w.heap.size + 1, 0, none⟩ (.int .i64 now)).setCell ⟨w.heap.size + 1, 1, none⟩ (.slice a n c)) (fun b h1 h2 => by rw [Below.heap_setCell _ _ _ _ (by dsimp only; omega), Below.heap_setCell _ _ _ _ (by dsimp only; omega)]) (by simp)).rws
    generalize (y.setCell ⟨w.heap.size + 1, 0, none⟩ (.int .i64 now)).setCell ⟨w.heap.size + 1, 1, none⟩ (.slice a n c) = wf at *
    obtain ⟨z0, z1, _, _⟩ := cell2f gF
    have hvs := HE.out
    subst hvs
    exact bodyPost_ret (v := .agg #[.int .i64 now, .slice a n c]) (by simp [results, Tryz.results7, go_sem, z0, z1]) rfl ⟨a, c, by rw [HN.out], xF, bF⟩
  have CO := hid (HCO.out W hB)
  have HE := hid (HVY.out rfl)
  have HB := hid hB
  have HG0 := hid g0
  have HG1 := hid g1
  clear HCO HVN HVY g0 g1 hB
  go_wp2_with fail
  refine CO.out.mono ?_
  rintro e y ⟨a, c, xs0, rfl, hX, hy⟩
  have HGy0 := hid (keepheap2 hy HG0.out)
  have HGy1 := hid (keepheap2 hy HG1.out)
  have HBy := hid (btrans HB.out hy)
  have HXR := hid hX.rows
  have hys := hy.size
  clear hX hy d0 d1 CO HB HG0 HG1
  obtain ⟨d0, d1, _, _⟩ := cell2f HGy0.out
  have e0 := keepalloc d0 (.cells #[.int .i64 now, .slice a n c] 28)
  go_upto_region 5 with fail
  clear d0 d1 e0
  have hal : Below y.heap.size y ((y.alloc (.cells #[.int .i64 now, .slice a n c] 28)).alloc (.cells #[.int .i64 now, .slice none 0 0] 28)) := balloc (balloc (Below.refl _ _) _) _
  have gA := old_alloc (o' := .cells #[.int .i64 now, .slice none 0 0] 28) (new_alloc y y.heap.size (.cells #[.int .i64 now, .slice a n c] 28) rfl)
  have gB := new_alloc (y.alloc (.cells #[.int .i64 now, .slice a n c] 28)) (y.heap.size + 1) (.cells #[.int .i64 now, .slice none 0 0] 28) (by simp)
  have hs2 : y.heap.size + 2 ≤ ((y.alloc (.cells #[.int .i64 now, .slice a n c] 28)).alloc (.cells #[.int .i64 now, .slice none 0 0] 28)).heap.size := by simp
  generalize (y.alloc (.cells #[.int .i64 now, .slice a n c] 28)).alloc (.cells #[.int .i64 now, .slice none 0 0] 28) = V at *
  obtain ⟨A, hA⟩ : ∃ A, A = y.heap.size := ⟨_, rfl⟩
  have HA := hid hA
  rw [← hA] at gA gB hs2 hal
  rw [← hA]
  clear hA
  have HY0 : Hid (RowsY (A + 2) W.heap.size y V (.slice none 0 0) [] []) := hid ⟨rfl, by simpa [flat5] using own_nilR (w := V) (B := A + 2), fun j hj => absurd hj (by simp)⟩
  go_wp2_with fail
  go_loopw [7] (fun ti wr => ∃ i : Nat, ∃ v : Value, ∃ xs : List El, ti = .int .i64 i ∧ i ≤ n ∧ Hid (RowsY (A + 2) W.heap.size y wr v ((rs.take i).filter (vkeep t)) xs) ∧ Hid (wr.heap[A]? = some (.cells #[.int .i64 now, .slice a n c] 28 (0, 0))) ∧ Hid (wr.heap[A + 1]? = some (.cells #[.int .i64 now, v] 28 (0, 0))) ∧ Hid (A + 2 ≤ wr.heap.size) ∧ Hid (Below A y wr)) (fun ti _ => n - (intOf ti).toNat)
  case atStart => exact ⟨0, _, [], rfl, Nat.zero_le _, HY0, hid gA, hid gB, hid hs2, hid hal⟩
  case round =>
    clear HY0 gA gB hs2 hal
    obtain ⟨i, v, xs, rfl, hi, HV, G0, G1, HS, HBW⟩ := hrel
    have hws := HS.out
    obtain ⟨d0, d1, _, _⟩ := cell2f G0.out
    by_cases hlt : i < n
    · have c1 : (i : Int) < (n : Int) := by omega
      have hir : i < rs.length := by rw [HN.out]; exact hlt
      obtain ⟨g, cpX, eX, q1, q2, q3, q4, q5, cf, cpf, q6, q7⟩ : ∃ g cap, (Value.slice a n c) = .slice (some ⟨g, 0, none⟩) rs.length cap ∧ W.heap.size ≤ g ∧ g < y.heap.size ∧ y.heap.size ≤ y.heap.size ∧ rs.length ≤ cap ∧ y.there g 0 (rs.length * 5) ∧ ∃ c cp : Nat → Nat, (∀ j (h : j < rs.length), RowC y g (j * 5) rs[j] (c j) (cp j) ∧ rs[j].2.2.2.2.length ≤ cp j ∧ rs[j].2.2.2.2.length ≤ 1099511627776 ∧ W.heap.size ≤ c j ∧ c j < y.heap.size ∧ c j ≠ g) ∧ (∀ i j, i < j → j < rs.length → c i ≠ c j) := by
        rcases HXR.out with ⟨q, _⟩ | q
        · rw [q] at hir; simp at hir
        · exact q
      obtain rfl : a = some ⟨g, 0, none⟩ := by cases eX; rfl
      obtain ⟨⟨k0, k1, k2, k3, k4, k5⟩, hcp, k6, hclo, _⟩ := q6 i hir
      have hgA : g < A := by rw [HA.out]; exact q2
      have HPT := hid k5.pts
      replace k0 := (HBW.out.cell (p := ⟨g, i * 5, none⟩) hgA).trans k0
      replace k1 := (HBW.out.cell (p := ⟨g, i * 5 + 1, none⟩) hgA).trans k1
      replace k2 := (HBW.out.cell (p := ⟨g, i * 5 + 2, none⟩) hgA).trans k2
      replace k3 := (HBW.out.cell (p := ⟨g, i * 5 + 3, none⟩) hgA).trans k3
      replace k4 := (HBW.out.cell (p := ⟨g, i * 5 + 4, none⟩) hgA).trans k4
      have HX := hid (flt_next (p := vkeep t) hir)
      have HVD := hid (vkeep_def t rs[i])
      have hil : ((rs.take i).filter (vkeep t)).length ≤ i := by have := List.length_filter_le (vkeep t) (rs.take i); simp at this; omega
      clear q1 q2 q3 q4 q5 q6 q7 eX k5
      generalize cf i = ci at *
      generalize cpf i = cpi at *
      obtain ⟨r, hr⟩ : ∃ r, r = rs[i] := ⟨_, rfl⟩
      rw [← hr] at k0 k1 k2 k3 k4 k6 hcp HPT HX HVD
      clear hr
      generalize (rs.take i).filter (vkeep t) = zs at *
      obtain ⟨id, fr, te, kd, ps⟩ := r
      simp only at k0 k1 k2 k3 k4 k6 hcp HPT HVD
      generalize vkeep t (id, fr, te, kd, ps) = kb at HX HVD
      have hkk : (te = 0 ∧ kb = true) ∨ (te ≠ 0 ∧ t < te ∧ kb = true) ∨ (te ≠ 0 ∧ te ≤ t ∧ kb = false) := by
        rw [HVD.out]
        by_cases h1 : te = 0
        · exact .inl ⟨h1, by simp [h1]⟩
        · by_cases h2 : t < te
          · exact .inr (.inl ⟨h1, h2, by simp [h2]⟩)
          · exact .inr (.inr ⟨h1, by omega, by simp [h1, h2]⟩)
      have hown := HV.out.2.1
      have hvb : v.ownBlock ≠ some (A + 1) := fun e => by have := (hown.lt _ e).1; omega
      have hvA : some A ≠ v.ownBlock := fun e => by have := (hown.lt _ e.symm).1; omega
      have hvg : some g ≠ v.ownBlock := fun e => by have := (hown.lt _ e.symm).1; omega
      have g1 := G1.out
      obtain ⟨f0, f1, _, _⟩ := cell2f g1
      have f1d : wr.drew.cell? ⟨A + 1, 1, none⟩ = some v := keepdrew f1
      have f1e : (wr.alloc (.cells #[.int .i64 id, .int .i64 fr, .int .i64 te, .int .i64 kd, .slice (some ⟨ci, 0, none⟩) ps.length cpi] 57)).drew.cell? ⟨A + 1, 1, none⟩ = some v := keepdrew (keepalloc f1 _)
      have HGE : Hid ((wr.alloc (.cells #[.int .i64 id, .int .i64 fr, .int .i64 te, .int .i64 kd, .slice (some ⟨ci, 0, none⟩) ps.length cpi] 57)).drew.heap[A + 1]? = _) := hid (old_alloc g1)
      have HG0E : Hid ((wr.alloc (.cells #[.int .i64 id, .int .i64 fr, .int .i64 te, .int .i64 kd, .slice (some ⟨ci, 0, none⟩) ps.length cpi] 57)).drew.heap[A]? = _) := hid (old_alloc G0.out)
      rcases hkk with ⟨h1, hk⟩ | ⟨h1, h2, hk⟩ | ⟨h1, h2, hk⟩
      · have HX2 : Hid ((rs.take (i + 1)).filter (vkeep t) = zs ++ [(id, fr, te, kd, ps)]) := hid (by rw [HX.out, hk]; simp)
        have HT0 := hid h1
        have h1b : (te == 0) = true := by simpa using h1
        clear hk HX HVD h1
        go_wp2_with fail
        refine wp_region_held_drew (S := (fun w' => w'.cell? ⟨A, 1, none⟩ = some (.slice (some ⟨g, 0, none⟩) n c) ∧ w'.cell? ⟨g, i * 5, none⟩ = some (.int .i64 id) ∧ w'.cell? ⟨g, i * 5 + 1, none⟩ = some (.int .i64 fr) ∧ w'.cell? ⟨g, i * 5 + 2, none⟩ = some (.int .i64 te) ∧ w'.cell? ⟨g, i * 5 + 3, none⟩ = some (.int .i64 kd) ∧ w'.cell? ⟨g, i * 5 + 4, none⟩ = some (.slice (some ⟨ci, 0, none⟩) ps.length cpi))) (by kernel_rfl) ?_ (fun hHeld => ?_)
        · (repeat' apply And.intro) <;> (repeat (first | with_reducible assumption | with_reducible refine keepset3 ?_ (by dsimp only; omega) | with_reducible refine keepdrew ?_ | with_reducible refine keepalloc ?_ _ | (refine hgrow.cell ?_ hvA) | (refine hgrow.cell ?_ hvg)))
        refine wpAnyH_take (i := 0) (v := ?_) rfl (by kernel_rfl) (by kernel_rfl) (by kernel_rfl) (fun _ _ _ h => h) (Or.inl ⟨by rfl, ?_⟩) hHeld ?_
        rotate_left
        · intro w hSw; (try dsimp only at hSw); go_simp; try (with_reducible rfl)
        try simp only [sq]
        refine wpAnyH_take (i := 2) (v := ?_) rfl (by kernel_rfl) (by kernel_rfl) (by kernel_rfl) (fun _ _ _ h => h) (Or.inl ⟨by rfl, ?_⟩) hHeld ?_
        rotate_left
        · intro w hSw; (try dsimp only at hSw); go_simp; try (with_reducible rfl)
        try simp only [sq]
        refine wpAnyH_take (i := 3) (v := ?_) rfl (by kernel_rfl) (by kernel_rfl) (by kernel_rfl) (fun _ _ _ h => h) (Or.inl ⟨by rfl, ?_⟩) hHeld ?_
        rotate_left
        · intro w hSw; (try dsimp only at hSw); go_simp; try (with_reducible rfl)
        try simp only [sq]
        refine wpAnyH_take (i := 4) (v := ?_) rfl (by kernel_rfl) (by kernel_rfl) (by kernel_rfl) (fun _ _ _ h => h) (Or.inl ⟨by rfl, ?_⟩) hHeld ?_
        rotate_left
        · intro w hSw; (try dsimp only at hSw); go_simp; try (with_reducible rfl)
        try simp only [sq]
        refine wpAnyH_take (i := 5) (v := ?_) rfl (by kernel_rfl) (by kernel_rfl) (by kernel_rfl) (fun _ _ _ h => h) (Or.inl ⟨by rfl, ?_⟩) hHeld ?_
        rotate_left
        · intro w hSw; (try dsimp only at hSw); go_simp; try (with_reducible rfl)
        try simp only [sq]
        refine wpAnyH_take (i := 6) (v := ?_) rfl (by kernel_rfl) (by kernel_rfl) (by kernel_rfl) (fun _ _ _ h => h) (Or.inl ⟨by rfl, ?_⟩) hHeld ?_
        rotate_left
        · intro w hSw; (try dsimp only at hSw); go_simp; try (with_reducible rfl)
        try simp only [sq]
        refine wpAnyH_ready (rs := [1, 7]) (by kernel_rfl) (by simp) ?_
        refine AllReadyH.cons rfl (fun K hK => ?_) (AllReadyH.cons rfl (fun K hK => ?_) AllReadyH.nil)
        · skip
          try simp only [sq]
          go_simp
          refine hK.out _ _ ?_ (fun hHeld => ?_)
          · (repeat' apply And.intro) <;> (repeat (first | with_reducible assumption | with_reducible refine keepset3 ?_ (by dsimp only; omega) | with_reducible refine keepdrew ?_ | with_reducible refine keepalloc ?_ _ | (refine hgrow.cell ?_ hvA) | (refine hgrow.cell ?_ hvg)))
          clear hK K
          try simp only [sq]
          refine wpAnyH_ready (rs := [7]) (by kernel_rfl) (by simp) ?_
          refine AllReadyH.cons rfl (fun K hK => ?_) AllReadyH.nil
          try simp only [sq]
          go_simp
          refine hK.out _ _ ?_ (fun hHeld => ?_)
          · (repeat' apply And.intro) <;> (repeat (first | with_reducible assumption | with_reducible refine keepset3 ?_ (by dsimp only; omega) | with_reducible refine keepdrew ?_ | with_reducible refine keepalloc ?_ _ | (refine hgrow.cell ?_ hvA) | (refine hgrow.cell ?_ hvg)))
          clear hK K
          try simp only [sq]
          refine wpAnyH_ready (rs := [8]) (by kernel_rfl) (by simp) ?_
          refine AllReadyH.cons rfl (fun K hK => ?_) AllReadyH.nil
          (refine step_append_lies _ (by rfl) (.tmp 43) (.tmp 49) 26 (by rfl) (A + 2) 57 i0 _ 5 56 Tryz.underlying26 hi0 hz0 hz1 hz2 rfl (by omega) v zs.length (flat5 xs) (by rfl) ((hown.alloc _).drew) ⟨wr.heap.size, 0, none⟩ 1 1 (ev (elR (id, fr, te, kd, ps) ci cpi)) (by rfl) (by rfl) (World.news_of_block (cs := #[.int .i64 id, .int .i64 fr, .int .i64 te, .int .i64 kd, .slice (some ⟨ci, 0, none⟩) ps.length cpi]) (t := 57) (fr := (0, 0)) (heap_alloc_new wr _)) (by simp [ev, elR, Value.oneCell']) (by omega) (by unfold maxLen; omega) (by omega) (by show A + 2 ≤ (wr.alloc (.cells #[.int .i64 id, .int .i64 fr, .int .i64 te, .int .i64 kd, .slice (some ⟨ci, 0, none⟩) ps.length cpi] 57)).heap.size; simp; omega) (wr.heap.size + 1) (by simp) ?_; intro gg cq w2 hown2 hgrow hat hlt2; have g2 := (hgrow.block (A + 1) (show A + 1 < (wr.alloc (.cells #[.int .i64 id, .int .i64 fr, .int .i64 te, .int .i64 kd, .slice (some ⟨ci, 0, none⟩) ps.length cpi] 57)).heap.size from by (simp; omega)) (fun e => hvb e.symm)).trans HGE.out; obtain ⟨t0, t1, s0, s1⟩ := cell2f g2)
          refine hK.out _ _ ?_ (fun hHeld => ?_)
          · (repeat' apply And.intro) <;> (repeat (first | with_reducible assumption | with_reducible refine keepset3 ?_ (by dsimp only; omega) | with_reducible refine keepdrew ?_ | with_reducible refine keepalloc ?_ _ | (refine hgrow.cell ?_ hvA) | (refine hgrow.cell ?_ hvg)))
          clear hK K
          try simp only [sq]
          refine wpAnyH_take (i := 9) (v := ?_) rfl (by kernel_rfl) (by kernel_rfl) (by kernel_rfl) (fun _ _ _ h => h) (Or.inl ⟨by rfl, ?_⟩) hHeld ?_
          rotate_left
          · intro w hSw; (try dsimp only at hSw); go_simp; try (with_reducible rfl)
          try simp only [sq]
          refine wpAnyH_ready (rs := [10]) (by kernel_rfl) (by simp) ?_
          refine AllReadyH.cons rfl (fun K hK => ?_) AllReadyH.nil
          try simp only [sq]
          go_simp
          refine hK.out _ _ ?_ (fun hHeld => ?_)
          · (repeat' apply And.intro) <;> (repeat (first | with_reducible assumption | with_reducible refine keepset3 ?_ (by dsimp only; omega) | with_reducible refine keepdrew ?_ | with_reducible refine keepalloc ?_ _ | (refine hgrow.cell ?_ hvA) | (refine hgrow.cell ?_ hvg)))
          clear hK K
          try simp only [sq]
          refine wpAnyH_done (by kernel_rfl) ?_ _
          have hsn := rowsY_snoc (r := (id, fr, te, kd, ps)) (c := ci) (cp := cpi) HV.out hcp k6 hclo HPT.out hown2
          have HSN : Hid (RowsY (A + 2) W.heap.size y (w2.setCell ⟨A + 1, 1, none⟩ (.slice (some ⟨gg, 0, none⟩) (zs.length + 1) cq)) (.slice (some ⟨gg, 0, none⟩) (zs.length + 1) cq) ((rs.take (i + 1)).filter (vkeep t)) (xs ++ [elR (id, fr, te, kd, ps) ci cpi])) := hid (by
            rw [HX2.out]
            exact hsn.frame (fun b hb => by rw [Below.heap_setCell _ _ _ _ (by dsimp only; have := (hown2.lt b hb).1; omega)]))
          have HF2 := hid ((Below.heap_setCell w2 ⟨A + 1, 1, none⟩ (.slice (some ⟨gg, 0, none⟩) (zs.length + 1) cq) A (by dsimp only; omega)).trans ((hgrow.block A (show A < (wr.alloc (.cells #[.int .i64 id, .int .i64 fr, .int .i64 te, .int .i64 kd, .slice (some ⟨ci, 0, none⟩) ps.length cpi] 57)).heap.size from by (simp; omega)) (fun e => by have := (hown.lt _ e.symm).1; omega)).trans HG0E.out))
          have HF4 := hid (set1r g2 (.slice (some ⟨gg, 0, none⟩) (zs.length + 1) cq))
          have hw2 : wr.heap.size + 1 ≤ w2.heap.size := by
            have h9 := hgrow.size
            have h8 : (wr.alloc (.cells #[.int .i64 id, .int .i64 fr, .int .i64 te, .int .i64 kd, .slice (some ⟨ci, 0, none⟩) ps.length cpi] 57)).drew.heap.size = wr.heap.size + 1 := by
              show (wr.alloc (.cells #[.int .i64 id, .int .i64 fr, .int .i64 te, .int .i64 kd, .slice (some ⟨ci, 0, none⟩) ps.length cpi] 57)).heap.size = _
              simp
            omega
          have HF5 : Hid (A + 2 ≤ (w2.setCell ⟨A + 1, 1, none⟩ (.slice (some ⟨gg, 0, none⟩) (zs.length + 1) cq)).heap.size) := hid (by simp only [World.size_setCell]; omega)
          have HF6 : Hid (Below A y (w2.setCell ⟨A + 1, 1, none⟩ (.slice (some ⟨gg, 0, none⟩) (zs.length + 1) cq))) := hid ((Below.grown (((HBW.out.alloc (by omega) (.cells #[.int .i64 id, .int .i64 fr, .int .i64 te, .int .i64 kd, .slice (some ⟨ci, 0, none⟩) ps.length cpi] 57))).drew) hgrow (show A ≤ (wr.alloc (.cells #[.int .i64 id, .int .i64 fr, .int .i64 te, .int .i64 kd, .slice (some ⟨ci, 0, none⟩) ps.length cpi] 57)).heap.size from by (simp; omega)) (fun k e => by have := (hown.lt k e).1; omega)).setCell (by dsimp only; omega) _)
          clear hsn hown2 hgrow g2 t0 t1 s0 s1
          go_wp2_with fail
          go_roundw
          case rel => exact ⟨i + 1, _, _, by go_num, by omega, HSN, HF2, HF4, HF5, HF6⟩
          case measure => simp [intOf]; omega
        · skip
          try simp only [sq]
          go_simp
          refine hK.out _ _ ?_ (fun hHeld => ?_)
          · (repeat' apply And.intro) <;> (repeat (first | with_reducible assumption | with_reducible refine keepset3 ?_ (by dsimp only; omega) | with_reducible refine keepdrew ?_ | with_reducible refine keepalloc ?_ _ | (refine hgrow.cell ?_ hvA) | (refine hgrow.cell ?_ hvg)))
          clear hK K
          try simp only [sq]
          refine wpAnyH_ready (rs := [1]) (by kernel_rfl) (by simp) ?_
          refine AllReadyH.cons rfl (fun K hK => ?_) AllReadyH.nil
          try simp only [sq]
          go_simp
          refine hK.out _ _ ?_ (fun hHeld => ?_)
          · (repeat' apply And.intro) <;> (repeat (first | with_reducible assumption | with_reducible refine keepset3 ?_ (by dsimp only; omega) | with_reducible refine keepdrew ?_ | with_reducible refine keepalloc ?_ _ | (refine hgrow.cell ?_ hvA) | (refine hgrow.cell ?_ hvg)))
          clear hK K
          try simp only [sq]
          refine wpAnyH_ready (rs := [8]) (by kernel_rfl) (by simp) ?_
          refine AllReadyH.cons rfl (fun K hK => ?_) AllReadyH.nil
          (refine step_append_lies _ (by rfl) (.tmp 43) (.tmp 49) 26 (by rfl) (A + 2) 57 i0 _ 5 56 Tryz.underlying26 hi0 hz0 hz1 hz2 rfl (by omega) v zs.length (flat5 xs) (by rfl) ((hown.alloc _).drew) ⟨wr.heap.size, 0, none⟩ 1 1 (ev (elR (id, fr, te, kd, ps) ci cpi)) (by rfl) (by rfl) (World.news_of_block (cs := #[.int .i64 id, .int .i64 fr, .int .i64 te, .int .i64 kd, .slice (some ⟨ci, 0, none⟩) ps.length cpi]) (t := 57) (fr := (0, 0)) (heap_alloc_new wr _)) (by simp [ev, elR, Value.oneCell']) (by omega) (by unfold maxLen; omega) (by omega) (by show A + 2 ≤ (wr.alloc (.cells #[.int .i64 id, .int .i64 fr, .int .i64 te, .int .i64 kd, .slice (some ⟨ci, 0, none⟩) ps.length cpi] 57)).heap.size; simp; omega) (wr.heap.size + 1) (by simp) ?_; intro gg cq w2 hown2 hgrow hat hlt2; have g2 := (hgrow.block (A + 1) (show A + 1 < (wr.alloc (.cells #[.int .i64 id, .int .i64 fr, .int .i64 te, .int .i64 kd, .slice (some ⟨ci, 0, none⟩) ps.length cpi] 57)).heap.size from by (simp; omega)) (fun e => hvb e.symm)).trans HGE.out; obtain ⟨t0, t1, s0, s1⟩ := cell2f g2)
          refine hK.out _ _ ?_ (fun hHeld => ?_)
          · (repeat' apply And.intro) <;> (repeat (first | with_reducible assumption | with_reducible refine keepset3 ?_ (by dsimp only; omega) | with_reducible refine keepdrew ?_ | with_reducible refine keepalloc ?_ _ | (refine hgrow.cell ?_ hvA) | (refine hgrow.cell ?_ hvg)))
          clear hK K
          try simp only [sq]
          refine wpAnyH_take (i := 9) (v := ?_) rfl (by kernel_rfl) (by kernel_rfl) (by kernel_rfl) (fun _ _ _ h => h) (Or.inl ⟨by rfl, ?_⟩) hHeld ?_
          rotate_left
          · intro w hSw; (try dsimp only at hSw); go_simp; try (with_reducible rfl)
          try simp only [sq]
          refine wpAnyH_ready (rs := [10]) (by kernel_rfl) (by simp) ?_
          refine AllReadyH.cons rfl (fun K hK => ?_) AllReadyH.nil
          try simp only [sq]
          go_simp
          refine hK.out _ _ ?_ (fun hHeld => ?_)
          · (repeat' apply And.intro) <;> (repeat (first | with_reducible assumption | with_reducible refine keepset3 ?_ (by dsimp only; omega) | with_reducible refine keepdrew ?_ | with_reducible refine keepalloc ?_ _ | (refine hgrow.cell ?_ hvA) | (refine hgrow.cell ?_ hvg)))
          clear hK K
          try simp only [sq]
          refine wpAnyH_done (by kernel_rfl) ?_ _
          have hsn := rowsY_snoc (r := (id, fr, te, kd, ps)) (c := ci) (cp := cpi) HV.out hcp k6 hclo HPT.out hown2
          have HSN : Hid (RowsY (A + 2) W.heap.size y (w2.setCell ⟨A + 1, 1, none⟩ (.slice (some ⟨gg, 0, none⟩) (zs.length + 1) cq)) (.slice (some ⟨gg, 0, none⟩) (zs.length + 1) cq) ((rs.take (i + 1)).filter (vkeep t)) (xs ++ [elR (id, fr, te, kd, ps) ci cpi])) := hid (by
            rw [HX2.out]
            exact hsn.frame (fun b hb => by rw [Below.heap_setCell _ _ _ _ (by dsimp only; have := (hown2.lt b hb).1; omega)]))
          have HF2 := hid ((Below.heap_setCell w2 ⟨A + 1, 1, none⟩ (.slice (some ⟨gg, 0, none⟩) (zs.length + 1) cq) A (by dsimp only; omega)).trans ((hgrow.block A (show A < (wr.alloc (.cells #[.int .i64 id, .int .i64 fr, .int .i64 te, .int .i64 kd, .slice (some ⟨ci, 0, none⟩) ps.length cpi] 57)).heap.size from by (simp; omega)) (fun e => by have := (hown.lt _ e.symm).1; omega)).trans HG0E.out))
          have HF4 := hid (set1r g2 (.slice (some ⟨gg, 0, none⟩) (zs.length + 1) cq))
          have hw2 : wr.heap.size + 1 ≤ w2.heap.size := by
            have h9 := hgrow.size
            have h8 : (wr.alloc (.cells #[.int .i64 id, .int .i64 fr, .int .i64 te, .int .i64 kd, .slice (some ⟨ci, 0, none⟩) ps.length cpi] 57)).drew.heap.size = wr.heap.size + 1 := by
              show (wr.alloc (.cells #[.int .i64 id, .int .i64 fr, .int .i64 te, .int .i64 kd, .slice (some ⟨ci, 0, none⟩) ps.length cpi] 57)).heap.size = _
              simp
            omega
          have HF5 : Hid (A + 2 ≤ (w2.setCell ⟨A + 1, 1, none⟩ (.slice (some ⟨gg, 0, none⟩) (zs.length + 1) cq)).heap.size) := hid (by simp only [World.size_setCell]; omega)
          have HF6 : Hid (Below A y (w2.setCell ⟨A + 1, 1, none⟩ (.slice (some ⟨gg, 0, none⟩) (zs.length + 1) cq))) := hid ((Below.grown (((HBW.out.alloc (by omega) (.cells #[.int .i64 id, .int .i64 fr, .int .i64 te, .int .i64 kd, .slice (some ⟨ci, 0, none⟩) ps.length cpi] 57))).drew) hgrow (show A ≤ (wr.alloc (.cells #[.int .i64 id, .int .i64 fr, .int .i64 te, .int .i64 kd, .slice (some ⟨ci, 0, none⟩) ps.length cpi] 57)).heap.size from by (simp; omega)) (fun k e => by have := (hown.lt k e).1; omega)).setCell (by dsimp only; omega) _)
          clear hsn hown2 hgrow g2 t0 t1 s0 s1
          go_wp2_with fail
          go_roundw
          case rel => exact ⟨i + 1, _, _, by go_num, by omega, HSN, HF2, HF4, HF5, HF6⟩
          case measure => simp [intOf]; omega
      · have HX2 : Hid ((rs.take (i + 1)).filter (vkeep t) = zs ++ [(id, fr, te, kd, ps)]) := hid (by rw [HX.out, hk]; simp)
        have h1b : (te == 0) = false := by simpa using h1
        clear hk HX HVD h1
        go_wp2_with fail
        refine wp_region_held_drew (S := (fun w' => w'.cell? ⟨A, 1, none⟩ = some (.slice (some ⟨g, 0, none⟩) n c) ∧ w'.cell? ⟨g, i * 5, none⟩ = some (.int .i64 id) ∧ w'.cell? ⟨g, i * 5 + 1, none⟩ = some (.int .i64 fr) ∧ w'.cell? ⟨g, i * 5 + 2, none⟩ = some (.int .i64 te) ∧ w'.cell? ⟨g, i * 5 + 3, none⟩ = some (.int .i64 kd) ∧ w'.cell? ⟨g, i * 5 + 4, none⟩ = some (.slice (some ⟨ci, 0, none⟩) ps.length cpi))) (by kernel_rfl) ?_ (fun hHeld => ?_)
        · (repeat' apply And.intro) <;> (repeat (first | with_reducible assumption | with_reducible refine keepset3 ?_ (by dsimp only; omega) | with_reducible refine keepdrew ?_ | with_reducible refine keepalloc ?_ _ | (refine hgrow.cell ?_ hvA) | (refine hgrow.cell ?_ hvg)))
        refine wpAnyH_take (i := 0) (v := ?_) rfl (by kernel_rfl) (by kernel_rfl) (by kernel_rfl) (fun _ _ _ h => h) (Or.inl ⟨by rfl, ?_⟩) hHeld ?_
        rotate_left
        · intro w hSw; (try dsimp only at hSw); go_simp; try (with_reducible rfl)
        try simp only [sq]
        refine wpAnyH_take (i := 2) (v := ?_) rfl (by kernel_rfl) (by kernel_rfl) (by kernel_rfl) (fun _ _ _ h => h) (Or.inl ⟨by rfl, ?_⟩) hHeld ?_
        rotate_left
        · intro w hSw; (try dsimp only at hSw); go_simp; try (with_reducible rfl)
        try simp only [sq]
        refine wpAnyH_take (i := 3) (v := ?_) rfl (by kernel_rfl) (by kernel_rfl) (by kernel_rfl) (fun _ _ _ h => h) (Or.inl ⟨by rfl, ?_⟩) hHeld ?_
        rotate_left
        · intro w hSw; (try dsimp only at hSw); go_simp; try (with_reducible rfl)
        try simp only [sq]
        refine wpAnyH_take (i := 4) (v := ?_) rfl (by kernel_rfl) (by kernel_rfl) (by kernel_rfl) (fun _ _ _ h => h) (Or.inl ⟨by rfl, ?_⟩) hHeld ?_
        rotate_left
        · intro w hSw; (try dsimp only at hSw); go_simp; try (with_reducible rfl)
        try simp only [sq]
        refine wpAnyH_take (i := 5) (v := ?_) rfl (by kernel_rfl) (by kernel_rfl) (by kernel_rfl) (fun _ _ _ h => h) (Or.inl ⟨by rfl, ?_⟩) hHeld ?_
        rotate_left
        · intro w hSw; (try dsimp only at hSw); go_simp; try (with_reducible rfl)
        try simp only [sq]
        refine wpAnyH_take (i := 6) (v := ?_) rfl (by kernel_rfl) (by kernel_rfl) (by kernel_rfl) (fun _ _ _ h => h) (Or.inl ⟨by rfl, ?_⟩) hHeld ?_
        rotate_left
        · intro w hSw; (try dsimp only at hSw); go_simp; try (with_reducible rfl)
        try simp only [sq]
        refine wpAnyH_ready (rs := [1, 7]) (by kernel_rfl) (by simp) ?_
        refine AllReadyH.cons rfl (fun K hK => ?_) (AllReadyH.cons rfl (fun K hK => ?_) AllReadyH.nil)
        · skip
          try simp only [sq]
          go_simp
          refine hK.out _ _ ?_ (fun hHeld => ?_)
          · (repeat' apply And.intro) <;> (repeat (first | with_reducible assumption | with_reducible refine keepset3 ?_ (by dsimp only; omega) | with_reducible refine keepdrew ?_ | with_reducible refine keepalloc ?_ _ | (refine hgrow.cell ?_ hvA) | (refine hgrow.cell ?_ hvg)))
          clear hK K
          try simp only [sq]
          refine wpAnyH_ready (rs := [7]) (by kernel_rfl) (by simp) ?_
          refine AllReadyH.cons rfl (fun K hK => ?_) AllReadyH.nil
          try simp only [sq]
          go_simp
          refine hK.out _ _ ?_ (fun hHeld => ?_)
          · (repeat' apply And.intro) <;> (repeat (first | with_reducible assumption | with_reducible refine keepset3 ?_ (by dsimp only; omega) | with_reducible refine keepdrew ?_ | with_reducible refine keepalloc ?_ _ | (refine hgrow.cell ?_ hvA) | (refine hgrow.cell ?_ hvg)))
          clear hK K
          try simp only [sq]
          refine wpAnyH_ready (rs := [8]) (by kernel_rfl) (by simp) ?_
          refine AllReadyH.cons rfl (fun K hK => ?_) AllReadyH.nil
          (refine step_append_lies _ (by rfl) (.tmp 43) (.tmp 49) 26 (by rfl) (A + 2) 57 i0 _ 5 56 Tryz.underlying26 hi0 hz0 hz1 hz2 rfl (by omega) v zs.length (flat5 xs) (by rfl) ((hown.alloc _).drew) ⟨wr.heap.size, 0, none⟩ 1 1 (ev (elR (id, fr, te, kd, ps) ci cpi)) (by rfl) (by rfl) (World.news_of_block (cs := #[.int .i64 id, .int .i64 fr, .int .i64 te, .int .i64 kd, .slice (some ⟨ci, 0, none⟩) ps.length cpi]) (t := 57) (fr := (0, 0)) (heap_alloc_new wr _)) (by simp [ev, elR, Value.oneCell']) (by omega) (by unfold maxLen; omega) (by omega) (by show A + 2 ≤ (wr.alloc (.cells #[.int .i64 id, .int .i64 fr, .int .i64 te, .int .i64 kd, .slice (some ⟨ci, 0, none⟩) ps.length cpi] 57)).heap.size; simp; omega) (wr.heap.size + 1) (by simp) ?_; intro gg cq w2 hown2 hgrow hat hlt2; have g2 := (hgrow.block (A + 1) (show A + 1 < (wr.alloc (.cells #[.int .i64 id, .int .i64 fr, .int .i64 te, .int .i64 kd, .slice (some ⟨ci, 0, none⟩) ps.length cpi] 57)).heap.size from by (simp; omega)) (fun e => hvb e.symm)).trans HGE.out; obtain ⟨t0, t1, s0, s1⟩ := cell2f g2)
          refine hK.out _ _ ?_ (fun hHeld => ?_)
          · (repeat' apply And.intro) <;> (repeat (first | with_reducible assumption | with_reducible refine keepset3 ?_ (by dsimp only; omega) | with_reducible refine keepdrew ?_ | with_reducible refine keepalloc ?_ _ | (refine hgrow.cell ?_ hvA) | (refine hgrow.cell ?_ hvg)))
          clear hK K
          try simp only [sq]
          refine wpAnyH_take (i := 9) (v := ?_) rfl (by kernel_rfl) (by kernel_rfl) (by kernel_rfl) (fun _ _ _ h => h) (Or.inl ⟨by rfl, ?_⟩) hHeld ?_
          rotate_left
          · intro w hSw; (try dsimp only at hSw); go_simp; try (with_reducible rfl)
          try simp only [sq]
          refine wpAnyH_ready (rs := [10]) (by kernel_rfl) (by simp) ?_
          refine AllReadyH.cons rfl (fun K hK => ?_) AllReadyH.nil
          try simp only [sq]
          go_simp
          refine hK.out _ _ ?_ (fun hHeld => ?_)
          · (repeat' apply And.intro) <;> (repeat (first | with_reducible assumption | with_reducible refine keepset3 ?_ (by dsimp only; omega) | with_reducible refine keepdrew ?_ | with_reducible refine keepalloc ?_ _ | (refine hgrow.cell ?_ hvA) | (refine hgrow.cell ?_ hvg)))
          clear hK K
          try simp only [sq]
          refine wpAnyH_done (by kernel_rfl) ?_ _
          have hsn := rowsY_snoc (r := (id, fr, te, kd, ps)) (c := ci) (cp := cpi) HV.out hcp k6 hclo HPT.out hown2
          have HSN : Hid (RowsY (A + 2) W.heap.size y (w2.setCell ⟨A + 1, 1, none⟩ (.slice (some ⟨gg, 0, none⟩) (zs.length + 1) cq)) (.slice (some ⟨gg, 0, none⟩) (zs.length + 1) cq) ((rs.take (i + 1)).filter (vkeep t)) (xs ++ [elR (id, fr, te, kd, ps) ci cpi])) := hid (by
            rw [HX2.out]
            exact hsn.frame (fun b hb => by rw [Below.heap_setCell _ _ _ _ (by dsimp only; have := (hown2.lt b hb).1; omega)]))
          have HF2 := hid ((Below.heap_setCell w2 ⟨A + 1, 1, none⟩ (.slice (some ⟨gg, 0, none⟩) (zs.length + 1) cq) A (by dsimp only; omega)).trans ((hgrow.block A (show A < (wr.alloc (.cells #[.int .i64 id, .int .i64 fr, .int .i64 te, .int .i64 kd, .slice (some ⟨ci, 0, none⟩) ps.length cpi] 57)).heap.size from by (simp; omega)) (fun e => by have := (hown.lt _ e.symm).1; omega)).trans HG0E.out))
          have HF4 := hid (set1r g2 (.slice (some ⟨gg, 0, none⟩) (zs.length + 1) cq))
          have hw2 : wr.heap.size + 1 ≤ w2.heap.size := by
            have h9 := hgrow.size
            have h8 : (wr.alloc (.cells #[.int .i64 id, .int .i64 fr, .int .i64 te, .int .i64 kd, .slice (some ⟨ci, 0, none⟩) ps.length cpi] 57)).drew.heap.size = wr.heap.size + 1 := by
              show (wr.alloc (.cells #[.int .i64 id, .int .i64 fr, .int .i64 te, .int .i64 kd, .slice (some ⟨ci, 0, none⟩) ps.length cpi] 57)).heap.size = _
              simp
            omega
          have HF5 : Hid (A + 2 ≤ (w2.setCell ⟨A + 1, 1, none⟩ (.slice (some ⟨gg, 0, none⟩) (zs.length + 1) cq)).heap.size) := hid (by simp only [World.size_setCell]; omega)
          have HF6 : Hid (Below A y (w2.setCell ⟨A + 1, 1, none⟩ (.slice (some ⟨gg, 0, none⟩) (zs.length + 1) cq))) := hid ((Below.grown (((HBW.out.alloc (by omega) (.cells #[.int .i64 id, .int .i64 fr, .int .i64 te, .int .i64 kd, .slice (some ⟨ci, 0, none⟩) ps.length cpi] 57))).drew) hgrow (show A ≤ (wr.alloc (.cells #[.int .i64 id, .int .i64 fr, .int .i64 te, .int .i64 kd, .slice (some ⟨ci, 0, none⟩) ps.length cpi] 57)).heap.size from by (simp; omega)) (fun k e => by have := (hown.lt k e).1; omega)).setCell (by dsimp only; omega) _)
          clear hsn hown2 hgrow g2 t0 t1 s0 s1
          go_wp2_with fail
          go_roundw
          case rel => exact ⟨i + 1, _, _, by go_num, by omega, HSN, HF2, HF4, HF5, HF6⟩
          case measure => simp [intOf]; omega
        · skip
          try simp only [sq]
          go_simp
          refine hK.out _ _ ?_ (fun hHeld => ?_)
          · (repeat' apply And.intro) <;> (repeat (first | with_reducible assumption | with_reducible refine keepset3 ?_ (by dsimp only; omega) | with_reducible refine keepdrew ?_ | with_reducible refine keepalloc ?_ _ | (refine hgrow.cell ?_ hvA) | (refine hgrow.cell ?_ hvg)))
          clear hK K
          try simp only [sq]
          refine wpAnyH_ready (rs := [1]) (by kernel_rfl) (by simp) ?_
          refine AllReadyH.cons rfl (fun K hK => ?_) AllReadyH.nil
          try simp only [sq]
          go_simp
          refine hK.out _ _ ?_ (fun hHeld => ?_)
          · (repeat' apply And.intro) <;> (repeat (first | with_reducible assumption | with_reducible refine keepset3 ?_ (by dsimp only; omega) | with_reducible refine keepdrew ?_ | with_reducible refine keepalloc ?_ _ | (refine hgrow.cell ?_ hvA) | (refine hgrow.cell ?_ hvg)))
          clear hK K
          try simp only [sq]
          refine wpAnyH_ready (rs := [8]) (by kernel_rfl) (by simp) ?_
          refine AllReadyH.cons rfl (fun K hK => ?_) AllReadyH.nil
          (refine step_append_lies _ (by rfl) (.tmp 43) (.tmp 49) 26 (by rfl) (A + 2) 57 i0 _ 5 56 Tryz.underlying26 hi0 hz0 hz1 hz2 rfl (by omega) v zs.length (flat5 xs) (by rfl) ((hown.alloc _).drew) ⟨wr.heap.size, 0, none⟩ 1 1 (ev (elR (id, fr, te, kd, ps) ci cpi)) (by rfl) (by rfl) (World.news_of_block (cs := #[.int .i64 id, .int .i64 fr, .int .i64 te, .int .i64 kd, .slice (some ⟨ci, 0, none⟩) ps.length cpi]) (t := 57) (fr := (0, 0)) (heap_alloc_new wr _)) (by simp [ev, elR, Value.oneCell']) (by omega) (by unfold maxLen; omega) (by omega) (by show A + 2 ≤ (wr.alloc (.cells #[.int .i64 id, .int .i64 fr, .int .i64 te, .int .i64 kd, .slice (some ⟨ci, 0, none⟩) ps.length cpi] 57)).heap.size; simp; omega) (wr.heap.size + 1) (by simp) ?_; intro gg cq w2 hown2 hgrow hat hlt2; have g2 := (hgrow.block (A + 1) (show A + 1 < (wr.alloc (.cells #[.int .i64 id, .int .i64 fr, .int .i64 te, .int .i64 kd, .slice (some ⟨ci, 0, none⟩) ps.length cpi] 57)).heap.size from by (simp; omega)) (fun e => hvb e.symm)).trans HGE.out; obtain ⟨t0, t1, s0, s1⟩ := cell2f g2)
          refine hK.out _ _ ?_ (fun hHeld => ?_)
          · (repeat' apply And.intro) <;> (repeat (first | with_reducible assumption | with_reducible refine keepset3 ?_ (by dsimp only; omega) | with_reducible refine keepdrew ?_ | with_reducible refine keepalloc ?_ _ | (refine hgrow.cell ?_ hvA) | (refine hgrow.cell ?_ hvg)))
          clear hK K
          try simp only [sq]
          refine wpAnyH_take (i := 9) (v := ?_) rfl (by kernel_rfl) (by kernel_rfl) (by kernel_rfl) (fun _ _ _ h => h) (Or.inl ⟨by rfl, ?_⟩) hHeld ?_
          rotate_left
          · intro w hSw; (try dsimp only at hSw); go_simp; try (with_reducible rfl)
          try simp only [sq]
          refine wpAnyH_ready (rs := [10]) (by kernel_rfl) (by simp) ?_
          refine AllReadyH.cons rfl (fun K hK => ?_) AllReadyH.nil
          try simp only [sq]
          go_simp
          refine hK.out _ _ ?_ (fun hHeld => ?_)
          · (repeat' apply And.intro) <;> (repeat (first | with_reducible assumption | with_reducible refine keepset3 ?_ (by dsimp only; omega) | with_reducible refine keepdrew ?_ | with_reducible refine keepalloc ?_ _ | (refine hgrow.cell ?_ hvA) | (refine hgrow.cell ?_ hvg)))
          clear hK K
          try simp only [sq]
          refine wpAnyH_done (by kernel_rfl) ?_ _
          have hsn := rowsY_snoc (r := (id, fr, te, kd, ps)) (c := ci) (cp := cpi) HV.out hcp k6 hclo HPT.out hown2
          have HSN : Hid (RowsY (A + 2) W.heap.size y (w2.setCell ⟨A + 1, 1, none⟩ (.slice (some ⟨gg, 0, none⟩) (zs.length + 1) cq)) (.slice (some ⟨gg, 0, none⟩) (zs.length + 1) cq) ((rs.take (i + 1)).filter (vkeep t)) (xs ++ [elR (id, fr, te, kd, ps) ci cpi])) := hid (by
            rw [HX2.out]
            exact hsn.frame (fun b hb => by rw [Below.heap_setCell _ _ _ _ (by dsimp only; have := (hown2.lt b hb).1; omega)]))
          have HF2 := hid ((Below.heap_setCell w2 ⟨A + 1, 1, none⟩ (.slice (some ⟨gg, 0, none⟩) (zs.length + 1) cq) A (by dsimp only; omega)).trans ((hgrow.block A (show A < (wr.alloc (.cells #[.int .i64 id, .int .i64 fr, .int .i64 te, .int .i64 kd, .slice (some ⟨ci, 0, none⟩) ps.length cpi] 57)).heap.size from by (simp; omega)) (fun e => by have := (hown.lt _ e.symm).1; omega)).trans HG0E.out))
          have HF4 := hid (set1r g2 (.slice (some ⟨gg, 0, none⟩) (zs.length + 1) cq))
          have hw2 : wr.heap.size + 1 ≤ w2.heap.size := by
            have h9 := hgrow.size
            have h8 : (wr.alloc (.cells #[.int .i64 id, .int .i64 fr, .int .i64 te, .int .i64 kd, .slice (some ⟨ci, 0, none⟩) ps.length cpi] 57)).drew.heap.size = wr.heap.size + 1 := by
              show (wr.alloc (.cells #[.int .i64 id, .int .i64 fr, .int .i64 te, .int .i64 kd, .slice (some ⟨ci, 0, none⟩) ps.length cpi] 57)).heap.size = _
              simp
            omega
          have HF5 : Hid (A + 2 ≤ (w2.setCell ⟨A + 1, 1, none⟩ (.slice (some ⟨gg, 0, none⟩) (zs.length + 1) cq)).heap.size) := hid (by simp only [World.size_setCell]; omega)
          have HF6 : Hid (Below A y (w2.setCell ⟨A + 1, 1, none⟩ (.slice (some ⟨gg, 0, none⟩) (zs.length + 1) cq))) := hid ((Below.grown (((HBW.out.alloc (by omega) (.cells #[.int .i64 id, .int .i64 fr, .int .i64 te, .int .i64 kd, .slice (some ⟨ci, 0, none⟩) ps.length cpi] 57))).drew) hgrow (show A ≤ (wr.alloc (.cells #[.int .i64 id, .int .i64 fr, .int .i64 te, .int .i64 kd, .slice (some ⟨ci, 0, none⟩) ps.length cpi] 57)).heap.size from by (simp; omega)) (fun k e => by have := (hown.lt k e).1; omega)).setCell (by dsimp only; omega) _)
          clear hsn hown2 hgrow g2 t0 t1 s0 s1
          go_wp2_with fail
          go_roundw
          case rel => exact ⟨i + 1, _, _, by go_num, by omega, HSN, HF2, HF4, HF5, HF6⟩
          case measure => simp [intOf]; omega
      · have HX2 : Hid ((rs.take (i + 1)).filter (vkeep t) = zs) := hid (by rw [HX.out, hk]; simp)
        have h1b : (te == 0) = false := by simpa using h1
        have HV2 := HV
        rw [← HX2.out] at HV2
        clear hk HX HVD h1 f0 f1 f1d f1e
        go_wp2_with fail
        go_roundw
        case rel => exact ⟨i + 1, v, xs, by go_num, by omega, HV2, G0, G1, HS, HBW⟩
        case measure => simp [intOf]; omega
    · have c1 : (n : Int) ≤ (i : Int) := by omega
      have hin : i = rs.length := by have := HN.out; omega
      have hV : RowsY (A + 2) W.heap.size y wr v vs xs := by have := HV.out; rw [hin, List.take_length, ← HE.out] at this; exact this
      obtain ⟨a2, c2, rfl⟩ := hV.form
      have HVV := hid hV
      clear hin HV hV
      have hwA : w.heap.size + 1 < A := by rw [HA.out]; omega
      have g1 : wr.heap[w.heap.size + 1]? = some (.cells #[.int .i64 0, .slice none 0 0] 28 (0, 0)) := (HBW.out.block _ hwA).trans HGy1.out
      have HBF : Hid (Below w.heap.size w wr) := hid (HBy.out.trans (HBW.out.mono (by omega)))
      obtain ⟨v0, v1, u0, u1⟩ := cell2f g1
      obtain ⟨f0, f1, _, _⟩ := cell2f G1.out
      go_wp2_with fail
      have gF := set2r g1 (.int .i64 now) (.slice a2 vs.length c2)
      have bF := bset (bset HBF.out (q := w.heap.size + 1) (k := 0) (by omega) (.int .i64 now)) (q := w.heap.size + 1) (k := 1) (by omega) (.slice a2 vs.length c2)
      have rF : Rws (fun _ => True) ((wr.setCell ⟨w.heap.size + 1, 0, none⟩ (.int .i64 now)).setCell ⟨w.heap.size + 1, 1, none⟩ (.slice a2 vs.length c2)) a2 vs := by
        have hb0 : Below y.heap.size y wr := by have := HBW.out; rw [HA.out] at this; exact this
        refine (HVV.out.frame (w' := (wr.setCell ⟨w.heap.size + 1, 0, none⟩ (.int .i64 now)).setCell ⟨w.heap.size + 1, 1, none⟩ (.slice a2 vs.length c2)) (fun b hb => by rw [Below.heap_setCell _ _ _ _ (by dsimp only; have := (HVV.out.2.1.lt b hb).1; omega), Below.heap_setCell _ _ _ _ (by dsimp only; have := (HVV.out.2.1.lt b hb).1; omega)])).rws (fun b h1 h2 => by rw [Below.heap_setCell _ _ _ _ (by dsimp only; omega), Below.heap_setCell _ _ _ _ (by dsimp only; omega)]; exact hb0.block b h2) (by simp; exact hb0.size)
      generalize (wr.setCell ⟨w.heap.size + 1, 0, none⟩ (.int .i64 now)).setCell ⟨w.heap.size + 1, 1, none⟩ (.slice a2 vs.length c2) = wf at *
      obtain ⟨z0, z1, _, _⟩ := cell2f gF
      exact bodyPost_ret (v := .agg #[.int .i64 now, .slice a2 vs.length c2]) (by simp [results, Tryz.results7, go_sem, z0, z1]) rfl ⟨a2, c2, rfl, rF, bF⟩
end Go.Proofs.YtjhnfbefgjoiiaaGreat
