/- Vacuum of the landed side, in the rows' own memory. -/
import Derived.Test.YtjhnfbefgjoiiaaGreatVi
import Derived.Test.YtjhnfbefgjoiiaaGreatVf
namespace Go.Proofs.YtjhnfbefgjoiiaaGreat
open Go.RowKit
set_option linter.unusedSimpArgs false
set_option linter.unusedVariables false
theorem flt_map (p : Rw → Bool) (q : El → Bool) : ∀ (rs : List Rw) (xs : List El), xs.length = rs.length → (∀ j (h : j < rs.length) (h2 : j < xs.length), q xs[j] = p rs[j]) → ∃ σ : Nat → Nat, (xs.filter q).length = (rs.filter p).length ∧ (∀ k (h : k < (rs.filter p).length), ∃ h2 : σ k < rs.length, (rs.filter p)[k] = rs[σ k] ∧ (xs.filter q)[k]? = xs[σ k]?) ∧ ∀ i j, i < j → j < (rs.filter p).length → σ i < σ j
  | [], xs, hl, _ => by
    have : xs = [] := List.length_eq_zero_iff.1 (by simpa using hl)
    subst this
    exact ⟨id, rfl, fun k h => by simp at h, fun i j _ h => by simp at h⟩
  | r :: rs, [], hl, _ => by simp at hl
  | r :: rs, x :: xs, hl, hq => by
    have h0 : q x = p r := hq 0 (by simp) (by simp)
    obtain ⟨σ, e1, e2, e3⟩ := flt_map p q rs xs (by simpa using hl) (fun j h h2 => hq (j + 1) (by simpa using h) (by simpa using h2))
    by_cases hp : p r = true
    · have hx : q x = true := by rw [h0]; exact hp
      rw [List.filter_cons_of_pos hp, List.filter_cons_of_pos hx]
      refine ⟨fun k => match k with | 0 => 0 | k + 1 => σ k + 1, by simp [e1], ?_, ?_⟩
      · intro k hk
        cases k with
        | zero => exact ⟨by simp, by simp, by simp⟩
        | succ k =>
          obtain ⟨h2, a1, a2⟩ := e2 k (by simpa using hk)
          exact ⟨by simpa using h2, by simpa using a1, by simpa using a2⟩
      · intro i j hij hj
        cases j with
        | zero => omega
        | succ j =>
          cases i with
          | zero => simp
          | succ i => have := e3 i j (by omega) (by simpa using hj); simp only; omega
    · have hx : ¬ q x = true := by rw [h0]; exact hp
      rw [List.filter_cons_of_neg hp, List.filter_cons_of_neg hx]
      refine ⟨fun k => σ k + 1, e1, ?_, fun i j hij hj => by have := e3 i j hij hj; simp only; omega⟩
      intro k hk
      obtain ⟨h2, a1, a2⟩ := e2 k hk
      exact ⟨by simpa using h2, by simpa using a1, by simpa using a2⟩
theorem RowsX.flt {base hi : Nat} {w w' : World} {g cap : Nat} {rs : List Rw} {xs : List El} {t : Int} (h : RowsX base hi w (.slice (some ⟨g, 0, none⟩) rs.length cap) rs xs) (ho : w'.ownsRow base 57 5 (.slice (some ⟨g, 0, none⟩) (xs.filter (fun x => !eend t x)).length cap) (xs.filter (fun x => !eend t x)).length (flat5 (xs.filter (fun x => !eend t x)))) (hb : But g w w') : RowsX base hi w' (.slice (some ⟨g, 0, none⟩) (rs.filter (vkeep t)).length cap) (rs.filter (vkeep t)) (xs.filter (fun x => !eend t x)) := by
  obtain ⟨h1, h2, h3, h4, c, cp, h5, h6⟩ := h
  obtain ⟨σ, e1, e2, e3⟩ := flt_map (vkeep t) (fun x => !eend t x) rs xs h1 (fun j hj h2 => by
    have := (h5 j hj).1
    rw [List.getElem?_eq_getElem h2] at this
    rw [Option.some.inj this]; rfl)
  rw [e1] at ho
  refine ⟨e1, ho, h3, Nat.le_trans h4 hb.1, fun k => c (σ k), fun k => cp (σ k), fun k hk => ?_, fun i j hij hj => ?_⟩
  · obtain ⟨s1, s2, s3⟩ := e2 k hk
    obtain ⟨a1, a2, a3, a4, a5, a6, a7⟩ := h5 (σ k) s1
    rw [s2]
    refine ⟨s3.trans a1, a2, a3, a4, a5, a6, ?_⟩
    have hcw : c (σ k) < w.heap.size := Nat.lt_of_lt_of_le a5 h4
    have hcg : c (σ k) ≠ g := fun e => a6 (by rw [e]; rfl)
    exact own_blk a7 (hb.2.1 _ hcw hcg) (Nat.lt_of_lt_of_le hcw hb.1)
  · obtain ⟨s1, _⟩ := e2 j hj
    exact h6 _ _ (e3 i j hij hj) s1
set_option maxRecDepth 100000 in
set_option maxHeartbeats 2000000 in
theorem index_nil (a : Option Addr) (cap : Nat) (fv : Value) (w : World) : Calls Tryz.prog 100 #[.slice a 0 cap, fv] w fun e w' => e = .returned (.int .i64 (-1)) ∧ w' = w := by
  go_enter Tryz.func100, Tryz.ntmps100
  go_wp2_with fail
  go_loopw [8] (fun ti wr => ti = .int .i64 0 ∧ wr = w) (fun ti _ => 0)
  case atStart => exact ⟨rfl, rfl⟩
  case round =>
    obtain ⟨rfl, rfl⟩ := hrel
    go_wp2_with fail
    go_ret
    exact ⟨rfl, rfl⟩
set_option maxRecDepth 100000 in
set_option maxHeartbeats 2000000 in
theorem del_nil (a : Option Addr) (cap : Nat) (fv : Value) (w : World) : Calls Tryz.prog 63 #[.slice a 0 cap, fv] w fun e w' => e = .returned (.slice a 0 cap) ∧ w' = w := by
  go_enter Tryz.func63, Tryz.ntmps63
  go_wp2_with fail
  refine (index_nil a cap fv w).mono ?_
  rintro e z ⟨rfl, rfl⟩
  go_wp2_with fail
  go_ret
  exact ⟨rfl, rfl⟩
theorem cell_of {w : World} {p : Nat} {v : Value} {t : TypeId} (h : w.heap[p]? = some (.cells #[v] t (0, 0))) : w.cell? ⟨p, 0, none⟩ = some v := by simp [World.cell?, h]
/-- But for the cells of one range nothing that was there is changed. -/
def Out (base hi Q : Nat) (w w' : World) : Prop := w.heap.size ≤ w'.heap.size ∧ (∀ b, b < w.heap.size → b ≠ Q → (b < base ∨ hi ≤ b) → w'.heap[b]? = w.heap[b]?) ∧ (w'.os = w.os ∧ w'.tape = w.tape ∧ w'.output = w.output)
/-- DeleteFunc of rows that the call has made. -/
theorem del_X (base hi : Nat) (a : Option Addr) (cap : Nat) (rs : List Rw) (xs : List El) (t : Int) (p : Nat) (w : World) (hm : rs.length ≤ 1099511627776) (h : RowsX base hi w (.slice a rs.length cap) rs xs) (hp : p < base ∨ hi ≤ p) (hpw : p < w.heap.size) (c1 : w.cell? ⟨p, 0, none⟩ = some (.int .i64 t)) : Calls Tryz.prog 63 #[.slice a rs.length cap, .func (.func 64) #[] #[.pointer (some ⟨p, 0, none⟩)]] w fun e w' => ∃ ys, e = .returned (.slice a (rs.filter (vkeep t)).length cap) ∧ RowsX base hi w' (.slice a (rs.filter (vkeep t)).length cap) (rs.filter (vkeep t)) ys ∧ w.heap.size ≤ w'.heap.size ∧ (∀ b, b < w.heap.size → (b < base ∨ hi ≤ b) → w'.heap[b]? = w.heap[b]?) ∧ (w'.os = w.os ∧ w'.tape = w.tape ∧ w'.output = w.output) := by
  rcases h.2.1.2 with ⟨q1, q2⟩ | ⟨g, c', cur, e, q1, q2⟩
  · have hr : rs = [] := List.length_eq_zero_iff.1 q2
    subst hr
    refine (del_nil a cap _ w).mono ?_
    rintro e w' ⟨rfl, rfl⟩
    exact ⟨xs, rfl, h, Nat.le_refl _, fun _ _ _ => rfl, rfl, rfl, rfl⟩
  · cases e
    have hxl := h.1
    have hgb : base ≤ g ∧ g < hi := ⟨q1, h.2.2.1 g rfl⟩
    have hD := del_ended base g cap rs.length xs t p w hxl hm h.2.1 (by omega) hpw c1
    refine hD.mono ?_
    rintro e w' ⟨m, rfl, rfl, ho, hb⟩
    have hf := h.flt ho hb
    have hl : (xs.filter (fun x => !eend t x)).length = (rs.filter (vkeep t)).length := hf.1
    exact ⟨_, by rw [hl], hf, hb.1, fun b h1 h2 => hb.2.1 b h1 (by omega), hb.2.2⟩
set_option maxRecDepth 100000 in
set_option maxHeartbeats 2000000 in
theorem vac_rows (now : Int) (Q base hi : Nat) (a : Option Addr) (cap : Nat) (rs : List Rw) (xs : List El) (t : Int) (w : World) (hm : rs.length ≤ 1099511627776) (h : RowsX base hi w (.slice a rs.length cap) rs xs) (hQ : Q < base ∨ hi ≤ Q) (gQ : w.heap[Q]? = some (.cells #[.int .i64 now, .slice a rs.length cap] 28 (0, 0))) : Calls Tryz.prog 31 #[.pointer (some ⟨Q, 0, none⟩), .int .i64 t] w fun e w' => e = .returned (.tuple #[]) ∧ ∃ ys, w'.heap[Q]? = some (.cells #[.int .i64 now, .slice a (rs.filter (vkeep t)).length cap] 28 (0, 0)) ∧ RowsX base hi w' (.slice a (rs.filter (vkeep t)).length cap) (rs.filter (vkeep t)) ys ∧ Out base hi Q w w' := by
  have hhi := h.2.2.2.1
  have hQw := lt_of_block gQ
  have hmf : ∀ (fn : Fn) (first cp : Array Value) (w : World), (Instr.makeFunc fn first cp).run Tryz.prog w = .ok (.func fn first cp) w := fun _ _ _ _ => rfl
  have hB : Below w.heap.size w (w.alloc (.cells #[.int .i64 t] 3)) := balloc (Below.refl _ _) _
  have gp := new_alloc w w.heap.size (.cells #[.int .i64 t] 3) rfl
  have g1 := keepheap2 hB gQ
  have hWs : w.heap.size < (w.alloc (.cells #[.int .i64 t] 3)).heap.size := by simp
  have HD := hid (del_X base hi a cap rs xs t w.heap.size (w.alloc (.cells #[.int .i64 t] 3)) hm (h.below hB) (.inr hhi) hWs (cell_of gp))
  clear h gp
  generalize (rs.filter (vkeep t)) = vs at *
  generalize rs.length = n at *
  go_enter Tryz.func31, Tryz.ntmps31
  go_upto_region 1 with fail
  generalize w.alloc (.cells #[.int .i64 t] 3) = W at *
  obtain ⟨d0, d1, f0, f1⟩ := cell2f g1
  go_wp2_with fail
  refine HD.out.mono ?_
  rintro e y ⟨ys, rfl, hX, y1, y2, y3⟩
  have g2 : y.heap[Q]? = _ := (y2 Q (by omega) hQ).trans g1
  clear HD d0 d1 f0 f1
  obtain ⟨d0, d1, f0, f1⟩ := cell2f g2
  have HX := hid hX
  clear hX
  go_wp2_with fail
  refine bodyPost_end (results_none rfl _ _ _) rfl ?_
  have hfar : ∀ b, b ≠ Q → (y.setCell ⟨Q, 1, none⟩ (.slice a vs.length cap)).heap[b]? = y.heap[b]? := fun b hb => by rw [Below.heap_setCell _ _ _ _ (by dsimp only; omega)]
  refine ⟨rfl, ys, set1r g2 _, HX.out.frame (fun c h1 h2 => hfar c (by omega)) (by simp), by have := hB.size; simp; omega, fun b h1 h2 h3 => (hfar b h2).trans ((y2 b (by have := hB.size; omega) h3).trans (hB.block b h1)), y3.1.trans hB.os, y3.2.1.trans hB.tape, y3.2.2.trans hB.output⟩
set_option maxRecDepth 100000 in
set_option maxHeartbeats 2000000 in
theorem impl_VacuumJ {N : Nat → Prop} (now : Int) (B : Nat) (rs : List Rw) (t : Int) (w : World) (hm : rs.length ≤ 1099511627776) (h : RwsS w B rs) (hr : Rws N w (some ⟨B, 0, none⟩) rs) : Calls Tryz.prog 9 #[.agg #[.int .i64 now, .slice (some ⟨B, 0, none⟩) rs.length rs.length], .int .i64 t] w fun e w' => VR w now (vacb now rs t) e w' := by
  have HOK := hid (fun (W : World) (hb : Below w.heap.size w W) => impl_RowsOk now (some ⟨B, 0, none⟩) rs.length rs W hm (hr.below hb))
  have HCO := hid (fun (W : World) (hb : Below w.heap.size w W) => rows_copied now B rs W hm (h.below hb))
  have HVA := hid (fun (Q base hi : Nat) (a : Option Addr) (cap : Nat) (xs : List El) (W : World) => vac_rows now Q base hi a cap rs xs t W hm)
  have HVN : Hid (rowsb now rs = false → vacb now rs t = rs) := hid (fun e => by unfold vacb; rw [if_neg (by rw [e]; simp)])
  have HVY : Hid (rowsb now rs = true → vacb now rs t = rs.filter (vkeep t)) := hid (fun e => by unfold vacb; rw [if_pos e])
  clear h hr
  unfold VR at *
  generalize vacb now rs t = vs at *
  generalize rowsb now rs = ob at *
  obtain ⟨n, hn⟩ : ∃ n, n = rs.length := ⟨_, rfl⟩
  have HN := hid hn.symm
  rw [← hn] at hm HOK HCO HVA ⊢
  clear hn
  have hBx : Below w.heap.size w ((w.alloc (.cells #[.int .i64 now, .slice (some ⟨B, 0, none⟩) n n] 28)).alloc (.cells #[.int .i64 0, .slice none 0 0] 28)) := balloc (balloc (Below.refl _ _) _) _
  have g0 := old_alloc (o' := .cells #[.int .i64 0, .slice none 0 0] 28) (new_alloc w w.heap.size (.cells #[.int .i64 now, .slice (some ⟨B, 0, none⟩) n n] 28) rfl)
  have g1 := new_alloc (w.alloc (.cells #[.int .i64 now, .slice (some ⟨B, 0, none⟩) n n] 28)) (w.heap.size + 1) (.cells #[.int .i64 0, .slice none 0 0] 28) (by simp)
  have hW0 : ((w.alloc (.cells #[.int .i64 now, .slice (some ⟨B, 0, none⟩) n n] 28)).alloc (.cells #[.int .i64 0, .slice none 0 0] 28)).heap.size = w.heap.size + 1 + 1 := by simp
  go_enter Tryz.func9, Tryz.ntmps9
  go_upto_region 1 with fail
  generalize (w.alloc (.cells #[.int .i64 now, .slice (some ⟨B, 0, none⟩) n n] 28)).alloc (.cells #[.int .i64 0, .slice none 0 0] 28) = W0 at *
  obtain ⟨d0, d1, _, _⟩ := cell2f g0
  go_wp2_with fail
  refine (HCO.out W0 hBx).mono ?_
  rintro e y ⟨a, c, xs, rfl, hX, hy⟩
  replace g0 := keepheap2 hy g0
  replace g1 := keepheap2 hy g1
  clear d0 d1
  obtain ⟨d0, d1, _, _⟩ := cell2f g0
  go_upto_region 2 with fail
  have gQ := new_alloc y y.heap.size (.cells #[.int .i64 now, .slice a n c] 28) rfl
  have hal : Below y.heap.size y (y.alloc (.cells #[.int .i64 now, .slice a n c] 28)) := balloc (Below.refl _ _) _
  have HX := hid (hX.below hal)
  have HB := hid (btrans (btrans hBx hy) hal)
  have hys := hy.size
  replace g0 := keepheap2 hal g0
  replace g1 := keepheap2 hal g1
  have hls : (y.alloc (.cells #[.int .i64 now, .slice a n c] 28)).heap.size = y.heap.size + 1 := by simp
  clear hX hy hal hBx d0 d1 HCO
  generalize y.alloc (.cells #[.int .i64 now, .slice a n c] 28) = Y at *
  generalize y.heap.size = Q at *
  obtain ⟨d0, d1, _, _⟩ := cell2f g0
  go_wp2_with fail
  refine (HOK.out Y HB.out).mono ?_
  rintro e z ⟨rfl, hz⟩
  replace g1 := keepheap2 hz g1
  replace gQ := keepheap2 hz gQ
  have HXz := hid (HX.out.below hz)
  have HBz := hid (btrans HB.out hz)
  have hzs := hz.size
  clear hz HX HB g0 d0 d1 HOK
  cases ob
  · have HE := hid (HVN.out rfl)
    clear HVN HVY HVA
    have HG1 := hid g1
    have HGQ := hid gQ
    obtain ⟨v0, v1, u0, u1⟩ := cell2f g1
    obtain ⟨x0, x1, _, _⟩ := cell2f gQ
    clear g1 gQ
    go_wp2_with fail
    have gF := set2r HG1.out (.int .i64 now) (.slice a n c)
    have bF := bset (bset HBz.out (q := w.heap.size + 1) (k := 0) (by omega) (.int .i64 now)) (q := w.heap.size + 1) (k := 1) (by omega) (.slice a n c)
    have xF := (HXz.out.frame (w' := (z.setCell ⟨w.heap.size + 1, 0, none⟩ (.int .i64 now)).setCell ⟨w.heap.size + 1, 1, none⟩ (.slice a n c)) (fun b h1 h2 => by rw [Below.heap_setCell _ _ _ _ (by dsimp only; omega), Below.heap_setCell _ _ _ _ (by dsimp only; omega)]) (by simp)).mono (base' := w.heap.size) (hi' := ((z.setCell ⟨w.heap.size + 1, 0, none⟩ (.int .i64 now)).setCell ⟨w.heap.size + 1, 1, none⟩ (.slice a n c)).heap.size) (by omega) (by simp; omega) (Nat.le_refl _)
    generalize (z.setCell ⟨w.heap.size + 1, 0, none⟩ (.int .i64 now)).setCell ⟨w.heap.size + 1, 1, none⟩ (.slice a n c) = wf at *
    obtain ⟨z0, z1, _, _⟩ := cell2f gF
    exact bodyPost_ret (v := .agg #[.int .i64 now, .slice a n c]) (by simp [results, Tryz.results9, go_sem, z0, z1]) rfl ⟨a, c, xs, by rw [HE.out, HN.out], by rw [HE.out, HN.out]; exact xF, bF⟩
  · have VA := hid (HVA.out Q W0.heap.size Q a c xs z HXz.out (.inr (Nat.le_refl _)) gQ)
    rw [← HVY.out rfl] at VA
    clear HVN HVY HVA HXz
    have HG1 := hid g1
    clear g1 gQ
    go_wp2_with fail
    refine VA.out.mono ?_
    rintro e z3 ⟨rfl, ys, gQ, hX, ho⟩
    have hz1 := lt_of_block HG1.out
    have g1 := (ho.2.1 (w.heap.size + 1) hz1 (by omega) (by omega)).trans HG1.out
    have HB3 : Hid (Below w.heap.size w z3) := hid (HBz.out.trans ⟨ho.2.2.1, ho.2.2.2.1, ho.2.2.2.2, ho.1, fun k hk => ho.2.1 k (by omega) (by omega) (by omega)⟩)
    have HX3 := hid hX
    have hz3 := ho.1
    have HG := hid g1
    clear hX ho VA HBz HG1
    obtain ⟨v0, v1, u0, u1⟩ := cell2f g1
    obtain ⟨x0, x1, _, _⟩ := cell2f gQ
    clear g1 gQ
    obtain ⟨m, hmm⟩ : ∃ m, m = vs.length := ⟨_, rfl⟩
    have HM := hid hmm.symm
    rw [← hmm] at HX3 x1
    clear hmm
    go_wp2_with fail
    have gF := set2r HG.out (.int .i64 now) (.slice a m c)
    have bF := bset (bset HB3.out (q := w.heap.size + 1) (k := 0) (by omega) (.int .i64 now)) (q := w.heap.size + 1) (k := 1) (by omega) (.slice a m c)
    have xF := (HX3.out.frame (w' := (z3.setCell ⟨w.heap.size + 1, 0, none⟩ (.int .i64 now)).setCell ⟨w.heap.size + 1, 1, none⟩ (.slice a m c)) (fun b h1 h2 => by rw [Below.heap_setCell _ _ _ _ (by dsimp only; omega), Below.heap_setCell _ _ _ _ (by dsimp only; omega)]) (by simp)).mono (base' := w.heap.size) (hi' := ((z3.setCell ⟨w.heap.size + 1, 0, none⟩ (.int .i64 now)).setCell ⟨w.heap.size + 1, 1, none⟩ (.slice a m c)).heap.size) (by omega) (by simp; omega) (Nat.le_refl _)
    generalize (z3.setCell ⟨w.heap.size + 1, 0, none⟩ (.int .i64 now)).setCell ⟨w.heap.size + 1, 1, none⟩ (.slice a m c) = wf at *
    obtain ⟨z0, z1, _, _⟩ := cell2f gF
    exact bodyPost_ret (v := .agg #[.int .i64 now, .slice a m c]) (by simp [results, Tryz.results9, go_sem, z0, z1]) rfl ⟨a, c, ys, by rw [HM.out], by rw [HM.out]; exact xF, bF⟩
end Go.Proofs.YtjhnfbefgjoiiaaGreat
