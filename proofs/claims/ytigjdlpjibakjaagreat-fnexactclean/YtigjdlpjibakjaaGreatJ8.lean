/- Texts of stores, joined: Vg, Xp, Xq. -/
import Derived.Test.YtigjdlpjibakjaaGreatJ5
import Derived.Test.YtigjdlpjibakjaaGreatJ7
namespace Go.Proofs.YtigjdlpjibakjaaGreat
open Go.RowKit
set_option linter.unusedSimpArgs false
set_option linter.unusedVariables false
/-- Rows in a new list, their points where they lay in W0. -/
def RowsY (base lo : Nat) (W0 w : World) (v : Value) (rs : List Rw) (xs : List El) : Prop :=
  xs.length = rs.length ∧ w.ownsRow base 88 5 v rs.length (flat5 xs) ∧ ∀ j (h : j < rs.length), ∃ c cp, xs[j]? = some (elR rs[j] c cp) ∧ rs[j].2.2.2.2.length ≤ cp ∧ rs[j].2.2.2.2.length ≤ 1099511627776 ∧ lo ≤ c ∧ Pts W0 (some ⟨c, 0, none⟩) rs[j].2.2.2.2
theorem RowsY.frame {base lo : Nat} {W0 w w' : World} {v : Value} {rs : List Rw} {xs : List El} (h : RowsY base lo W0 w v rs xs) (hb : ∀ g, v.ownBlock = some g → w'.heap[g]? = w.heap[g]?) : RowsY base lo W0 w' v rs xs := ⟨h.1, own_frame h.2.1 hb, h.2.2⟩
theorem rowsY_snoc {base lo : Nat} {W0 w w' : World} {v v' : Value} {rs : List Rw} {xs : List El} {r : Rw} {c cp : Nat} (h : RowsY base lo W0 w v rs xs) (h1 : r.2.2.2.2.length ≤ cp) (h2 : r.2.2.2.2.length ≤ 1099511627776) (h4 : lo ≤ c) (h3 : Pts W0 (some ⟨c, 0, none⟩) r.2.2.2.2) (ho : w'.ownsRow base 88 5 v' (rs.length + 1) (flat5 xs ++ ev (elR r c cp))) : RowsY base lo W0 w' v' (rs ++ [r]) (xs ++ [elR r c cp]) := by
  obtain ⟨a1, a2, a3⟩ := h
  have hlr : (rs ++ [r]).length = rs.length + 1 := by simp
  refine ⟨by simp [a1], by rw [flat5_snoc, hlr]; exact ho, fun j hj => ?_⟩
  by_cases e : j = rs.length
  · subst e
    have er : (rs ++ [r])[rs.length]'(by simp) = r := by simp
    rw [er]
    exact ⟨c, cp, by rw [← a1]; simp, h1, h2, h4, h3⟩
  · have hjl : j < rs.length := by simp at hj; omega
    have er : (rs ++ [r])[j]'(by simpa using hj) = rs[j] := by rw [List.getElem_append_left hjl]
    rw [er]
    obtain ⟨c', cp', b1, b2, b3, b5, b4⟩ := a3 j hjl
    exact ⟨c', cp', by rw [List.getElem?_append_left (by omega)]; exact b1, b2, b3, b5, b4⟩
theorem RowsY.form {base lo : Nat} {W0 w : World} {v : Value} {rs : List Rw} {xs : List El} (h : RowsY base lo W0 w v rs xs) : ∃ a cap, v = .slice a rs.length cap := by
  rcases h.2.1.2 with ⟨q, hn⟩ | ⟨g, cap, cur, e, _⟩
  · exact ⟨none, 0, by rw [q, hn]⟩
  · exact ⟨_, cap, e⟩
theorem pts_blk {W w : World} {c : Nat} {ps : List (Int × Int)} (h : Pts W (some ⟨c, 0, none⟩) ps) (e : c < W.heap.size → w.heap[c]? = W.heap[c]?) (hs : W.heap.size ≤ w.heap.size) : Pts w (some ⟨c, 0, none⟩) ps := by
  rcases h with h | ⟨b, off, ea, hb, hp⟩
  · exact .inl h
  · cases ea
    refine .inr ⟨c, 0, rfl, by omega, fun k hk => ?_⟩
    simp only [World.cell?, e hb]
    exact hp k hk
theorem RowsY.rws {base lo : Nat} {W0 w : World} {a : Option Addr} {n cap : Nat} {rs : List Rw} {xs : List El} (h : RowsY base lo W0 w (.slice a n cap) rs xs) (H : ∀ b, lo ≤ b → b < W0.heap.size → w.heap[b]? = W0.heap[b]?) (hs : W0.heap.size ≤ w.heap.size) : Rws (fun _ => True) w a rs := by
  obtain ⟨h1, h2, h3⟩ := h
  have h2' := h2
  rcases h2.2 with ⟨q, hn⟩ | ⟨g, cp, cur, e, hb, hg, hc, _⟩
  · exact .inl (List.length_eq_zero_iff.1 hn)
  · cases e
    refine .inr ⟨g, 0, rfl, (Array.getElem?_eq_some_iff.1 hg).1, fun j hj => ?_⟩
    obtain ⟨c, cpj, a1, a2, a3, a5, a4⟩ := h3 j hj
    have hjx : j < xs.length := by omega
    have ex : xs[j] = elR rs[j] c cpj := by
      rw [List.getElem?_eq_getElem hjx] at a1
      exact Option.some.inj a1
    obtain ⟨f0, f1, f2, f3, f4⟩ := flat5_at xs j hjx
    rw [ex] at f0 f1 f2 f3 f4
    rw [Nat.zero_add]
    refine ⟨some ⟨c, 0, none⟩, cpj, ?_, ?_, ?_, ?_, ?_, a2, a3, pts_blk a4 (fun hc => H c a5 hc) hs, fun _ _ _ => trivial⟩
    · rw [World.ownsRow.cellAt h2' _ (by omega)]; exact f0
    · rw [World.ownsRow.cellAt h2' _ (by omega)]; exact f1
    · rw [World.ownsRow.cellAt h2' _ (by omega)]; exact f2
    · rw [World.ownsRow.cellAt h2' _ (by omega)]; exact f3
    · rw [World.ownsRow.cellAt h2' _ (by omega)]; exact f4
theorem vkeep_def (t : Int) (r : Rw) : vkeep t r = (decide (r.2.2.1 = 0) || decide (t < r.2.2.1)) := by
  unfold vkeep
  by_cases h1 : r.2.2.1 = 0
  · simp [h1]
  · by_cases h2 : t < r.2.2.1
    · have : ¬ r.2.2.1 ≤ t := by omega
      simp [h1, h2, this]
    · have : r.2.2.1 ≤ t := by omega
      simp [h1, h2, this]
/-- Rows that the specification answers. -/
def VS (w : World) (now : Int) (rs : List Rw) (e : Ending) (w' : World) : Prop :=
  ∃ a cap, e = .returned (.agg #[.int .i64 now, .slice a rs.length cap]) ∧ Rws (fun _ => True) w' a rs ∧ Below w.heap.size w w'
set_option maxRecDepth 100000 in
set_option maxHeartbeats 4000000 in
theorem spec_Vacuum {N : Nat → Prop} (now : Int) (B : Nat) (rs : List Rw) (t : Int) (w : World) (hm : rs.length ≤ 1099511627776) (h : RwsS w B rs) (hr : Rws N w (some ⟨B, 0, none⟩) rs) : Calls Tryz.prog 30 #[.agg #[.int .i64 now, .slice (some ⟨B, 0, none⟩) rs.length rs.length], .int .i64 t] w fun e w' => VS w now (vacb now rs t) e w' := by
  obtain ⟨i0, hi0, hz0, hz1, hz2⟩ := info_parts Tryz.infoRow
  have HOK := hid (fun (W : World) (hb : Below w.heap.size w W) => spec_RowsOk now (some ⟨B, 0, none⟩) rs.length rs W hm (hr.below hb))
  have HCO := hid (fun (W : World) (hb : Below w.heap.size w W) => spec_copyRows now B rs W hm (h.below hb))
  have HVN : Hid (rowsb now rs = false → vacb now rs t = rs) := hid (fun e => by unfold vacb; rw [if_neg (by rw [e]; simp)])
  have HVY : Hid (rowsb now rs = true → vacb now rs t = rs.filter (vkeep t)) := hid (fun e => by unfold vacb; rw [if_pos e])
  clear h hr
  unfold VS
  unfold VR at HCO
  obtain ⟨n, hn⟩ : ∃ n, n = rs.length := ⟨_, rfl⟩
  have HN := hid hn.symm
  rw [← hn] at hm HOK HCO ⊢
  clear hn
  generalize vacb now rs t = vs at *
  generalize rowsb now rs = ob at *
  have hBx : Below w.heap.size w ((w.alloc (.cells #[.int .i64 now, .slice (some ⟨B, 0, none⟩) n n] 31)).alloc (.cells #[.int .i64 0, .slice none 0 0] 31)) := balloc (balloc (Below.refl _ _) _) _
  have g0 := old_alloc (o' := .cells #[.int .i64 0, .slice none 0 0] 31) (new_alloc w w.heap.size (.cells #[.int .i64 now, .slice (some ⟨B, 0, none⟩) n n] 31) rfl)
  have g1 := new_alloc (w.alloc (.cells #[.int .i64 now, .slice (some ⟨B, 0, none⟩) n n] 31)) (w.heap.size + 1) (.cells #[.int .i64 0, .slice none 0 0] 31) (by simp)
  go_enter Tryz.func30, Tryz.ntmps30
  go_upto_region 1 with fail
  generalize (w.alloc (.cells #[.int .i64 now, .slice (some ⟨B, 0, none⟩) n n] 31)).alloc (.cells #[.int .i64 0, .slice none 0 0] 31) = W0 at *
  obtain ⟨d0, d1, _, _⟩ := cell2f g0
  go_wp2_with fail
  refine (HOK.out _ hBx).mono ?_
  rintro e W ⟨rfl, hz⟩
  replace g0 := keepheap2 hz g0
  replace g1 := keepheap2 hz g1
  have hB := btrans hBx hz
  have hWs := lt_of_block g1
  clear hBx hz d0 d1 HOK
  obtain ⟨d0, d1, _, _⟩ := cell2f g0
  cases ob
  · have CO := hid (HCO.out W hB)
    have HE := hid (HVN.out rfl)
    have HB := hid hB
    have HG1 := hid g1
    clear HCO HVN HVY g0 g1 hB
    go_wp2_with fail
    refine CO.out.mono ?_
    rintro e y ⟨a, c, xs, rfl, hX, hy⟩
    have g1 := keepheap2 hy HG1.out
    have HBy := hid (btrans HB.out hy)
    have HX := hid hX
    clear hX hy d0 d1
    obtain ⟨v0, v1, u0, u1⟩ := cell2f g1
    go_wp2_with fail
    have gF := set2r g1 (.int .i64 now) (.slice a n c)
    have bF := bset (bset HBy.out (q := w.heap.size + 1) (k := 0) (by omega) (.int .i64 now)) (q := w.heap.size + 1) (k := 1) (by omega) (.slice a n c)
    have xF := (HX.out.frame (w' := (y.setCell ⟨w.heap.size + 1, 0, none⟩ (.int .i64 now)).setCell ⟨w.heap.size + 1, 1, none⟩ (.slice a n c)) (fun b h1 h2 => by rw [Below.heap_setCell _ _ _ _ (by dsimp only; omega), Below.heap_setCell _ _ _ _ (by dsimp only; omega)]) (by simp)).rws
    generalize (y.setCell ⟨w.heap.size + 1, 0, none⟩ (.int .i64 now)).setCell ⟨w.heap.size + 1, 1, none⟩ (.slice a n c) = wf at *
    obtain ⟨z0, z1, _, _⟩ := cell2f gF
    have hvs := HE.out
    subst hvs
    exact bodyPost_ret (v := .agg #[.int .i64 now, .slice a n c]) (by simp [results, Tryz.results30, go_sem, z0, z1]) rfl ⟨a, c, by rw [HN.out], xF, bF⟩
  have CO := hid (HCO.out W hB)
  have HE := hid (HVY.out rfl)
  have HB := hid hB
  have HG0 := hid g0
  have HG1 := hid g1
  clear HCO HVN HVY g0 g1 hB
  go_wp2_with fail
  refine CO.out.mono ?_
  rintro e y ⟨a, c, xs0, rfl, hX, hy⟩
  have HGy0 := hid (keepheap2 hy HG0.out)
  have HGy1 := hid (keepheap2 hy HG1.out)
  have HBy := hid (btrans HB.out hy)
  have HXR := hid hX.rows
  have hys := hy.size
  clear hX hy d0 d1 CO HB HG0 HG1
  obtain ⟨d0, d1, _, _⟩ := cell2f HGy0.out
  have e0 := keepalloc d0 (.cells #[.int .i64 now, .slice a n c] 31)
  go_upto_region 5 with fail
  clear d0 d1 e0
  have hal : Below y.heap.size y ((y.alloc (.cells #[.int .i64 now, .slice a n c] 31)).alloc (.cells #[.int .i64 now, .slice none 0 0] 31)) := balloc (balloc (Below.refl _ _) _) _
  have gA := old_alloc (o' := .cells #[.int .i64 now, .slice none 0 0] 31) (new_alloc y y.heap.size (.cells #[.int .i64 now, .slice a n c] 31) rfl)
  have gB := new_alloc (y.alloc (.cells #[.int .i64 now, .slice a n c] 31)) (y.heap.size + 1) (.cells #[.int .i64 now, .slice none 0 0] 31) (by simp)
  have hs2 : y.heap.size + 2 ≤ ((y.alloc (.cells #[.int .i64 now, .slice a n c] 31)).alloc (.cells #[.int .i64 now, .slice none 0 0] 31)).heap.size := by simp
  generalize (y.alloc (.cells #[.int .i64 now, .slice a n c] 31)).alloc (.cells #[.int .i64 now, .slice none 0 0] 31) = V at *
  obtain ⟨A, hA⟩ : ∃ A, A = y.heap.size := ⟨_, rfl⟩
  have HA := hid hA
  rw [← hA] at gA gB hs2 hal
  rw [← hA]
  clear hA
  have HY0 : Hid (RowsY (A + 2) W.heap.size y V (.slice none 0 0) [] []) := hid ⟨rfl, by simpa [flat5] using own_nilR (w := V) (B := A + 2), fun j hj => absurd hj (by simp)⟩
  go_wp2_with fail
  go_loopw [7] (fun ti wr => ∃ i : Nat, ∃ v : Value, ∃ xs : List El, ti = .int .i64 i ∧ i ≤ n ∧ Hid (RowsY (A + 2) W.heap.size y wr v ((rs.take i).filter (vkeep t)) xs) ∧ Hid (wr.heap[A]? = some (.cells #[.int .i64 now, .slice a n c] 31 (0, 0))) ∧ Hid (wr.heap[A + 1]? = some (.cells #[.int .i64 now, v] 31 (0, 0))) ∧ Hid (A + 2 ≤ wr.heap.size) ∧ Hid (Below A y wr)) (fun ti _ => n - (intOf ti).toNat)
  case atStart => exact ⟨0, _, [], rfl, Nat.zero_le _, HY0, hid gA, hid gB, hid hs2, hid hal⟩
  case round =>
    clear HY0 gA gB hs2 hal
    obtain ⟨i, v, xs, rfl, hi, HV, G0, G1, HS, HBW⟩ := hrel
    have hws := HS.out
    obtain ⟨d0, d1, _, _⟩ := cell2f G0.out
    by_cases hlt : i < n
    · have c1 : (i : Int) < (n : Int) := by omega
      have hir : i < rs.length := by rw [HN.out]; exact hlt
      obtain ⟨g, cpX, eX, q1, q2, q3, q4, q5, cf, cpf, q6, q7⟩ : ∃ g cap, (Value.slice a n c) = .slice (some ⟨g, 0, none⟩) rs.length cap ∧ W.heap.size ≤ g ∧ g < y.heap.size ∧ y.heap.size ≤ y.heap.size ∧ rs.length ≤ cap ∧ y.there g 0 (rs.length * 5) ∧ ∃ c cp : Nat → Nat, (∀ j (h : j < rs.length), RowC y g (j * 5) rs[j] (c j) (cp j) ∧ rs[j].2.2.2.2.length ≤ cp j ∧ rs[j].2.2.2.2.length ≤ 1099511627776 ∧ W.heap.size ≤ c j ∧ c j < y.heap.size ∧ c j ≠ g) ∧ (∀ i j, i < j → j < rs.length → c i ≠ c j) := by
        rcases HXR.out with ⟨q, _⟩ | q
        · rw [q] at hir; simp at hir
        · exact q
      obtain rfl : a = some ⟨g, 0, none⟩ := by cases eX; rfl
      obtain ⟨⟨k0, k1, k2, k3, k4, k5⟩, hcp, k6, hclo, _⟩ := q6 i hir
      have hgA : g < A := by rw [HA.out]; exact q2
      have HPT := hid k5.pts
      replace k0 := (HBW.out.cell (p := ⟨g, i * 5, none⟩) hgA).trans k0
      replace k1 := (HBW.out.cell (p := ⟨g, i * 5 + 1, none⟩) hgA).trans k1
      replace k2 := (HBW.out.cell (p := ⟨g, i * 5 + 2, none⟩) hgA).trans k2
      replace k3 := (HBW.out.cell (p := ⟨g, i * 5 + 3, none⟩) hgA).trans k3
      replace k4 := (HBW.out.cell (p := ⟨g, i * 5 + 4, none⟩) hgA).trans k4
      have HX := hid (flt_next (p := vkeep t) hir)
      have HVD := hid (vkeep_def t rs[i])
      have hil : ((rs.take i).filter (vkeep t)).length ≤ i := by have := List.length_filter_le (vkeep t) (rs.take i); simp at this; omega
      clear q1 q2 q3 q4 q5 q6 q7 eX k5
      generalize cf i = ci at *
      generalize cpf i = cpi at *
      obtain ⟨r, hr⟩ : ∃ r, r = rs[i] := ⟨_, rfl⟩
      rw [← hr] at k0 k1 k2 k3 k4 k6 hcp HPT HX HVD
      clear hr
      generalize (rs.take i).filter (vkeep t) = zs at *
      obtain ⟨id, fr, te, kd, ps⟩ := r
      simp only at k0 k1 k2 k3 k4 k6 hcp HPT HVD
      generalize vkeep t (id, fr, te, kd, ps) = kb at HX HVD
      have hkk : (te = 0 ∧ kb = true) ∨ (te ≠ 0 ∧ t < te ∧ kb = true) ∨ (te ≠ 0 ∧ te ≤ t ∧ kb = false) := by
        rw [HVD.out]
        by_cases h1 : te = 0
        · exact .inl ⟨h1, by simp [h1]⟩
        · by_cases h2 : t < te
          · exact .inr (.inl ⟨h1, h2, by simp [h2]⟩)
          · exact .inr (.inr ⟨h1, by omega, by simp [h1, h2]⟩)
      have hown := HV.out.2.1
      have hvb : v.ownBlock ≠ some (A + 1) := fun e => by have := (hown.lt _ e).1; omega
      have hvA : some A ≠ v.ownBlock := fun e => by have := (hown.lt _ e.symm).1; omega
      have hvg : some g ≠ v.ownBlock := fun e => by have := (hown.lt _ e.symm).1; omega
      have g1 := G1.out
      obtain ⟨f0, f1, _, _⟩ := cell2f g1
      have f1d : wr.drew.cell? ⟨A + 1, 1, none⟩ = some v := keepdrew f1
      have f1e : (wr.alloc (.cells #[.int .i64 id, .int .i64 fr, .int .i64 te, .int .i64 kd, .slice (some ⟨ci, 0, none⟩) ps.length cpi] 88)).drew.cell? ⟨A + 1, 1, none⟩ = some v := keepdrew (keepalloc f1 _)
      have HGE : Hid ((wr.alloc (.cells #[.int .i64 id, .int .i64 fr, .int .i64 te, .int .i64 kd, .slice (some ⟨ci, 0, none⟩) ps.length cpi] 88)).drew.heap[A + 1]? = _) := hid (old_alloc g1)
      have HG0E : Hid ((wr.alloc (.cells #[.int .i64 id, .int .i64 fr, .int .i64 te, .int .i64 kd, .slice (some ⟨ci, 0, none⟩) ps.length cpi] 88)).drew.heap[A]? = _) := hid (old_alloc G0.out)
      rcases hkk with ⟨h1, hk⟩ | ⟨h1, h2, hk⟩ | ⟨h1, h2, hk⟩
      · have HX2 : Hid ((rs.take (i + 1)).filter (vkeep t) = zs ++ [(id, fr, te, kd, ps)]) := hid (by rw [HX.out, hk]; simp)
        have HT0 := hid h1
        have h1b : (te == 0) = true := by simpa using h1
        clear hk HX HVD h1
        go_wp2_with fail
        refine wp_region_held_drew (S := (fun w' => w'.cell? ⟨A, 1, none⟩ = some (.slice (some ⟨g, 0, none⟩) n c) ∧ w'.cell? ⟨g, i * 5, none⟩ = some (.int .i64 id) ∧ w'.cell? ⟨g, i * 5 + 1, none⟩ = some (.int .i64 fr) ∧ w'.cell? ⟨g, i * 5 + 2, none⟩ = some (.int .i64 te) ∧ w'.cell? ⟨g, i * 5 + 3, none⟩ = some (.int .i64 kd) ∧ w'.cell? ⟨g, i * 5 + 4, none⟩ = some (.slice (some ⟨ci, 0, none⟩) ps.length cpi))) (by kernel_rfl) ?_ (fun hHeld => ?_)
        · (repeat' apply And.intro) <;> (repeat (first | with_reducible assumption | with_reducible refine keepset3 ?_ (by dsimp only; omega) | with_reducible refine keepdrew ?_ | with_reducible refine keepalloc ?_ _ | (refine hgrow.cell ?_ hvA) | (refine hgrow.cell ?_ hvg)))
        refine wpAnyH_take (i := 0) (v := ?_) rfl (by kernel_rfl) (by kernel_rfl) (by kernel_rfl) (fun _ _ _ h => h) (Or.inl ⟨by rfl, ?_⟩) hHeld ?_
        rotate_left
        · intro w hSw; (try dsimp only at hSw); go_simp; try (with_reducible rfl)
        try simp only [sq]
        refine wpAnyH_take (i := 2) (v := ?_) rfl (by kernel_rfl) (by kernel_rfl) (by kernel_rfl) (fun _ _ _ h => h) (Or.inl ⟨by rfl, ?_⟩) hHeld ?_
        rotate_left
        · intro w hSw; (try dsimp only at hSw); go_simp; try (with_reducible rfl)
        try simp only [sq]
        refine wpAnyH_take (i := 3) (v := ?_) rfl (by kernel_rfl) (by kernel_rfl) (by kernel_rfl) (fun _ _ _ h => h) (Or.inl ⟨by rfl, ?_⟩) hHeld ?_
        rotate_left
        · intro w hSw; (try dsimp only at hSw); go_simp; try (with_reducible rfl)
        try simp only [sq]
        refine wpAnyH_take (i := 4) (v := ?_) rfl (by kernel_rfl) (by kernel_rfl) (by kernel_rfl) (fun _ _ _ h => h) (Or.inl ⟨by rfl, ?_⟩) hHeld ?_
        rotate_left
        · intro w hSw; (try dsimp only at hSw); go_simp; try (with_reducible rfl)
        try simp only [sq]
        refine wpAnyH_take (i := 5) (v := ?_) rfl (by kernel_rfl) (by kernel_rfl) (by kernel_rfl) (fun _ _ _ h => h) (Or.inl ⟨by rfl, ?_⟩) hHeld ?_
        rotate_left
        · intro w hSw; (try dsimp only at hSw); go_simp; try (with_reducible rfl)
        try simp only [sq]
        refine wpAnyH_take (i := 6) (v := ?_) rfl (by kernel_rfl) (by kernel_rfl) (by kernel_rfl) (fun _ _ _ h => h) (Or.inl ⟨by rfl, ?_⟩) hHeld ?_
        rotate_left
        · intro w hSw; (try dsimp only at hSw); go_simp; try (with_reducible rfl)
        try simp only [sq]
        refine wpAnyH_ready (rs := [1, 7]) (by kernel_rfl) (by simp) ?_
        refine AllReadyH.cons rfl (fun K hK => ?_) (AllReadyH.cons rfl (fun K hK => ?_) AllReadyH.nil)
        · skip
          try simp only [sq]
          go_simp
          refine hK.out _ _ ?_ (fun hHeld => ?_)
          · (repeat' apply And.intro) <;> (repeat (first | with_reducible assumption | with_reducible refine keepset3 ?_ (by dsimp only; omega) | with_reducible refine keepdrew ?_ | with_reducible refine keepalloc ?_ _ | (refine hgrow.cell ?_ hvA) | (refine hgrow.cell ?_ hvg)))
          clear hK K
          try simp only [sq]
          refine wpAnyH_ready (rs := [7]) (by kernel_rfl) (by simp) ?_
          refine AllReadyH.cons rfl (fun K hK => ?_) AllReadyH.nil
          try simp only [sq]
          go_simp
          refine hK.out _ _ ?_ (fun hHeld => ?_)
          · (repeat' apply And.intro) <;> (repeat (first | with_reducible assumption | with_reducible refine keepset3 ?_ (by dsimp only; omega) | with_reducible refine keepdrew ?_ | with_reducible refine keepalloc ?_ _ | (refine hgrow.cell ?_ hvA) | (refine hgrow.cell ?_ hvg)))
          clear hK K
          try simp only [sq]
          refine wpAnyH_ready (rs := [8]) (by kernel_rfl) (by simp) ?_
          refine AllReadyH.cons rfl (fun K hK => ?_) AllReadyH.nil
          (refine step_append_lies _ (by rfl) (.tmp 43) (.tmp 49) 29 (by rfl) (A + 2) 88 i0 _ 5 56 Tryz.underlying29 hi0 hz0 hz1 hz2 rfl (by omega) v zs.length (flat5 xs) (by rfl) ((hown.alloc _).drew) ⟨wr.heap.size, 0, none⟩ 1 1 (ev (elR (id, fr, te, kd, ps) ci cpi)) (by rfl) (by rfl) (World.news_of_block (cs := #[.int .i64 id, .int .i64 fr, .int .i64 te, .int .i64 kd, .slice (some ⟨ci, 0, none⟩) ps.length cpi]) (t := 88) (fr := (0, 0)) (heap_alloc_new wr _)) (by simp [ev, elR, Value.oneCell']) (by omega) (by unfold maxLen; omega) (by omega) (by show A + 2 ≤ (wr.alloc (.cells #[.int .i64 id, .int .i64 fr, .int .i64 te, .int .i64 kd, .slice (some ⟨ci, 0, none⟩) ps.length cpi] 88)).heap.size; simp; omega) (wr.heap.size + 1) (by simp) ?_; intro gg cq w2 hown2 hgrow hat hlt2; have g2 := (hgrow.block (A + 1) (show A + 1 < (wr.alloc (.cells #[.int .i64 id, .int .i64 fr, .int .i64 te, .int .i64 kd, .slice (some ⟨ci, 0, none⟩) ps.length cpi] 88)).heap.size from by (simp; omega)) (fun e => hvb e.symm)).trans HGE.out; obtain ⟨t0, t1, s0, s1⟩ := cell2f g2)
          refine hK.out _ _ ?_ (fun hHeld => ?_)
          · (repeat' apply And.intro) <;> (repeat (first | with_reducible assumption | with_reducible refine keepset3 ?_ (by dsimp only; omega) | with_reducible refine keepdrew ?_ | with_reducible refine keepalloc ?_ _ | (refine hgrow.cell ?_ hvA) | (refine hgrow.cell ?_ hvg)))
          clear hK K
          try simp only [sq]
          refine wpAnyH_take (i := 9) (v := ?_) rfl (by kernel_rfl) (by kernel_rfl) (by kernel_rfl) (fun _ _ _ h => h) (Or.inl ⟨by rfl, ?_⟩) hHeld ?_
          rotate_left
          · intro w hSw; (try dsimp only at hSw); go_simp; try (with_reducible rfl)
          try simp only [sq]
          refine wpAnyH_ready (rs := [10]) (by kernel_rfl) (by simp) ?_
          refine AllReadyH.cons rfl (fun K hK => ?_) AllReadyH.nil
          try simp only [sq]
          go_simp
          refine hK.out _ _ ?_ (fun hHeld => ?_)
          · (repeat' apply And.intro) <;> (repeat (first | with_reducible assumption | with_reducible refine keepset3 ?_ (by dsimp only; omega) | with_reducible refine keepdrew ?_ | with_reducible refine keepalloc ?_ _ | (refine hgrow.cell ?_ hvA) | (refine hgrow.cell ?_ hvg)))
          clear hK K
          try simp only [sq]
          refine wpAnyH_done (by kernel_rfl) ?_ _
          have hsn := rowsY_snoc (r := (id, fr, te, kd, ps)) (c := ci) (cp := cpi) HV.out hcp k6 hclo HPT.out hown2
          have HSN : Hid (RowsY (A + 2) W.heap.size y (w2.setCell ⟨A + 1, 1, none⟩ (.slice (some ⟨gg, 0, none⟩) (zs.length + 1) cq)) (.slice (some ⟨gg, 0, none⟩) (zs.length + 1) cq) ((rs.take (i + 1)).filter (vkeep t)) (xs ++ [elR (id, fr, te, kd, ps) ci cpi])) := hid (by
            rw [HX2.out]
            exact hsn.frame (fun b hb => by rw [Below.heap_setCell _ _ _ _ (by dsimp only; have := (hown2.lt b hb).1; omega)]))
          have HF2 := hid ((Below.heap_setCell w2 ⟨A + 1, 1, none⟩ (.slice (some ⟨gg, 0, none⟩) (zs.length + 1) cq) A (by dsimp only; omega)).trans ((hgrow.block A (show A < (wr.alloc (.cells #[.int .i64 id, .int .i64 fr, .int .i64 te, .int .i64 kd, .slice (some ⟨ci, 0, none⟩) ps.length cpi] 88)).heap.size from by (simp; omega)) (fun e => by have := (hown.lt _ e.symm).1; omega)).trans HG0E.out))
          have HF4 := hid (set1r g2 (.slice (some ⟨gg, 0, none⟩) (zs.length + 1) cq))
          have hw2 : wr.heap.size + 1 ≤ w2.heap.size := by
            have h9 := hgrow.size
            have h8 : (wr.alloc (.cells #[.int .i64 id, .int .i64 fr, .int .i64 te, .int .i64 kd, .slice (some ⟨ci, 0, none⟩) ps.length cpi] 88)).drew.heap.size = wr.heap.size + 1 := by
              show (wr.alloc (.cells #[.int .i64 id, .int .i64 fr, .int .i64 te, .int .i64 kd, .slice (some ⟨ci, 0, none⟩) ps.length cpi] 88)).heap.size = _
              simp
            omega
          have HF5 : Hid (A + 2 ≤ (w2.setCell ⟨A + 1, 1, none⟩ (.slice (some ⟨gg, 0, none⟩) (zs.length + 1) cq)).heap.size) := hid (by simp only [World.size_setCell]; omega)
          have HF6 : Hid (Below A y (w2.setCell ⟨A + 1, 1, none⟩ (.slice (some ⟨gg, 0, none⟩) (zs.length + 1) cq))) := hid ((Below.grown (((HBW.out.alloc (by omega) (.cells #[.int .i64 id, .int .i64 fr, .int .i64 te, .int .i64 kd, .slice (some ⟨ci, 0, none⟩) ps.length cpi] 88))).drew) hgrow (show A ≤ (wr.alloc (.cells #[.int .i64 id, .int .i64 fr, .int .i64 te, .int .i64 kd, .slice (some ⟨ci, 0, none⟩) ps.length cpi] 88)).heap.size from by (simp; omega)) (fun k e => by have := (hown.lt k e).1; omega)).setCell (by dsimp only; omega) _)
          clear hsn hown2 hgrow g2 t0 t1 s0 s1
          go_wp2_with fail
          go_roundw
          case rel => exact ⟨i + 1, _, _, by go_num, by omega, HSN, HF2, HF4, HF5, HF6⟩
          case measure => simp [intOf]; omega
        · skip
          try simp only [sq]
          go_simp
          refine hK.out _ _ ?_ (fun hHeld => ?_)
          · (repeat' apply And.intro) <;> (repeat (first | with_reducible assumption | with_reducible refine keepset3 ?_ (by dsimp only; omega) | with_reducible refine keepdrew ?_ | with_reducible refine keepalloc ?_ _ | (refine hgrow.cell ?_ hvA) | (refine hgrow.cell ?_ hvg)))
          clear hK K
          try simp only [sq]
          refine wpAnyH_ready (rs := [1]) (by kernel_rfl) (by simp) ?_
          refine AllReadyH.cons rfl (fun K hK => ?_) AllReadyH.nil
          try simp only [sq]
          go_simp
          refine hK.out _ _ ?_ (fun hHeld => ?_)
          · (repeat' apply And.intro) <;> (repeat (first | with_reducible assumption | with_reducible refine keepset3 ?_ (by dsimp only; omega) | with_reducible refine keepdrew ?_ | with_reducible refine keepalloc ?_ _ | (refine hgrow.cell ?_ hvA) | (refine hgrow.cell ?_ hvg)))
          clear hK K
          try simp only [sq]
          refine wpAnyH_ready (rs := [8]) (by kernel_rfl) (by simp) ?_
          refine AllReadyH.cons rfl (fun K hK => ?_) AllReadyH.nil
          (refine step_append_lies _ (by rfl) (.tmp 43) (.tmp 49) 29 (by rfl) (A + 2) 88 i0 _ 5 56 Tryz.underlying29 hi0 hz0 hz1 hz2 rfl (by omega) v zs.length (flat5 xs) (by rfl) ((hown.alloc _).drew) ⟨wr.heap.size, 0, none⟩ 1 1 (ev (elR (id, fr, te, kd, ps) ci cpi)) (by rfl) (by rfl) (World.news_of_block (cs := #[.int .i64 id, .int .i64 fr, .int .i64 te, .int .i64 kd, .slice (some ⟨ci, 0, none⟩) ps.length cpi]) (t := 88) (fr := (0, 0)) (heap_alloc_new wr _)) (by simp [ev, elR, Value.oneCell']) (by omega) (by unfold maxLen; omega) (by omega) (by show A + 2 ≤ (wr.alloc (.cells #[.int .i64 id, .int .i64 fr, .int .i64 te, .int .i64 kd, .slice (some ⟨ci, 0, none⟩) ps.length cpi] 88)).heap.size; simp; omega) (wr.heap.size + 1) (by simp) ?_; intro gg cq w2 hown2 hgrow hat hlt2; have g2 := (hgrow.block (A + 1) (show A + 1 < (wr.alloc (.cells #[.int .i64 id, .int .i64 fr, .int .i64 te, .int .i64 kd, .slice (some ⟨ci, 0, none⟩) ps.length cpi] 88)).heap.size from by (simp; omega)) (fun e => hvb e.symm)).trans HGE.out; obtain ⟨t0, t1, s0, s1⟩ := cell2f g2)
          refine hK.out _ _ ?_ (fun hHeld => ?_)
          · (repeat' apply And.intro) <;> (repeat (first | with_reducible assumption | with_reducible refine keepset3 ?_ (by dsimp only; omega) | with_reducible refine keepdrew ?_ | with_reducible refine keepalloc ?_ _ | (refine hgrow.cell ?_ hvA) | (refine hgrow.cell ?_ hvg)))
          clear hK K
          try simp only [sq]
          refine wpAnyH_take (i := 9) (v := ?_) rfl (by kernel_rfl) (by kernel_rfl) (by kernel_rfl) (fun _ _ _ h => h) (Or.inl ⟨by rfl, ?_⟩) hHeld ?_
          rotate_left
          · intro w hSw; (try dsimp only at hSw); go_simp; try (with_reducible rfl)
          try simp only [sq]
          refine wpAnyH_ready (rs := [10]) (by kernel_rfl) (by simp) ?_
          refine AllReadyH.cons rfl (fun K hK => ?_) AllReadyH.nil
          try simp only [sq]
          go_simp
          refine hK.out _ _ ?_ (fun hHeld => ?_)
          · (repeat' apply And.intro) <;> (repeat (first | with_reducible assumption | with_reducible refine keepset3 ?_ (by dsimp only; omega) | with_reducible refine keepdrew ?_ | with_reducible refine keepalloc ?_ _ | (refine hgrow.cell ?_ hvA) | (refine hgrow.cell ?_ hvg)))
          clear hK K
          try simp only [sq]
          refine wpAnyH_done (by kernel_rfl) ?_ _
          have hsn := rowsY_snoc (r := (id, fr, te, kd, ps)) (c := ci) (cp := cpi) HV.out hcp k6 hclo HPT.out hown2
          have HSN : Hid (RowsY (A + 2) W.heap.size y (w2.setCell ⟨A + 1, 1, none⟩ (.slice (some ⟨gg, 0, none⟩) (zs.length + 1) cq)) (.slice (some ⟨gg, 0, none⟩) (zs.length + 1) cq) ((rs.take (i + 1)).filter (vkeep t)) (xs ++ [elR (id, fr, te, kd, ps) ci cpi])) := hid (by
            rw [HX2.out]
            exact hsn.frame (fun b hb => by rw [Below.heap_setCell _ _ _ _ (by dsimp only; have := (hown2.lt b hb).1; omega)]))
          have HF2 := hid ((Below.heap_setCell w2 ⟨A + 1, 1, none⟩ (.slice (some ⟨gg, 0, none⟩) (zs.length + 1) cq) A (by dsimp only; omega)).trans ((hgrow.block A (show A < (wr.alloc (.cells #[.int .i64 id, .int .i64 fr, .int .i64 te, .int .i64 kd, .slice (some ⟨ci, 0, none⟩) ps.length cpi] 88)).heap.size from by (simp; omega)) (fun e => by have := (hown.lt _ e.symm).1; omega)).trans HG0E.out))
          have HF4 := hid (set1r g2 (.slice (some ⟨gg, 0, none⟩) (zs.length + 1) cq))
          have hw2 : wr.heap.size + 1 ≤ w2.heap.size := by
            have h9 := hgrow.size
            have h8 : (wr.alloc (.cells #[.int .i64 id, .int .i64 fr, .int .i64 te, .int .i64 kd, .slice (some ⟨ci, 0, none⟩) ps.length cpi] 88)).drew.heap.size = wr.heap.size + 1 := by
              show (wr.alloc (.cells #[.int .i64 id, .int .i64 fr, .int .i64 te, .int .i64 kd, .slice (some ⟨ci, 0, none⟩) ps.length cpi] 88)).heap.size = _
              simp
            omega
          have HF5 : Hid (A + 2 ≤ (w2.setCell ⟨A + 1, 1, none⟩ (.slice (some ⟨gg, 0, none⟩) (zs.length + 1) cq)).heap.size) := hid (by simp only [World.size_setCell]; omega)
          have HF6 : Hid (Below A y (w2.setCell ⟨A + 1, 1, none⟩ (.slice (some ⟨gg, 0, none⟩) (zs.length + 1) cq))) := hid ((Below.grown (((HBW.out.alloc (by omega) (.cells #[.int .i64 id, .int .i64 fr, .int .i64 te, .int .i64 kd, .slice (some ⟨ci, 0, none⟩) ps.length cpi] 88))).drew) hgrow (show A ≤ (wr.alloc (.cells #[.int .i64 id, .int .i64 fr, .int .i64 te, .int .i64 kd, .slice (some ⟨ci, 0, none⟩) ps.length cpi] 88)).heap.size from by (simp; omega)) (fun k e => by have := (hown.lt k e).1; omega)).setCell (by dsimp only; omega) _)
          clear hsn hown2 hgrow g2 t0 t1 s0 s1
          go_wp2_with fail
          go_roundw
          case rel => exact ⟨i + 1, _, _, by go_num, by omega, HSN, HF2, HF4, HF5, HF6⟩
          case measure => simp [intOf]; omega
      · have HX2 : Hid ((rs.take (i + 1)).filter (vkeep t) = zs ++ [(id, fr, te, kd, ps)]) := hid (by rw [HX.out, hk]; simp)
        have h1b : (te == 0) = false := by simpa using h1
        clear hk HX HVD h1
        go_wp2_with fail
        refine wp_region_held_drew (S := (fun w' => w'.cell? ⟨A, 1, none⟩ = some (.slice (some ⟨g, 0, none⟩) n c) ∧ w'.cell? ⟨g, i * 5, none⟩ = some (.int .i64 id) ∧ w'.cell? ⟨g, i * 5 + 1, none⟩ = some (.int .i64 fr) ∧ w'.cell? ⟨g, i * 5 + 2, none⟩ = some (.int .i64 te) ∧ w'.cell? ⟨g, i * 5 + 3, none⟩ = some (.int .i64 kd) ∧ w'.cell? ⟨g, i * 5 + 4, none⟩ = some (.slice (some ⟨ci, 0, none⟩) ps.length cpi))) (by kernel_rfl) ?_ (fun hHeld => ?_)
        · (repeat' apply And.intro) <;> (repeat (first | with_reducible assumption | with_reducible refine keepset3 ?_ (by dsimp only; omega) | with_reducible refine keepdrew ?_ | with_reducible refine keepalloc ?_ _ | (refine hgrow.cell ?_ hvA) | (refine hgrow.cell ?_ hvg)))
        refine wpAnyH_take (i := 0) (v := ?_) rfl (by kernel_rfl) (by kernel_rfl) (by kernel_rfl) (fun _ _ _ h => h) (Or.inl ⟨by rfl, ?_⟩) hHeld ?_
        rotate_left
        · intro w hSw; (try dsimp only at hSw); go_simp; try (with_reducible rfl)
        try simp only [sq]
        refine wpAnyH_take (i := 2) (v := ?_) rfl (by kernel_rfl) (by kernel_rfl) (by kernel_rfl) (fun _ _ _ h => h) (Or.inl ⟨by rfl, ?_⟩) hHeld ?_
        rotate_left
        · intro w hSw; (try dsimp only at hSw); go_simp; try (with_reducible rfl)
        try simp only [sq]
        refine wpAnyH_take (i := 3) (v := ?_) rfl (by kernel_rfl) (by kernel_rfl) (by kernel_rfl) (fun _ _ _ h => h) (Or.inl ⟨by rfl, ?_⟩) hHeld ?_
        rotate_left
        · intro w hSw; (try dsimp only at hSw); go_simp; try (with_reducible rfl)
        try simp only [sq]
        refine wpAnyH_take (i := 4) (v := ?_) rfl (by kernel_rfl) (by kernel_rfl) (by kernel_rfl) (fun _ _ _ h => h) (Or.inl ⟨by rfl, ?_⟩) hHeld ?_
        rotate_left
        · intro w hSw; (try dsimp only at hSw); go_simp; try (with_reducible rfl)
        try simp only [sq]
        refine wpAnyH_take (i := 5) (v := ?_) rfl (by kernel_rfl) (by kernel_rfl) (by kernel_rfl) (fun _ _ _ h => h) (Or.inl ⟨by rfl, ?_⟩) hHeld ?_
        rotate_left
        · intro w hSw; (try dsimp only at hSw); go_simp; try (with_reducible rfl)
        try simp only [sq]
        refine wpAnyH_take (i := 6) (v := ?_) rfl (by kernel_rfl) (by kernel_rfl) (by kernel_rfl) (fun _ _ _ h => h) (Or.inl ⟨by rfl, ?_⟩) hHeld ?_
        rotate_left
        · intro w hSw; (try dsimp only at hSw); go_simp; try (with_reducible rfl)
        try simp only [sq]
        refine wpAnyH_ready (rs := [1, 7]) (by kernel_rfl) (by simp) ?_
        refine AllReadyH.cons rfl (fun K hK => ?_) (AllReadyH.cons rfl (fun K hK => ?_) AllReadyH.nil)
        · skip
          try simp only [sq]
          go_simp
          refine hK.out _ _ ?_ (fun hHeld => ?_)
          · (repeat' apply And.intro) <;> (repeat (first | with_reducible assumption | with_reducible refine keepset3 ?_ (by dsimp only; omega) | with_reducible refine keepdrew ?_ | with_reducible refine keepalloc ?_ _ | (refine hgrow.cell ?_ hvA) | (refine hgrow.cell ?_ hvg)))
          clear hK K
          try simp only [sq]
          refine wpAnyH_ready (rs := [7]) (by kernel_rfl) (by simp) ?_
          refine AllReadyH.cons rfl (fun K hK => ?_) AllReadyH.nil
          try simp only [sq]
          go_simp
          refine hK.out _ _ ?_ (fun hHeld => ?_)
          · (repeat' apply And.intro) <;> (repeat (first | with_reducible assumption | with_reducible refine keepset3 ?_ (by dsimp only; omega) | with_reducible refine keepdrew ?_ | with_reducible refine keepalloc ?_ _ | (refine hgrow.cell ?_ hvA) | (refine hgrow.cell ?_ hvg)))
          clear hK K
          try simp only [sq]
          refine wpAnyH_ready (rs := [8]) (by kernel_rfl) (by simp) ?_
          refine AllReadyH.cons rfl (fun K hK => ?_) AllReadyH.nil
          (refine step_append_lies _ (by rfl) (.tmp 43) (.tmp 49) 29 (by rfl) (A + 2) 88 i0 _ 5 56 Tryz.underlying29 hi0 hz0 hz1 hz2 rfl (by omega) v zs.length (flat5 xs) (by rfl) ((hown.alloc _).drew) ⟨wr.heap.size, 0, none⟩ 1 1 (ev (elR (id, fr, te, kd, ps) ci cpi)) (by rfl) (by rfl) (World.news_of_block (cs := #[.int .i64 id, .int .i64 fr, .int .i64 te, .int .i64 kd, .slice (some ⟨ci, 0, none⟩) ps.length cpi]) (t := 88) (fr := (0, 0)) (heap_alloc_new wr _)) (by simp [ev, elR, Value.oneCell']) (by omega) (by unfold maxLen; omega) (by omega) (by show A + 2 ≤ (wr.alloc (.cells #[.int .i64 id, .int .i64 fr, .int .i64 te, .int .i64 kd, .slice (some ⟨ci, 0, none⟩) ps.length cpi] 88)).heap.size; simp; omega) (wr.heap.size + 1) (by simp) ?_; intro gg cq w2 hown2 hgrow hat hlt2; have g2 := (hgrow.block (A + 1) (show A + 1 < (wr.alloc (.cells #[.int .i64 id, .int .i64 fr, .int .i64 te, .int .i64 kd, .slice (some ⟨ci, 0, none⟩) ps.length cpi] 88)).heap.size from by (simp; omega)) (fun e => hvb e.symm)).trans HGE.out; obtain ⟨t0, t1, s0, s1⟩ := cell2f g2)
          refine hK.out _ _ ?_ (fun hHeld => ?_)
          · (repeat' apply And.intro) <;> (repeat (first | with_reducible assumption | with_reducible refine keepset3 ?_ (by dsimp only; omega) | with_reducible refine keepdrew ?_ | with_reducible refine keepalloc ?_ _ | (refine hgrow.cell ?_ hvA) | (refine hgrow.cell ?_ hvg)))
          clear hK K
          try simp only [sq]
          refine wpAnyH_take (i := 9) (v := ?_) rfl (by kernel_rfl) (by kernel_rfl) (by kernel_rfl) (fun _ _ _ h => h) (Or.inl ⟨by rfl, ?_⟩) hHeld ?_
          rotate_left
          · intro w hSw; (try dsimp only at hSw); go_simp; try (with_reducible rfl)
          try simp only [sq]
          refine wpAnyH_ready (rs := [10]) (by kernel_rfl) (by simp) ?_
          refine AllReadyH.cons rfl (fun K hK => ?_) AllReadyH.nil
          try simp only [sq]
          go_simp
          refine hK.out _ _ ?_ (fun hHeld => ?_)
          · (repeat' apply And.intro) <;> (repeat (first | with_reducible assumption | with_reducible refine keepset3 ?_ (by dsimp only; omega) | with_reducible refine keepdrew ?_ | with_reducible refine keepalloc ?_ _ | (refine hgrow.cell ?_ hvA) | (refine hgrow.cell ?_ hvg)))
          clear hK K
          try simp only [sq]
          refine wpAnyH_done (by kernel_rfl) ?_ _
          have hsn := rowsY_snoc (r := (id, fr, te, kd, ps)) (c := ci) (cp := cpi) HV.out hcp k6 hclo HPT.out hown2
          have HSN : Hid (RowsY (A + 2) W.heap.size y (w2.setCell ⟨A + 1, 1, none⟩ (.slice (some ⟨gg, 0, none⟩) (zs.length + 1) cq)) (.slice (some ⟨gg, 0, none⟩) (zs.length + 1) cq) ((rs.take (i + 1)).filter (vkeep t)) (xs ++ [elR (id, fr, te, kd, ps) ci cpi])) := hid (by
            rw [HX2.out]
            exact hsn.frame (fun b hb => by rw [Below.heap_setCell _ _ _ _ (by dsimp only; have := (hown2.lt b hb).1; omega)]))
          have HF2 := hid ((Below.heap_setCell w2 ⟨A + 1, 1, none⟩ (.slice (some ⟨gg, 0, none⟩) (zs.length + 1) cq) A (by dsimp only; omega)).trans ((hgrow.block A (show A < (wr.alloc (.cells #[.int .i64 id, .int .i64 fr, .int .i64 te, .int .i64 kd, .slice (some ⟨ci, 0, none⟩) ps.length cpi] 88)).heap.size from by (simp; omega)) (fun e => by have := (hown.lt _ e.symm).1; omega)).trans HG0E.out))
          have HF4 := hid (set1r g2 (.slice (some ⟨gg, 0, none⟩) (zs.length + 1) cq))
          have hw2 : wr.heap.size + 1 ≤ w2.heap.size := by
            have h9 := hgrow.size
            have h8 : (wr.alloc (.cells #[.int .i64 id, .int .i64 fr, .int .i64 te, .int .i64 kd, .slice (some ⟨ci, 0, none⟩) ps.length cpi] 88)).drew.heap.size = wr.heap.size + 1 := by
              show (wr.alloc (.cells #[.int .i64 id, .int .i64 fr, .int .i64 te, .int .i64 kd, .slice (some ⟨ci, 0, none⟩) ps.length cpi] 88)).heap.size = _
              simp
            omega
          have HF5 : Hid (A + 2 ≤ (w2.setCell ⟨A + 1, 1, none⟩ (.slice (some ⟨gg, 0, none⟩) (zs.length + 1) cq)).heap.size) := hid (by simp only [World.size_setCell]; omega)
          have HF6 : Hid (Below A y (w2.setCell ⟨A + 1, 1, none⟩ (.slice (some ⟨gg, 0, none⟩) (zs.length + 1) cq))) := hid ((Below.grown (((HBW.out.alloc (by omega) (.cells #[.int .i64 id, .int .i64 fr, .int .i64 te, .int .i64 kd, .slice (some ⟨ci, 0, none⟩) ps.length cpi] 88))).drew) hgrow (show A ≤ (wr.alloc (.cells #[.int .i64 id, .int .i64 fr, .int .i64 te, .int .i64 kd, .slice (some ⟨ci, 0, none⟩) ps.length cpi] 88)).heap.size from by (simp; omega)) (fun k e => by have := (hown.lt k e).1; omega)).setCell (by dsimp only; omega) _)
          clear hsn hown2 hgrow g2 t0 t1 s0 s1
          go_wp2_with fail
          go_roundw
          case rel => exact ⟨i + 1, _, _, by go_num, by omega, HSN, HF2, HF4, HF5, HF6⟩
          case measure => simp [intOf]; omega
        · skip
          try simp only [sq]
          go_simp
          refine hK.out _ _ ?_ (fun hHeld => ?_)
          · (repeat' apply And.intro) <;> (repeat (first | with_reducible assumption | with_reducible refine keepset3 ?_ (by dsimp only; omega) | with_reducible refine keepdrew ?_ | with_reducible refine keepalloc ?_ _ | (refine hgrow.cell ?_ hvA) | (refine hgrow.cell ?_ hvg)))
          clear hK K
          try simp only [sq]
          refine wpAnyH_ready (rs := [1]) (by kernel_rfl) (by simp) ?_
          refine AllReadyH.cons rfl (fun K hK => ?_) AllReadyH.nil
          try simp only [sq]
          go_simp
          refine hK.out _ _ ?_ (fun hHeld => ?_)
          · (repeat' apply And.intro) <;> (repeat (first | with_reducible assumption | with_reducible refine keepset3 ?_ (by dsimp only; omega) | with_reducible refine keepdrew ?_ | with_reducible refine keepalloc ?_ _ | (refine hgrow.cell ?_ hvA) | (refine hgrow.cell ?_ hvg)))
          clear hK K
          try simp only [sq]
          refine wpAnyH_ready (rs := [8]) (by kernel_rfl) (by simp) ?_
          refine AllReadyH.cons rfl (fun K hK => ?_) AllReadyH.nil
          (refine step_append_lies _ (by rfl) (.tmp 43) (.tmp 49) 29 (by rfl) (A + 2) 88 i0 _ 5 56 Tryz.underlying29 hi0 hz0 hz1 hz2 rfl (by omega) v zs.length (flat5 xs) (by rfl) ((hown.alloc _).drew) ⟨wr.heap.size, 0, none⟩ 1 1 (ev (elR (id, fr, te, kd, ps) ci cpi)) (by rfl) (by rfl) (World.news_of_block (cs := #[.int .i64 id, .int .i64 fr, .int .i64 te, .int .i64 kd, .slice (some ⟨ci, 0, none⟩) ps.length cpi]) (t := 88) (fr := (0, 0)) (heap_alloc_new wr _)) (by simp [ev, elR, Value.oneCell']) (by omega) (by unfold maxLen; omega) (by omega) (by show A + 2 ≤ (wr.alloc (.cells #[.int .i64 id, .int .i64 fr, .int .i64 te, .int .i64 kd, .slice (some ⟨ci, 0, none⟩) ps.length cpi] 88)).heap.size; simp; omega) (wr.heap.size + 1) (by simp) ?_; intro gg cq w2 hown2 hgrow hat hlt2; have g2 := (hgrow.block (A + 1) (show A + 1 < (wr.alloc (.cells #[.int .i64 id, .int .i64 fr, .int .i64 te, .int .i64 kd, .slice (some ⟨ci, 0, none⟩) ps.length cpi] 88)).heap.size from by (simp; omega)) (fun e => hvb e.symm)).trans HGE.out; obtain ⟨t0, t1, s0, s1⟩ := cell2f g2)
          refine hK.out _ _ ?_ (fun hHeld => ?_)
          · (repeat' apply And.intro) <;> (repeat (first | with_reducible assumption | with_reducible refine keepset3 ?_ (by dsimp only; omega) | with_reducible refine keepdrew ?_ | with_reducible refine keepalloc ?_ _ | (refine hgrow.cell ?_ hvA) | (refine hgrow.cell ?_ hvg)))
          clear hK K
          try simp only [sq]
          refine wpAnyH_take (i := 9) (v := ?_) rfl (by kernel_rfl) (by kernel_rfl) (by kernel_rfl) (fun _ _ _ h => h) (Or.inl ⟨by rfl, ?_⟩) hHeld ?_
          rotate_left
          · intro w hSw; (try dsimp only at hSw); go_simp; try (with_reducible rfl)
          try simp only [sq]
          refine wpAnyH_ready (rs := [10]) (by kernel_rfl) (by simp) ?_
          refine AllReadyH.cons rfl (fun K hK => ?_) AllReadyH.nil
          try simp only [sq]
          go_simp
          refine hK.out _ _ ?_ (fun hHeld => ?_)
          · (repeat' apply And.intro) <;> (repeat (first | with_reducible assumption | with_reducible refine keepset3 ?_ (by dsimp only; omega) | with_reducible refine keepdrew ?_ | with_reducible refine keepalloc ?_ _ | (refine hgrow.cell ?_ hvA) | (refine hgrow.cell ?_ hvg)))
          clear hK K
          try simp only [sq]
          refine wpAnyH_done (by kernel_rfl) ?_ _
          have hsn := rowsY_snoc (r := (id, fr, te, kd, ps)) (c := ci) (cp := cpi) HV.out hcp k6 hclo HPT.out hown2
          have HSN : Hid (RowsY (A + 2) W.heap.size y (w2.setCell ⟨A + 1, 1, none⟩ (.slice (some ⟨gg, 0, none⟩) (zs.length + 1) cq)) (.slice (some ⟨gg, 0, none⟩) (zs.length + 1) cq) ((rs.take (i + 1)).filter (vkeep t)) (xs ++ [elR (id, fr, te, kd, ps) ci cpi])) := hid (by
            rw [HX2.out]
            exact hsn.frame (fun b hb => by rw [Below.heap_setCell _ _ _ _ (by dsimp only; have := (hown2.lt b hb).1; omega)]))
          have HF2 := hid ((Below.heap_setCell w2 ⟨A + 1, 1, none⟩ (.slice (some ⟨gg, 0, none⟩) (zs.length + 1) cq) A (by dsimp only; omega)).trans ((hgrow.block A (show A < (wr.alloc (.cells #[.int .i64 id, .int .i64 fr, .int .i64 te, .int .i64 kd, .slice (some ⟨ci, 0, none⟩) ps.length cpi] 88)).heap.size from by (simp; omega)) (fun e => by have := (hown.lt _ e.symm).1; omega)).trans HG0E.out))
          have HF4 := hid (set1r g2 (.slice (some ⟨gg, 0, none⟩) (zs.length + 1) cq))
          have hw2 : wr.heap.size + 1 ≤ w2.heap.size := by
            have h9 := hgrow.size
            have h8 : (wr.alloc (.cells #[.int .i64 id, .int .i64 fr, .int .i64 te, .int .i64 kd, .slice (some ⟨ci, 0, none⟩) ps.length cpi] 88)).drew.heap.size = wr.heap.size + 1 := by
              show (wr.alloc (.cells #[.int .i64 id, .int .i64 fr, .int .i64 te, .int .i64 kd, .slice (some ⟨ci, 0, none⟩) ps.length cpi] 88)).heap.size = _
              simp
            omega
          have HF5 : Hid (A + 2 ≤ (w2.setCell ⟨A + 1, 1, none⟩ (.slice (some ⟨gg, 0, none⟩) (zs.length + 1) cq)).heap.size) := hid (by simp only [World.size_setCell]; omega)
          have HF6 : Hid (Below A y (w2.setCell ⟨A + 1, 1, none⟩ (.slice (some ⟨gg, 0, none⟩) (zs.length + 1) cq))) := hid ((Below.grown (((HBW.out.alloc (by omega) (.cells #[.int .i64 id, .int .i64 fr, .int .i64 te, .int .i64 kd, .slice (some ⟨ci, 0, none⟩) ps.length cpi] 88))).drew) hgrow (show A ≤ (wr.alloc (.cells #[.int .i64 id, .int .i64 fr, .int .i64 te, .int .i64 kd, .slice (some ⟨ci, 0, none⟩) ps.length cpi] 88)).heap.size from by (simp; omega)) (fun k e => by have := (hown.lt k e).1; omega)).setCell (by dsimp only; omega) _)
          clear hsn hown2 hgrow g2 t0 t1 s0 s1
          go_wp2_with fail
          go_roundw
          case rel => exact ⟨i + 1, _, _, by go_num, by omega, HSN, HF2, HF4, HF5, HF6⟩
          case measure => simp [intOf]; omega
      · have HX2 : Hid ((rs.take (i + 1)).filter (vkeep t) = zs) := hid (by rw [HX.out, hk]; simp)
        have h1b : (te == 0) = false := by simpa using h1
        have HV2 := HV
        rw [← HX2.out] at HV2
        clear hk HX HVD h1 f0 f1 f1d f1e
        go_wp2_with fail
        go_roundw
        case rel => exact ⟨i + 1, v, xs, by go_num, by omega, HV2, G0, G1, HS, HBW⟩
        case measure => simp [intOf]; omega
    · have c1 : (n : Int) ≤ (i : Int) := by omega
      have hin : i = rs.length := by have := HN.out; omega
      have hV : RowsY (A + 2) W.heap.size y wr v vs xs := by have := HV.out; rw [hin, List.take_length, ← HE.out] at this; exact this
      obtain ⟨a2, c2, rfl⟩ := hV.form
      have HVV := hid hV
      clear hin HV hV
      have hwA : w.heap.size + 1 < A := by rw [HA.out]; omega
      have g1 : wr.heap[w.heap.size + 1]? = some (.cells #[.int .i64 0, .slice none 0 0] 31 (0, 0)) := (HBW.out.block _ hwA).trans HGy1.out
      have HBF : Hid (Below w.heap.size w wr) := hid (HBy.out.trans (HBW.out.mono (by omega)))
      obtain ⟨v0, v1, u0, u1⟩ := cell2f g1
      obtain ⟨f0, f1, _, _⟩ := cell2f G1.out
      go_wp2_with fail
      have gF := set2r g1 (.int .i64 now) (.slice a2 vs.length c2)
      have bF := bset (bset HBF.out (q := w.heap.size + 1) (k := 0) (by omega) (.int .i64 now)) (q := w.heap.size + 1) (k := 1) (by omega) (.slice a2 vs.length c2)
      have rF : Rws (fun _ => True) ((wr.setCell ⟨w.heap.size + 1, 0, none⟩ (.int .i64 now)).setCell ⟨w.heap.size + 1, 1, none⟩ (.slice a2 vs.length c2)) a2 vs := by
        have hb0 : Below y.heap.size y wr := by have := HBW.out; rw [HA.out] at this; exact this
        refine (HVV.out.frame (w' := (wr.setCell ⟨w.heap.size + 1, 0, none⟩ (.int .i64 now)).setCell ⟨w.heap.size + 1, 1, none⟩ (.slice a2 vs.length c2)) (fun b hb => by rw [Below.heap_setCell _ _ _ _ (by dsimp only; have := (HVV.out.2.1.lt b hb).1; omega), Below.heap_setCell _ _ _ _ (by dsimp only; have := (HVV.out.2.1.lt b hb).1; omega)])).rws (fun b h1 h2 => by rw [Below.heap_setCell _ _ _ _ (by dsimp only; omega), Below.heap_setCell _ _ _ _ (by dsimp only; omega)]; exact hb0.block b h2) (by simp; exact hb0.size)
      generalize (wr.setCell ⟨w.heap.size + 1, 0, none⟩ (.int .i64 now)).setCell ⟨w.heap.size + 1, 1, none⟩ (.slice a2 vs.length c2) = wf at *
      obtain ⟨z0, z1, _, _⟩ := cell2f gF
      exact bodyPost_ret (v := .agg #[.int .i64 now, .slice a2 vs.length c2]) (by simp [results, Tryz.results30, go_sem, z0, z1]) rfl ⟨a2, c2, rfl, rF, bF⟩
end Go.Proofs.YtigjdlpjibakjaaGreat
namespace Go.Proofs.YtigjdlpjibakjaaGreat
open Go.RowKit
set_option linter.unusedSimpArgs false
set_option linter.unusedVariables false
/-- A store that a call answers, in memory of its own. -/
def SR (w : World) (now : Int) (rs : List Rw) (ts : List Tx) (e : Ending) (w' : World) : Prop :=
  ∃ a c ta tcc b1 u1 b2 u2, e = .returned (.agg #[.int .i64 now, .slice a rs.length c, .slice ta ts.length tcc]) ∧ StX b1 u1 b2 u2 w' a ta c tcc rs ts ∧ w.heap.size ≤ b1 ∧ w.heap.size ≤ b2 ∧ (u1 ≤ b2 ∨ u2 ≤ b1) ∧ Below w.heap.size w w'
theorem sr_mk {w w' : World} {now : Int} {rs : List Rw} {ts : List Tx} {a ta : Option Addr} {c tcc nr nt b1 u1 b2 u2 : Nat} (h1 : rs.length = nr) (h2 : ts.length = nt) (x1 : LC KR b1 u1 w' (.slice a nr c) rs) (x2 : LC KT b2 u2 w' (.slice ta nt tcc) ts) (e1 : w.heap.size ≤ b1) (e2 : w.heap.size ≤ b2) (e3 : u1 ≤ b2 ∨ u2 ≤ b1) (hb : Below w.heap.size w w') : SR w now rs ts (.returned (.agg #[.int .i64 now, .slice a nr c, .slice ta nt tcc])) w' := by
  subst h1 h2
  exact ⟨a, c, ta, tcc, b1, u1, b2, u2, rfl, ⟨x1, x2⟩, e1, e2, e3, hb⟩
/-- A store that the specification answers. -/
def SS (w : World) (now : Int) (rs : List Rw) (ts : List Tx) (e : Ending) (w' : World) : Prop :=
  ∃ a c ta tcc, e = .returned (.agg #[.int .i64 now, .slice a rs.length c, .slice ta ts.length tcc]) ∧ Rws (fun _ => True) w' a rs ∧ Txs (fun _ => True) 1099511627776 w' ta ts ∧ Below w.heap.size w w'
theorem Txs.any {N : Nat → Prop} {M : Nat} {w : World} {a : Option Addr} {ts : List Tx} (h : Txs N M w a ts) : Txs (fun _ => True) M w a ts := by
  rcases h with h | ⟨b, o, e, hb, h⟩
  · exact .inl h
  · refine .inr ⟨b, o, e, hb, fun j hj => ?_⟩
    obtain ⟨a', cap', q0, q1, q2, q3, q4, q5, q6⟩ := h j hj
    refine ⟨a', cap', q0, q1, q2, q3, q4, ?_, fun _ _ _ => trivial⟩
    rcases q5 with q5 | ⟨b2, o2, e2, hb2, q5⟩
    · exact .inl q5
    · refine .inr ⟨b2, o2, e2, hb2, fun i hi => ?_⟩
      obtain ⟨a4, cap4, p0, p1, p2, p3, p4, p5, p6, p7⟩ := q5 i hi
      exact ⟨a4, cap4, p0, p1, p2, p3, p4, p5, p6, fun _ _ _ => trivial⟩
/-- Rows do not lie in a block that holds a store. -/
theorem Rws.off {N : Nat → Prop} {w w' : World} {a : Option Addr} {rs : List Rw} {Q : Nat} {x y z : Value} {t : TypeId} (h : Rws N w a rs) (hq : w.heap[Q]? = some (.cells #[x, y, z] t (0, 0))) (hy : ∀ i, y ≠ .int .i64 i) (hf : ∀ b, b ≠ Q → w'.heap[b]? = w.heap[b]?) (hs : w.heap.size ≤ w'.heap.size) : Rws N w' a rs := by
  have c1 : w.cell? ⟨Q, 1, none⟩ = some y := by simp [World.cell?, hq]
  have c3 : ∀ k, w.cell? ⟨Q, k + 3, none⟩ = none := fun k => by simp [World.cell?, hq]
  rcases h with h | ⟨b, o, e, hb, h⟩
  · exact .inl h
  · cases rs with
    | nil => exact .inl rfl
    | cons r0 rr =>
    have hbQ : b ≠ Q := by
      intro e
      subst e
      obtain ⟨_, _, _, _, _, _, h4, _⟩ := h 0 (by simp)
      have := c3 (o + 0 * 5 + 1)
      rw [show o + 0 * 5 + 1 + 3 = o + 0 * 5 + 4 by omega] at this
      rw [this] at h4
      cases h4
    refine .inr ⟨b, o, e, by omega, fun j hj => ?_⟩
    obtain ⟨a', cap', k0, k1, k2, k3, k4, k5, k6, k7, k8⟩ := h j hj
    have hc : ∀ k, w'.cell? ⟨b, k, none⟩ = w.cell? ⟨b, k, none⟩ := fun k => World.cell?_of_block (w := w) (hf b hbQ)
    refine ⟨a', cap', by rw [hc]; exact k0, by rw [hc]; exact k1, by rw [hc]; exact k2, by rw [hc]; exact k3, by rw [hc]; exact k4, k5, k6, ?_, k8⟩
    rcases k7 with k7 | ⟨c, off, e2, hc2, k7⟩
    · exact .inl k7
    · cases hps : ((r0 :: rr)[j]).2.2.2.2 with
      | nil => exact .inl rfl
      | cons p0 pr =>
      rw [hps] at k7
      have hcQ : c ≠ Q := by
        intro e3
        subst e3
        obtain ⟨m0, m1⟩ := k7 0 (by simp)
        have hlt : off + 0 * 2 + 1 < 3 := by
          rcases Nat.lt_or_ge (off + 0 * 2 + 1) 3 with q | q
          · exact q
          · have := c3 (off + 0 * 2 + 1 - 3)
            rw [show off + 0 * 2 + 1 - 3 + 3 = off + 0 * 2 + 1 by omega] at this
            rw [this] at m1
            cases m1
        rcases (show off = 0 ∨ off = 1 by omega) with q | q
        · subst q
          have m1' : w.cell? ⟨c, 1, none⟩ = _ := m1
          rw [c1] at m1'
          exact hy _ (Option.some.inj m1')
        · subst q
          have m0' : w.cell? ⟨c, 1, none⟩ = _ := m0
          rw [c1] at m0'
          exact hy _ (Option.some.inj m0')
      refine .inr ⟨c, off, e2, by omega, fun k hk => ?_⟩
      obtain ⟨m0, m1⟩ := k7 k hk
      have hcc : ∀ k, w'.cell? ⟨c, k, none⟩ = w.cell? ⟨c, k, none⟩ := fun k => World.cell?_of_block (w := w) (hf c hcQ)
      exact ⟨by rw [hcc]; exact m0, by rw [hcc]; exact m1⟩
def txL (ts : List Tx) : Prop := ∀ j (h : j < ts.length), ts[j].2.2.length ≤ 1099511627776
theorem ss_mk {w w' : World} {now : Int} {rs : List Rw} {ts : List Tx} {a ta : Option Addr} {c tcc nr nt : Nat} (h1 : rs.length = nr) (h2 : ts.length = nt) (x1 : Rws (fun _ => True) w' a rs) (x2 : Txs (fun _ => True) 1099511627776 w' ta ts) (hb : Below w.heap.size w w') : SS w now rs ts (.returned (.agg #[.int .i64 now, .slice a nr c, .slice ta nt tcc])) w' := by
  subst h1 h2
  exact ⟨a, c, ta, tcc, rfl, x1, x2, hb⟩
def clI (now : Int) (rs : List Rw) (ts : List Tx) : List Rw := if storeb now rs ts = true then vacb now rs (oldI now ts) else rs
def clS (now : Int) (rs : List Rw) (ts : List Tx) : List Rw := if storeb now rs ts = true then vacb now rs (oldS now ts) else rs
theorem cl_same (now : Int) (rs : List Rw) (ts : List Tx) : clI now rs ts = clS now rs ts := by
  unfold clI clS
  by_cases h : storeb now rs ts = true
  · rw [if_pos h, if_pos h]
    rw [old_same]
    intro t ht
    unfold storeb at h
    simp only [Bool.and_eq_true, List.all_eq_true] at h
    have := h.2.2 t ht
    unfold txb at this
    simp only [Bool.and_eq_true, decide_eq_true_eq] at this
    exact this.1.1.2
  · rw [if_neg h, if_neg h]
set_option maxRecDepth 100000 in
set_option maxHeartbeats 4000000 in
theorem impl_Clean {N1 N2 : Nat → Prop} (now : Int) (B D : Nat) (rs : List Rw) (ts : List Tx) (w : World) (hm : rs.length ≤ 1099511627776) (htm : ts.length ≤ 1099511627776) (hr : RwsS w B rs) (hrr : Rws N1 w (some ⟨B, 0, none⟩) rs) (ht : TxsS w D ts) (htt : Txs N2 1099511627776 w (some ⟨D, 0, none⟩) ts) : Calls Tryz.prog 13 #[.agg #[.int .i64 now, .slice (some ⟨B, 0, none⟩) rs.length rs.length, .slice (some ⟨D, 0, none⟩) ts.length ts.length]] w fun e w' => SR w now (clI now rs ts) ts e w' := by
  have HCP := hid (fun (W : World) (hb : Below w.heap.size w W) => store_copied now B D rs.length ts.length rs ts W hm htm (hr.below hb).z (ht.below hb))
  have HOK := hid (fun (W : World) (hb : Below w.heap.size w W) => impl_StoreOk now (some ⟨B, 0, none⟩) (some ⟨D, 0, none⟩) rs.length ts.length rs ts W hm htm (hrr.below hb) (htt.below hb))
  have HOL := hid (fun (W : World) (hb : Below w.heap.size w W) => impl_Oldest now (some ⟨B, 0, none⟩) (some ⟨D, 0, none⟩) rs.length rs.length ts.length ts W htm (htt.below hb))
  have HVC := hid (fun (g c : Nat) (W : World) (hz : RwsZ W g rs) (hw : Rws (fun _ => True) W (some ⟨g, 0, none⟩) rs) => impl_Vacuum2 now g c rs (oldI now ts) W hm hz.s hw)
  clear hr hrr ht htt
  unfold clI
  generalize vacb now rs (oldI now ts) = vs at *
  generalize oldI now ts = od at *
  generalize hst : storeb now rs ts = ok at *
  unfold StX at HCP
  unfold VR at HVC
  generalize hnr : rs.length = nr at *
  generalize hnt : ts.length = nt at *
  have HNR := hid hnr
  have HNT := hid hnt
  clear hnr hnt hst
  have hB : Below w.heap.size w ((w.alloc (.cells #[.int .i64 now, .slice (some ⟨B, 0, none⟩) nr nr, .slice (some ⟨D, 0, none⟩) nt nt] 34)).alloc (.cells #[.int .i64 0, .slice none 0 0, .slice none 0 0] 34)) := balloc (balloc (Below.refl _ _) _) _
  have gP := old_alloc (o' := .cells #[.int .i64 0, .slice none 0 0, .slice none 0 0] 34) (new_alloc w w.heap.size (.cells #[.int .i64 now, .slice (some ⟨B, 0, none⟩) nr nr, .slice (some ⟨D, 0, none⟩) nt nt] 34) rfl)
  have gZ := new_alloc (w.alloc (.cells #[.int .i64 now, .slice (some ⟨B, 0, none⟩) nr nr, .slice (some ⟨D, 0, none⟩) nt nt] 34)) (w.heap.size + 1) (.cells #[.int .i64 0, .slice none 0 0, .slice none 0 0] 34) (by simp)
  have hWs : w.heap.size + 1 < ((w.alloc (.cells #[.int .i64 now, .slice (some ⟨B, 0, none⟩) nr nr, .slice (some ⟨D, 0, none⟩) nt nt] 34)).alloc (.cells #[.int .i64 0, .slice none 0 0, .slice none 0 0] 34)).heap.size := by simp
  go_enter Tryz.func13, Tryz.ntmps13
  go_upto_region 1 with fail
  generalize (w.alloc (.cells #[.int .i64 now, .slice (some ⟨B, 0, none⟩) nr nr, .slice (some ⟨D, 0, none⟩) nt nt] 34)).alloc (.cells #[.int .i64 0, .slice none 0 0, .slice none 0 0] 34) = W at *
  obtain ⟨⟨d0, d1, d2⟩, _⟩ := cellk3 gP
  go_wp2_with fail
  refine (HCP.out _ hB).mono ?_
  rintro e y ⟨g, c, tg, tcc, mid, rfl, ⟨hx1, hx2⟩, hrz, e1, e2, hy⟩
  replace gP := keepheap2 hy gP
  replace gZ := keepheap2 hy gZ
  replace hB := btrans hB hy
  have hyz := hy.size
  have HX1 := hid hx1
  have HX2 := hid hx2
  have HRZ := hid hrz
  clear hy hx1 hx2 HCP d0 d1 d2 hrz
  have r1 := HX1.out.1
  have r2 := HX2.out.1
  go_upto_region 2 with fail
  have hal : Below y.heap.size y (y.alloc (.cells #[.int .i64 now, .slice (some ⟨g, 0, none⟩) nr c, .slice (some ⟨tg, 0, none⟩) nt tcc] 34)) := balloc (Below.refl _ _) _
  have gQ := new_alloc y y.heap.size (.cells #[.int .i64 now, .slice (some ⟨g, 0, none⟩) nr c, .slice (some ⟨tg, 0, none⟩) nt tcc] 34) rfl
  replace gP := keepheap2 hal gP
  replace gZ := keepheap2 hal gZ
  replace hB := btrans hB hal
  replace HX1 := hid (HX1.out.below hal)
  replace HX2 := hid (HX2.out.below hal)
  replace HRZ := hid (HRZ.out.below hal)
  have hyq : y.heap.size < (y.alloc (.cells #[.int .i64 now, .slice (some ⟨g, 0, none⟩) nr c, .slice (some ⟨tg, 0, none⟩) nt tcc] 34)).heap.size := by simp
  have q1 := HX1.out.1
  have q2 := HX2.out.1
  clear hal
  generalize y.alloc (.cells #[.int .i64 now, .slice (some ⟨g, 0, none⟩) nr c, .slice (some ⟨tg, 0, none⟩) nt tcc] 34) = Y at *
  generalize W.heap.size = Wz at *
  generalize y.heap.size = Q at *
  obtain ⟨⟨d0, d1, d2⟩, _⟩ := cellk3 gP
  go_wp2_with fail
  refine (HOK.out _ hB).mono ?_
  rintro e z ⟨rfl, hz⟩
  replace gP := keepheap2 hz gP
  replace gZ := keepheap2 hz gZ
  replace gQ := keepheap2 hz gQ
  replace hB := btrans hB hz
  have hzz := hz.size
  replace HX1 := hid (HX1.out.below hz)
  replace HX2 := hid (HX2.out.below hz)
  replace HRZ := hid (HRZ.out.below hz)
  clear hz d0 d1 d2 HOK
  cases ok
  · skip
    clear HOL HVC
    obtain ⟨⟨v0, v1, v2⟩, s0, s1, s2⟩ := cellk3 gZ
    obtain ⟨⟨t0, t1, t2⟩, _⟩ := cellk3 gQ
    have HB := hid hB
    clear hB
    go_wp2_with fail
    have gF := setk3 gZ (.int .i64 now) (.slice (some ⟨g, 0, none⟩) nr c) (.slice (some ⟨tg, 0, none⟩) nt tcc)
    have bF := (bset (bset (bset HB.out (q := w.heap.size + 1) (k := 0) (by omega) (.int .i64 now)) (q := w.heap.size + 1) (k := 1) (by omega) (.slice (some ⟨g, 0, none⟩) nr c)) (q := w.heap.size + 1) (k := 2) (by omega) (.slice (some ⟨tg, 0, none⟩) nt tcc))
    have hfar : ∀ b, b ≠ w.heap.size + 1 → (((z.setCell ⟨w.heap.size + 1, 0, none⟩ (.int .i64 now)).setCell ⟨w.heap.size + 1, 1, none⟩ (.slice (some ⟨g, 0, none⟩) nr c)).setCell ⟨w.heap.size + 1, 2, none⟩ (.slice (some ⟨tg, 0, none⟩) nt tcc)).heap[b]? = z.heap[b]? := fun b hb => by rw [Below.heap_setCell _ _ _ _ (by dsimp only; omega), Below.heap_setCell _ _ _ _ (by dsimp only; omega), Below.heap_setCell _ _ _ _ (by dsimp only; omega)]
    have x1 := HX1.out.frame (w' := (((z.setCell ⟨w.heap.size + 1, 0, none⟩ (.int .i64 now)).setCell ⟨w.heap.size + 1, 1, none⟩ (.slice (some ⟨g, 0, none⟩) nr c)).setCell ⟨w.heap.size + 1, 2, none⟩ (.slice (some ⟨tg, 0, none⟩) nt tcc))) (fun b h1 h2 => hfar b (by omega)) (by simp)
    have x2 := HX2.out.frame (w' := (((z.setCell ⟨w.heap.size + 1, 0, none⟩ (.int .i64 now)).setCell ⟨w.heap.size + 1, 1, none⟩ (.slice (some ⟨g, 0, none⟩) nr c)).setCell ⟨w.heap.size + 1, 2, none⟩ (.slice (some ⟨tg, 0, none⟩) nt tcc))) (fun b h1 h2 => hfar b (by omega)) (by simp)
    generalize (((z.setCell ⟨w.heap.size + 1, 0, none⟩ (.int .i64 now)).setCell ⟨w.heap.size + 1, 1, none⟩ (.slice (some ⟨g, 0, none⟩) nr c)).setCell ⟨w.heap.size + 1, 2, none⟩ (.slice (some ⟨tg, 0, none⟩) nt tcc)) = wf at *
    obtain ⟨⟨z0, z1, z2⟩, _⟩ := cellk3 gF
    exact bodyPost_ret (v := .agg #[.int .i64 now, .slice (some ⟨g, 0, none⟩) nr c, .slice (some ⟨tg, 0, none⟩) nt tcc]) (by simp [results, Tryz.results13, go_sem, z0, z1, z2]) rfl (by first | exact sr_mk HNR.out HNT.out x1 x2 (by omega) (by omega) (by omega) bF | (rw [if_neg (by simp)]; exact sr_mk HNR.out HNT.out x1 x2 (by omega) (by omega) (by omega) bF))
  · skip
    obtain ⟨⟨d0, d1, d2⟩, _⟩ := cellk3 gP
    go_wp2_with fail
    clear d0 d1 d2
    refine wp_region_held_drew (S := (fun w' => w'.heap[w.heap.size]? = some (.cells #[.int .i64 now, .slice (some ⟨B, 0, none⟩) nr nr, .slice (some ⟨D, 0, none⟩) nt nt] 34 (0, 0)))) (by kernel_rfl) ?_ (fun hHeld => ?_)
    · exact gP
    replace gP : z.drew.heap[w.heap.size]? = some (.cells #[.int .i64 now, .slice (some ⟨B, 0, none⟩) nr nr, .slice (some ⟨D, 0, none⟩) nt nt] 34 (0, 0)) := gP
    replace gZ : z.drew.heap[w.heap.size + 1]? = some (.cells #[.int .i64 0, .slice none 0 0, .slice none 0 0] 34 (0, 0)) := gZ
    replace gQ : z.drew.heap[Q]? = some (.cells #[.int .i64 now, .slice (some ⟨g, 0, none⟩) nr c, .slice (some ⟨tg, 0, none⟩) nt tcc] 34 (0, 0)) := gQ
    replace hB := bdrew hB
    replace HX1 := hid (HX1.out.below (bdrew (Below.refl _ _)))
    replace HX2 := hid (HX2.out.below (bdrew (Below.refl _ _)))
    replace HRZ := hid (HRZ.out.below (bdrew (Below.refl _ _)))
    have hzd : z.drew.heap.size = z.heap.size := rfl
    have hzd1 := Nat.le_of_eq hzd
    have hzd2 := Nat.le_of_eq hzd.symm
    clear hzd
    generalize z.drew = Z at *
    refine wpAnyH_take (i := 0) (v := ?_) rfl (by kernel_rfl) (by kernel_rfl) (by kernel_rfl) (fun _ _ _ h => h) (Or.inl ⟨by rfl, ?_⟩) hHeld ?_
    rotate_left
    · intro w hSw; (try dsimp only at hSw); go_simp; try (with_reducible rfl)
    try simp only [sq]
    refine wpAnyH_take (i := 2) (v := ?_) rfl (by kernel_rfl) (by kernel_rfl) (by kernel_rfl) (fun _ _ _ h => h) (Or.inl ⟨by rfl, ?_⟩) hHeld ?_
    rotate_left
    · intro w hSw; (try dsimp only at hSw); obtain ⟨⟨_, _, _⟩, _⟩ := cellk3 (hSw); go_simp; try (with_reducible rfl)
    try simp only [sq]
    refine wpAnyH_ready (rs := [1, 3]) (by kernel_rfl) (by simp) ?_
    refine (AllReadyH.cons rfl (fun K hK => ?_) (AllReadyH.cons rfl (fun K hK => ?_) AllReadyH.nil))
    · skip
      obtain ⟨⟨q0, q1', q2'⟩, _⟩ := cellk3 gQ
      try simp only [sq]
      go_simp
      refine hK.out _ _ ?_ (fun hHeld => ?_)
      · exact gP
      clear hK K
      try simp only [sq]
      clear q0 q1' q2'
      refine wpAnyH_ready (rs := [3]) (by kernel_rfl) (by simp) ?_
      refine AllReadyH.cons rfl (fun K hK => ?_) AllReadyH.nil
      try simp only [sq]
      go_simp
      go_at_call 33
      refine (HOL.out _ hB).mono ?_
      rintro e A1 ⟨rfl, hq⟩
      replace gP := keepheap2 hq gP
      replace gZ := keepheap2 hq gZ
      replace gQ := keepheap2 hq gQ
      replace hB := btrans hB hq
      have hz_A1 := hq.size
      replace HX1 := hid (HX1.out.below hq)
      replace HX2 := hid (HX2.out.below hq)
      replace HRZ := hid (HRZ.out.below hq)
      clear hq
      go_wp2_with fail
      refine hK.out _ _ ?_ (fun hHeld => ?_)
      · exact gP
      clear hK K
      try simp only [sq]
      refine wpAnyH_ready (rs := [4]) (by kernel_rfl) (by simp) ?_
      refine AllReadyH.cons rfl (fun K hK => ?_) AllReadyH.nil
      try simp only [sq]
      go_simp
      go_at_call 32
      refine (HVC.out g c _ HRZ.out (HX1.out.rws)).mono ?_
      rintro e A2 ⟨va, vc, vx, rfl, hv, hq⟩
      replace hv := hv.lc
      have HV := hid hv
      clear hv
      replace gP := keepheap2 hq gP
      replace gZ := keepheap2 hq gZ
      replace gQ := keepheap2 hq gQ
      replace hB := btrans hB hq
      have hz_A2 := hq.size
      replace HX1 := hid (HX1.out.below hq)
      replace HX2 := hid (HX2.out.below hq)
      replace HRZ := hid (HRZ.out.below hq)
      clear hq
      go_wp2_with fail
      refine hK.out _ _ ?_ (fun hHeld => ?_)
      · exact gP
      clear hK K
      try simp only [sq]
      refine wpAnyH_take (i := 5) (v := ?_) rfl (by kernel_rfl) (by kernel_rfl) (by kernel_rfl) (fun _ _ _ h => h) (Or.inl ⟨by rfl, ?_⟩) hHeld ?_
      rotate_left
      · intro w hSw; (try dsimp only at hSw); go_simp; try (with_reducible rfl)
      try simp only [sq]
      refine wpAnyH_ready (rs := [6]) (by kernel_rfl) (by simp) ?_
      refine AllReadyH.cons rfl (fun K hK => ?_) AllReadyH.nil
      obtain ⟨⟨q0, q1', q2'⟩, p0, p1, p2⟩ := cellk3 gQ
      try simp only [sq]
      go_simp
      have hfarQ : ∀ b, b ≠ Q → ((A2.setCell ⟨Q, 0, none⟩ (.int .i64 now)).setCell ⟨Q, 1, none⟩ (.slice va vs.length vc)).heap[b]? = A2.heap[b]? := fun b hb => by rw [Below.heap_setCell _ _ _ _ (by dsimp only; omega), Below.heap_setCell _ _ _ _ (by dsimp only; omega)]
      have gP2 := (hfarQ w.heap.size (by omega)).trans gP
      have gZ2 := (hfarQ (w.heap.size + 1) (by omega)).trans gZ
      have gQ2 : ((A2.setCell ⟨Q, 0, none⟩ (.int .i64 now)).setCell ⟨Q, 1, none⟩ (.slice va vs.length vc)).heap[Q]? = some (.cells #[.int .i64 now, .slice va vs.length vc, .slice (some ⟨tg, 0, none⟩) nt tcc] 34 (0, 0)) := set_at (set_at gQ)
      have hB2 := bset (bset hB (q := Q) (k := 0) (by omega) (.int .i64 now)) (q := Q) (k := 1) (by omega) (.slice va vs.length vc)
      have HX22 := hid (HX2.out.frame (w' := (A2.setCell ⟨Q, 0, none⟩ (.int .i64 now)).setCell ⟨Q, 1, none⟩ (.slice va vs.length vc)) (fun b h1 h2 => hfarQ b (by omega)) (by simp))
      have HV2 := hid (HV.out.frame (w' := (A2.setCell ⟨Q, 0, none⟩ (.int .i64 now)).setCell ⟨Q, 1, none⟩ (.slice va vs.length vc)) (fun b h1 h2 => hfarQ b (by omega)) (by simp))
      refine hK.out _ _ ?_ (fun hHeld => ?_)
      · exact gP2
      clear hK K
      try simp only [sq]
      refine wpAnyH_done (by kernel_rfl) ?_ _
      clear hHeld q0 q1' q2' p0 p1 p2 gP gZ gQ hB HX1 HX2 HV hfarQ gP2
      have gZ := gZ2
      have gQ := gQ2
      have hB := hB2
      have hzf : ((A2.setCell ⟨Q, 0, none⟩ (.int .i64 now)).setCell ⟨Q, 1, none⟩ (.slice va vs.length vc)).heap.size = A2.heap.size := by simp
      have hzf1 := Nat.le_of_eq hzf
      have hzf2 := Nat.le_of_eq hzf.symm
      clear gZ2 gQ2 hB2 hzf
      generalize (A2.setCell ⟨Q, 0, none⟩ (.int .i64 now)).setCell ⟨Q, 1, none⟩ (.slice va vs.length vc) = ZZ at *
      obtain ⟨⟨v0, v1, v2⟩, s0, s1, s2⟩ := cellk3 gZ
      obtain ⟨⟨t0, t1, t2⟩, _⟩ := cellk3 gQ
      have HB := hid hB
      clear hB
      go_wp2_with fail
      have gF := setk3 gZ (.int .i64 now) (.slice va vs.length vc) (.slice (some ⟨tg, 0, none⟩) nt tcc)
      have bF := (bset (bset (bset HB.out (q := w.heap.size + 1) (k := 0) (by omega) (.int .i64 now)) (q := w.heap.size + 1) (k := 1) (by omega) (.slice va vs.length vc)) (q := w.heap.size + 1) (k := 2) (by omega) (.slice (some ⟨tg, 0, none⟩) nt tcc))
      have hfar : ∀ b, b ≠ w.heap.size + 1 → (((ZZ.setCell ⟨w.heap.size + 1, 0, none⟩ (.int .i64 now)).setCell ⟨w.heap.size + 1, 1, none⟩ (.slice va vs.length vc)).setCell ⟨w.heap.size + 1, 2, none⟩ (.slice (some ⟨tg, 0, none⟩) nt tcc)).heap[b]? = ZZ.heap[b]? := fun b hb => by rw [Below.heap_setCell _ _ _ _ (by dsimp only; omega), Below.heap_setCell _ _ _ _ (by dsimp only; omega), Below.heap_setCell _ _ _ _ (by dsimp only; omega)]
      have x1 := HV2.out.frame (w' := (((ZZ.setCell ⟨w.heap.size + 1, 0, none⟩ (.int .i64 now)).setCell ⟨w.heap.size + 1, 1, none⟩ (.slice va vs.length vc)).setCell ⟨w.heap.size + 1, 2, none⟩ (.slice (some ⟨tg, 0, none⟩) nt tcc))) (fun b h1 h2 => hfar b (by omega)) (by simp)
      have x2 := HX22.out.frame (w' := (((ZZ.setCell ⟨w.heap.size + 1, 0, none⟩ (.int .i64 now)).setCell ⟨w.heap.size + 1, 1, none⟩ (.slice va vs.length vc)).setCell ⟨w.heap.size + 1, 2, none⟩ (.slice (some ⟨tg, 0, none⟩) nt tcc))) (fun b h1 h2 => hfar b (by omega)) (by simp)
      generalize (((ZZ.setCell ⟨w.heap.size + 1, 0, none⟩ (.int .i64 now)).setCell ⟨w.heap.size + 1, 1, none⟩ (.slice va vs.length vc)).setCell ⟨w.heap.size + 1, 2, none⟩ (.slice (some ⟨tg, 0, none⟩) nt tcc)) = wf at *
      obtain ⟨⟨z0, z1, z2⟩, _⟩ := cellk3 gF
      exact bodyPost_ret (v := .agg #[.int .i64 now, .slice va vs.length vc, .slice (some ⟨tg, 0, none⟩) nt tcc]) (by simp [results, Tryz.results13, go_sem, z0, z1, z2]) rfl (by first | exact sr_mk rfl HNT.out x1 x2 (by omega) (by omega) (by omega) bF | (rw [if_pos rfl]; exact sr_mk rfl HNT.out x1 x2 (by omega) (by omega) (by omega) bF))
    · skip
      try simp only [sq]
      go_simp
      go_at_call 33
      refine (HOL.out _ hB).mono ?_
      rintro e A1 ⟨rfl, hq⟩
      replace gP := keepheap2 hq gP
      replace gZ := keepheap2 hq gZ
      replace gQ := keepheap2 hq gQ
      replace hB := btrans hB hq
      have hz_A1 := hq.size
      replace HX1 := hid (HX1.out.below hq)
      replace HX2 := hid (HX2.out.below hq)
      replace HRZ := hid (HRZ.out.below hq)
      clear hq
      go_wp2_with fail
      refine hK.out _ _ ?_ (fun hHeld => ?_)
      · exact gP
      clear hK K
      try simp only [sq]
      refine wpAnyH_ready (rs := [1]) (by kernel_rfl) (by simp) ?_
      refine AllReadyH.cons rfl (fun K hK => ?_) AllReadyH.nil
      obtain ⟨⟨q0, q1', q2'⟩, _⟩ := cellk3 gQ
      try simp only [sq]
      go_simp
      refine hK.out _ _ ?_ (fun hHeld => ?_)
      · exact gP
      clear hK K
      try simp only [sq]
      clear q0 q1' q2'
      refine wpAnyH_ready (rs := [4]) (by kernel_rfl) (by simp) ?_
      refine AllReadyH.cons rfl (fun K hK => ?_) AllReadyH.nil
      try simp only [sq]
      go_simp
      go_at_call 32
      refine (HVC.out g c _ HRZ.out (HX1.out.rws)).mono ?_
      rintro e A2 ⟨va, vc, vx, rfl, hv, hq⟩
      replace hv := hv.lc
      have HV := hid hv
      clear hv
      replace gP := keepheap2 hq gP
      replace gZ := keepheap2 hq gZ
      replace gQ := keepheap2 hq gQ
      replace hB := btrans hB hq
      have hz_A2 := hq.size
      replace HX1 := hid (HX1.out.below hq)
      replace HX2 := hid (HX2.out.below hq)
      replace HRZ := hid (HRZ.out.below hq)
      clear hq
      go_wp2_with fail
      refine hK.out _ _ ?_ (fun hHeld => ?_)
      · exact gP
      clear hK K
      try simp only [sq]
      refine wpAnyH_take (i := 5) (v := ?_) rfl (by kernel_rfl) (by kernel_rfl) (by kernel_rfl) (fun _ _ _ h => h) (Or.inl ⟨by rfl, ?_⟩) hHeld ?_
      rotate_left
      · intro w hSw; (try dsimp only at hSw); go_simp; try (with_reducible rfl)
      try simp only [sq]
      refine wpAnyH_ready (rs := [6]) (by kernel_rfl) (by simp) ?_
      refine AllReadyH.cons rfl (fun K hK => ?_) AllReadyH.nil
      obtain ⟨⟨q0, q1', q2'⟩, p0, p1, p2⟩ := cellk3 gQ
      try simp only [sq]
      go_simp
      have hfarQ : ∀ b, b ≠ Q → ((A2.setCell ⟨Q, 0, none⟩ (.int .i64 now)).setCell ⟨Q, 1, none⟩ (.slice va vs.length vc)).heap[b]? = A2.heap[b]? := fun b hb => by rw [Below.heap_setCell _ _ _ _ (by dsimp only; omega), Below.heap_setCell _ _ _ _ (by dsimp only; omega)]
      have gP2 := (hfarQ w.heap.size (by omega)).trans gP
      have gZ2 := (hfarQ (w.heap.size + 1) (by omega)).trans gZ
      have gQ2 : ((A2.setCell ⟨Q, 0, none⟩ (.int .i64 now)).setCell ⟨Q, 1, none⟩ (.slice va vs.length vc)).heap[Q]? = some (.cells #[.int .i64 now, .slice va vs.length vc, .slice (some ⟨tg, 0, none⟩) nt tcc] 34 (0, 0)) := set_at (set_at gQ)
      have hB2 := bset (bset hB (q := Q) (k := 0) (by omega) (.int .i64 now)) (q := Q) (k := 1) (by omega) (.slice va vs.length vc)
      have HX22 := hid (HX2.out.frame (w' := (A2.setCell ⟨Q, 0, none⟩ (.int .i64 now)).setCell ⟨Q, 1, none⟩ (.slice va vs.length vc)) (fun b h1 h2 => hfarQ b (by omega)) (by simp))
      have HV2 := hid (HV.out.frame (w' := (A2.setCell ⟨Q, 0, none⟩ (.int .i64 now)).setCell ⟨Q, 1, none⟩ (.slice va vs.length vc)) (fun b h1 h2 => hfarQ b (by omega)) (by simp))
      refine hK.out _ _ ?_ (fun hHeld => ?_)
      · exact gP2
      clear hK K
      try simp only [sq]
      refine wpAnyH_done (by kernel_rfl) ?_ _
      clear hHeld q0 q1' q2' p0 p1 p2 gP gZ gQ hB HX1 HX2 HV hfarQ gP2
      have gZ := gZ2
      have gQ := gQ2
      have hB := hB2
      have hzf : ((A2.setCell ⟨Q, 0, none⟩ (.int .i64 now)).setCell ⟨Q, 1, none⟩ (.slice va vs.length vc)).heap.size = A2.heap.size := by simp
      have hzf1 := Nat.le_of_eq hzf
      have hzf2 := Nat.le_of_eq hzf.symm
      clear gZ2 gQ2 hB2 hzf
      generalize (A2.setCell ⟨Q, 0, none⟩ (.int .i64 now)).setCell ⟨Q, 1, none⟩ (.slice va vs.length vc) = ZZ at *
      obtain ⟨⟨v0, v1, v2⟩, s0, s1, s2⟩ := cellk3 gZ
      obtain ⟨⟨t0, t1, t2⟩, _⟩ := cellk3 gQ
      have HB := hid hB
      clear hB
      go_wp2_with fail
      have gF := setk3 gZ (.int .i64 now) (.slice va vs.length vc) (.slice (some ⟨tg, 0, none⟩) nt tcc)
      have bF := (bset (bset (bset HB.out (q := w.heap.size + 1) (k := 0) (by omega) (.int .i64 now)) (q := w.heap.size + 1) (k := 1) (by omega) (.slice va vs.length vc)) (q := w.heap.size + 1) (k := 2) (by omega) (.slice (some ⟨tg, 0, none⟩) nt tcc))
      have hfar : ∀ b, b ≠ w.heap.size + 1 → (((ZZ.setCell ⟨w.heap.size + 1, 0, none⟩ (.int .i64 now)).setCell ⟨w.heap.size + 1, 1, none⟩ (.slice va vs.length vc)).setCell ⟨w.heap.size + 1, 2, none⟩ (.slice (some ⟨tg, 0, none⟩) nt tcc)).heap[b]? = ZZ.heap[b]? := fun b hb => by rw [Below.heap_setCell _ _ _ _ (by dsimp only; omega), Below.heap_setCell _ _ _ _ (by dsimp only; omega), Below.heap_setCell _ _ _ _ (by dsimp only; omega)]
      have x1 := HV2.out.frame (w' := (((ZZ.setCell ⟨w.heap.size + 1, 0, none⟩ (.int .i64 now)).setCell ⟨w.heap.size + 1, 1, none⟩ (.slice va vs.length vc)).setCell ⟨w.heap.size + 1, 2, none⟩ (.slice (some ⟨tg, 0, none⟩) nt tcc))) (fun b h1 h2 => hfar b (by omega)) (by simp)
      have x2 := HX22.out.frame (w' := (((ZZ.setCell ⟨w.heap.size + 1, 0, none⟩ (.int .i64 now)).setCell ⟨w.heap.size + 1, 1, none⟩ (.slice va vs.length vc)).setCell ⟨w.heap.size + 1, 2, none⟩ (.slice (some ⟨tg, 0, none⟩) nt tcc))) (fun b h1 h2 => hfar b (by omega)) (by simp)
      generalize (((ZZ.setCell ⟨w.heap.size + 1, 0, none⟩ (.int .i64 now)).setCell ⟨w.heap.size + 1, 1, none⟩ (.slice va vs.length vc)).setCell ⟨w.heap.size + 1, 2, none⟩ (.slice (some ⟨tg, 0, none⟩) nt tcc)) = wf at *
      obtain ⟨⟨z0, z1, z2⟩, _⟩ := cellk3 gF
      exact bodyPost_ret (v := .agg #[.int .i64 now, .slice va vs.length vc, .slice (some ⟨tg, 0, none⟩) nt tcc]) (by simp [results, Tryz.results13, go_sem, z0, z1, z2]) rfl (by first | exact sr_mk rfl HNT.out x1 x2 (by omega) (by omega) (by omega) bF | (rw [if_pos rfl]; exact sr_mk rfl HNT.out x1 x2 (by omega) (by omega) (by omega) bF))
end Go.Proofs.YtigjdlpjibakjaaGreat
namespace Go.Proofs.YtigjdlpjibakjaaGreat
open Go.RowKit
set_option linter.unusedSimpArgs false
set_option linter.unusedVariables false
set_option maxRecDepth 100000 in
set_option maxHeartbeats 4000000 in
theorem spec_Clean {N1 N2 : Nat → Prop} (now : Int) (B D : Nat) (rs : List Rw) (ts : List Tx) (w : World) (hm : rs.length ≤ 1099511627776) (htm : ts.length ≤ 1099511627776) (hr : RwsS w B rs) (hrr : Rws N1 w (some ⟨B, 0, none⟩) rs) (ht : TxsS w D ts) (htt : Txs N2 1099511627776 w (some ⟨D, 0, none⟩) ts) : Calls Tryz.prog 12 #[.agg #[.int .i64 now, .slice (some ⟨B, 0, none⟩) rs.length rs.length, .slice (some ⟨D, 0, none⟩) ts.length ts.length]] w fun e w' => SS w now (clS now rs ts) ts e w' := by
  have HCP := hid (fun (W : World) (hb : Below w.heap.size w W) => spec_copyStore now B D ts.length rs ts W hm htm (hr.below hb) (ht.below hb))
  have HOK := hid (fun (W : World) (hb : Below w.heap.size w W) => spec_StoreOk now (some ⟨B, 0, none⟩) (some ⟨D, 0, none⟩) rs.length ts.length rs ts W hm htm (hrr.below hb) (htt.below hb))
  have HOL := hid (fun (W : World) (hb : Below w.heap.size w W) => spec_Oldest now (some ⟨B, 0, none⟩) (some ⟨D, 0, none⟩) rs.length rs.length ts.length ts W htm (htt.below hb))
  have HVC := hid (fun (W : World) (hb : Below w.heap.size w W) => spec_Vacuum now B rs (oldS now ts) W hm (hr.below hb) (hrr.below hb))
  have HTL : Hid (txL ts) := hid (fun j (hj : j < ts.length) => (ht.2 j hj).choose_spec.choose_spec.2.2.1)
  clear hr hrr ht htt
  unfold clS
  generalize vacb now rs (oldS now ts) = vs at *
  generalize oldS now ts = od at *
  generalize hst : storeb now rs ts = ok at *
  unfold StX at HCP
  unfold VS at HVC
  generalize hnr : rs.length = nr at *
  generalize hnt : ts.length = nt at *
  have HNR := hid hnr
  have HNT := hid hnt
  clear hnr hnt hst
  have hB : Below w.heap.size w ((w.alloc (.cells #[.int .i64 now, .slice (some ⟨B, 0, none⟩) nr nr, .slice (some ⟨D, 0, none⟩) nt nt] 34)).alloc (.cells #[.int .i64 0, .slice none 0 0, .slice none 0 0] 34)) := balloc (balloc (Below.refl _ _) _) _
  have gP := old_alloc (o' := .cells #[.int .i64 0, .slice none 0 0, .slice none 0 0] 34) (new_alloc w w.heap.size (.cells #[.int .i64 now, .slice (some ⟨B, 0, none⟩) nr nr, .slice (some ⟨D, 0, none⟩) nt nt] 34) rfl)
  have gZ := new_alloc (w.alloc (.cells #[.int .i64 now, .slice (some ⟨B, 0, none⟩) nr nr, .slice (some ⟨D, 0, none⟩) nt nt] 34)) (w.heap.size + 1) (.cells #[.int .i64 0, .slice none 0 0, .slice none 0 0] 34) (by simp)
  have hWs : w.heap.size + 1 < ((w.alloc (.cells #[.int .i64 now, .slice (some ⟨B, 0, none⟩) nr nr, .slice (some ⟨D, 0, none⟩) nt nt] 34)).alloc (.cells #[.int .i64 0, .slice none 0 0, .slice none 0 0] 34)).heap.size := by simp
  go_enter Tryz.func12, Tryz.ntmps12
  go_upto_region 1 with fail
  generalize (w.alloc (.cells #[.int .i64 now, .slice (some ⟨B, 0, none⟩) nr nr, .slice (some ⟨D, 0, none⟩) nt nt] 34)).alloc (.cells #[.int .i64 0, .slice none 0 0, .slice none 0 0] 34) = W at *
  obtain ⟨⟨d0, d1, d2⟩, _⟩ := cellk3 gP
  go_wp2_with fail
  refine (HCP.out _ hB).mono ?_
  rintro e y ⟨a, c, ta, tcc, b1, u1, b2, u2, rfl, ⟨hx1, hx2⟩, e1, e2, hy⟩
  replace gP := keepheap2 hy gP
  replace gZ := keepheap2 hy gZ
  replace hB := btrans hB hy
  have hyz := hy.size
  have HX1 := hid hx1
  have HX2 := hid hx2
  clear hy hx1 hx2 HCP d0 d1 d2
  have r1 := HX1.out.1
  have r2 := HX2.out.1
  go_upto_region 2 with fail
  have hal : Below y.heap.size y (y.alloc (.cells #[.int .i64 now, .slice a nr c, .slice ta nt tcc] 34)) := balloc (Below.refl _ _) _
  have gQ := new_alloc y y.heap.size (.cells #[.int .i64 now, .slice a nr c, .slice ta nt tcc] 34) rfl
  replace gP := keepheap2 hal gP
  replace gZ := keepheap2 hal gZ
  replace hB := btrans hB hal
  replace HX1 := hid (HX1.out.below hal)
  replace HX2 := hid (HX2.out.below hal)
  have hyq : y.heap.size < (y.alloc (.cells #[.int .i64 now, .slice a nr c, .slice ta nt tcc] 34)).heap.size := by simp
  have q1 := HX1.out.1
  have q2 := HX2.out.1
  clear hal
  generalize y.alloc (.cells #[.int .i64 now, .slice a nr c, .slice ta nt tcc] 34) = Y at *
  generalize W.heap.size = Wz at *
  generalize y.heap.size = Q at *
  obtain ⟨⟨d0, d1, d2⟩, _⟩ := cellk3 gP
  go_wp2_with fail
  refine (HOK.out _ hB).mono ?_
  rintro e z ⟨rfl, hz⟩
  replace gP := keepheap2 hz gP
  replace gZ := keepheap2 hz gZ
  replace gQ := keepheap2 hz gQ
  replace hB := btrans hB hz
  have hzz := hz.size
  replace HX1 := hid (HX1.out.below hz)
  replace HX2 := hid (HX2.out.below hz)
  clear hz d0 d1 d2 HOK
  cases ok
  · skip
    clear HOL HVC
    obtain ⟨⟨v0, v1, v2⟩, s0, s1, s2⟩ := cellk3 gZ
    obtain ⟨⟨t0, t1, t2⟩, _⟩ := cellk3 gQ
    have HB := hid hB
    clear hB
    go_wp2_with fail
    have gF := setk3 gZ (.int .i64 now) (.slice a nr c) (.slice ta nt tcc)
    have bF := (bset (bset (bset HB.out (q := w.heap.size + 1) (k := 0) (by omega) (.int .i64 now)) (q := w.heap.size + 1) (k := 1) (by omega) (.slice a nr c)) (q := w.heap.size + 1) (k := 2) (by omega) (.slice ta nt tcc))
    have hfar : ∀ b, b ≠ w.heap.size + 1 → (((z.setCell ⟨w.heap.size + 1, 0, none⟩ (.int .i64 now)).setCell ⟨w.heap.size + 1, 1, none⟩ (.slice a nr c)).setCell ⟨w.heap.size + 1, 2, none⟩ (.slice ta nt tcc)).heap[b]? = z.heap[b]? := fun b hb => by rw [Below.heap_setCell _ _ _ _ (by dsimp only; omega), Below.heap_setCell _ _ _ _ (by dsimp only; omega), Below.heap_setCell _ _ _ _ (by dsimp only; omega)]
    have x1 := HX1.out.frame (w' := (((z.setCell ⟨w.heap.size + 1, 0, none⟩ (.int .i64 now)).setCell ⟨w.heap.size + 1, 1, none⟩ (.slice a nr c)).setCell ⟨w.heap.size + 1, 2, none⟩ (.slice ta nt tcc))) (fun b h1 h2 => hfar b (by omega)) (by simp)
    have x2 := HX2.out.frame (w' := (((z.setCell ⟨w.heap.size + 1, 0, none⟩ (.int .i64 now)).setCell ⟨w.heap.size + 1, 1, none⟩ (.slice a nr c)).setCell ⟨w.heap.size + 1, 2, none⟩ (.slice ta nt tcc))) (fun b h1 h2 => hfar b (by omega)) (by simp)
    generalize (((z.setCell ⟨w.heap.size + 1, 0, none⟩ (.int .i64 now)).setCell ⟨w.heap.size + 1, 1, none⟩ (.slice a nr c)).setCell ⟨w.heap.size + 1, 2, none⟩ (.slice ta nt tcc)) = wf at *
    obtain ⟨⟨z0, z1, z2⟩, _⟩ := cellk3 gF
    have x3 := Txs.any (LC.txs x2 HTL.out)
    exact bodyPost_ret (v := .agg #[.int .i64 now, .slice a nr c, .slice ta nt tcc]) (by simp [results, Tryz.results12, go_sem, z0, z1, z2]) rfl (by first | exact ss_mk HNR.out HNT.out x1.rws x3 bF | (rw [if_neg (by simp)]; exact ss_mk HNR.out HNT.out x1.rws x3 bF))
  · skip
    obtain ⟨⟨d0, d1, d2⟩, _⟩ := cellk3 gP
    go_wp2_with fail
    clear d0 d1 d2
    refine wp_region_held_drew (S := (fun w' => w'.heap[w.heap.size]? = some (.cells #[.int .i64 now, .slice (some ⟨B, 0, none⟩) nr nr, .slice (some ⟨D, 0, none⟩) nt nt] 34 (0, 0)))) (by kernel_rfl) ?_ (fun hHeld => ?_)
    · exact gP
    replace gP : z.drew.heap[w.heap.size]? = some (.cells #[.int .i64 now, .slice (some ⟨B, 0, none⟩) nr nr, .slice (some ⟨D, 0, none⟩) nt nt] 34 (0, 0)) := gP
    replace gZ : z.drew.heap[w.heap.size + 1]? = some (.cells #[.int .i64 0, .slice none 0 0, .slice none 0 0] 34 (0, 0)) := gZ
    replace gQ : z.drew.heap[Q]? = some (.cells #[.int .i64 now, .slice a nr c, .slice ta nt tcc] 34 (0, 0)) := gQ
    replace hB := bdrew hB
    replace HX1 := hid (HX1.out.below (bdrew (Below.refl _ _)))
    replace HX2 := hid (HX2.out.below (bdrew (Below.refl _ _)))
    have hzd : z.drew.heap.size = z.heap.size := rfl
    have hzd1 := Nat.le_of_eq hzd
    have hzd2 := Nat.le_of_eq hzd.symm
    clear hzd
    generalize z.drew = Z at *
    refine wpAnyH_take (i := 0) (v := ?_) rfl (by kernel_rfl) (by kernel_rfl) (by kernel_rfl) (fun _ _ _ h => h) (Or.inl ⟨by rfl, ?_⟩) hHeld ?_
    rotate_left
    · intro w hSw; (try dsimp only at hSw); go_simp; try (with_reducible rfl)
    try simp only [sq]
    refine wpAnyH_take (i := 1) (v := ?_) rfl (by kernel_rfl) (by kernel_rfl) (by kernel_rfl) (fun _ _ _ h => h) (Or.inl ⟨by rfl, ?_⟩) hHeld ?_
    rotate_left
    · intro w hSw; (try dsimp only at hSw); obtain ⟨⟨_, _, _⟩, _⟩ := cellk3 (hSw); go_simp; try (with_reducible rfl)
    try simp only [sq]
    refine wpAnyH_take (i := 2) (v := ?_) rfl (by kernel_rfl) (by kernel_rfl) (by kernel_rfl) (fun _ _ _ h => h) (Or.inl ⟨by rfl, ?_⟩) hHeld ?_
    rotate_left
    · intro w hSw; (try dsimp only at hSw); obtain ⟨⟨_, _, _⟩, _⟩ := cellk3 (hSw); go_simp; try (with_reducible rfl)
    try simp only [sq]
    refine wpAnyH_ready (rs := [3]) (by kernel_rfl) (by simp) ?_
    refine AllReadyH.cons rfl (fun K hK => ?_) AllReadyH.nil
    try simp only [sq]
    go_simp
    go_at_call 31
    refine (HOL.out _ hB).mono ?_
    rintro e A1 ⟨rfl, hq⟩
    replace gP := keepheap2 hq gP
    replace gZ := keepheap2 hq gZ
    replace gQ := keepheap2 hq gQ
    replace hB := btrans hB hq
    have hz_A1 := hq.size
    replace HX1 := hid (HX1.out.below hq)
    replace HX2 := hid (HX2.out.below hq)
    clear hq
    go_wp2_with fail
    refine hK.out _ _ ?_ (fun hHeld => ?_)
    · exact gP
    clear hK K
    try simp only [sq]
    refine wpAnyH_ready (rs := [4]) (by kernel_rfl) (by simp) ?_
    refine AllReadyH.cons rfl (fun K hK => ?_) AllReadyH.nil
    try simp only [sq]
    go_simp
    go_at_call 30
    refine (HVC.out _ hB).mono ?_
    rintro e A2 ⟨va, vc, rfl, hv, hq⟩
    have HV := hid hv
    clear hv
    replace gP := keepheap2 hq gP
    replace gZ := keepheap2 hq gZ
    replace gQ := keepheap2 hq gQ
    replace hB := btrans hB hq
    have hz_A2 := hq.size
    replace HX1 := hid (HX1.out.below hq)
    replace HX2 := hid (HX2.out.below hq)
    clear hq
    go_wp2_with fail
    refine hK.out _ _ ?_ (fun hHeld => ?_)
    · exact gP
    clear hK K
    try simp only [sq]
    refine wpAnyH_take (i := 5) (v := ?_) rfl (by kernel_rfl) (by kernel_rfl) (by kernel_rfl) (fun _ _ _ h => h) (Or.inl ⟨by rfl, ?_⟩) hHeld ?_
    rotate_left
    · intro w hSw; (try dsimp only at hSw); go_simp; try (with_reducible rfl)
    try simp only [sq]
    refine wpAnyH_ready (rs := [6]) (by kernel_rfl) (by simp) ?_
    refine AllReadyH.cons rfl (fun K hK => ?_) AllReadyH.nil
    obtain ⟨⟨q0, q1', q2'⟩, p0, p1, p2⟩ := cellk3 gQ
    try simp only [sq]
    go_simp
    have hfarQ : ∀ b, b ≠ Q → ((A2.setCell ⟨Q, 0, none⟩ (.int .i64 now)).setCell ⟨Q, 1, none⟩ (.slice va vs.length vc)).heap[b]? = A2.heap[b]? := fun b hb => by rw [Below.heap_setCell _ _ _ _ (by dsimp only; omega), Below.heap_setCell _ _ _ _ (by dsimp only; omega)]
    have gP2 := (hfarQ w.heap.size (by omega)).trans gP
    have gZ2 := (hfarQ (w.heap.size + 1) (by omega)).trans gZ
    have gQ2 : ((A2.setCell ⟨Q, 0, none⟩ (.int .i64 now)).setCell ⟨Q, 1, none⟩ (.slice va vs.length vc)).heap[Q]? = some (.cells #[.int .i64 now, .slice va vs.length vc, .slice ta nt tcc] 34 (0, 0)) := set_at (set_at gQ)
    have hB2 := bset (bset hB (q := Q) (k := 0) (by omega) (.int .i64 now)) (q := Q) (k := 1) (by omega) (.slice va vs.length vc)
    have HX22 := hid (HX2.out.frame (w' := (A2.setCell ⟨Q, 0, none⟩ (.int .i64 now)).setCell ⟨Q, 1, none⟩ (.slice va vs.length vc)) (fun b h1 h2 => hfarQ b (by omega)) (by simp))
    have HV2 := hid (HV.out.off gQ (by intro i e; cases e) (w' := (A2.setCell ⟨Q, 0, none⟩ (.int .i64 now)).setCell ⟨Q, 1, none⟩ (.slice va vs.length vc)) hfarQ (by simp))
    refine hK.out _ _ ?_ (fun hHeld => ?_)
    · exact gP2
    clear hK K
    try simp only [sq]
    refine wpAnyH_done (by kernel_rfl) ?_ _
    clear hHeld q0 q1' q2' p0 p1 p2 gP gZ gQ hB HX1 HX2 HV hfarQ gP2
    have gZ := gZ2
    have gQ := gQ2
    have hB := hB2
    have hzf : ((A2.setCell ⟨Q, 0, none⟩ (.int .i64 now)).setCell ⟨Q, 1, none⟩ (.slice va vs.length vc)).heap.size = A2.heap.size := by simp
    have hzf1 := Nat.le_of_eq hzf
    have hzf2 := Nat.le_of_eq hzf.symm
    clear gZ2 gQ2 hB2 hzf
    generalize (A2.setCell ⟨Q, 0, none⟩ (.int .i64 now)).setCell ⟨Q, 1, none⟩ (.slice va vs.length vc) = ZZ at *
    obtain ⟨⟨v0, v1, v2⟩, s0, s1, s2⟩ := cellk3 gZ
    obtain ⟨⟨t0, t1, t2⟩, _⟩ := cellk3 gQ
    have HB := hid hB
    clear hB
    go_wp2_with fail
    have gF := setk3 gZ (.int .i64 now) (.slice va vs.length vc) (.slice ta nt tcc)
    have bF := (bset (bset (bset HB.out (q := w.heap.size + 1) (k := 0) (by omega) (.int .i64 now)) (q := w.heap.size + 1) (k := 1) (by omega) (.slice va vs.length vc)) (q := w.heap.size + 1) (k := 2) (by omega) (.slice ta nt tcc))
    have hfar : ∀ b, b ≠ w.heap.size + 1 → (((ZZ.setCell ⟨w.heap.size + 1, 0, none⟩ (.int .i64 now)).setCell ⟨w.heap.size + 1, 1, none⟩ (.slice va vs.length vc)).setCell ⟨w.heap.size + 1, 2, none⟩ (.slice ta nt tcc)).heap[b]? = ZZ.heap[b]? := fun b hb => by rw [Below.heap_setCell _ _ _ _ (by dsimp only; omega), Below.heap_setCell _ _ _ _ (by dsimp only; omega), Below.heap_setCell _ _ _ _ (by dsimp only; omega)]
    have x1 := HV2.out.off gZ (by intro i e; cases e) (w' := (((ZZ.setCell ⟨w.heap.size + 1, 0, none⟩ (.int .i64 now)).setCell ⟨w.heap.size + 1, 1, none⟩ (.slice va vs.length vc)).setCell ⟨w.heap.size + 1, 2, none⟩ (.slice ta nt tcc))) hfar (by simp)
    have x2 := HX22.out.frame (w' := (((ZZ.setCell ⟨w.heap.size + 1, 0, none⟩ (.int .i64 now)).setCell ⟨w.heap.size + 1, 1, none⟩ (.slice va vs.length vc)).setCell ⟨w.heap.size + 1, 2, none⟩ (.slice ta nt tcc))) (fun b h1 h2 => hfar b (by omega)) (by simp)
    generalize (((ZZ.setCell ⟨w.heap.size + 1, 0, none⟩ (.int .i64 now)).setCell ⟨w.heap.size + 1, 1, none⟩ (.slice va vs.length vc)).setCell ⟨w.heap.size + 1, 2, none⟩ (.slice ta nt tcc)) = wf at *
    obtain ⟨⟨z0, z1, z2⟩, _⟩ := cellk3 gF
    have x3 := Txs.any (LC.txs x2 HTL.out)
    exact bodyPost_ret (v := .agg #[.int .i64 now, .slice va vs.length vc, .slice ta nt tcc]) (by simp [results, Tryz.results12, go_sem, z0, z1, z2]) rfl (by first | exact ss_mk rfl HNT.out x1 x3 bF | (rw [if_pos rfl]; exact ss_mk rfl HNT.out x1 x3 bF))
end Go.Proofs.YtigjdlpjibakjaaGreat
