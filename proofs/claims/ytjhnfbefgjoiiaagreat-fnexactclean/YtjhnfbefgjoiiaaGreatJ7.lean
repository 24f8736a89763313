/- Texts of stores, joined: Xp, Xq, Xm0, Xm1. -/
import Derived.Test.YtjhnfbefgjoiiaaGreatJ5
import Derived.Test.YtjhnfbefgjoiiaaGreatJ6
import Derived.Test.YtjhnfbefgjoiiaaGreatJ1
namespace Go.Proofs.YtjhnfbefgjoiiaaGreat
open Go.RowKit
set_option linter.unusedSimpArgs false
set_option linter.unusedVariables false
/-- A store that a call answers, in memory of its own. -/
def SR (w : World) (now : Int) (rs : List Rw) (ts : List Tx) (e : Ending) (w' : World) : Prop :=
  ∃ a c ta tcc b1 u1 b2 u2, e = .returned (.agg #[.int .i64 now, .slice a rs.length c, .slice ta ts.length tcc]) ∧ StX b1 u1 b2 u2 w' a ta c tcc rs ts ∧ w.heap.size ≤ b1 ∧ w.heap.size ≤ b2 ∧ (u1 ≤ b2 ∨ u2 ≤ b1) ∧ Below w.heap.size w w'
theorem sr_mk {w w' : World} {now : Int} {rs : List Rw} {ts : List Tx} {a ta : Option Addr} {c tcc nr nt b1 u1 b2 u2 : Nat} (h1 : rs.length = nr) (h2 : ts.length = nt) (x1 : LC KR b1 u1 w' (.slice a nr c) rs) (x2 : LC KT b2 u2 w' (.slice ta nt tcc) ts) (e1 : w.heap.size ≤ b1) (e2 : w.heap.size ≤ b2) (e3 : u1 ≤ b2 ∨ u2 ≤ b1) (hb : Below w.heap.size w w') : SR w now rs ts (.returned (.agg #[.int .i64 now, .slice a nr c, .slice ta nt tcc])) w' := by
  subst h1 h2
  exact ⟨a, c, ta, tcc, b1, u1, b2, u2, rfl, ⟨x1, x2⟩, e1, e2, e3, hb⟩
/-- A store that the specification answers. -/
def SS (w : World) (now : Int) (rs : List Rw) (ts : List Tx) (e : Ending) (w' : World) : Prop :=
  ∃ a c ta tcc, e = .returned (.agg #[.int .i64 now, .slice a rs.length c, .slice ta ts.length tcc]) ∧ Rws (fun _ => True) w' a rs ∧ Txs (fun _ => True) 1099511627776 w' ta ts ∧ Below w.heap.size w w'
theorem Txs.any {N : Nat → Prop} {M : Nat} {w : World} {a : Option Addr} {ts : List Tx} (h : Txs N M w a ts) : Txs (fun _ => True) M w a ts := by
  rcases h with h | ⟨b, o, e, hb, h⟩
  · exact .inl h
  · refine .inr ⟨b, o, e, hb, fun j hj => ?_⟩
    obtain ⟨a', cap', q0, q1, q2, q3, q4, q5, q6⟩ := h j hj
    refine ⟨a', cap', q0, q1, q2, q3, q4, ?_, fun _ _ _ => trivial⟩
    rcases q5 with q5 | ⟨b2, o2, e2, hb2, q5⟩
    · exact .inl q5
    · refine .inr ⟨b2, o2, e2, hb2, fun i hi => ?_⟩
      obtain ⟨a4, cap4, p0, p1, p2, p3, p4, p5, p6, p7⟩ := q5 i hi
      exact ⟨a4, cap4, p0, p1, p2, p3, p4, p5, p6, fun _ _ _ => trivial⟩
/-- Rows do not lie in a block that holds a store. -/
theorem Rws.off {N : Nat → Prop} {w w' : World} {a : Option Addr} {rs : List Rw} {Q : Nat} {x y z : Value} {t : TypeId} (h : Rws N w a rs) (hq : w.heap[Q]? = some (.cells #[x, y, z] t (0, 0))) (hy : ∀ i, y ≠ .int .i64 i) (hf : ∀ b, b ≠ Q → w'.heap[b]? = w.heap[b]?) (hs : w.heap.size ≤ w'.heap.size) : Rws N w' a rs := by
  have c1 : w.cell? ⟨Q, 1, none⟩ = some y := by simp [World.cell?, hq]
  have c3 : ∀ k, w.cell? ⟨Q, k + 3, none⟩ = none := fun k => by simp [World.cell?, hq]
  rcases h with h | ⟨b, o, e, hb, h⟩
  · exact .inl h
  · cases rs with
    | nil => exact .inl rfl
    | cons r0 rr =>
    have hbQ : b ≠ Q := by
      intro e
      subst e
      obtain ⟨_, _, _, _, _, _, h4, _⟩ := h 0 (by simp)
      have := c3 (o + 0 * 5 + 1)
      rw [show o + 0 * 5 + 1 + 3 = o + 0 * 5 + 4 by omega] at this
      rw [this] at h4
      cases h4
    refine .inr ⟨b, o, e, by omega, fun j hj => ?_⟩
    obtain ⟨a', cap', k0, k1, k2, k3, k4, k5, k6, k7, k8⟩ := h j hj
    have hc : ∀ k, w'.cell? ⟨b, k, none⟩ = w.cell? ⟨b, k, none⟩ := fun k => World.cell?_of_block (w := w) (hf b hbQ)
    refine ⟨a', cap', by rw [hc]; exact k0, by rw [hc]; exact k1, by rw [hc]; exact k2, by rw [hc]; exact k3, by rw [hc]; exact k4, k5, k6, ?_, k8⟩
    rcases k7 with k7 | ⟨c, off, e2, hc2, k7⟩
    · exact .inl k7
    · cases hps : ((r0 :: rr)[j]).2.2.2.2 with
      | nil => exact .inl rfl
      | cons p0 pr =>
      rw [hps] at k7
      have hcQ : c ≠ Q := by
        intro e3
        subst e3
        obtain ⟨m0, m1⟩ := k7 0 (by simp)
        have hlt : off + 0 * 2 + 1 < 3 := by
          rcases Nat.lt_or_ge (off + 0 * 2 + 1) 3 with q | q
          · exact q
          · have := c3 (off + 0 * 2 + 1 - 3)
            rw [show off + 0 * 2 + 1 - 3 + 3 = off + 0 * 2 + 1 by omega] at this
            rw [this] at m1
            cases m1
        rcases (show off = 0 ∨ off = 1 by omega) with q | q
        · subst q
          have m1' : w.cell? ⟨c, 1, none⟩ = _ := m1
          rw [c1] at m1'
          exact hy _ (Option.some.inj m1')
        · subst q
          have m0' : w.cell? ⟨c, 1, none⟩ = _ := m0
          rw [c1] at m0'
          exact hy _ (Option.some.inj m0')
      refine .inr ⟨c, off, e2, by omega, fun k hk => ?_⟩
      obtain ⟨m0, m1⟩ := k7 k hk
      have hcc : ∀ k, w'.cell? ⟨c, k, none⟩ = w.cell? ⟨c, k, none⟩ := fun k => World.cell?_of_block (w := w) (hf c hcQ)
      exact ⟨by rw [hcc]; exact m0, by rw [hcc]; exact m1⟩
def txL (ts : List Tx) : Prop := ∀ j (h : j < ts.length), ts[j].2.2.length ≤ 1099511627776
theorem ss_mk {w w' : World} {now : Int} {rs : List Rw} {ts : List Tx} {a ta : Option Addr} {c tcc nr nt : Nat} (h1 : rs.length = nr) (h2 : ts.length = nt) (x1 : Rws (fun _ => True) w' a rs) (x2 : Txs (fun _ => True) 1099511627776 w' ta ts) (hb : Below w.heap.size w w') : SS w now rs ts (.returned (.agg #[.int .i64 now, .slice a nr c, .slice ta nt tcc])) w' := by
  subst h1 h2
  exact ⟨a, c, ta, tcc, rfl, x1, x2, hb⟩
def clI (now : Int) (rs : List Rw) (ts : List Tx) : List Rw := if storeb now rs ts = true then vacb now rs (oldI now ts) else rs
def clS (now : Int) (rs : List Rw) (ts : List Tx) : List Rw := if storeb now rs ts = true then vacb now rs (oldS now ts) else rs
theorem cl_same (now : Int) (rs : List Rw) (ts : List Tx) : clI now rs ts = clS now rs ts := by
  unfold clI clS
  by_cases h : storeb now rs ts = true
  · rw [if_pos h, if_pos h]
    rw [old_same]
    intro t ht
    unfold storeb at h
    simp only [Bool.and_eq_true, List.all_eq_true] at h
    have := h.2.2 t ht
    unfold txb at this
    simp only [Bool.and_eq_true, decide_eq_true_eq] at this
    exact this.1.1.2
  · rw [if_neg h, if_neg h]
set_option maxRecDepth 100000 in
set_option maxHeartbeats 4000000 in
theorem impl_Clean {N1 N2 : Nat → Prop} (now : Int) (B D : Nat) (rs : List Rw) (ts : List Tx) (w : World) (hm : rs.length ≤ 1099511627776) (htm : ts.length ≤ 1099511627776) (hr : RwsS w B rs) (hrr : Rws N1 w (some ⟨B, 0, none⟩) rs) (ht : TxsS w D ts) (htt : Txs N2 1099511627776 w (some ⟨D, 0, none⟩) ts) : Calls Tryz.prog 16 #[.agg #[.int .i64 now, .slice (some ⟨B, 0, none⟩) rs.length rs.length, .slice (some ⟨D, 0, none⟩) ts.length ts.length]] w fun e w' => SR w now (clI now rs ts) ts e w' := by
  have HCP := hid (fun (W : World) (hb : Below w.heap.size w W) => store_copied now B D rs.length ts.length rs ts W hm htm (hr.below hb).z (ht.below hb))
  have HOK := hid (fun (W : World) (hb : Below w.heap.size w W) => impl_StoreOk now (some ⟨B, 0, none⟩) (some ⟨D, 0, none⟩) rs.length ts.length rs ts W hm htm (hrr.below hb) (htt.below hb))
  have HOL := hid (fun (W : World) (hb : Below w.heap.size w W) => impl_Oldest now (some ⟨B, 0, none⟩) (some ⟨D, 0, none⟩) rs.length rs.length ts.length ts W htm (htt.below hb))
  have HVC := hid (fun (g c : Nat) (W : World) (hz : RwsZ W g rs) (hw : Rws (fun _ => True) W (some ⟨g, 0, none⟩) rs) => impl_VacuumJ2 now g c rs (oldI now ts) W hm hz.s hw)
  clear hr hrr ht htt
  unfold clI
  generalize vacb now rs (oldI now ts) = vs at *
  generalize oldI now ts = od at *
  generalize hst : storeb now rs ts = ok at *
  unfold StX at HCP
  unfold VR at HVC
  generalize hnr : rs.length = nr at *
  generalize hnt : ts.length = nt at *
  have HNR := hid hnr
  have HNT := hid hnt
  clear hnr hnt hst
  have hB : Below w.heap.size w ((w.alloc (.cells #[.int .i64 now, .slice (some ⟨B, 0, none⟩) nr nr, .slice (some ⟨D, 0, none⟩) nt nt] 40)).alloc (.cells #[.int .i64 0, .slice none 0 0, .slice none 0 0] 40)) := balloc (balloc (Below.refl _ _) _) _
  have gP := old_alloc (o' := .cells #[.int .i64 0, .slice none 0 0, .slice none 0 0] 40) (new_alloc w w.heap.size (.cells #[.int .i64 now, .slice (some ⟨B, 0, none⟩) nr nr, .slice (some ⟨D, 0, none⟩) nt nt] 40) rfl)
  have gZ := new_alloc (w.alloc (.cells #[.int .i64 now, .slice (some ⟨B, 0, none⟩) nr nr, .slice (some ⟨D, 0, none⟩) nt nt] 40)) (w.heap.size + 1) (.cells #[.int .i64 0, .slice none 0 0, .slice none 0 0] 40) (by simp)
  have hWs : w.heap.size + 1 < ((w.alloc (.cells #[.int .i64 now, .slice (some ⟨B, 0, none⟩) nr nr, .slice (some ⟨D, 0, none⟩) nt nt] 40)).alloc (.cells #[.int .i64 0, .slice none 0 0, .slice none 0 0] 40)).heap.size := by simp
  go_enter Tryz.func16, Tryz.ntmps16
  go_upto_region 1 with fail
  generalize (w.alloc (.cells #[.int .i64 now, .slice (some ⟨B, 0, none⟩) nr nr, .slice (some ⟨D, 0, none⟩) nt nt] 40)).alloc (.cells #[.int .i64 0, .slice none 0 0, .slice none 0 0] 40) = W at *
  obtain ⟨⟨d0, d1, d2⟩, _⟩ := cellk3 gP
  go_wp2_with fail
  refine (HCP.out _ hB).mono ?_
  rintro e y ⟨g, c, tg, tcc, mid, rfl, ⟨hx1, hx2⟩, hrz, e1, e2, hy⟩
  replace gP := keepheap2 hy gP
  replace gZ := keepheap2 hy gZ
  replace hB := btrans hB hy
  have hyz := hy.size
  have HX1 := hid hx1
  have HX2 := hid hx2
  have HRZ := hid hrz
  clear hy hx1 hx2 HCP d0 d1 d2 hrz
  have r1 := HX1.out.1
  have r2 := HX2.out.1
  go_upto_region 2 with fail
  have hal : Below y.heap.size y (y.alloc (.cells #[.int .i64 now, .slice (some ⟨g, 0, none⟩) nr c, .slice (some ⟨tg, 0, none⟩) nt tcc] 40)) := balloc (Below.refl _ _) _
  have gQ := new_alloc y y.heap.size (.cells #[.int .i64 now, .slice (some ⟨g, 0, none⟩) nr c, .slice (some ⟨tg, 0, none⟩) nt tcc] 40) rfl
  replace gP := keepheap2 hal gP
  replace gZ := keepheap2 hal gZ
  replace hB := btrans hB hal
  replace HX1 := hid (HX1.out.below hal)
  replace HX2 := hid (HX2.out.below hal)
  replace HRZ := hid (HRZ.out.below hal)
  have hyq : y.heap.size < (y.alloc (.cells #[.int .i64 now, .slice (some ⟨g, 0, none⟩) nr c, .slice (some ⟨tg, 0, none⟩) nt tcc] 40)).heap.size := by simp
  have q1 := HX1.out.1
  have q2 := HX2.out.1
  clear hal
  generalize y.alloc (.cells #[.int .i64 now, .slice (some ⟨g, 0, none⟩) nr c, .slice (some ⟨tg, 0, none⟩) nt tcc] 40) = Y at *
  generalize W.heap.size = Wz at *
  generalize y.heap.size = Q at *
  obtain ⟨⟨d0, d1, d2⟩, _⟩ := cellk3 gP
  go_wp2_with fail
  refine (HOK.out _ hB).mono ?_
  rintro e z ⟨rfl, hz⟩
  replace gP := keepheap2 hz gP
  replace gZ := keepheap2 hz gZ
  replace gQ := keepheap2 hz gQ
  replace hB := btrans hB hz
  have hzz := hz.size
  replace HX1 := hid (HX1.out.below hz)
  replace HX2 := hid (HX2.out.below hz)
  replace HRZ := hid (HRZ.out.below hz)
  clear hz d0 d1 d2 HOK
  cases ok
  · skip
    clear HOL HVC
    obtain ⟨⟨v0, v1, v2⟩, s0, s1, s2⟩ := cellk3 gZ
    obtain ⟨⟨t0, t1, t2⟩, _⟩ := cellk3 gQ
    have HB := hid hB
    clear hB
    go_wp2_with fail
    have gF := setk3 gZ (.int .i64 now) (.slice (some ⟨g, 0, none⟩) nr c) (.slice (some ⟨tg, 0, none⟩) nt tcc)
    have bF := (bset (bset (bset HB.out (q := w.heap.size + 1) (k := 0) (by omega) (.int .i64 now)) (q := w.heap.size + 1) (k := 1) (by omega) (.slice (some ⟨g, 0, none⟩) nr c)) (q := w.heap.size + 1) (k := 2) (by omega) (.slice (some ⟨tg, 0, none⟩) nt tcc))
    have hfar : ∀ b, b ≠ w.heap.size + 1 → (((z.setCell ⟨w.heap.size + 1, 0, none⟩ (.int .i64 now)).setCell ⟨w.heap.size + 1, 1, none⟩ (.slice (some ⟨g, 0, none⟩) nr c)).setCell ⟨w.heap.size + 1, 2, none⟩ (.slice (some ⟨tg, 0, none⟩) nt tcc)).heap[b]? = z.heap[b]? := fun b hb => by rw [Below.heap_setCell _ _ _ _ (by dsimp only; omega), Below.heap_setCell _ _ _ _ (by dsimp only; omega), Below.heap_setCell _ _ _ _ (by dsimp only; omega)]
    have x1 := HX1.out.frame (w' := (((z.setCell ⟨w.heap.size + 1, 0, none⟩ (.int .i64 now)).setCell ⟨w.heap.size + 1, 1, none⟩ (.slice (some ⟨g, 0, none⟩) nr c)).setCell ⟨w.heap.size + 1, 2, none⟩ (.slice (some ⟨tg, 0, none⟩) nt tcc))) (fun b h1 h2 => hfar b (by omega)) (by simp)
    have x2 := HX2.out.frame (w' := (((z.setCell ⟨w.heap.size + 1, 0, none⟩ (.int .i64 now)).setCell ⟨w.heap.size + 1, 1, none⟩ (.slice (some ⟨g, 0, none⟩) nr c)).setCell ⟨w.heap.size + 1, 2, none⟩ (.slice (some ⟨tg, 0, none⟩) nt tcc))) (fun b h1 h2 => hfar b (by omega)) (by simp)
    generalize (((z.setCell ⟨w.heap.size + 1, 0, none⟩ (.int .i64 now)).setCell ⟨w.heap.size + 1, 1, none⟩ (.slice (some ⟨g, 0, none⟩) nr c)).setCell ⟨w.heap.size + 1, 2, none⟩ (.slice (some ⟨tg, 0, none⟩) nt tcc)) = wf at *
    obtain ⟨⟨z0, z1, z2⟩, _⟩ := cellk3 gF
    exact bodyPost_ret (v := .agg #[.int .i64 now, .slice (some ⟨g, 0, none⟩) nr c, .slice (some ⟨tg, 0, none⟩) nt tcc]) (by simp [results, Tryz.results16, go_sem, z0, z1, z2]) rfl (by first | exact sr_mk HNR.out HNT.out x1 x2 (by omega) (by omega) (by omega) bF | (rw [if_neg (by simp)]; exact sr_mk HNR.out HNT.out x1 x2 (by omega) (by omega) (by omega) bF))
  · skip
    obtain ⟨⟨d0, d1, d2⟩, _⟩ := cellk3 gP
    go_wp2_with fail
    clear d0 d1 d2
    refine wp_region_held_drew (S := (fun w' => w'.heap[w.heap.size]? = some (.cells #[.int .i64 now, .slice (some ⟨B, 0, none⟩) nr nr, .slice (some ⟨D, 0, none⟩) nt nt] 40 (0, 0)))) (by kernel_rfl) ?_ (fun hHeld => ?_)
    · exact gP
    replace gP : z.drew.heap[w.heap.size]? = some (.cells #[.int .i64 now, .slice (some ⟨B, 0, none⟩) nr nr, .slice (some ⟨D, 0, none⟩) nt nt] 40 (0, 0)) := gP
    replace gZ : z.drew.heap[w.heap.size + 1]? = some (.cells #[.int .i64 0, .slice none 0 0, .slice none 0 0] 40 (0, 0)) := gZ
    replace gQ : z.drew.heap[Q]? = some (.cells #[.int .i64 now, .slice (some ⟨g, 0, none⟩) nr c, .slice (some ⟨tg, 0, none⟩) nt tcc] 40 (0, 0)) := gQ
    replace hB := bdrew hB
    replace HX1 := hid (HX1.out.below (bdrew (Below.refl _ _)))
    replace HX2 := hid (HX2.out.below (bdrew (Below.refl _ _)))
    replace HRZ := hid (HRZ.out.below (bdrew (Below.refl _ _)))
    have hzd : z.drew.heap.size = z.heap.size := rfl
    have hzd1 := Nat.le_of_eq hzd
    have hzd2 := Nat.le_of_eq hzd.symm
    clear hzd
    generalize z.drew = Z at *
    refine wpAnyH_take (i := 0) (v := ?_) rfl (by kernel_rfl) (by kernel_rfl) (by kernel_rfl) (fun _ _ _ h => h) (Or.inl ⟨by rfl, ?_⟩) hHeld ?_
    rotate_left
    · intro w hSw; (try dsimp only at hSw); go_simp; try (with_reducible rfl)
    try simp only [sq]
    refine wpAnyH_take (i := 2) (v := ?_) rfl (by kernel_rfl) (by kernel_rfl) (by kernel_rfl) (fun _ _ _ h => h) (Or.inl ⟨by rfl, ?_⟩) hHeld ?_
    rotate_left
    · intro w hSw; (try dsimp only at hSw); obtain ⟨⟨_, _, _⟩, _⟩ := cellk3 (hSw); go_simp; try (with_reducible rfl)
    try simp only [sq]
    refine wpAnyH_ready (rs := [1, 3]) (by kernel_rfl) (by simp) ?_
    refine (AllReadyH.cons rfl (fun K hK => ?_) (AllReadyH.cons rfl (fun K hK => ?_) AllReadyH.nil))
    · skip
      obtain ⟨⟨q0, q1', q2'⟩, _⟩ := cellk3 gQ
      try simp only [sq]
      go_simp
      refine hK.out _ _ ?_ (fun hHeld => ?_)
      · exact gP
      clear hK K
      try simp only [sq]
      clear q0 q1' q2'
      refine wpAnyH_ready (rs := [3]) (by kernel_rfl) (by simp) ?_
      refine AllReadyH.cons rfl (fun K hK => ?_) AllReadyH.nil
      try simp only [sq]
      go_simp
      go_at_call 42
      refine (HOL.out _ hB).mono ?_
      rintro e A1 ⟨rfl, hq⟩
      replace gP := keepheap2 hq gP
      replace gZ := keepheap2 hq gZ
      replace gQ := keepheap2 hq gQ
      replace hB := btrans hB hq
      have hz_A1 := hq.size
      replace HX1 := hid (HX1.out.below hq)
      replace HX2 := hid (HX2.out.below hq)
      replace HRZ := hid (HRZ.out.below hq)
      clear hq
      go_wp2_with fail
      refine hK.out _ _ ?_ (fun hHeld => ?_)
      · exact gP
      clear hK K
      try simp only [sq]
      refine wpAnyH_ready (rs := [4]) (by kernel_rfl) (by simp) ?_
      refine AllReadyH.cons rfl (fun K hK => ?_) AllReadyH.nil
      try simp only [sq]
      go_simp
      go_at_call 9
      refine (HVC.out g c _ HRZ.out (HX1.out.rws)).mono ?_
      rintro e A2 ⟨va, vc, vx, rfl, hv, hq⟩
      replace hv := hv.lc
      have HV := hid hv
      clear hv
      replace gP := keepheap2 hq gP
      replace gZ := keepheap2 hq gZ
      replace gQ := keepheap2 hq gQ
      replace hB := btrans hB hq
      have hz_A2 := hq.size
      replace HX1 := hid (HX1.out.below hq)
      replace HX2 := hid (HX2.out.below hq)
      replace HRZ := hid (HRZ.out.below hq)
      clear hq
      go_wp2_with fail
      refine hK.out _ _ ?_ (fun hHeld => ?_)
      · exact gP
      clear hK K
      try simp only [sq]
      refine wpAnyH_take (i := 5) (v := ?_) rfl (by kernel_rfl) (by kernel_rfl) (by kernel_rfl) (fun _ _ _ h => h) (Or.inl ⟨by rfl, ?_⟩) hHeld ?_
      rotate_left
      · intro w hSw; (try dsimp only at hSw); go_simp; try (with_reducible rfl)
      try simp only [sq]
      refine wpAnyH_ready (rs := [6]) (by kernel_rfl) (by simp) ?_
      refine AllReadyH.cons rfl (fun K hK => ?_) AllReadyH.nil
      obtain ⟨⟨q0, q1', q2'⟩, p0, p1, p2⟩ := cellk3 gQ
      try simp only [sq]
      go_simp
      have hfarQ : ∀ b, b ≠ Q → ((A2.setCell ⟨Q, 0, none⟩ (.int .i64 now)).setCell ⟨Q, 1, none⟩ (.slice va vs.length vc)).heap[b]? = A2.heap[b]? := fun b hb => by rw [Below.heap_setCell _ _ _ _ (by dsimp only; omega), Below.heap_setCell _ _ _ _ (by dsimp only; omega)]
      have gP2 := (hfarQ w.heap.size (by omega)).trans gP
      have gZ2 := (hfarQ (w.heap.size + 1) (by omega)).trans gZ
      have gQ2 : ((A2.setCell ⟨Q, 0, none⟩ (.int .i64 now)).setCell ⟨Q, 1, none⟩ (.slice va vs.length vc)).heap[Q]? = some (.cells #[.int .i64 now, .slice va vs.length vc, .slice (some ⟨tg, 0, none⟩) nt tcc] 40 (0, 0)) := set_at (set_at gQ)
      have hB2 := bset (bset hB (q := Q) (k := 0) (by omega) (.int .i64 now)) (q := Q) (k := 1) (by omega) (.slice va vs.length vc)
      have HX22 := hid (HX2.out.frame (w' := (A2.setCell ⟨Q, 0, none⟩ (.int .i64 now)).setCell ⟨Q, 1, none⟩ (.slice va vs.length vc)) (fun b h1 h2 => hfarQ b (by omega)) (by simp))
      have HV2 := hid (HV.out.frame (w' := (A2.setCell ⟨Q, 0, none⟩ (.int .i64 now)).setCell ⟨Q, 1, none⟩ (.slice va vs.length vc)) (fun b h1 h2 => hfarQ b (by omega)) (by simp))
      refine hK.out _ _ ?_ (fun hHeld => ?_)
      · exact gP2
      clear hK K
      try simp only [sq]
      refine wpAnyH_done (by kernel_rfl) ?_ _
      clear hHeld q0 q1' q2' p0 p1 p2 gP gZ gQ hB HX1 HX2 HV hfarQ gP2
      have gZ := gZ2
      have gQ := gQ2
      have hB := hB2
      have hzf : ((A2.setCell ⟨Q, 0, none⟩ (.int .i64 now)).setCell ⟨Q, 1, none⟩ (.slice va vs.length vc)).heap.size = A2.heap.size := by simp
      have hzf1 := Nat.le_of_eq hzf
      have hzf2 := Nat.le_of_eq hzf.symm
      clear gZ2 gQ2 hB2 hzf
      generalize (A2.setCell ⟨Q, 0, none⟩ (.int .i64 now)).setCell ⟨Q, 1, none⟩ (.slice va vs.length vc) = ZZ at *
      obtain ⟨⟨v0, v1, v2⟩, s0, s1, s2⟩ := cellk3 gZ
      obtain ⟨⟨t0, t1, t2⟩, _⟩ := cellk3 gQ
      have HB := hid hB
      clear hB
      go_wp2_with fail
      have gF := setk3 gZ (.int .i64 now) (.slice va vs.length vc) (.slice (some ⟨tg, 0, none⟩) nt tcc)
      have bF := (bset (bset (bset HB.out (q := w.heap.size + 1) (k := 0) (by omega) (.int .i64 now)) (q := w.heap.size + 1) (k := 1) (by omega) (.slice va vs.length vc)) (q := w.heap.size + 1) (k := 2) (by omega) (.slice (some ⟨tg, 0, none⟩) nt tcc))
      have hfar : ∀ b, b ≠ w.heap.size + 1 → (((ZZ.setCell ⟨w.heap.size + 1, 0, none⟩ (.int .i64 now)).setCell ⟨w.heap.size + 1, 1, none⟩ (.slice va vs.length vc)).setCell ⟨w.heap.size + 1, 2, none⟩ (.slice (some ⟨tg, 0, none⟩) nt tcc)).heap[b]? = ZZ.heap[b]? := fun b hb => by rw [Below.heap_setCell _ _ _ _ (by dsimp only; omega), Below.heap_setCell _ _ _ _ (by dsimp only; omega), Below.heap_setCell _ _ _ _ (by dsimp only; omega)]
      have x1 := HV2.out.frame (w' := (((ZZ.setCell ⟨w.heap.size + 1, 0, none⟩ (.int .i64 now)).setCell ⟨w.heap.size + 1, 1, none⟩ (.slice va vs.length vc)).setCell ⟨w.heap.size + 1, 2, none⟩ (.slice (some ⟨tg, 0, none⟩) nt tcc))) (fun b h1 h2 => hfar b (by omega)) (by simp)
      have x2 := HX22.out.frame (w' := (((ZZ.setCell ⟨w.heap.size + 1, 0, none⟩ (.int .i64 now)).setCell ⟨w.heap.size + 1, 1, none⟩ (.slice va vs.length vc)).setCell ⟨w.heap.size + 1, 2, none⟩ (.slice (some ⟨tg, 0, none⟩) nt tcc))) (fun b h1 h2 => hfar b (by omega)) (by simp)
      generalize (((ZZ.setCell ⟨w.heap.size + 1, 0, none⟩ (.int .i64 now)).setCell ⟨w.heap.size + 1, 1, none⟩ (.slice va vs.length vc)).setCell ⟨w.heap.size + 1, 2, none⟩ (.slice (some ⟨tg, 0, none⟩) nt tcc)) = wf at *
      obtain ⟨⟨z0, z1, z2⟩, _⟩ := cellk3 gF
      exact bodyPost_ret (v := .agg #[.int .i64 now, .slice va vs.length vc, .slice (some ⟨tg, 0, none⟩) nt tcc]) (by simp [results, Tryz.results16, go_sem, z0, z1, z2]) rfl (by first | exact sr_mk rfl HNT.out x1 x2 (by omega) (by omega) (by omega) bF | (rw [if_pos rfl]; exact sr_mk rfl HNT.out x1 x2 (by omega) (by omega) (by omega) bF))
    · skip
      try simp only [sq]
      go_simp
      go_at_call 42
      refine (HOL.out _ hB).mono ?_
      rintro e A1 ⟨rfl, hq⟩
      replace gP := keepheap2 hq gP
      replace gZ := keepheap2 hq gZ
      replace gQ := keepheap2 hq gQ
      replace hB := btrans hB hq
      have hz_A1 := hq.size
      replace HX1 := hid (HX1.out.below hq)
      replace HX2 := hid (HX2.out.below hq)
      replace HRZ := hid (HRZ.out.below hq)
      clear hq
      go_wp2_with fail
      refine hK.out _ _ ?_ (fun hHeld => ?_)
      · exact gP
      clear hK K
      try simp only [sq]
      refine wpAnyH_ready (rs := [1]) (by kernel_rfl) (by simp) ?_
      refine AllReadyH.cons rfl (fun K hK => ?_) AllReadyH.nil
      obtain ⟨⟨q0, q1', q2'⟩, _⟩ := cellk3 gQ
      try simp only [sq]
      go_simp
      refine hK.out _ _ ?_ (fun hHeld => ?_)
      · exact gP
      clear hK K
      try simp only [sq]
      clear q0 q1' q2'
      refine wpAnyH_ready (rs := [4]) (by kernel_rfl) (by simp) ?_
      refine AllReadyH.cons rfl (fun K hK => ?_) AllReadyH.nil
      try simp only [sq]
      go_simp
      go_at_call 9
      refine (HVC.out g c _ HRZ.out (HX1.out.rws)).mono ?_
      rintro e A2 ⟨va, vc, vx, rfl, hv, hq⟩
      replace hv := hv.lc
      have HV := hid hv
      clear hv
      replace gP := keepheap2 hq gP
      replace gZ := keepheap2 hq gZ
      replace gQ := keepheap2 hq gQ
      replace hB := btrans hB hq
      have hz_A2 := hq.size
      replace HX1 := hid (HX1.out.below hq)
      replace HX2 := hid (HX2.out.below hq)
      replace HRZ := hid (HRZ.out.below hq)
      clear hq
      go_wp2_with fail
      refine hK.out _ _ ?_ (fun hHeld => ?_)
      · exact gP
      clear hK K
      try simp only [sq]
      refine wpAnyH_take (i := 5) (v := ?_) rfl (by kernel_rfl) (by kernel_rfl) (by kernel_rfl) (fun _ _ _ h => h) (Or.inl ⟨by rfl, ?_⟩) hHeld ?_
      rotate_left
      · intro w hSw; (try dsimp only at hSw); go_simp; try (with_reducible rfl)
      try simp only [sq]
      refine wpAnyH_ready (rs := [6]) (by kernel_rfl) (by simp) ?_
      refine AllReadyH.cons rfl (fun K hK => ?_) AllReadyH.nil
      obtain ⟨⟨q0, q1', q2'⟩, p0, p1, p2⟩ := cellk3 gQ
      try simp only [sq]
      go_simp
      have hfarQ : ∀ b, b ≠ Q → ((A2.setCell ⟨Q, 0, none⟩ (.int .i64 now)).setCell ⟨Q, 1, none⟩ (.slice va vs.length vc)).heap[b]? = A2.heap[b]? := fun b hb => by rw [Below.heap_setCell _ _ _ _ (by dsimp only; omega), Below.heap_setCell _ _ _ _ (by dsimp only; omega)]
      have gP2 := (hfarQ w.heap.size (by omega)).trans gP
      have gZ2 := (hfarQ (w.heap.size + 1) (by omega)).trans gZ
      have gQ2 : ((A2.setCell ⟨Q, 0, none⟩ (.int .i64 now)).setCell ⟨Q, 1, none⟩ (.slice va vs.length vc)).heap[Q]? = some (.cells #[.int .i64 now, .slice va vs.length vc, .slice (some ⟨tg, 0, none⟩) nt tcc] 40 (0, 0)) := set_at (set_at gQ)
      have hB2 := bset (bset hB (q := Q) (k := 0) (by omega) (.int .i64 now)) (q := Q) (k := 1) (by omega) (.slice va vs.length vc)
      have HX22 := hid (HX2.out.frame (w' := (A2.setCell ⟨Q, 0, none⟩ (.int .i64 now)).setCell ⟨Q, 1, none⟩ (.slice va vs.length vc)) (fun b h1 h2 => hfarQ b (by omega)) (by simp))
      have HV2 := hid (HV.out.frame (w' := (A2.setCell ⟨Q, 0, none⟩ (.int .i64 now)).setCell ⟨Q, 1, none⟩ (.slice va vs.length vc)) (fun b h1 h2 => hfarQ b (by omega)) (by simp))
      refine hK.out _ _ ?_ (fun hHeld => ?_)
      · exact gP2
      clear hK K
      try simp only [sq]
      refine wpAnyH_done (by kernel_rfl) ?_ _
      clear hHeld q0 q1' q2' p0 p1 p2 gP gZ gQ hB HX1 HX2 HV hfarQ gP2
      have gZ := gZ2
      have gQ := gQ2
      have hB := hB2
      have hzf : ((A2.setCell ⟨Q, 0, none⟩ (.int .i64 now)).setCell ⟨Q, 1, none⟩ (.slice va vs.length vc)).heap.size = A2.heap.size := by simp
      have hzf1 := Nat.le_of_eq hzf
      have hzf2 := Nat.le_of_eq hzf.symm
      clear gZ2 gQ2 hB2 hzf
      generalize (A2.setCell ⟨Q, 0, none⟩ (.int .i64 now)).setCell ⟨Q, 1, none⟩ (.slice va vs.length vc) = ZZ at *
      obtain ⟨⟨v0, v1, v2⟩, s0, s1, s2⟩ := cellk3 gZ
      obtain ⟨⟨t0, t1, t2⟩, _⟩ := cellk3 gQ
      have HB := hid hB
      clear hB
      go_wp2_with fail
      have gF := setk3 gZ (.int .i64 now) (.slice va vs.length vc) (.slice (some ⟨tg, 0, none⟩) nt tcc)
      have bF := (bset (bset (bset HB.out (q := w.heap.size + 1) (k := 0) (by omega) (.int .i64 now)) (q := w.heap.size + 1) (k := 1) (by omega) (.slice va vs.length vc)) (q := w.heap.size + 1) (k := 2) (by omega) (.slice (some ⟨tg, 0, none⟩) nt tcc))
      have hfar : ∀ b, b ≠ w.heap.size + 1 → (((ZZ.setCell ⟨w.heap.size + 1, 0, none⟩ (.int .i64 now)).setCell ⟨w.heap.size + 1, 1, none⟩ (.slice va vs.length vc)).setCell ⟨w.heap.size + 1, 2, none⟩ (.slice (some ⟨tg, 0, none⟩) nt tcc)).heap[b]? = ZZ.heap[b]? := fun b hb => by rw [Below.heap_setCell _ _ _ _ (by dsimp only; omega), Below.heap_setCell _ _ _ _ (by dsimp only; omega), Below.heap_setCell _ _ _ _ (by dsimp only; omega)]
      have x1 := HV2.out.frame (w' := (((ZZ.setCell ⟨w.heap.size + 1, 0, none⟩ (.int .i64 now)).setCell ⟨w.heap.size + 1, 1, none⟩ (.slice va vs.length vc)).setCell ⟨w.heap.size + 1, 2, none⟩ (.slice (some ⟨tg, 0, none⟩) nt tcc))) (fun b h1 h2 => hfar b (by omega)) (by simp)
      have x2 := HX22.out.frame (w' := (((ZZ.setCell ⟨w.heap.size + 1, 0, none⟩ (.int .i64 now)).setCell ⟨w.heap.size + 1, 1, none⟩ (.slice va vs.length vc)).setCell ⟨w.heap.size + 1, 2, none⟩ (.slice (some ⟨tg, 0, none⟩) nt tcc))) (fun b h1 h2 => hfar b (by omega)) (by simp)
      generalize (((ZZ.setCell ⟨w.heap.size + 1, 0, none⟩ (.int .i64 now)).setCell ⟨w.heap.size + 1, 1, none⟩ (.slice va vs.length vc)).setCell ⟨w.heap.size + 1, 2, none⟩ (.slice (some ⟨tg, 0, none⟩) nt tcc)) = wf at *
      obtain ⟨⟨z0, z1, z2⟩, _⟩ := cellk3 gF
      exact bodyPost_ret (v := .agg #[.int .i64 now, .slice va vs.length vc, .slice (some ⟨tg, 0, none⟩) nt tcc]) (by simp [results, Tryz.results16, go_sem, z0, z1, z2]) rfl (by first | exact sr_mk rfl HNT.out x1 x2 (by omega) (by omega) (by omega) bF | (rw [if_pos rfl]; exact sr_mk rfl HNT.out x1 x2 (by omega) (by omega) (by omega) bF))
end Go.Proofs.YtjhnfbefgjoiiaaGreat
namespace Go.Proofs.YtjhnfbefgjoiiaaGreat
open Go.RowKit
set_option linter.unusedSimpArgs false
set_option linter.unusedVariables false
set_option maxRecDepth 100000 in
set_option maxHeartbeats 4000000 in
theorem spec_Clean {N1 N2 : Nat → Prop} (now : Int) (B D : Nat) (rs : List Rw) (ts : List Tx) (w : World) (hm : rs.length ≤ 1099511627776) (htm : ts.length ≤ 1099511627776) (hr : RwsS w B rs) (hrr : Rws N1 w (some ⟨B, 0, none⟩) rs) (ht : TxsS w D ts) (htt : Txs N2 1099511627776 w (some ⟨D, 0, none⟩) ts) : Calls Tryz.prog 14 #[.agg #[.int .i64 now, .slice (some ⟨B, 0, none⟩) rs.length rs.length, .slice (some ⟨D, 0, none⟩) ts.length ts.length]] w fun e w' => SS w now (clS now rs ts) ts e w' := by
  have HCP := hid (fun (W : World) (hb : Below w.heap.size w W) => spec_copyStore now B D ts.length rs ts W hm htm (hr.below hb) (ht.below hb))
  have HOK := hid (fun (W : World) (hb : Below w.heap.size w W) => spec_StoreOk now (some ⟨B, 0, none⟩) (some ⟨D, 0, none⟩) rs.length ts.length rs ts W hm htm (hrr.below hb) (htt.below hb))
  have HOL := hid (fun (W : World) (hb : Below w.heap.size w W) => spec_Oldest now (some ⟨B, 0, none⟩) (some ⟨D, 0, none⟩) rs.length rs.length ts.length ts W htm (htt.below hb))
  have HVC := hid (fun (W : World) (hb : Below w.heap.size w W) => spec_Vacuum now B rs (oldS now ts) W hm (hr.below hb) (hrr.below hb))
  have HTL : Hid (txL ts) := hid (fun j (hj : j < ts.length) => (ht.2 j hj).choose_spec.choose_spec.2.2.1)
  clear hr hrr ht htt
  unfold clS
  generalize vacb now rs (oldS now ts) = vs at *
  generalize oldS now ts = od at *
  generalize hst : storeb now rs ts = ok at *
  unfold StX at HCP
  unfold VS at HVC
  generalize hnr : rs.length = nr at *
  generalize hnt : ts.length = nt at *
  have HNR := hid hnr
  have HNT := hid hnt
  clear hnr hnt hst
  have hB : Below w.heap.size w ((w.alloc (.cells #[.int .i64 now, .slice (some ⟨B, 0, none⟩) nr nr, .slice (some ⟨D, 0, none⟩) nt nt] 40)).alloc (.cells #[.int .i64 0, .slice none 0 0, .slice none 0 0] 40)) := balloc (balloc (Below.refl _ _) _) _
  have gP := old_alloc (o' := .cells #[.int .i64 0, .slice none 0 0, .slice none 0 0] 40) (new_alloc w w.heap.size (.cells #[.int .i64 now, .slice (some ⟨B, 0, none⟩) nr nr, .slice (some ⟨D, 0, none⟩) nt nt] 40) rfl)
  have gZ := new_alloc (w.alloc (.cells #[.int .i64 now, .slice (some ⟨B, 0, none⟩) nr nr, .slice (some ⟨D, 0, none⟩) nt nt] 40)) (w.heap.size + 1) (.cells #[.int .i64 0, .slice none 0 0, .slice none 0 0] 40) (by simp)
  have hWs : w.heap.size + 1 < ((w.alloc (.cells #[.int .i64 now, .slice (some ⟨B, 0, none⟩) nr nr, .slice (some ⟨D, 0, none⟩) nt nt] 40)).alloc (.cells #[.int .i64 0, .slice none 0 0, .slice none 0 0] 40)).heap.size := by simp
  go_enter Tryz.func14, Tryz.ntmps14
  go_upto_region 1 with fail
  generalize (w.alloc (.cells #[.int .i64 now, .slice (some ⟨B, 0, none⟩) nr nr, .slice (some ⟨D, 0, none⟩) nt nt] 40)).alloc (.cells #[.int .i64 0, .slice none 0 0, .slice none 0 0] 40) = W at *
  obtain ⟨⟨d0, d1, d2⟩, _⟩ := cellk3 gP
  go_wp2_with fail
  refine (HCP.out _ hB).mono ?_
  rintro e y ⟨a, c, ta, tcc, b1, u1, b2, u2, rfl, ⟨hx1, hx2⟩, e1, e2, hy⟩
  replace gP := keepheap2 hy gP
  replace gZ := keepheap2 hy gZ
  replace hB := btrans hB hy
  have hyz := hy.size
  have HX1 := hid hx1
  have HX2 := hid hx2
  clear hy hx1 hx2 HCP d0 d1 d2
  have r1 := HX1.out.1
  have r2 := HX2.out.1
  go_upto_region 2 with fail
  have hal : Below y.heap.size y (y.alloc (.cells #[.int .i64 now, .slice a nr c, .slice ta nt tcc] 40)) := balloc (Below.refl _ _) _
  have gQ := new_alloc y y.heap.size (.cells #[.int .i64 now, .slice a nr c, .slice ta nt tcc] 40) rfl
  replace gP := keepheap2 hal gP
  replace gZ := keepheap2 hal gZ
  replace hB := btrans hB hal
  replace HX1 := hid (HX1.out.below hal)
  replace HX2 := hid (HX2.out.below hal)
  have hyq : y.heap.size < (y.alloc (.cells #[.int .i64 now, .slice a nr c, .slice ta nt tcc] 40)).heap.size := by simp
  have q1 := HX1.out.1
  have q2 := HX2.out.1
  clear hal
  generalize y.alloc (.cells #[.int .i64 now, .slice a nr c, .slice ta nt tcc] 40) = Y at *
  generalize W.heap.size = Wz at *
  generalize y.heap.size = Q at *
  obtain ⟨⟨d0, d1, d2⟩, _⟩ := cellk3 gP
  go_wp2_with fail
  refine (HOK.out _ hB).mono ?_
  rintro e z ⟨rfl, hz⟩
  replace gP := keepheap2 hz gP
  replace gZ := keepheap2 hz gZ
  replace gQ := keepheap2 hz gQ
  replace hB := btrans hB hz
  have hzz := hz.size
  replace HX1 := hid (HX1.out.below hz)
  replace HX2 := hid (HX2.out.below hz)
  clear hz d0 d1 d2 HOK
  cases ok
  · skip
    clear HOL HVC
    obtain ⟨⟨v0, v1, v2⟩, s0, s1, s2⟩ := cellk3 gZ
    obtain ⟨⟨t0, t1, t2⟩, _⟩ := cellk3 gQ
    have HB := hid hB
    clear hB
    go_wp2_with fail
    have gF := setk3 gZ (.int .i64 now) (.slice a nr c) (.slice ta nt tcc)
    have bF := (bset (bset (bset HB.out (q := w.heap.size + 1) (k := 0) (by omega) (.int .i64 now)) (q := w.heap.size + 1) (k := 1) (by omega) (.slice a nr c)) (q := w.heap.size + 1) (k := 2) (by omega) (.slice ta nt tcc))
    have hfar : ∀ b, b ≠ w.heap.size + 1 → (((z.setCell ⟨w.heap.size + 1, 0, none⟩ (.int .i64 now)).setCell ⟨w.heap.size + 1, 1, none⟩ (.slice a nr c)).setCell ⟨w.heap.size + 1, 2, none⟩ (.slice ta nt tcc)).heap[b]? = z.heap[b]? := fun b hb => by rw [Below.heap_setCell _ _ _ _ (by dsimp only; omega), Below.heap_setCell _ _ _ _ (by dsimp only; omega), Below.heap_setCell _ _ _ _ (by dsimp only; omega)]
    have x1 := HX1.out.frame (w' := (((z.setCell ⟨w.heap.size + 1, 0, none⟩ (.int .i64 now)).setCell ⟨w.heap.size + 1, 1, none⟩ (.slice a nr c)).setCell ⟨w.heap.size + 1, 2, none⟩ (.slice ta nt tcc))) (fun b h1 h2 => hfar b (by omega)) (by simp)
    have x2 := HX2.out.frame (w' := (((z.setCell ⟨w.heap.size + 1, 0, none⟩ (.int .i64 now)).setCell ⟨w.heap.size + 1, 1, none⟩ (.slice a nr c)).setCell ⟨w.heap.size + 1, 2, none⟩ (.slice ta nt tcc))) (fun b h1 h2 => hfar b (by omega)) (by simp)
    generalize (((z.setCell ⟨w.heap.size + 1, 0, none⟩ (.int .i64 now)).setCell ⟨w.heap.size + 1, 1, none⟩ (.slice a nr c)).setCell ⟨w.heap.size + 1, 2, none⟩ (.slice ta nt tcc)) = wf at *
    obtain ⟨⟨z0, z1, z2⟩, _⟩ := cellk3 gF
    have x3 := Txs.any (LC.txs x2 HTL.out)
    exact bodyPost_ret (v := .agg #[.int .i64 now, .slice a nr c, .slice ta nt tcc]) (by simp [results, Tryz.results14, go_sem, z0, z1, z2]) rfl (by first | exact ss_mk HNR.out HNT.out x1.rws x3 bF | (rw [if_neg (by simp)]; exact ss_mk HNR.out HNT.out x1.rws x3 bF))
  · skip
    obtain ⟨⟨d0, d1, d2⟩, _⟩ := cellk3 gP
    go_wp2_with fail
    clear d0 d1 d2
    refine wp_region_held_drew (S := (fun w' => w'.heap[w.heap.size]? = some (.cells #[.int .i64 now, .slice (some ⟨B, 0, none⟩) nr nr, .slice (some ⟨D, 0, none⟩) nt nt] 40 (0, 0)))) (by kernel_rfl) ?_ (fun hHeld => ?_)
    · exact gP
    replace gP : z.drew.heap[w.heap.size]? = some (.cells #[.int .i64 now, .slice (some ⟨B, 0, none⟩) nr nr, .slice (some ⟨D, 0, none⟩) nt nt] 40 (0, 0)) := gP
    replace gZ : z.drew.heap[w.heap.size + 1]? = some (.cells #[.int .i64 0, .slice none 0 0, .slice none 0 0] 40 (0, 0)) := gZ
    replace gQ : z.drew.heap[Q]? = some (.cells #[.int .i64 now, .slice a nr c, .slice ta nt tcc] 40 (0, 0)) := gQ
    replace hB := bdrew hB
    replace HX1 := hid (HX1.out.below (bdrew (Below.refl _ _)))
    replace HX2 := hid (HX2.out.below (bdrew (Below.refl _ _)))
    have hzd : z.drew.heap.size = z.heap.size := rfl
    have hzd1 := Nat.le_of_eq hzd
    have hzd2 := Nat.le_of_eq hzd.symm
    clear hzd
    generalize z.drew = Z at *
    refine wpAnyH_take (i := 0) (v := ?_) rfl (by kernel_rfl) (by kernel_rfl) (by kernel_rfl) (fun _ _ _ h => h) (Or.inl ⟨by rfl, ?_⟩) hHeld ?_
    rotate_left
    · intro w hSw; (try dsimp only at hSw); go_simp; try (with_reducible rfl)
    try simp only [sq]
    refine wpAnyH_take (i := 1) (v := ?_) rfl (by kernel_rfl) (by kernel_rfl) (by kernel_rfl) (fun _ _ _ h => h) (Or.inl ⟨by rfl, ?_⟩) hHeld ?_
    rotate_left
    · intro w hSw; (try dsimp only at hSw); obtain ⟨⟨_, _, _⟩, _⟩ := cellk3 (hSw); go_simp; try (with_reducible rfl)
    try simp only [sq]
    refine wpAnyH_take (i := 2) (v := ?_) rfl (by kernel_rfl) (by kernel_rfl) (by kernel_rfl) (fun _ _ _ h => h) (Or.inl ⟨by rfl, ?_⟩) hHeld ?_
    rotate_left
    · intro w hSw; (try dsimp only at hSw); obtain ⟨⟨_, _, _⟩, _⟩ := cellk3 (hSw); go_simp; try (with_reducible rfl)
    try simp only [sq]
    refine wpAnyH_ready (rs := [3]) (by kernel_rfl) (by simp) ?_
    refine AllReadyH.cons rfl (fun K hK => ?_) AllReadyH.nil
    try simp only [sq]
    go_simp
    go_at_call 38
    refine (HOL.out _ hB).mono ?_
    rintro e A1 ⟨rfl, hq⟩
    replace gP := keepheap2 hq gP
    replace gZ := keepheap2 hq gZ
    replace gQ := keepheap2 hq gQ
    replace hB := btrans hB hq
    have hz_A1 := hq.size
    replace HX1 := hid (HX1.out.below hq)
    replace HX2 := hid (HX2.out.below hq)
    clear hq
    go_wp2_with fail
    refine hK.out _ _ ?_ (fun hHeld => ?_)
    · exact gP
    clear hK K
    try simp only [sq]
    refine wpAnyH_ready (rs := [4]) (by kernel_rfl) (by simp) ?_
    refine AllReadyH.cons rfl (fun K hK => ?_) AllReadyH.nil
    try simp only [sq]
    go_simp
    go_at_call 7
    refine (HVC.out _ hB).mono ?_
    rintro e A2 ⟨va, vc, rfl, hv, hq⟩
    have HV := hid hv
    clear hv
    replace gP := keepheap2 hq gP
    replace gZ := keepheap2 hq gZ
    replace gQ := keepheap2 hq gQ
    replace hB := btrans hB hq
    have hz_A2 := hq.size
    replace HX1 := hid (HX1.out.below hq)
    replace HX2 := hid (HX2.out.below hq)
    clear hq
    go_wp2_with fail
    refine hK.out _ _ ?_ (fun hHeld => ?_)
    · exact gP
    clear hK K
    try simp only [sq]
    refine wpAnyH_take (i := 5) (v := ?_) rfl (by kernel_rfl) (by kernel_rfl) (by kernel_rfl) (fun _ _ _ h => h) (Or.inl ⟨by rfl, ?_⟩) hHeld ?_
    rotate_left
    · intro w hSw; (try dsimp only at hSw); go_simp; try (with_reducible rfl)
    try simp only [sq]
    refine wpAnyH_ready (rs := [6]) (by kernel_rfl) (by simp) ?_
    refine AllReadyH.cons rfl (fun K hK => ?_) AllReadyH.nil
    obtain ⟨⟨q0, q1', q2'⟩, p0, p1, p2⟩ := cellk3 gQ
    try simp only [sq]
    go_simp
    have hfarQ : ∀ b, b ≠ Q → ((A2.setCell ⟨Q, 0, none⟩ (.int .i64 now)).setCell ⟨Q, 1, none⟩ (.slice va vs.length vc)).heap[b]? = A2.heap[b]? := fun b hb => by rw [Below.heap_setCell _ _ _ _ (by dsimp only; omega), Below.heap_setCell _ _ _ _ (by dsimp only; omega)]
    have gP2 := (hfarQ w.heap.size (by omega)).trans gP
    have gZ2 := (hfarQ (w.heap.size + 1) (by omega)).trans gZ
    have gQ2 : ((A2.setCell ⟨Q, 0, none⟩ (.int .i64 now)).setCell ⟨Q, 1, none⟩ (.slice va vs.length vc)).heap[Q]? = some (.cells #[.int .i64 now, .slice va vs.length vc, .slice ta nt tcc] 40 (0, 0)) := set_at (set_at gQ)
    have hB2 := bset (bset hB (q := Q) (k := 0) (by omega) (.int .i64 now)) (q := Q) (k := 1) (by omega) (.slice va vs.length vc)
    have HX22 := hid (HX2.out.frame (w' := (A2.setCell ⟨Q, 0, none⟩ (.int .i64 now)).setCell ⟨Q, 1, none⟩ (.slice va vs.length vc)) (fun b h1 h2 => hfarQ b (by omega)) (by simp))
    have HV2 := hid (HV.out.off gQ (by intro i e; cases e) (w' := (A2.setCell ⟨Q, 0, none⟩ (.int .i64 now)).setCell ⟨Q, 1, none⟩ (.slice va vs.length vc)) hfarQ (by simp))
    refine hK.out _ _ ?_ (fun hHeld => ?_)
    · exact gP2
    clear hK K
    try simp only [sq]
    refine wpAnyH_done (by kernel_rfl) ?_ _
    clear hHeld q0 q1' q2' p0 p1 p2 gP gZ gQ hB HX1 HX2 HV hfarQ gP2
    have gZ := gZ2
    have gQ := gQ2
    have hB := hB2
    have hzf : ((A2.setCell ⟨Q, 0, none⟩ (.int .i64 now)).setCell ⟨Q, 1, none⟩ (.slice va vs.length vc)).heap.size = A2.heap.size := by simp
    have hzf1 := Nat.le_of_eq hzf
    have hzf2 := Nat.le_of_eq hzf.symm
    clear gZ2 gQ2 hB2 hzf
    generalize (A2.setCell ⟨Q, 0, none⟩ (.int .i64 now)).setCell ⟨Q, 1, none⟩ (.slice va vs.length vc) = ZZ at *
    obtain ⟨⟨v0, v1, v2⟩, s0, s1, s2⟩ := cellk3 gZ
    obtain ⟨⟨t0, t1, t2⟩, _⟩ := cellk3 gQ
    have HB := hid hB
    clear hB
    go_wp2_with fail
    have gF := setk3 gZ (.int .i64 now) (.slice va vs.length vc) (.slice ta nt tcc)
    have bF := (bset (bset (bset HB.out (q := w.heap.size + 1) (k := 0) (by omega) (.int .i64 now)) (q := w.heap.size + 1) (k := 1) (by omega) (.slice va vs.length vc)) (q := w.heap.size + 1) (k := 2) (by omega) (.slice ta nt tcc))
    have hfar : ∀ b, b ≠ w.heap.size + 1 → (((ZZ.setCell ⟨w.heap.size + 1, 0, none⟩ (.int .i64 now)).setCell ⟨w.heap.size + 1, 1, none⟩ (.slice va vs.length vc)).setCell ⟨w.heap.size + 1, 2, none⟩ (.slice ta nt tcc)).heap[b]? = ZZ.heap[b]? := fun b hb => by rw [Below.heap_setCell _ _ _ _ (by dsimp only; omega), Below.heap_setCell _ _ _ _ (by dsimp only; omega), Below.heap_setCell _ _ _ _ (by dsimp only; omega)]
    have x1 := HV2.out.off gZ (by intro i e; cases e) (w' := (((ZZ.setCell ⟨w.heap.size + 1, 0, none⟩ (.int .i64 now)).setCell ⟨w.heap.size + 1, 1, none⟩ (.slice va vs.length vc)).setCell ⟨w.heap.size + 1, 2, none⟩ (.slice ta nt tcc))) hfar (by simp)
    have x2 := HX22.out.frame (w' := (((ZZ.setCell ⟨w.heap.size + 1, 0, none⟩ (.int .i64 now)).setCell ⟨w.heap.size + 1, 1, none⟩ (.slice va vs.length vc)).setCell ⟨w.heap.size + 1, 2, none⟩ (.slice ta nt tcc))) (fun b h1 h2 => hfar b (by omega)) (by simp)
    generalize (((ZZ.setCell ⟨w.heap.size + 1, 0, none⟩ (.int .i64 now)).setCell ⟨w.heap.size + 1, 1, none⟩ (.slice va vs.length vc)).setCell ⟨w.heap.size + 1, 2, none⟩ (.slice ta nt tcc)) = wf at *
    obtain ⟨⟨z0, z1, z2⟩, _⟩ := cellk3 gF
    have x3 := Txs.any (LC.txs x2 HTL.out)
    exact bodyPost_ret (v := .agg #[.int .i64 now, .slice va vs.length vc, .slice ta nt tcc]) (by simp [results, Tryz.results14, go_sem, z0, z1, z2]) rfl (by first | exact ss_mk rfl HNT.out x1 x3 bF | (rw [if_pos rfl]; exact ss_mk rfl HNT.out x1 x3 bF))
end Go.Proofs.YtjhnfbefgjoiiaaGreat
namespace Go.Proofs.YtjhnfbefgjoiiaaGreat
open Go.RowKit
set_option linter.unusedSimpArgs false
set_option linter.unusedVariables false
def kcn (xs : List Ch) : Int := (xs.map (fun r => 3 + 2 * (r.2.2.2.length : Int))).sum
def kkc (k0 : Int) (xs : List Ch) (j : Nat) : Int := k0 + kcn (xs.take j)
theorem kkc_next {k0 : Int} {xs : List Ch} {j : Nat} (h : j < xs.length) : kkc k0 xs (j + 1) = kkc k0 xs j + 3 + 2 * (xs[j].2.2.2.length : Int) := by
  unfold kkc kcn
  rw [List.take_add_one, List.getElem?_eq_getElem h, List.map_append, List.sum_append]
  simp only [Option.toList, List.map_cons, List.map_nil, List.sum_cons, List.sum_nil]
  omega
theorem kkc_bound {k0 : Int} {xs : List Ch} (hl : ∀ m (h : m < xs.length), xs[m].2.2.2.length ≤ 1048576) : ∀ j, j ≤ xs.length → k0 ≤ kkc k0 xs j ∧ kkc k0 xs j ≤ k0 + (j : Int) * 2097155 := by
  intro j
  induction j with
  | zero => intro _; simp [kkc, kcn]
  | succ j ih =>
    intro hj
    obtain ⟨h1, h2⟩ := ih (by omega)
    have h3 := hl j (by omega)
    rw [kkc_next (by omega)]
    constructor <;> omega
def mke (k : Int) (r : Ch) : Ch := (k, ((k + 1) % 3 == 0), k + 2, tkk (k + 3) r.2.2.2.length)
def mkc (k0 : Int) (xs : List Ch) : List Ch := xs.mapIdx (fun j r => mke (kkc k0 xs j) r)
theorem mkc_len (k0 : Int) (xs : List Ch) : (mkc k0 xs).length = xs.length := by simp [mkc]
theorem mkc_at {k0 : Int} {xs : List Ch} {j : Nat} (h : j < xs.length) : (mkc k0 xs)[j]'(by rw [mkc_len]; exact h) = mke (kkc k0 xs j) xs[j] := by simp [mkc]
theorem mkc_S {k0 : Int} {xs : List Ch} (h : chS xs) : chS (mkc k0 xs) := by
  refine ⟨by rw [mkc_len]; exact h.1, fun m hm => ?_⟩
  have hm' := hm
  rw [mkc_len] at hm'
  rw [mkc_at hm']
  simp only [mke, tkk_len]
  exact h.2 m hm'
def ktn (ts : List Tx) : Int := (ts.map (fun r => 2 + kcn r.2.2)).sum
def kkt (k0 : Int) (ts : List Tx) (j : Nat) : Int := k0 + ktn (ts.take j)
theorem kkt_next {k0 : Int} {ts : List Tx} {j : Nat} (h : j < ts.length) : kkt k0 ts (j + 1) = kkc (kkt k0 ts j + 2) ts[j].2.2 ts[j].2.2.length := by
  unfold kkt ktn kkc
  rw [List.take_add_one, List.getElem?_eq_getElem h, List.map_append, List.sum_append, List.take_length]
  simp only [Option.toList, List.map_cons, List.map_nil, List.sum_cons, List.sum_nil]
  omega
theorem kkt_bound {k0 : Int} {ts : List Tx} (hl : ∀ m (h : m < ts.length), chS ts[m].2.2) : ∀ j, j ≤ ts.length → k0 ≤ kkt k0 ts j ∧ kkt k0 ts j ≤ k0 + (j : Int) * 2199026401282 := by
  intro j
  induction j with
  | zero => intro _; simp [kkt, ktn]
  | succ j ih =>
    intro hj
    obtain ⟨h1, h2⟩ := ih (by omega)
    have h3 := hl j (by omega)
    obtain ⟨h4, h5⟩ := kkc_bound (k0 := kkt k0 ts j + 2) h3.2 ts[j].2.2.length (Nat.le_refl _)
    have h6 := h3.1
    rw [kkt_next (by omega)]
    constructor <;> omega
def mkt (k : Int) (r : Tx) : Tx := (k, ((k + 1) % 3 == 0), mkc (k + 2) r.2.2)
def mks (k0 : Int) (ts : List Tx) : List Tx := ts.mapIdx (fun j r => mkt (kkt k0 ts j) r)
theorem mks_len (k0 : Int) (ts : List Tx) : (mks k0 ts).length = ts.length := by simp [mks]
theorem mks_at {k0 : Int} {ts : List Tx} {j : Nat} (h : j < ts.length) : (mks k0 ts)[j]'(by rw [mks_len]; exact h) = mkt (kkt k0 ts j) ts[j] := by simp [mks]
def rwS (xs : List Rw) : Prop := xs.length ≤ 1048576 ∧ ∀ m (h : m < xs.length), xs[m].2.2.2.2.length ≤ 1048576
def krn (xs : List Rw) : Int := (xs.map (fun r => 4 + 2 * (r.2.2.2.2.length : Int))).sum
def kkr (k0 : Int) (xs : List Rw) (j : Nat) : Int := k0 + krn (xs.take j)
theorem kkr_next {k0 : Int} {xs : List Rw} {j : Nat} (h : j < xs.length) : kkr k0 xs (j + 1) = kkr k0 xs j + 4 + 2 * (xs[j].2.2.2.2.length : Int) := by
  unfold kkr krn
  rw [List.take_add_one, List.getElem?_eq_getElem h, List.map_append, List.sum_append]
  simp only [Option.toList, List.map_cons, List.map_nil, List.sum_cons, List.sum_nil]
  omega
theorem kkr_bound {k0 : Int} {xs : List Rw} (hl : ∀ m (h : m < xs.length), xs[m].2.2.2.2.length ≤ 1048576) : ∀ j, j ≤ xs.length → k0 ≤ kkr k0 xs j ∧ kkr k0 xs j ≤ k0 + (j : Int) * 2097156 := by
  intro j
  induction j with
  | zero => intro _; simp [kkr, krn]
  | succ j ih =>
    intro hj
    obtain ⟨h1, h2⟩ := ih (by omega)
    have h3 := hl j (by omega)
    rw [kkr_next (by omega)]
    constructor <;> omega
def mkr1 (k : Int) (r : Rw) : Rw := (k, k + 1, k + 2, k + 3, tkk (k + 4) r.2.2.2.2.length)
def mkr (k0 : Int) (xs : List Rw) : List Rw := xs.mapIdx (fun j r => mkr1 (kkr k0 xs j) r)
theorem mkr_len (k0 : Int) (xs : List Rw) : (mkr k0 xs).length = xs.length := by simp [mkr]
theorem mkr_at {k0 : Int} {xs : List Rw} {j : Nat} (h : j < xs.length) : (mkr k0 xs)[j]'(by rw [mkr_len]; exact h) = mkr1 (kkr k0 xs j) xs[j] := by simp [mkr]
end Go.Proofs.YtjhnfbefgjoiiaaGreat
namespace Go.Proofs.YtjhnfbefgjoiiaaGreat
open Go.RowKit
set_option linter.unusedSimpArgs false
set_option linter.unusedVariables false
set_option maxRecDepth 100000 in
set_option maxHeartbeats 4000000 in
theorem mark_chsX (base hi : Nat) (v : Value) (xs : List Ch) (k0 : Int) (w : World) (hs : chS xs) (h0 : 0 ≤ k0) (h1 : k0 ≤ 4500000000000000000) (h : LC KC base hi w v xs) : Calls Tryz.prog 23 #[v, .int .i64 k0] w fun e w' => e = .returned (.int .i64 (kkc k0 xs xs.length)) ∧ LC KC base hi w' v (mkc k0 xs) ∧ Mid base hi w w' := by
  obtain ⟨hih, h⟩ := h
  rcases h with ⟨rfl, rfl⟩ | ⟨g, cap, ss, lo, up, rfl, hcap, hbg, hgh, hth, hel, hd⟩
  · go_enter Tryz.func23, Tryz.ntmps23
    go_wp2_with fail
    go_loopw [1, 5] (fun tk' ti wr => tk' = .int .i64 k0 ∧ ti = .int .i64 0 ∧ wr = w) (fun _ _ _ => 0)
    case atStart => exact ⟨rfl, rfl, rfl⟩
    case round =>
      obtain ⟨rfl, rfl, rfl⟩ := hrel
      go_wp2_with fail
      go_ret
      exact ⟨by simp [kkc, kcn], ⟨hih, .inl ⟨by simp [mkc], rfl⟩⟩, mid_refl _ _ _⟩
  have HL := hid hs.2
  have hm := hs.1
  have HE := hid (fun j hj => (hel j hj).1)
  have HC := hid (fun j hj => (hel j hj).2)
  have HD := hid hd
  have HK := hid (kkc_bound (k0 := k0) hs.2)
  clear hs hel hd
  obtain ⟨n, hn⟩ : ∃ n, n = xs.length := ⟨_, rfl⟩
  have HN := hid hn.symm
  rw [← hn] at hm hth hcap ⊢
  have HTT := hid hth
  have HF : Hid (∀ (W : World) (q : Int), q = kkc k0 xs n → Mid base hi w W → W.there g 0 (n * 4) → (∀ i (h : i < xs.length), i < n → ElX KC W g i (mke (kkc k0 xs i) xs[i]) (ss i) (lo i) (up i)) → (Ending.returned (.int .i64 q) = .returned (.int .i64 (kkc k0 xs n)) ∧ LC KC base hi W (.slice (some ⟨g, 0, none⟩) n cap) (mkc k0 xs))) := hid (fun W q hq hM hT h => ⟨by rw [hq], by
    refine ⟨Nat.le_trans hih hM.2.2.2.1, .inr ⟨g, cap, ss, lo, up, by rw [mkc_len, ← hn], by rw [mkc_len, ← hn]; exact hcap, hbg, hgh, by rw [mkc_len, ← hn]; exact hT, fun j hj => ?_, fun i j hne hi' hj => ?_⟩⟩
    · have hj' := hj
      rw [mkc_len] at hj'
      rw [mkc_at hj']
      exact ⟨h j hj' (by omega), HC.out j hj'⟩
    · rw [mkc_len] at hi' hj
      exact HD.out i j hne hi' hj⟩)
  clear hth hcap hn
  have hmid0 := mid_refl base hi w
  have hgw : g < w.heap.size := by omega
  go_enter Tryz.func23, Tryz.ntmps23
  go_wp2_with fail
  go_loopw [1, 5] (fun tk' ti wr => ∃ j : Nat, ∃ k : Int, ti = .int .i64 j ∧ tk' = .int .i64 k ∧ j ≤ n ∧ Hid (k = kkc k0 xs j) ∧ Hid (Mid base hi w wr) ∧ Hid (wr.there g 0 (n * 4)) ∧ Hid (∀ i (h : i < xs.length), i < j → ElX KC wr g i (mke (kkc k0 xs i) xs[i]) (ss i) (lo i) (up i)) ∧ Hid (∀ i (h : i < xs.length), j ≤ i → ElX KC wr g i xs[i] (ss i) (lo i) (up i))) (fun _ ti _ => n - (intOf ti).toNat)
  case atStart => exact ⟨0, k0, rfl, rfl, Nat.zero_le _, hid (by simp [kkc, kcn]), hid hmid0, HTT, hid (fun i h hh => absurd hh (by omega)), hid (fun i h _ => HE.out i h)⟩
  case round =>
    clear hmid0
    obtain ⟨j, k, rfl, rfl, hj, HKJ, HM, HT, HA, HZ⟩ := hrel
    by_cases hlt : j < n
    · have c1 : (j : Int) < (n : Int) := by omega
      have hjr : j < xs.length := by rw [HN.out]; exact hlt
      obtain ⟨hk0, hk1⟩ := HK.out j (by omega)
      rw [← HKJ.out] at hk0 hk1
      have hk2 : k ≤ 4600000000000000000 := by omega
      have hk3 : 0 ≤ k := by omega
      have HKN := hid (kkc_next (k0 := k0) hjr)
      rw [← HKJ.out] at HKN
      obtain ⟨zc, zs⟩ := HZ.out j hjr (Nat.le_refl _)
      obtain ⟨hcb, hch, hcg⟩ := HC.out j hjr
      have hws := HM.out.2.2.2.1
      obtain ⟨_, c, cp, esv, b1, b2, b3, b4, b5⟩ := zs
      have hnp := HL.out j hjr
      have HMK : Hid (∀ W, (∀ t, t < 4 → W.cell? ⟨g, j * 4 + t, none⟩ = ([.int .i64 k, .bool ((k + 1) % 3 == 0), .int .i64 (k + 2), ss j] : List Value)[t]?) → PtsOwn W c (tkk (k + 3) xs[j].2.2.2.length) → up j ≤ W.heap.size → ElX KC W g j (mke (kkc k0 xs j) xs[j]) (ss j) (lo j) (up j)) := hid (fun W h1 h2 h3 => by
        rw [← HKJ.out]
        refine ⟨h1, h3, c, cp, ?_, ?_, ?_, b3, b4, h2⟩
        · simp only [mke, tkk_len]; exact esv
        · simp only [mke, tkk_len]; exact b1
        · simp only [mke, tkk_len]; exact b2)
      generalize hps : xs[j].2.2.2 = ps at *
      clear hps
      obtain ⟨sv, hsv⟩ : ∃ sv, sv = ss j := ⟨_, rfl⟩
      have HSJ := hid hsv
      rw [← hsv] at zc HMK esv
      clear hsv
      subst esv
      have q3 := zc 3 (by decide)
      simp only [KC, List.getElem?_cons_succ, List.getElem?_cons_zero] at q3
      have HDJ : Hid (∀ i, i < xs.length → i ≠ j → up i ≤ lo j ∨ up j ≤ lo i) := hid (fun i hi' hne => HD.out i j hne hi' hjr)
      obtain ⟨u0, z0, y0⟩ := there_at HT.out (show j * 4 < n * 4 by omega)
      obtain ⟨u1, z1, y1⟩ := there_at HT.out (show j * 4 + 1 < n * 4 by omega)
      obtain ⟨u2, z2, y2⟩ := there_at HT.out (show j * 4 + 2 < n * 4 by omega)
      have z1' : ∀ a0, (wr.setCell ⟨g, j * 4, none⟩ a0).cell? ⟨g, j * 4 + 1, none⟩ = some u1 := fun a0 => by rw [World.cell?_setCell_other _ _ _ _ (by simp)]; exact z1
      have y1' : ∀ a0, (wr.setCell ⟨g, j * 4, none⟩ a0).frozen? ⟨g, j * 4 + 1, none⟩ = false := fun a0 => by rw [World.frozen?_setCell]; exact y1
      have z2' : ∀ a0 a1, ((wr.setCell ⟨g, j * 4, none⟩ a0).setCell ⟨g, j * 4 + 1, none⟩ a1).cell? ⟨g, j * 4 + 2, none⟩ = some u2 := fun a0 a1 => by rw [World.cell?_setCell_other _ _ _ _ (by simp), World.cell?_setCell_other _ _ _ _ (by simp)]; exact z2
      have y2' : ∀ a0 a1, ((wr.setCell ⟨g, j * 4, none⟩ a0).setCell ⟨g, j * 4 + 1, none⟩ a1).frozen? ⟨g, j * 4 + 2, none⟩ = false := fun a0 a1 => by rw [World.frozen?_setCell, World.frozen?_setCell]; exact y2
      have zl' : ∀ a0 a1 a2, (((wr.setCell ⟨g, j * 4, none⟩ a0).setCell ⟨g, j * 4 + 1, none⟩ a1).setCell ⟨g, j * 4 + 2, none⟩ a2).cell? ⟨g, j * 4 + 3, none⟩ = some (.slice (some ⟨c, 0, none⟩) ps.length cp) := fun a0 a1 a2 => by rw [World.cell?_setCell_other _ _ _ _ (by simp), World.cell?_setCell_other _ _ _ _ (by simp), World.cell?_setCell_other _ _ _ _ (by simp)]; exact q3
      have HM3 := hid (fun a0 a1 a2 => (mid_set (mid_set (mid_set (HM.out) hbg hgh a0) hbg hgh a1) hbg hgh a2 : Mid base hi w (((wr.setCell ⟨g, j * 4, none⟩ a0).setCell ⟨g, j * 4 + 1, none⟩ a1).setCell ⟨g, j * 4 + 2, none⟩ a2)))
      have HT3 := hid (fun a0 a1 a2 => (there_set (there_set (there_set (HT.out) a0) a1) a2 : (((wr.setCell ⟨g, j * 4, none⟩ a0).setCell ⟨g, j * 4 + 1, none⟩ a1).setCell ⟨g, j * 4 + 2, none⟩ a2).there g 0 (n * 4)))
      have HA3 : Hid (∀ a0 a1 a2 i (h : i < xs.length), i < j → ElX KC (((wr.setCell ⟨g, j * 4, none⟩ a0).setCell ⟨g, j * 4 + 1, none⟩ a1).setCell ⟨g, j * 4 + 2, none⟩ a2) g i (mke (kkc k0 xs i) xs[i]) (ss i) (lo i) (up i)) := hid (fun a0 a1 a2 i h h1 => ((((HA.out i h h1).set (HC.out i h).2.2 (by show _ < i * 4 ∨ i * 4 + 4 ≤ _; omega) a0).set (HC.out i h).2.2 (by show _ < i * 4 ∨ i * 4 + 4 ≤ _; omega) a1).set (HC.out i h).2.2 (by show _ < i * 4 ∨ i * 4 + 4 ≤ _; omega) a2))
      have HZ3 : Hid (∀ a0 a1 a2 i (h : i < xs.length), j + 1 ≤ i → ElX KC (((wr.setCell ⟨g, j * 4, none⟩ a0).setCell ⟨g, j * 4 + 1, none⟩ a1).setCell ⟨g, j * 4 + 2, none⟩ a2) g i xs[i] (ss i) (lo i) (up i)) := hid (fun a0 a1 a2 i h h1 => ((((HZ.out i h (by omega)).set (HC.out i h).2.2 (by show _ < i * 4 ∨ i * 4 + 4 ≤ _; omega) a0).set (HC.out i h).2.2 (by show _ < i * 4 ∨ i * 4 + 4 ≤ _; omega) a1).set (HC.out i h).2.2 (by show _ < i * 4 ∨ i * 4 + 4 ≤ _; omega) a2))
      have x0 : ∀ a0 a1 a2, (((wr.setCell ⟨g, j * 4, none⟩ a0).setCell ⟨g, j * 4 + 1, none⟩ a1).setCell ⟨g, j * 4 + 2, none⟩ a2).cell? ⟨g, j * 4, none⟩ = some a0 := fun a0 a1 a2 => by rw [World.cell?_setCell_other _ _ _ _ (by simp), World.cell?_setCell_other _ _ _ _ (by simp)]; exact World.cell?_setCell_same _ _ _ z0
      have x1 : ∀ a0 a1 a2, (((wr.setCell ⟨g, j * 4, none⟩ a0).setCell ⟨g, j * 4 + 1, none⟩ a1).setCell ⟨g, j * 4 + 2, none⟩ a2).cell? ⟨g, j * 4 + 1, none⟩ = some a1 := fun a0 a1 a2 => by rw [World.cell?_setCell_other _ _ _ _ (by simp)]; exact World.cell?_setCell_same _ _ _ (z1' a0)
      have x2 : ∀ a0 a1 a2, (((wr.setCell ⟨g, j * 4, none⟩ a0).setCell ⟨g, j * 4 + 1, none⟩ a1).setCell ⟨g, j * 4 + 2, none⟩ a2).cell? ⟨g, j * 4 + 2, none⟩ = some a2 := fun a0 a1 a2 => by exact World.cell?_setCell_same _ _ _ (z2' a0 a1)
      have HX := hid (fun a0 a1 a2 => (⟨x0 a0 a1 a2, x1 a0 a1 a2, x2 a0 a1 a2, zl' a0 a1 a2⟩ : (((wr.setCell ⟨g, j * 4, none⟩ a0).setCell ⟨g, j * 4 + 1, none⟩ a1).setCell ⟨g, j * 4 + 2, none⟩ a2).cell? ⟨g, j * 4, none⟩ = some a0 ∧ (((wr.setCell ⟨g, j * 4, none⟩ a0).setCell ⟨g, j * 4 + 1, none⟩ a1).setCell ⟨g, j * 4 + 2, none⟩ a2).cell? ⟨g, j * 4 + 1, none⟩ = some a1 ∧ (((wr.setCell ⟨g, j * 4, none⟩ a0).setCell ⟨g, j * 4 + 1, none⟩ a1).setCell ⟨g, j * 4 + 2, none⟩ a2).cell? ⟨g, j * 4 + 2, none⟩ = some a2 ∧ (((wr.setCell ⟨g, j * 4, none⟩ a0).setCell ⟨g, j * 4 + 1, none⟩ a1).setCell ⟨g, j * 4 + 2, none⟩ a2).cell? ⟨g, j * 4 + 3, none⟩ = some (.slice (some ⟨c, 0, none⟩) ps.length cp)))
      have HP3 := hid (fun a0 a1 a2 => (own_blk b5 (by rw [Below.heap_setCell _ _ _ _ (by dsimp only; omega), Below.heap_setCell _ _ _ _ (by dsimp only; omega), Below.heap_setCell _ _ _ _ (by dsimp only; omega)]) (by simp only [World.size_setCell]; exact b5.1) : PtsOwn (((wr.setCell ⟨g, j * 4, none⟩ a0).setCell ⟨g, j * 4 + 1, none⟩ a1).setCell ⟨g, j * 4 + 2, none⟩ a2) c ps))
      have HSZ := hid (fun a0 a1 a2 => (by simp only [World.size_setCell] : (((wr.setCell ⟨g, j * 4, none⟩ a0).setCell ⟨g, j * 4 + 1, none⟩ a1).setCell ⟨g, j * 4 + 2, none⟩ a2).heap.size = wr.heap.size))
      clear b5 zc
      clear HM HT HA HZ q3 z1 y1 z2 y2 x0 x1 x2
      go_wp2_with fail
      refine (mark_ptsK _ c ps.length cp ps (k + 1 + 1 + 1) (by omega) (by omega) hnp rfl (HP3.out _ _ _)).mono ?_
      rintro e w1 ⟨rfl, hp1, hg⟩
      have hgne : some g ≠ some c := fun e => by cases e; omega
      have hsz1 := hg.size
      rw [HSZ.out] at hsz1
      have HM5 := hid (mid_grown (HM3.out (.int .i64 k) (.bool ((k + 1) % 3 == 0)) (.int .i64 (k + 1 + 1))) hg (by omega) (by omega))
      have HT5 : Hid (w1.there g 0 (n * 4)) := hid (fun i hi' => by
        obtain ⟨s1, s2⟩ := HT3.out (.int .i64 k) (.bool ((k + 1) % 3 == 0)) (.int .i64 (k + 1 + 1)) i hi'
        have hb := hg.block g (by rw [HSZ.out]; omega) hgne
        simp only [World.cell?, World.frozen?, hb]; exact ⟨s1, s2⟩)
      have HFR : Hid (∀ i, i < xs.length → i ≠ j → ∀ q, lo i ≤ q → q < up i → q < wr.heap.size → w1.heap[q]? = _) := hid (fun i hi' hne q q1 q2 q3 => hg.block q (by rw [HSZ.out]; exact q3) (fun e => by cases e; have := HDJ.out i hi' hne; omega))
      have HA5 : Hid (∀ i (h : i < xs.length), i < j + 1 → ElX KC w1 g i (mke (kkc k0 xs i) xs[i]) (ss i) (lo i) (up i)) := hid (fun i h h1 => by
        by_cases e : i = j
        · subst e
          obtain ⟨s0, s1, s2, s3⟩ := HX.out (.int .i64 k) (.bool ((k + 1) % 3 == 0)) (.int .i64 (k + 1 + 1))
          rw [← HSJ.out]
          refine HMK.out w1 (fun t ht => ?_) (by rw [show k + 3 = k + 1 + 1 + 1 by omega]; exact hp1) (by omega)
          rcases (show t = 0 ∨ t = 1 ∨ t = 2 ∨ t = 3 by omega) with e | e | e | e <;> subst e
          · exact hg.cell s0 hgne
          · exact hg.cell s1 hgne
          · show _ = some (Value.int .i64 (k + 2)); rw [show k + 2 = k + 1 + 1 by omega]; exact hg.cell s2 hgne
          · exact hg.cell s3 hgne
        · have hx := HA3.out (.int .i64 k) (.bool ((k + 1) % 3 == 0)) (.int .i64 (k + 1 + 1)) i h (by omega)
          have htp := KC.top hx.2
          rw [HSZ.out] at htp
          exact hx.blk (hg.block g (by rw [HSZ.out]; omega) hgne) (fun q q1 q2 => HFR.out i h e q q1 q2 (by omega)) (by rw [HSZ.out]; exact hsz1))
      have HZ5 : Hid (∀ i (h : i < xs.length), j + 1 ≤ i → ElX KC w1 g i xs[i] (ss i) (lo i) (up i)) := hid (fun i h h1 => by
        have hx := HZ3.out (.int .i64 k) (.bool ((k + 1) % 3 == 0)) (.int .i64 (k + 1 + 1)) i h h1
        have htp := KC.top hx.2
        rw [HSZ.out] at htp
        exact hx.blk (hg.block g (by rw [HSZ.out]; omega) hgne) (fun q q1 q2 => HFR.out i h (by omega) q q1 q2 (by omega)) (by rw [HSZ.out]; exact hsz1))
      have HK5 : Hid (k + 1 + 1 + 1 + 2 * (ps.length : Int) = kkc k0 xs (j + 1)) := hid (by rw [HKN.out]; omega)
      clear hg hp1 HM3 HT3 HA3 HZ3 HX HFR HP3 HSZ zl' z1' z2' y1' y2' 
      go_wp2_with fail
      go_roundw
      case rel => exact ⟨j + 1, _, by go_num, rfl, by omega, HK5, HM5, HT5, HA5, HZ5⟩
      case measure => simp [intOf]; omega
    · obtain rfl : j = n := by omega
      have c1 : (j : Int) ≤ (j : Int) := by omega
      go_wp2_with fail
      go_ret
      obtain ⟨e1, e2⟩ := HF.out wr k HKJ.out HM.out HT.out HA.out
      exact ⟨e1, e2, HM.out⟩
end Go.Proofs.YtjhnfbefgjoiiaaGreat
