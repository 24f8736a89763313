/- Texts of stores, joined: Mb, Mc, Md. -/
import Derived.Test.YtfjmbbjcghopgaaGreatDoorJ49
import Derived.Test.YtfjmbbjcghopgaaGreatDoorJ44
import Derived.Test.YtfjmbbjcghopgaaGreatDoorJ17
namespace Go.Proofs.YtfjmbbjcghopgaaGreatDoor
open Go.RowKit
set_option linter.unusedSimpArgs false
set_option linter.unusedVariables false
def AQ (W : World) (now : Int) (rs : List Rw) (cs : List Ch) (t8 t9 : Value) (wx : World) : Prop := ∃ (X : Nat) (a : Option Addr) (c b h : Nat) (xs : List El), t8 = .pointer (some ⟨X, 0, none⟩) ∧ t9 = .bool (apb now rs cs) ∧ W.heap.size ≤ X ∧ wx.heap[X]? = some (.cells #[.int .i64 (apnow now rs cs), .slice a (aprs now rs cs).length c] 24 (0, 0)) ∧ RowsX b h wx (.slice a (aprs now rs cs).length c) (aprs now rs cs) xs ∧ Below W.heap.size W wx
theorem rpa_mk {w wf : World} {r : Int × List Rw × Nat} {now : Int} {ra : Option Addr} {rc i : Nat} {rs : List Rw} (h : r = (now, rs, i)) (hr : Rws (fun _ => True) wf ra rs) (hb : Below w.heap.size w wf) : RPA w r (.returned (.tuple #[.agg #[.int .i64 now, .slice ra rs.length rc], .int .i64 i])) wf := by
  subst h
  exact ⟨ra, rc, rfl, hr, hb⟩
theorem Pts.off2 {w w' : World} {a : Option Addr} {ps : List (Int × Int)} {Q : Nat} {x y : Value} {t : TypeId} (h : Pts w a ps) (hq : w.heap[Q]? = some (.cells #[x, y] t (0, 0))) (hy : ∀ i, y ≠ .int .i64 i) (hf : ∀ b, b ≠ Q → w'.heap[b]? = w.heap[b]?) (hs : w.heap.size ≤ w'.heap.size) : Pts w' a ps := by
  have c1 : w.cell? ⟨Q, 1, none⟩ = some y := by simp [World.cell?, hq]
  have c3 : ∀ k, w.cell? ⟨Q, k + 2, none⟩ = none := fun k => by simp [World.cell?, hq]
  rcases h with k7 | ⟨c, off, e2, hc2, k7⟩
  · exact .inl k7
  · cases ps with
    | nil => exact .inl rfl
    | cons p0 pr =>
    have hcQ : c ≠ Q := by
      intro e3
      subst e3
      obtain ⟨m0, m1⟩ := k7 0 (by simp)
      have hlt : off + 0 * 2 + 1 < 2 := by
        rcases Nat.lt_or_ge (off + 0 * 2 + 1) 2 with q | q
        · exact q
        · have := c3 (off + 0 * 2 + 1 - 2)
          rw [show off + 0 * 2 + 1 - 2 + 2 = off + 0 * 2 + 1 by omega] at this
          rw [this] at m1
          cases m1
      rcases (show off = 0 ∨ off = 1 by omega) with q | q
      · subst q
        have m1' : w.cell? ⟨c, 1, none⟩ = _ := m1
        rw [c1] at m1'
        exact hy _ (Option.some.inj m1')
      · subst q
        have m0' : w.cell? ⟨c, 1, none⟩ = _ := m0
        rw [c1] at m0'
        exact hy _ (Option.some.inj m0')
    refine .inr ⟨c, off, e2, by omega, fun k hk => ?_⟩
    obtain ⟨m0, m1⟩ := k7 k hk
    have hcc : ∀ k, w'.cell? ⟨c, k, none⟩ = w.cell? ⟨c, k, none⟩ := fun k => World.cell?_of_block (w := w) (hf c hcQ)
    exact ⟨by rw [hcc]; exact m0, by rw [hcc]; exact m1⟩
/-- Rows do not lie in a block that holds a store. -/
theorem Rws.off2 {N : Nat → Prop} {w w' : World} {a : Option Addr} {rs : List Rw} {Q : Nat} {x y : Value} {t : TypeId} (h : Rws N w a rs) (hq : w.heap[Q]? = some (.cells #[x, y] t (0, 0))) (hy : ∀ i, y ≠ .int .i64 i) (hf : ∀ b, b ≠ Q → w'.heap[b]? = w.heap[b]?) (hs : w.heap.size ≤ w'.heap.size) : Rws N w' a rs := by
  have c1 : w.cell? ⟨Q, 1, none⟩ = some y := by simp [World.cell?, hq]
  have c3 : ∀ k, w.cell? ⟨Q, k + 2, none⟩ = none := fun k => by simp [World.cell?, hq]
  rcases h with h | ⟨b, o, e, hb, h⟩
  · exact .inl h
  · cases rs with
    | nil => exact .inl rfl
    | cons r0 rr =>
    have hbQ : b ≠ Q := by
      intro e
      subst e
      obtain ⟨_, _, _, _, _, _, h4, _⟩ := h 0 (by simp)
      have := c3 (o + 0 * 5 + 2)
      rw [show o + 0 * 5 + 2 + 2 = o + 0 * 5 + 4 by omega] at this
      rw [this] at h4
      cases h4
    refine .inr ⟨b, o, e, by omega, fun j hj => ?_⟩
    obtain ⟨a', cap', k0, k1, k2, k3, k4, k5, k6, k7, k8⟩ := h j hj
    have hc : ∀ k, w'.cell? ⟨b, k, none⟩ = w.cell? ⟨b, k, none⟩ := fun k => World.cell?_of_block (w := w) (hf b hbQ)
    refine ⟨a', cap', by rw [hc]; exact k0, by rw [hc]; exact k1, by rw [hc]; exact k2, by rw [hc]; exact k3, by rw [hc]; exact k4, k5, k6, ?_, k8⟩
    rcases k7 with k7 | ⟨c, off, e2, hc2, k7⟩
    · exact .inl k7
    · cases hps : ((r0 :: rr)[j]).2.2.2.2 with
      | nil => exact .inl rfl
      | cons p0 pr =>
      rw [hps] at k7
      have hcQ : c ≠ Q := by
        intro e3
        subst e3
        obtain ⟨m0, m1⟩ := k7 0 (by simp)
        have hlt : off + 0 * 2 + 1 < 2 := by
          rcases Nat.lt_or_ge (off + 0 * 2 + 1) 2 with q | q
          · exact q
          · have := c3 (off + 0 * 2 + 1 - 2)
            rw [show off + 0 * 2 + 1 - 2 + 2 = off + 0 * 2 + 1 by omega] at this
            rw [this] at m1
            cases m1
        rcases (show off = 0 ∨ off = 1 by omega) with q | q
        · subst q
          have m1' : w.cell? ⟨c, 1, none⟩ = _ := m1
          rw [c1] at m1'
          exact hy _ (Option.some.inj m1')
        · subst q
          have m0' : w.cell? ⟨c, 1, none⟩ = _ := m0
          rw [c1] at m0'
          exact hy _ (Option.some.inj m0')
      refine .inr ⟨c, off, e2, by omega, fun k hk => ?_⟩
      obtain ⟨m0, m1⟩ := k7 k hk
      have hcc : ∀ k, w'.cell? ⟨c, k, none⟩ = w.cell? ⟨c, k, none⟩ := fun k => World.cell?_of_block (w := w) (hf c hcQ)
      exact ⟨by rw [hcc]; exact m0, by rw [hcc]; exact m1⟩
theorem RwsG.off2 {w w' : World} {a : Option Addr} {rs : List Rw} {Q : Nat} {x y : Value} {t : TypeId} (h : RwsG w a rs) (hq : w.heap[Q]? = some (.cells #[x, y] t (0, 0))) (hy : ∀ i, y ≠ .int .i64 i) (hf : ∀ b, b ≠ Q → w'.heap[b]? = w.heap[b]?) (hs : w.heap.size ≤ w'.heap.size) : RwsG w' a rs := by
  have c3 : ∀ k, w.cell? ⟨Q, k + 2, none⟩ = none := fun k => by simp [World.cell?, hq]
  rcases h with h | ⟨B, e, hB, h⟩
  · exact .inl h
  · cases rs with
    | nil => exact .inl rfl
    | cons r0 rr =>
    have hbQ : B ≠ Q := by
      intro e
      subst e
      obtain ⟨_, _, _, _, _, _, _, h4, _⟩ := h 0 (by simp)
      have := c3 (0 * 5 + 2)
      rw [show 0 * 5 + 2 + 2 = 0 * 5 + 4 by omega] at this
      rw [this] at h4
      cases h4
    have hc : ∀ k, w'.cell? ⟨B, k, none⟩ = w.cell? ⟨B, k, none⟩ := fun k => World.cell?_of_block (w := w) (hf B hbQ)
    refine .inr ⟨B, e, by omega, fun j hj => ?_⟩
    obtain ⟨c, cp, k0, k1, k2, k3, k4, k5, k6, k7⟩ := h j hj
    exact ⟨c, cp, by omega, by rw [hc]; exact k1, by rw [hc]; exact k2, by rw [hc]; exact k3, by rw [hc]; exact k4, by rw [hc]; exact k5, k6, k7.off2 hq hy hf hs⟩
set_option maxRecDepth 100000 in
set_option maxHeartbeats 8000000 in
theorem spec_Replay (s : ByteArray) (hs : s.size ≤ 1048576) (w : World) : Calls Tryz.prog 4 #[.string s] w fun e w' => RPA w (rpl 0 [] (recs s).1 0) e w' := by
  have CR := hid (fun W => spec_Records s hs W)
  unfold GRA at CR
  have hlen := recs_len s
  have hlist := recs_lens s
  generalize (recs s).1 = xss at *
  generalize (recs s).2 = en at *
  have hB0 : Below w.heap.size w ((w.alloc (.cells #[.int .i64 0, .slice none 0 0] 24)).alloc (.cells #[.int .i64 0, .slice none 0 0] 24)) := balloc (balloc (Below.refl _ _) _) _
  have g2 := old_alloc (o' := .cells #[.int .i64 0, .slice none 0 0] 24) (new_alloc w w.heap.size (.cells #[.int .i64 0, .slice none 0 0] 24) rfl)
  have g4 := new_alloc (w.alloc (.cells #[.int .i64 0, .slice none 0 0] 24)) (w.heap.size + 1) (.cells #[.int .i64 0, .slice none 0 0] 24) (by simp)
  go_enter Tryz.func4, Tryz.ntmps4
  go_upto_region 2 with fail
  generalize (w.alloc (.cells #[.int .i64 0, .slice none 0 0] 24)).alloc (.cells #[.int .i64 0, .slice none 0 0] 24) = W0 at *
  have hW0 : w.heap.size + 2 ≤ W0.heap.size := by have := lt_of_block g4; omega
  go_wp2_with fail
  refine (CR.out _).mono ?_
  rintro e y1 ⟨aa, ac, rfl, hAll, hb1⟩
  replace g2 := keepheap2 hb1 g2
  replace g4 := keepheap2 hb1 g4
  have HL := hid (lc_mono hAll hW0)
  have B1 := hid (btrans hB0 hb1)
  clear hAll hb1 hB0 CR
  obtain ⟨n, hn⟩ : ∃ n, n = xss.length := ⟨_, rfl⟩
  have HN := hid hn.symm
  rw [← hn] at hlen HL ⊢
  clear hn
  generalize y1.heap.size = hi at *
  go_wp2_with fail
  go_loopw [7] (fun ti wr => ∃ (i : Nat) (now : Int) (ra : Option Addr) (rc : Nat) (rs : List Rw), ti = .int .i64 i ∧ i ≤ n ∧ Hid (RP xss now rs i) ∧ Hid (wr.heap[w.heap.size]? = some (.cells #[.int .i64 0, .slice none 0 0] 24 (0, 0))) ∧ Hid (wr.heap[w.heap.size + 1]? = some (.cells #[.int .i64 now, .slice ra rs.length rc] 24 (0, 0))) ∧ Hid (Rws (fun _ => True) wr ra rs) ∧ Hid (RwsG wr ra rs) ∧ Hid (LC KL (w.heap.size + 2) hi wr (.slice aa n ac) xss) ∧ Hid (Below w.heap.size w wr)) (fun ti _ => n - (intOf ti).toNat)
  case atStart => exact ⟨0, 0, none, 0, [], rfl, Nat.zero_le _, hid (RP.zero xss), hid g2, hid g4, hid (.inl rfl), hid (.inl rfl), HL, B1⟩
  case round =>
    clear g2 g4 HL B1
    obtain ⟨i, now, ra, rc, rs, rfl, hi', HRP, G2, G4, HR, HG, HL, HB⟩ := hrel
    have hrl := rowsb_len HRP.out.2
    obtain ⟨d0, d1, _, _⟩ := cell2f G4.out
    have hwl := lt_of_block G4.out
    by_cases hlt : i < n
    · have c1 : (i : Int) < (n : Int) := by omega
      have hir : i < xss.length := by rw [HN.out]; exact hlt
      obtain ⟨b1, o1, ea, hb1, hall1⟩ : ∃ b o, aa = some ⟨b, o, none⟩ ∧ b < wr.heap.size ∧ ∀ j (h : j < xss.length), ∃ (a' : Option Addr) (cap' : Nat) (N : Nat → Prop), wr.cell? ⟨b, o + j, none⟩ = some (.slice a' xss[j].length cap') ∧ Chs N 1099511627776 wr a' xss[j] := by
        rcases HL.out.csl with q | q
        · rw [q] at hir; simp at hir
        · exact q
      subst ea
      obtain ⟨a1, c1', N1, k1, q1⟩ := hall1 i hir
      have HAP := hid (fun (W : World) (hb : Below wr.heap.size wr W) => (spec_ApplyG now ra rc rs a1 c1' xss[i] W (by omega) (HG.out.below hb) (HR.out.below hb) (Nat.le_trans (hlist i hir) (by decide)) (q1.below hb)).mono (fun e w' h => APR.form h))
      unfold APS at HAP
      have HNO := hid (fun (h : apb now rs xss[i] = false) => HRP.out.no hir h)
      have HNX := hid (fun (h : apb now rs xss[i] = true) => HRP.out.next hir h)
      clear hall1 q1
      obtain ⟨cs, hcs⟩ : ∃ cs, cs = xss[i] := ⟨_, rfl⟩
      rw [← hcs] at k1 HAP HNO HNX
      clear hcs
      obtain ⟨np, hnp⟩ : ∃ np, np = cs.length := ⟨_, rfl⟩
      rw [← hnp] at k1 HAP
      clear hnp
      have HAN := hid (show apb now rs cs = true → apnow now rs cs = now + 1 ∧ aprs now rs cs = apl (now + 1) rs cs from fun h => by unfold apnow aprs; rw [if_pos h, if_pos h]; exact ⟨rfl, rfl⟩)
      go_upto_region 6 with fail
      go_cut [8, 9] (fun t8 t9 wx => AQ wr now rs cs t8 t9 wx)
      case first =>
        have AQM : Hid (∀ (X : Nat) (a : Option Addr) (c b h : Nat) (xs : List El) (wx : World), wr.heap.size ≤ X → wx.heap[X]? = some (.cells #[.int .i64 (apnow now rs cs), .slice a (aprs now rs cs).length c] 24 (0, 0)) → RowsX b h wx (.slice a (aprs now rs cs).length c) (aprs now rs cs) xs → Below wr.heap.size wr wx → AQ wr now rs cs (.pointer (some ⟨X, 0, none⟩)) (.bool (apb now rs cs)) wx) := hid (fun X a c b h xs wx h1 h2 h3 h4 => ⟨X, a, c, b, h, xs, rfl, rfl, h1, h2, h3, h4⟩)
        clear HNO HNX HAN
        generalize apb now rs cs = ab at *
        generalize apnow now rs cs = nw at *
        generalize aprs now rs cs = qs at *
        obtain ⟨nq, hnq⟩ : ∃ nq, nq = qs.length := ⟨_, rfl⟩
        rw [← hnq] at HAP AQM
        clear hnq
        generalize rs.length = nr at *
        refine wp_region_held_drew (S := (fun w' => w'.cell? ⟨w.heap.size + 1, 0, none⟩ = some (.int .i64 now) ∧ w'.cell? ⟨w.heap.size + 1, 1, none⟩ = some (.slice ra nr rc) ∧ w'.cell? ⟨b1, o1 + i, none⟩ = some (.slice a1 np c1'))) (by kernel_rfl) ?_ (fun hHeld => ?_)
        · (repeat' apply And.intro) <;> (repeat (first | with_reducible assumption | with_reducible refine keepset ?_ (by dsimp only; omega) | with_reducible refine keepdrew ?_ | with_reducible refine keepalloc ?_ _ | with_reducible refine keepcell (by with_reducible assumption) ?_))
        replace d0 : wr.drew.cell? ⟨w.heap.size + 1, 0, none⟩ = _ := d0
        replace d1 : wr.drew.cell? ⟨w.heap.size + 1, 1, none⟩ = _ := d1
        replace k1 : wr.drew.cell? ⟨b1, o1 + i, none⟩ = _ := k1
        have hB0 := bdrew (Below.refl wr.heap.size wr)
        have hb1' : b1 < wr.drew.heap.size := hb1
        have hV0 : wr.heap.size ≤ wr.drew.heap.size := Nat.le_refl _
        generalize wr.drew = V0 at *
        refine wpAnyH_take (i := 0) (v := ?_) rfl (by kernel_rfl) (by kernel_rfl) (by kernel_rfl) (fun _ _ _ h => h) (Or.inl ⟨by rfl, ?_⟩) hHeld ?_
        rotate_left
        · intro w hSw; (try dsimp only at hSw); go_simp; try (with_reducible rfl)
        try simp only [sq]
        refine wpAnyH_take (i := 1) (v := ?_) rfl (by kernel_rfl) (by kernel_rfl) (by kernel_rfl) (fun _ _ _ h => h) (Or.inl ⟨by rfl, ?_⟩) hHeld ?_
        rotate_left
        · intro w hSw; (try dsimp only at hSw); go_simp; try (with_reducible rfl)
        try simp only [sq]
        refine wpAnyH_take (i := 2) (v := ?_) rfl (by kernel_rfl) (by kernel_rfl) (by kernel_rfl) (fun _ _ _ h => h) (Or.inl ⟨by rfl, ?_⟩) hHeld ?_
        rotate_left
        · intro w hSw; (try dsimp only at hSw); go_simp; try (with_reducible rfl)
        try simp only [sq]
        refine wpAnyH_take (i := 3) (v := ?_) rfl (by kernel_rfl) (by kernel_rfl) (by kernel_rfl) (fun _ _ _ h => h) (Or.inl ⟨by rfl, ?_⟩) hHeld ?_
        rotate_left
        · intro w hSw; (try dsimp only at hSw); go_simp; try (with_reducible rfl)
        try simp only [sq]
        refine wpAnyH_take (i := 4) (v := ?_) rfl (by kernel_rfl) (by kernel_rfl) (by kernel_rfl) (fun _ _ _ h => h) (Or.inl ⟨by rfl, ?_⟩) hHeld ?_
        rotate_left
        · intro w hSw; (try dsimp only at hSw); go_simp; try (with_reducible rfl)
        try simp only [sq]
        refine wpAnyH_ready (rs := [5, 9]) (by kernel_rfl) (by simp) ?_
        refine (AllReadyH.cons rfl (fun K hK => ?_) (AllReadyH.cons rfl (fun K hK => ?_) AllReadyH.nil))
        · skip
          try simp only [sq]
          go_simp
          go_at_call 10
          refine (HAP.out _ hB0).mono ?_
          rintro e y ⟨ga, gc, gx, rfl, hX, hy⟩
          replace d0 := keepcell hy d0
          replace d1 := keepcell hy d1
          replace k1 := keepcell hy k1
          have hyz := hy.size
          have hBy := btrans hB0 hy
          generalize V0.heap.size = xlo at *
          go_wp2_with fail
          refine hK.out _ _ ?_ (fun hHeld => ?_)
          · (repeat' apply And.intro) <;> (repeat (first | with_reducible assumption | with_reducible refine keepset ?_ (by dsimp only; omega) | with_reducible refine keepdrew ?_ | with_reducible refine keepalloc ?_ _ | with_reducible refine keepcell (by with_reducible assumption) ?_))
          clear hK K
          try simp only [sq]
          refine wpAnyH_take (i := 6) (v := ?_) rfl (by kernel_rfl) (by kernel_rfl) (by kernel_rfl) (fun _ _ _ h => h) (Or.inl ⟨by rfl, ?_⟩) hHeld ?_
          rotate_left
          · intro w hSw; (try dsimp only at hSw); go_simp; try (with_reducible rfl)
          try simp only [sq]
          refine wpAnyH_take (i := 7) (v := ?_) rfl (by kernel_rfl) (by kernel_rfl) (by kernel_rfl) (fun _ _ _ h => h) (Or.inl ⟨by rfl, ?_⟩) hHeld ?_
          rotate_left
          · intro w hSw; (try dsimp only at hSw); go_simp; try (with_reducible rfl)
          try simp only [sq]
          refine wpAnyH_take (i := 8) (v := ?_) rfl (by kernel_rfl) (by kernel_rfl) (by kernel_rfl) (fun _ _ _ h => h) (Or.inl ⟨by rfl, ?_⟩) hHeld ?_
          rotate_left
          · intro w hSw; (try dsimp only at hSw); go_simp; try (with_reducible rfl)
          try simp only [sq]
          refine wpAnyH_ready (rs := [9]) (by kernel_rfl) (by simp) ?_
          refine (AllReadyH.cons rfl (fun K hK => ?_) AllReadyH.nil)
          try simp only [sq]
          go_simp
          refine hK.out _ _ ?_ (fun hHeld => ?_)
          · (repeat' apply And.intro) <;> (repeat (first | with_reducible assumption | with_reducible refine keepset ?_ (by dsimp only; omega) | with_reducible refine keepdrew ?_ | with_reducible refine keepalloc ?_ _ | with_reducible refine keepcell (by with_reducible assumption) ?_))
          clear hK K
          try simp only [sq]
          have gB := new_alloc y y.heap.size (.cells #[.int .i64 0, .slice none 0 0] 24) rfl
          have hal : Below y.heap.size y (y.alloc (.cells #[.int .i64 0, .slice none 0 0] 24)) := balloc (Below.refl _ _) _
          replace d0 := keepcell hal d0
          replace d1 := keepcell hal d1
          replace k1 := keepcell hal k1
          have hBa := btrans hBy hal
          have hsa : (y.alloc (.cells #[.int .i64 0, .slice none 0 0] 24)).heap.size = y.heap.size + 1 := by simp
          have hsa1 := Nat.le_of_eq hsa
          have hsa2 := Nat.le_of_eq hsa.symm
          clear hsa
          replace hX := (hX.below hal)
          clear hal
          generalize y.alloc (.cells #[.int .i64 0, .slice none 0 0] 24) = Z at *
          obtain ⟨xb, hxb⟩ : ∃ xb, xb = y.heap.size := ⟨_, rfl⟩
          rw [← hxb] at gB ⊢
          have hxb1 := Nat.le_of_eq hxb
          have hxb2 := Nat.le_of_eq hxb.symm
          clear hxb
          refine wpAnyH_ready (rs := [10]) (by kernel_rfl) (by simp) ?_
          refine (AllReadyH.cons rfl (fun K hK => ?_) AllReadyH.nil)
          obtain ⟨v0, v1, s0, s1⟩ := cell2f gB
          try simp only [sq]
          go_simp
          refine hK.out _ _ ?_ (fun hHeld => ?_)
          · (repeat' apply And.intro) <;> (repeat (first | with_reducible assumption | with_reducible refine keepset ?_ (by dsimp only; omega) | with_reducible refine keepdrew ?_ | with_reducible refine keepalloc ?_ _ | with_reducible refine keepcell (by with_reducible assumption) ?_))
          clear hK K
          try simp only [sq]
          refine wpAnyH_take (i := 11) (v := ?_) rfl (by kernel_rfl) (by kernel_rfl) (by kernel_rfl) (fun _ _ _ h => h) (Or.inl ⟨by rfl, ?_⟩) hHeld ?_
          rotate_left
          · intro w hSw; (try dsimp only at hSw); go_simp; try (with_reducible rfl)
          try simp only [sq]
          refine wpAnyH_done (by kernel_rfl) ?_ _
          have gF := set2r gB (.int .i64 nw) (.slice ga nq gc)
          have hfar : ∀ b, b ≠ xb → ((Z.setCell ⟨xb, 0, none⟩ (.int .i64 nw)).setCell ⟨xb, 1, none⟩ (.slice ga nq gc)).heap[b]? = Z.heap[b]? := fun b hb => by rw [Below.heap_setCell _ _ _ _ (by dsimp only; omega), Below.heap_setCell _ _ _ _ (by dsimp only; omega)]
          have hXF := hX.frame (w' := (Z.setCell ⟨xb, 0, none⟩ (.int .i64 nw)).setCell ⟨xb, 1, none⟩ (.slice ga nq gc)) (fun b h1 h2 => hfar b (by have := hX.2.2.2.1; omega)) (by simp)
          have hBF := bset (bset hBa (q := xb) (k := 0) (by omega) (.int .i64 nw)) (q := xb) (k := 1) (by omega) (.slice ga nq gc)
          go_wp2_with fail
          go_meet
          exact AQM.out xb ga gc _ _ gx _ (by omega) gF hXF hBF
        · skip
          try simp only [sq]
          go_simp
          refine hK.out _ _ ?_ (fun hHeld => ?_)
          · (repeat' apply And.intro) <;> (repeat (first | with_reducible assumption | with_reducible refine keepset ?_ (by dsimp only; omega) | with_reducible refine keepdrew ?_ | with_reducible refine keepalloc ?_ _ | with_reducible refine keepcell (by with_reducible assumption) ?_))
          clear hK K
          try simp only [sq]
          have gB := new_alloc V0 V0.heap.size (.cells #[.int .i64 0, .slice none 0 0] 24) rfl
          have hal : Below V0.heap.size V0 (V0.alloc (.cells #[.int .i64 0, .slice none 0 0] 24)) := balloc (Below.refl _ _) _
          replace d0 := keepcell hal d0
          replace d1 := keepcell hal d1
          replace k1 := keepcell hal k1
          have hBa := btrans hB0 hal
          have hsa : (V0.alloc (.cells #[.int .i64 0, .slice none 0 0] 24)).heap.size = V0.heap.size + 1 := by simp
          have hsa1 := Nat.le_of_eq hsa
          have hsa2 := Nat.le_of_eq hsa.symm
          clear hsa
          clear hal
          generalize V0.alloc (.cells #[.int .i64 0, .slice none 0 0] 24) = Z at *
          obtain ⟨xb, hxb⟩ : ∃ xb, xb = V0.heap.size := ⟨_, rfl⟩
          rw [← hxb] at gB ⊢
          have hxb1 := Nat.le_of_eq hxb
          have hxb2 := Nat.le_of_eq hxb.symm
          clear hxb
          refine wpAnyH_ready (rs := [5]) (by kernel_rfl) (by simp) ?_
          refine (AllReadyH.cons rfl (fun K hK => ?_) AllReadyH.nil)
          try simp only [sq]
          go_simp
          go_at_call 10
          refine (HAP.out _ hBa).mono ?_
          rintro e y ⟨ga, gc, gx, rfl, hX, hy⟩
          replace d0 := keepcell hy d0
          replace d1 := keepcell hy d1
          replace k1 := keepcell hy k1
          have hyz := hy.size
          replace gB := keepheap2 hy gB
          have hBy := btrans hBa hy
          generalize Z.heap.size = xlo at *
          go_wp2_with fail
          refine hK.out _ _ ?_ (fun hHeld => ?_)
          · (repeat' apply And.intro) <;> (repeat (first | with_reducible assumption | with_reducible refine keepset ?_ (by dsimp only; omega) | with_reducible refine keepdrew ?_ | with_reducible refine keepalloc ?_ _ | with_reducible refine keepcell (by with_reducible assumption) ?_))
          clear hK K
          try simp only [sq]
          refine wpAnyH_take (i := 6) (v := ?_) rfl (by kernel_rfl) (by kernel_rfl) (by kernel_rfl) (fun _ _ _ h => h) (Or.inl ⟨by rfl, ?_⟩) hHeld ?_
          rotate_left
          · intro w hSw; (try dsimp only at hSw); go_simp; try (with_reducible rfl)
          try simp only [sq]
          refine wpAnyH_take (i := 7) (v := ?_) rfl (by kernel_rfl) (by kernel_rfl) (by kernel_rfl) (fun _ _ _ h => h) (Or.inl ⟨by rfl, ?_⟩) hHeld ?_
          rotate_left
          · intro w hSw; (try dsimp only at hSw); go_simp; try (with_reducible rfl)
          try simp only [sq]
          refine wpAnyH_take (i := 8) (v := ?_) rfl (by kernel_rfl) (by kernel_rfl) (by kernel_rfl) (fun _ _ _ h => h) (Or.inl ⟨by rfl, ?_⟩) hHeld ?_
          rotate_left
          · intro w hSw; (try dsimp only at hSw); go_simp; try (with_reducible rfl)
          try simp only [sq]
          refine wpAnyH_ready (rs := [10]) (by kernel_rfl) (by simp) ?_
          refine (AllReadyH.cons rfl (fun K hK => ?_) AllReadyH.nil)
          obtain ⟨v0, v1, s0, s1⟩ := cell2f gB
          try simp only [sq]
          go_simp
          refine hK.out _ _ ?_ (fun hHeld => ?_)
          · (repeat' apply And.intro) <;> (repeat (first | with_reducible assumption | with_reducible refine keepset ?_ (by dsimp only; omega) | with_reducible refine keepdrew ?_ | with_reducible refine keepalloc ?_ _ | with_reducible refine keepcell (by with_reducible assumption) ?_))
          clear hK K
          try simp only [sq]
          refine wpAnyH_take (i := 11) (v := ?_) rfl (by kernel_rfl) (by kernel_rfl) (by kernel_rfl) (fun _ _ _ h => h) (Or.inl ⟨by rfl, ?_⟩) hHeld ?_
          rotate_left
          · intro w hSw; (try dsimp only at hSw); go_simp; try (with_reducible rfl)
          try simp only [sq]
          refine wpAnyH_done (by kernel_rfl) ?_ _
          have gF := set2r gB (.int .i64 nw) (.slice ga nq gc)
          have hfar : ∀ b, b ≠ xb → ((y.setCell ⟨xb, 0, none⟩ (.int .i64 nw)).setCell ⟨xb, 1, none⟩ (.slice ga nq gc)).heap[b]? = y.heap[b]? := fun b hb => by rw [Below.heap_setCell _ _ _ _ (by dsimp only; omega), Below.heap_setCell _ _ _ _ (by dsimp only; omega)]
          have hXF := hX.frame (w' := (y.setCell ⟨xb, 0, none⟩ (.int .i64 nw)).setCell ⟨xb, 1, none⟩ (.slice ga nq gc)) (fun b h1 h2 => hfar b (by have := hX.2.2.2.1; omega)) (by simp)
          have hBF := bset (bset hBy (q := xb) (k := 0) (by omega) (.int .i64 nw)) (q := xb) (k := 1) (by omega) (.slice ga nq gc)
          go_wp2_with fail
          go_meet
          exact AQM.out xb ga gc _ _ gx _ (by omega) gF hXF hBF
      case rest =>
        obtain ⟨X, ga, gc, bb, hh, gx, rfl, rfl, hXw, gX, hX, hbx⟩ := hcut
        have G2x := keepheap2 hbx G2.out
        have G4x := keepheap2 hbx G4.out
        have HRx := hid (HR.out.below hbx)
        have HGx := hid (HG.out.below hbx)
        have HLx := hid (HL.out.below hbx)
        have HBx := hid (btrans HB.out hbx)
        clear HR HG HL HB G2 G4 d0 d1 k1 HAP
        obtain ⟨d0, d1, e0, e1⟩ := cell2f G4x
        obtain ⟨x0, x1, _, _⟩ := cell2f gX
        cases hab : apb now rs cs
        · have HQ := hid (HNO.out hab)
          obtain ⟨v0, v1, u0, u1⟩ := cell2f G2x
          have gF := set2r G2x (.int .i64 now) (.slice ra rs.length rc)
          have bF := bset (bset HBx.out (q := w.heap.size) (k := 0) (Nat.le_refl _) (.int .i64 now)) (q := w.heap.size) (k := 1) (Nat.le_refl _) (.slice ra rs.length rc)
          have rF : Rws (fun _ => True) ((wc.setCell ⟨w.heap.size, 0, none⟩ (.int .i64 now)).setCell ⟨w.heap.size, 1, none⟩ (.slice ra rs.length rc)) ra rs := HRx.out.off2 G2x (fun i e => by cases e) (fun b hb => by rw [Below.heap_setCell _ _ _ _ (by dsimp only; omega), Below.heap_setCell _ _ _ _ (by dsimp only; omega)]) (by simp)
          clear HNO HNX HAN hX
          go_wp2_with fail
          generalize (wc.setCell ⟨w.heap.size, 0, none⟩ (.int .i64 now)).setCell ⟨w.heap.size, 1, none⟩ (.slice ra rs.length rc) = wf at *
          obtain ⟨z0, z1, _, _⟩ := cell2f gF
          exact bodyPost_ret (v := .tuple #[.agg #[.int .i64 now, .slice ra rs.length rc], .int .i64 i]) (by simp [results, Tryz.results4, go_sem, z0, z1]) rfl (rpa_mk HQ.out rF bF)
        · obtain ⟨ean, ear⟩ := HAN.out hab
          rw [ean, ear] at gX
          rw [ear] at hX
          rw [ean] at x0
          rw [ear] at x1
          have hro : rowsb (now + 1) (apl (now + 1) rs cs) = true := by
            have hab2 := hab
            unfold apb at hab2
            simp only [Bool.and_eq_true, decide_eq_true_eq] at hab2
            obtain ⟨⟨h1, h2⟩, h3, h4⟩ := hab2
            rw [apl_ok h3 h4]; simpa using h2
          have HRN := hid (HNX.out hab)
          have hvs : vacb (now + 1) (apl (now + 1) rs cs) (now + 1) = vst now rs cs := by unfold vacb vst; rw [if_pos hro]
          have HVC := hid (spec_VacuumG (now + 1) ga gc (apl (now + 1) rs cs) (now + 1) wc (by have := rowsb_len hro; omega) hX.rwsG hX.rws)
          rw [hvs] at HVC
          unfold VSG at HVC
          have HPS := hid (rowsb_pos HRN.out.2)
          clear HNO HNX HAN hX ean ear hro hvs HRx HGx
          generalize vst now rs cs = vs at *
          go_wp2_with fail
          refine HVC.out.mono ?_
          rintro e y ⟨va, vc, rfl, hvr, hvg, hby⟩
          have G2y := keepheap2 hby G2x
          have G4y := keepheap2 hby G4x
          have HLy := hid (HLx.out.below hby)
          have HBy := hid (btrans HBx.out hby)
          have HVG := hid (hvg HPS.out)
          have HVR := hid hvr
          clear hvr hvg hby HLx HBx d0 d1 e0 e1 x0 x1 HVC
          obtain ⟨d0, d1, e0, e1⟩ := cell2f G4y
          have hfr : ∀ b, b ≠ w.heap.size + 1 → ((y.setCell ⟨w.heap.size + 1, 0, none⟩ (.int .i64 (now + 1))).setCell ⟨w.heap.size + 1, 1, none⟩ (.slice va vs.length vc)).heap[b]? = y.heap[b]? := fun b hb => by rw [Below.heap_setCell _ _ _ _ (by dsimp only; omega), Below.heap_setCell _ _ _ _ (by dsimp only; omega)]
          have hsz : y.heap.size ≤ ((y.setCell ⟨w.heap.size + 1, 0, none⟩ (.int .i64 (now + 1))).setCell ⟨w.heap.size + 1, 1, none⟩ (.slice va vs.length vc)).heap.size := by simp
          have G4n := hid (set2r G4y (.int .i64 (now + 1)) (.slice va vs.length vc))
          have G2n := hid ((hfr w.heap.size (by omega)).trans G2y)
          have HRn := hid (HVR.out.off2 G4y (fun i e => by cases e) hfr hsz)
          have HGn := hid (HVG.out.off2 G4y (fun i e => by cases e) hfr hsz)
          have HLn := hid (HLy.out.frame (fun c h1 h2 => hfr c (by omega)) hsz)
          have HBn := hid (bset (bset HBy.out (q := w.heap.size + 1) (k := 0) (by omega) (.int .i64 (now + 1))) (q := w.heap.size + 1) (k := 1) (by omega) (.slice va vs.length vc))
          clear hfr hsz HVR HVG HLy HBy G2y G4y
          go_wp2_with fail
          go_roundw
          case rel => exact ⟨i + 1, now + 1, va, vc, vs, by go_num, by omega, HRN, G2n, G4n, HRn, HGn, HLn, HBn⟩
          case measure => simp [intOf]; omega
    · have c1 : (n : Int) ≤ (i : Int) := by omega
      have hin : i = xss.length := by have := HN.out; omega
      have HRD := HRP.out
      rw [hin] at HRD
      have HQ := hid HRD.done
      rw [HN.out] at HQ
      obtain ⟨v0, v1, u0, u1⟩ := cell2f G2.out
      have gF := set2r G2.out (.int .i64 now) (.slice ra rs.length rc)
      have bF := bset (bset HB.out (q := w.heap.size) (k := 0) (Nat.le_refl _) (.int .i64 now)) (q := w.heap.size) (k := 1) (Nat.le_refl _) (.slice ra rs.length rc)
      have rF : Rws (fun _ => True) ((wr.setCell ⟨w.heap.size, 0, none⟩ (.int .i64 now)).setCell ⟨w.heap.size, 1, none⟩ (.slice ra rs.length rc)) ra rs := HR.out.off2 G2.out (fun i e => by cases e) (fun b hb => by rw [Below.heap_setCell _ _ _ _ (by dsimp only; omega), Below.heap_setCell _ _ _ _ (by dsimp only; omega)]) (by simp)
      clear hin HRD HRP
      go_wp2_with fail
      generalize (wr.setCell ⟨w.heap.size, 0, none⟩ (.int .i64 now)).setCell ⟨w.heap.size, 1, none⟩ (.slice ra rs.length rc) = wf at *
      obtain ⟨z0, z1, _, _⟩ := cell2f gF
      exact bodyPost_ret (v := .tuple #[.agg #[.int .i64 now, .slice ra rs.length rc], .int .i64 n]) (by simp [results, Tryz.results4, go_sem, z0, z1]) rfl (rpa_mk HQ.out rF bF)
end Go.Proofs.YtfjmbbjcghopgaaGreatDoor
namespace Go.Proofs.YtfjmbbjcghopgaaGreatDoor
open Go.RowKit
set_option linter.unusedSimpArgs false
set_option linter.unusedVariables false
theorem Off.sub {p : Nat} {a : Option Addr} {n m cap : Nat} {xs ys : List El} (h : Off p (.slice a n cap) xs) (hs : ∀ x, x ∈ ys → x ∈ xs) : Off p (.slice a m cap) ys := by
  refine ⟨?_, fun j x hx => ?_⟩
  · have := h.1
    cases a with
    | none => simp [Value.ownBlock]
    | some x => simpa [Value.ownBlock] using this
  · obtain ⟨k, hk⟩ := List.getElem?_of_mem (hs x (List.mem_of_getElem? hx))
    exact h.2 k x hk
theorem del_XO (base hi : Nat) (a : Option Addr) (cap : Nat) (rs : List Rw) (xs : List El) (t : Int) (p : Nat) (w : World) (hm : rs.length ≤ 1099511627776) (h : RowsX base hi w (.slice a rs.length cap) rs xs) (hp : hi ≤ p) (hpw : p < w.heap.size) (c1 : w.cell? ⟨p, 0, none⟩ = some (.int .i64 t)) : Calls Tryz.prog 45 #[.slice a rs.length cap, .func (.func 46) #[] #[.pointer (some ⟨p, 0, none⟩)]] w fun e w' => ∃ ys, e = .returned (.slice a (rs.filter (vkeep t)).length cap) ∧ RowsX base hi w' (.slice a (rs.filter (vkeep t)).length cap) (rs.filter (vkeep t)) ys ∧ (∀ x, x ∈ ys → x ∈ xs) ∧ w.heap.size ≤ w'.heap.size ∧ (∀ b, b < w.heap.size → (Value.slice a rs.length cap).ownBlock ≠ some b → w'.heap[b]? = w.heap[b]?) ∧ (w'.os = w.os ∧ w'.tape = w.tape ∧ w'.output = w.output) := by
  rcases h.2.1.2 with ⟨q1, q2⟩ | ⟨g, c', cur, e, q1, q2⟩
  · have hr : rs = [] := List.length_eq_zero_iff.1 q2
    subst hr
    refine (del_nil a cap _ w).mono ?_
    rintro e w' ⟨rfl, rfl⟩
    exact ⟨xs, rfl, h, fun x hx => hx, Nat.le_refl _, fun _ _ _ => rfl, rfl, rfl, rfl⟩
  · cases e
    have hxl := h.1
    have hgb : base ≤ g ∧ g < hi := ⟨q1, h.2.2.1 g rfl⟩
    have hD := del_ended base g cap rs.length xs t p w hxl hm h.2.1 (by omega) hpw c1
    refine hD.mono ?_
    rintro e w' ⟨m, rfl, rfl, ho, hb⟩
    have hf := h.flt ho hb
    have hl : (xs.filter (fun x => !eend t x)).length = (rs.filter (vkeep t)).length := hf.1
    exact ⟨_, by rw [hl], hf, fun x hx => (List.mem_filter.1 hx).1, hb.1, fun b h1 h2 => hb.2.1 b h1 (fun e => h2 (by simp [Value.ownBlock, e])), hb.2.2⟩
set_option maxRecDepth 100000 in
set_option maxHeartbeats 2000000 in
theorem vac_rowsO (now : Int) (Q base hi : Nat) (a : Option Addr) (cap : Nat) (rs : List Rw) (xs : List El) (t : Int) (w0 w : World) (hm : rs.length ≤ 1099511627776) (h : RowsX base hi w (.slice a rs.length cap) rs xs) (hO : Off Q (.slice a rs.length cap) xs) (hb0 : Below w0.heap.size w0 w) (hB1 : w0.heap.size ≤ base) (hB2 : w0.heap.size ≤ Q) (gQ : w.heap[Q]? = some (.cells #[.int .i64 now, .slice a rs.length cap] 24 (0, 0))) : Calls Tryz.prog 28 #[.pointer (some ⟨Q, 0, none⟩), .int .i64 t] w fun e w' => e = .returned (.tuple #[]) ∧ ∃ ys, w'.heap[Q]? = some (.cells #[.int .i64 now, .slice a (rs.filter (vkeep t)).length cap] 24 (0, 0)) ∧ RowsX base hi w' (.slice a (rs.filter (vkeep t)).length cap) (rs.filter (vkeep t)) ys ∧ Off Q (.slice a (rs.filter (vkeep t)).length cap) ys ∧ w.heap.size ≤ w'.heap.size ∧ Below w0.heap.size w0 w' := by
  have hhi := h.2.2.2.1
  have hQw := lt_of_block gQ
  have hmf : ∀ (fn : Fn) (first cp : Array Value) (w : World), (Instr.makeFunc fn first cp).run Tryz.prog w = .ok (.func fn first cp) w := fun _ _ _ _ => rfl
  have hB : Below w.heap.size w (w.alloc (.cells #[.int .i64 t] 3)) := balloc (Below.refl _ _) _
  have gp := new_alloc w w.heap.size (.cells #[.int .i64 t] 3) rfl
  have g1 := keepheap2 hB gQ
  have hWs : w.heap.size < (w.alloc (.cells #[.int .i64 t] 3)).heap.size := by simp
  have HD := hid (del_XO base hi a cap rs xs t w.heap.size (w.alloc (.cells #[.int .i64 t] 3)) hm (h.below hB) hhi hWs (cell_of gp))
  have HOW := hid (fun b (e : (Value.slice a rs.length cap).ownBlock = some b) => (h.2.1.lt b e).1)
  have HO := hid hO
  clear h gp hO
  have HOS := hid (fun ys (hs : ∀ x, x ∈ ys → x ∈ xs) => HO.out.sub (m := (rs.filter (vkeep t)).length) hs)
  have hO1 := HO.out.1
  clear HO
  generalize (rs.filter (vkeep t)) = vs at *
  generalize rs.length = n at *
  have HO1 := hid hO1
  clear hO1
  go_enter Tryz.func28, Tryz.ntmps28
  go_upto_region 1 with fail
  generalize w.alloc (.cells #[.int .i64 t] 3) = W at *
  obtain ⟨d0, d1, f0, f1⟩ := cell2f g1
  go_wp2_with fail
  refine HD.out.mono ?_
  rintro e y ⟨ys, rfl, hX, hsub, y1, y2, y3⟩
  have g2 : y.heap[Q]? = _ := (y2 Q (by omega) HO1.out).trans g1
  clear HD d0 d1 f0 f1
  obtain ⟨d0, d1, f0, f1⟩ := cell2f g2
  have HX := hid hX
  have HOF := hid (HOS.out ys hsub)
  clear hX HOS hsub
  go_wp2_with fail
  refine bodyPost_end (results_none rfl _ _ _) rfl ?_
  have hfar : ∀ b, b ≠ Q → (y.setCell ⟨Q, 1, none⟩ (.slice a vs.length cap)).heap[b]? = y.heap[b]? := fun b hb => by rw [Below.heap_setCell _ _ _ _ (by dsimp only; omega)]
  have hWz := hB.size
  refine ⟨rfl, ys, set1r g2 _, HX.out.but HOF.out (fun c _ h2 => hfar c h2) (by simp), HOF.out, by simp; omega, ⟨?_, ?_, ?_, ?_, fun k hk => ?_⟩⟩
  · exact (y3.1.trans hB.os).trans hb0.os
  · exact (y3.2.1.trans hB.tape).trans hb0.tape
  · exact (y3.2.2.trans hB.output).trans hb0.output
  · have := hb0.size; simp; omega
  · have h1 := hb0.size
    exact (hfar k (by omega)).trans ((y2 k (by omega) (fun e => by have := HOW.out k e; omega)).trans ((hB.block k (by omega)).trans (hb0.block k hk)))
/-- What the landed side answers: rows in memory of their own. -/
def RPX (w : World) (r : Int × List Rw × Nat) (e : Ending) (w' : World) : Prop :=
  ∃ a cap xs, e = .returned (.tuple #[.agg #[.int .i64 r.1, .slice a r.2.1.length cap], .int .i64 r.2.2]) ∧ RowsX (w.heap.size + 1) w'.heap.size w' (.slice a r.2.1.length cap) r.2.1 xs ∧ Below w.heap.size w w'
theorem rpx_mk {w wf : World} {r : Int × List Rw × Nat} {now : Int} {ra : Option Addr} {rc i hi : Nat} {rs : List Rw} {xs : List El} (h : r = (now, rs, i)) (hr : RowsX (w.heap.size + 1) hi wf (.slice ra rs.length rc) rs xs) (hb : Below w.heap.size w wf) : RPX w r (.returned (.tuple #[.agg #[.int .i64 now, .slice ra rs.length rc], .int .i64 i])) wf := by
  subst h
  exact ⟨ra, rc, xs, rfl, hr.mono (Nat.le_refl _) hr.2.2.2.1 (Nat.le_refl _), hb⟩
set_option maxRecDepth 100000 in
set_option maxHeartbeats 8000000 in
theorem replayed_c (aa : Option Addr) (n ac : Nat) (xss : List (List Ch)) (w : World) (hn : xss.length = n) (hn2 : n ≤ 100000) (hl : ∀ m (h : m < xss.length), xss[m].length ≤ 100) (hc : ∀ m (h : m < xss.length), cgs xss[m] = true) (hL : CsL w aa xss) : Calls Tryz.prog 13 #[.slice aa n ac] w fun e w' => RPX w (rpl 0 [] xss 0) e w' := by
  have HN := hid hn
  have HLS := hid hL
  have HLN := hid hl
  have HCG := hid hc
  clear hn hL hl hc
  obtain ⟨w1, hw1⟩ : ∃ w1, w1 = w.alloc (.cells #[.int .i64 0, .slice none 0 0] 24) := ⟨_, rfl⟩
  have hs1 : w1.heap.size = w.heap.size + 1 := by rw [hw1]; simp
  have hbw1 : Below w.heap.size w w1 := by rw [hw1]; exact balloc (Below.refl _ _) _
  have g2 : w1.heap[w.heap.size]? = some (.cells #[.int .i64 0, .slice none 0 0] 24 (0, 0)) := by rw [hw1]; exact new_alloc w w.heap.size _ rfl
  have hB0 : Below w1.heap.size w1 (((w.alloc (.cells #[.int .i64 0, .slice none 0 0] 24)).alloc (.cells #[] 54)).alloc (.cells #[.int .i64 0, .slice (some ⟨w.heap.size + 1, 0, none⟩) 0 0] 24)) := by rw [← hw1]; exact balloc (balloc (Below.refl _ _) _) _
  clear hw1
  have g4 := new_alloc ((w.alloc (.cells #[.int .i64 0, .slice none 0 0] 24)).alloc (.cells #[] 54)) (w.heap.size + 2) (.cells #[.int .i64 0, .slice (some ⟨w.heap.size + 1, 0, none⟩) 0 0] 24) (by simp)
  have hX0 : RowsX (w.heap.size + 1) (w.heap.size + 2) (((w.alloc (.cells #[.int .i64 0, .slice none 0 0] 24)).alloc (.cells #[] 54)).alloc (.cells #[.int .i64 0, .slice (some ⟨w.heap.size + 1, 0, none⟩) 0 0] 24)) (.slice (some ⟨w.heap.size + 1, 0, none⟩) 0 0) [] [] := by
    have h1 := World.ownsRow_made (base := w.heap.size + 1) (e := 54) (size := 5) (w.alloc (.cells #[.int .i64 0, .slice none 0 0] 24)) #[] 0 (by simp) (by unfold maxLen; omega) rfl
    have hz : (w.alloc (.cells #[.int .i64 0, .slice none 0 0] 24)).heap.size = w.heap.size + 1 := by simp
    rw [hz] at h1
    have h2 := RowsX.nil (hi := w.heap.size + 2) h1 (fun g e => by simp [Value.ownBlock] at e; omega) (by simp)
    exact h2.below (balloc (Below.refl _ _) _)
  go_enter Tryz.func13, Tryz.ntmps13
  go_upto_region 2 with fail
  generalize ((w.alloc (.cells #[.int .i64 0, .slice none 0 0] 24)).alloc (.cells #[] 54)).alloc (.cells #[.int .i64 0, .slice (some ⟨w.heap.size + 1, 0, none⟩) 0 0] 24) = W0 at *
  have hW0 := lt_of_block g4
  have hO0 : Off (w.heap.size + 2) (.slice (some ⟨w.heap.size + 1, 0, none⟩) 0 0) [] := ⟨by simp [Value.ownBlock], fun j x hx => by simp at hx⟩
  have HX0 := hid (hX0.mono (hi' := W0.heap.size) (Nat.le_refl _) (by omega) (Nat.le_refl _))
  clear hX0
  go_wp2_with fail
  go_loopw [11] (fun ti wr => ∃ (i : Nat) (now : Int) (ra : Option Addr) (rc : Nat) (rs : List Rw) (xs : List El), ti = .int .i64 i ∧ i ≤ n ∧ Hid (RP xss now rs i) ∧ Hid (wr.heap[w.heap.size + 2]? = some (.cells #[.int .i64 now, .slice ra rs.length rc] 24 (0, 0))) ∧ Hid (RowsX (w.heap.size + 1) wr.heap.size wr (.slice ra rs.length rc) rs xs) ∧ Hid (Off (w.heap.size + 2) (.slice ra rs.length rc) xs) ∧ Hid (Below w1.heap.size w1 wr)) (fun ti _ => n - (intOf ti).toNat)
  case atStart => exact ⟨0, 0, _, _, [], [], rfl, Nat.zero_le _, hid (RP.zero xss), hid g4, HX0, hid hO0, hid hB0⟩
  case round =>
    clear g4 HX0 hO0 hB0
    obtain ⟨i, now, ra, rc, rs, xs, rfl, hi', HRP, G4, HX, HO, HB1⟩ := hrel
    have HB := hid (btrans hbw1 HB1.out)
    have G2 := hid (keepheap2 HB1.out g2)
    have hrl := rowsb_len HRP.out.2
    have hnn := rowsb_nn HRP.out.2
    obtain ⟨d0, d1, e0, e1⟩ := cell2f G4.out
    have hwl := lt_of_block G4.out
    by_cases hlt : i < n
    · have c1 : (i : Int) < (n : Int) := by omega
      have hir : i < xss.length := by rw [HN.out]; exact hlt
      obtain ⟨b1, o1, ea, hb1, hall1⟩ : ∃ b o, aa = some ⟨b, o, none⟩ ∧ b < w.heap.size ∧ ∀ j (h : j < xss.length), ∃ (a' : Option Addr) (cap' : Nat) (N : Nat → Prop), w.cell? ⟨b, o + j, none⟩ = some (.slice a' xss[j].length cap') ∧ Chs N 1099511627776 w a' xss[j] := by
        rcases HLS.out with q | q
        · rw [q] at hir; simp at hir
        · exact q
      subst ea
      obtain ⟨a1, c1', N1, k1, q1⟩ := hall1 i hir
      replace k1 := keepcell HB.out k1
      have hcl := HLN.out i hir
      have hcg := HCG.out i hir
      have HTK := hid (fun (W : World) (hb : Below w.heap.size w W) => takes_c now ra rs.length rc a1 c1' xss[i] W (by omega) (by omega) (q1.below hb))
      rw [← apb_takes HRP.out.2 hcg] at HTK
      have HCH := hid (fun (W : World) (hb : Below w1.heap.size w1 W) (hbw : w.heap.size + 1 ≤ W.heap.size) (gp : W.heap[w.heap.size + 2]? = some (.cells #[.int .i64 now, .slice ra rs.length rc] 24 (0, 0))) (hx : RowsX (w.heap.size + 1) W.heap.size W (.slice ra rs.length rc) rs xs) (h1 : now ≤ 1000000000) (h2 : rs.length + bgn xss[i] ≤ 300) => change_c w1 (w.heap.size + 2) (w.heap.size + 1) now (.slice ra rs.length rc) rs xs a1 c1' xss[i] W hb (by omega) (by omega) hbw (by omega) (q1.below hbw1) gp hx HO.out HRP.out.2 hcg h1 h2)
      have HNO := hid (fun (h : apb now rs xss[i] = false) => HRP.out.no hir h)
      have HNX := hid (fun (h : apb now rs xss[i] = true) => HRP.out.next hir h)
      clear hall1 q1
      obtain ⟨cs, hcs⟩ : ∃ cs, cs = xss[i] := ⟨_, rfl⟩
      rw [← hcs] at k1 HTK HCH HNO HNX
      clear hcs hcg hcl
      obtain ⟨np, hnp⟩ : ∃ np, np = cs.length := ⟨_, rfl⟩
      rw [← hnp] at k1 HTK HCH
      clear hnp
      cases hab : apb now rs cs
      · have HQ := hid (HNO.out hab)
        rw [hab] at HTK
        clear HNO HNX HCH
        go_wp2_with fail
        refine (HTK.out _ HB.out).mono ?_
        rintro e y ⟨rfl, hy⟩
        have G2y := keepheap2 hy G2.out
        have G4y := keepheap2 hy G4.out
        have HXy := hid (HX.out.below hy)
        have HBy := hid (btrans HB.out hy)
        clear hy d0 d1 e0 e1 HX HB
        obtain ⟨d0, d1, e0, e1⟩ := cell2f G4y
        obtain ⟨v0, v1, u0, u1⟩ := cell2f G2y
        have gF := set2r G2y (.int .i64 now) (.slice ra rs.length rc)
        have bF := bset (bset HBy.out (q := w.heap.size) (k := 0) (Nat.le_refl _) (.int .i64 now)) (q := w.heap.size) (k := 1) (Nat.le_refl _) (.slice ra rs.length rc)
        have rF := HXy.out.frame (w' := (y.setCell ⟨w.heap.size, 0, none⟩ (.int .i64 now)).setCell ⟨w.heap.size, 1, none⟩ (.slice ra rs.length rc)) (fun b h1 h2 => by rw [Below.heap_setCell _ _ _ _ (by dsimp only; omega), Below.heap_setCell _ _ _ _ (by dsimp only; omega)]) (by simp)
        go_wp2_with fail
        generalize (y.setCell ⟨w.heap.size, 0, none⟩ (.int .i64 now)).setCell ⟨w.heap.size, 1, none⟩ (.slice ra rs.length rc) = wf at *
        obtain ⟨z0, z1, _, _⟩ := cell2f gF
        exact bodyPost_ret (v := .tuple #[.agg #[.int .i64 now, .slice ra rs.length rc], .int .i64 i]) (by simp [results, Tryz.results13, go_sem, z0, z1]) rfl (rpx_mk HQ.out rF bF)
      · have HRN := hid (HNX.out hab)
        rw [hab] at HTK
        obtain ⟨hn1, hn3⟩ : now ≤ 1000000000 ∧ rs.length + bgn cs ≤ 300 := by
          have hab2 := hab
          unfold apb at hab2
          simp only [Bool.and_eq_true, decide_eq_true_eq] at hab2
          exact hab2.1
        have hal : (apl (now + 1) rs cs).length ≤ 300 := by
          have hab2 := hab
          unfold apb at hab2
          simp only [Bool.and_eq_true, decide_eq_true_eq] at hab2
          have := apl_ok hab2.2.1 hab2.2.2
          rw [decide_eq_true hab2.1.2] at this
          exact rowsb_len this
        clear HNO HNX
        go_wp2_with fail
        refine (HTK.out _ HB.out).mono ?_
        rintro e y ⟨rfl, hy⟩
        have G2y := keepheap2 hy G2.out
        have G4y := keepheap2 hy G4.out
        have hyz := hy.size
        have HXy := hid ((HX.out.below hy).mono (hi' := y.heap.size) (Nat.le_refl _) hyz (Nat.le_refl _))
        have HBy := hid (btrans HB1.out hy)
        clear hy d0 d1 e0 e1 HX HB HB1 HTK G2 G2y
        go_wp2_with fail
        refine (HCH.out _ HBy.out (by omega) G4y HXy.out hn1 hn3).mono ?_
        rintro e y2 ⟨rfl, va, vx, gV, hXv, hOv, hBv⟩
        obtain ⟨ga, gc, rfl⟩ := kept_form hXv
        have hy2 : w.heap.size + 2 < y2.heap.size := lt_of_block gV
        have HVA := hid (vac_rowsO (now + 1) (w.heap.size + 2) (w.heap.size + 1) y2.heap.size ga gc (apl (now + 1) rs cs) vx (now + 1) w1 y2 (by omega) hXv hOv hBv (by omega) (by omega) gV)
        rw [show (apl (now + 1) rs cs).filter (vkeep (now + 1)) = vst now rs cs from rfl] at HVA
        obtain ⟨d0, d1, e0, e1⟩ := cell2f gV
        clear HCH HBy HXy G4y G4 HO hXv hOv hBv gV hab hal hn1 hn3 hrl
        generalize (apl (now + 1) rs cs) = als at *
        go_wp2_with fail
        refine HVA.out.mono ?_
        rintro e y3 ⟨rfl, ys, gZ, hXz, hOz, hzz, hBz⟩
        have GZ := hid gZ
        have HXZ := hid (hXz.mono (Nat.le_refl _) hzz (Nat.le_refl _))
        have HOZ := hid hOz
        have HBZ := hid hBz
        clear HVA hXz hOz hBz gZ d0 d1 e0 e1
        go_wp2_with fail
        go_roundw
        case rel => exact ⟨i + 1, now + 1, ga, gc, vst now rs cs, ys, by go_num, by omega, HRN, GZ, HXZ, HOZ, HBZ⟩
        case measure => simp [intOf]; omega
    · have c1 : (n : Int) ≤ (i : Int) := by omega
      have hin : i = xss.length := by have := HN.out; omega
      have HRD := HRP.out
      rw [hin] at HRD
      have HQ := hid HRD.done
      rw [HN.out] at HQ
      obtain ⟨v0, v1, u0, u1⟩ := cell2f G2.out
      have gF := set2r G2.out (.int .i64 now) (.slice ra rs.length rc)
      have bF := bset (bset HB.out (q := w.heap.size) (k := 0) (Nat.le_refl _) (.int .i64 now)) (q := w.heap.size) (k := 1) (Nat.le_refl _) (.slice ra rs.length rc)
      have rF := HX.out.frame (w' := (wr.setCell ⟨w.heap.size, 0, none⟩ (.int .i64 now)).setCell ⟨w.heap.size, 1, none⟩ (.slice ra rs.length rc)) (fun b h1 h2 => by rw [Below.heap_setCell _ _ _ _ (by dsimp only; omega), Below.heap_setCell _ _ _ _ (by dsimp only; omega)]) (by simp)
      clear hin HRD HRP
      go_wp2_with fail
      generalize (wr.setCell ⟨w.heap.size, 0, none⟩ (.int .i64 now)).setCell ⟨w.heap.size, 1, none⟩ (.slice ra rs.length rc) = wf at *
      obtain ⟨z0, z1, _, _⟩ := cell2f gF
      exact bodyPost_ret (v := .tuple #[.agg #[.int .i64 now, .slice ra rs.length rc], .int .i64 n]) (by simp [results, Tryz.results13, go_sem, z0, z1]) rfl (rpx_mk HQ.out rF bF)
end Go.Proofs.YtfjmbbjcghopgaaGreatDoor
namespace Go.Proofs.YtfjmbbjcghopgaaGreatDoor
open Go.RowKit
set_option linter.unusedSimpArgs false
set_option linter.unusedVariables false
theorem mid_belowM {lo hi B : Nat} {w w' : World} (h : Mid lo hi w w') (hb : B ≤ lo) (hs : B ≤ w.heap.size) : Below B w w' := by
  obtain ⟨h1, h2, h3, h4, h5⟩ := h
  exact ⟨h1, h2, h3, h4, fun k hk => h5 k (by omega) (.inl (by omega))⟩
theorem shok_small {k : Int} {ps : List (Int × Int)} (h : shok k ps = true) : ps.length ≤ 1048576 := by
  unfold shok at h
  split at h
  · simp only [Bool.and_eq_true, decide_eq_true_eq] at h; omega
  split at h
  · simp only [lineb, Bool.and_eq_true, decide_eq_true_eq] at h; omega
  split at h
  · simp only [rectb, Bool.and_eq_true, decide_eq_true_eq] at h; omega
  split at h
  · simp only [ringOk, Bool.and_eq_true, decide_eq_true_eq] at h; omega
  · cases h
theorem rowsb_small {now : Int} {rs : List Rw} (h : rowsb now rs = true) : ∀ m (h : m < rs.length), rs[m].2.2.2.2.length ≤ 1048576 := by
  intro m hm
  unfold rowsb at h
  simp only [Bool.and_eq_true, List.all_eq_true] at h
  have := h.2.1 rs[m] (List.getElem_mem hm)
  unfold rowb at this
  simp only [Bool.and_eq_true] at this
  exact shok_small this.2
theorem rpl_ok : ∀ (xss : List (List Ch)) (now : Int) (rs : List Rw) (i : Nat), rowsb now rs = true → rowsb (rpl now rs xss i).1 (rpl now rs xss i).2.1 = true
  | [], now, rs, i, h => h
  | cs :: r, now, rs, i, h => by
    rw [rpl]
    split
    · rename_i ha
      exact rpl_ok r _ _ _ (vst_ok ha)
    · exact h
set_option maxRecDepth 100000 in
set_option maxHeartbeats 4000000 in
theorem impl_Replay (s : ByteArray) (hs : s.size ≤ 1048576) (w : World) (hg : w.cell? ⟨0, 0, none⟩ = some (.iface 143 (.agg #[.pointer (some ⟨1, 100, none⟩)]))) : Calls Tryz.prog 5 #[.string s] w fun e w' => RPX w (rpl 0 [] (recs s).1 0) e w' := by
  have hB0 : Below w.heap.size w (w.alloc (.cells #[.int .i64 0, .slice none 0 0] 24)) := balloc (Below.refl _ _) _
  have g2 := new_alloc w w.heap.size (.cells #[.int .i64 0, .slice none 0 0] 24) rfl
  have CR := hid (impl_Records s hs (w.alloc (.cells #[.int .i64 0, .slice none 0 0] 24)) (keepcell hB0 hg))
  have CP := hid (fun (a : Option Addr) (cap : Nat) (W : World) (h : CsL W a (recs s).1) => replayed_c a (recs s).1.length cap (recs s).1 W rfl (recs_len s) (recs_lens s) (recs_cgs s) h)
  have hlen := recs_len s
  unfold GRA at CR
  unfold RPX at CP
  obtain ⟨⟨rn, rr, rk⟩, hr⟩ : ∃ r, r = rpl 0 [] (recs s).1 0 := ⟨_, rfl⟩
  rw [← hr] at CP
  rw [← hr]
  clear hr hg
  dsimp only at CP
  generalize (recs s).1 = xss at *
  generalize (recs s).2 = nr at *
  generalize xss.length = n at *
  go_enter Tryz.func5, Tryz.ntmps5
  go_upto_region 1 with fail
  generalize w.alloc (.cells #[.int .i64 0, .slice none 0 0] 24) = W0 at *
  have hW0 := lt_of_block g2
  go_wp2_with fail
  refine CR.out.mono ?_
  rintro e y1 ⟨ra, rc, rfl, hL, hb⟩
  replace g2 := keepheap2 hb g2
  replace hB0 := btrans hB0 hb
  have hz := hb.size
  have HL := hid hL.csl
  clear hL hb CR
  go_wp2_with fail
  refine (CP.out ra rc _ HL.out).mono ?_
  rintro e y2 ⟨a, cap, xs, rfl, hX, hb2⟩
  replace g2 := keepheap2 hb2 g2
  replace hB0 := btrans hB0 hb2
  have HX := hid hX
  have hz2 := hb2.size
  clear hX hb2 CP HL
  obtain ⟨v0, v1, u0, u1⟩ := cell2f g2
  have gF := set2r g2 (.int .i64 rn) (.slice a rr.length cap)
  have bF := bset (bset hB0 (q := w.heap.size) (k := 0) (Nat.le_refl _) (.int .i64 rn)) (q := w.heap.size) (k := 1) (Nat.le_refl _) (.slice a rr.length cap)
  have rF := HX.out.frame (w' := (y2.setCell ⟨w.heap.size, 0, none⟩ (.int .i64 rn)).setCell ⟨w.heap.size, 1, none⟩ (.slice a rr.length cap)) (fun b h1 h2 => by rw [Below.heap_setCell _ _ _ _ (by dsimp only; omega), Below.heap_setCell _ _ _ _ (by dsimp only; omega)]) (by simp)
  have HRF := hid (rF.mono (base' := w.heap.size + 1) (by omega) rF.2.2.2.1 (Nat.le_refl _))
  clear HX rF
  go_wp2_with fail
  generalize (y2.setCell ⟨w.heap.size, 0, none⟩ (.int .i64 rn)).setCell ⟨w.heap.size, 1, none⟩ (.slice a rr.length cap) = wf at *
  obtain ⟨z0, z1, _, _⟩ := cell2f gF
  exact bodyPost_ret (v := .tuple #[.agg #[.int .i64 rn, .slice a rr.length cap], .int .i64 rk]) (by simp [results, Tryz.results5, go_sem, z0, z1]) rfl ⟨a, cap, xs, rfl, HRF.out, bF⟩
set_option maxRecDepth 100000 in
set_option maxHeartbeats 8000000 in
theorem replay_w (s : ByteArray) (hm : s.size ≤ maxLen) (w : World) (hg : w.cell? ⟨0, 0, none⟩ = some (.iface 143 (.agg #[.pointer (some ⟨1, 100, none⟩)]))) : Calls Tryz.prog 3 #[.string s] w fun e w' => e = .returned (.bool true) ∧ Below w.heap.size w w' := by
  unfold maxLen at hm
  by_cases hbig : 1048576 < s.size
  · have hd : 1048576 < (s.size : Int) := by omega
    clear hg
    go_enter Tryz.func3, Tryz.ntmps3
    go_wp2_with fail
    go_ret
    exact ⟨rfl, Below.refl _ _⟩
  have hd : (s.size : Int) ≤ 1048576 := by omega
  have hs : s.size ≤ 1048576 := by omega
  have CS := hid (fun w => spec_Replay s hs w)
  have CI := hid (fun (W : World) (hb : Below w.heap.size w W) => impl_Replay s hs W (keepcell hb hg))
  have hok := rpl_ok (recs s).1 0 [] 0 (by decide)
  unfold RPA at CS
  unfold RPX at CI
  obtain ⟨⟨nw, qs, rk⟩, hr⟩ : ∃ r, r = rpl 0 [] (recs s).1 0 := ⟨_, rfl⟩
  rw [← hr] at CS CI hok
  clear hr hg hbig
  dsimp only at CS CI hok
  have hql : qs.length ≤ 1048576 := by have := rowsb_len hok; omega
  have hqm : qs.length ≤ 1099511627776 := by omega
  have HQL := hid (rowsb_small hok)
  clear hok
  have hkp : ¬ (kk qs qs.length < 0) := by have := (kk_bound HQL.out qs.length (Nat.le_refl _)).1; omega
  have EQ := hid (fun (a b : Option Addr) (c d : Nat) (W : World) (h1 : Rws (fun _ => True) W a qs) (h2 : Rws (fun _ => True) W b qs) => eq_rows nw a b c d qs W hqm h1 h2)
  have MX := hid (fun (base hi : Nat) (a : Option Addr) (cap : Nat) (xs : List El) (W : World) (h : RowsX base hi W (.slice a qs.length cap) qs xs) => mark_rowsX base hi nw a qs.length cap qs xs W rfl hql HQL.out h)
  have HH := hid (fun (a : Option Addr) (cap : Nat) (W : World) (h : Rws (fun _ => True) W a (mrk qs)) => held_rowsX nw a qs.length cap qs W rfl hql HQL.out h)
  generalize kk qs qs.length = kq at *
  have hkn : (kq != kq) = false := by simp
  have hrn : ((rk : Int) != (rk : Int)) = false := by simp
  obtain ⟨nq, hnq⟩ : ∃ x, x = qs.length := ⟨_, rfl⟩
  rw [← hnq] at EQ MX HH CS CI
  clear hnq
  go_enter Tryz.func3, Tryz.ntmps3
  go_wp2_with fail
  refine (CS.out _).mono ?_
  rintro e y1 ⟨sa, sc, rfl, hSR, hB⟩
  have S0 := hid hSR
  have HB := hid hB
  have hz1 := hB.size
  clear hSR hB CS
  have gS := new_alloc y1 y1.heap.size (.cells #[.int .i64 nw, .slice sa nq sc] 24) rfl
  have HB1 : Hid (Below y1.heap.size y1 (y1.alloc (.cells #[.int .i64 nw, .slice sa nq sc] 24))) := hid (balloc (Below.refl _ _) _)
  go_upto_region 4 with fail
  generalize y1.alloc (.cells #[.int .i64 nw, .slice sa nq sc] 24) = z1 at *
  have hzS := lt_of_block gS
  go_wp2_with fail
  refine (CI.out _ (btrans HB.out HB1.out)).mono ?_
  rintro e y2 ⟨ga, gc, gx, rfl, hX, hc⟩
  replace gS := keepheap2 hc gS
  replace HB1 := hid (btrans HB1.out hc)
  have G0 := hid hX
  have hz2 := hc.size
  clear hX hc
  have gG := new_alloc y2 y2.heap.size (.cells #[.int .i64 nw, .slice ga nq gc] 24) rfl
  have hal : Below y2.heap.size y2 (y2.alloc (.cells #[.int .i64 nw, .slice ga nq gc] 24)) := balloc (Below.refl _ _) _
  replace gS := keepheap2 hal gS
  replace HB1 := hid (btrans HB1.out hal)
  replace G0 := hid (G0.out.below hal)
  clear hal
  go_upto_region 5 with fail
  generalize y2.alloc (.cells #[.int .i64 nw, .slice ga nq gc] 24) = z2 at *
  generalize y2.heap.size = s2 at *
  have hzG := lt_of_block gG
  obtain ⟨d0, d1, _, _⟩ := cell2f gG
  obtain ⟨e0, e1, _, _⟩ := cell2f gS
  go_wp2_with fail
  refine (EQ.out _ _ _ _ _ G0.out.rws (S0.out.below HB1.out)).mono ?_
  rintro e y3 ⟨rfl, hc⟩
  replace gS := keepheap2 hc gS
  replace gG := keepheap2 hc gG
  replace HB1 := hid (btrans HB1.out hc)
  replace G0 := hid (G0.out.below hc)
  have hz3 := hc.size
  clear hc d0 d1 e0 e1
  obtain ⟨d0, d1, _, _⟩ := cell2f gG
  go_wp2_with fail
  refine (MX.out _ _ ga gc gx _ G0.out).mono ?_
  rintro e y4 ⟨rfl, hM, hmd⟩
  have M0 := hid hM
  replace gS := (hmd.2.2.2.2 _ (by omega) (.inl (by omega))).trans gS
  replace gG := (hmd.2.2.2.2 _ (by omega) (.inr (Nat.le_refl _))).trans gG
  replace HB1 := hid (HB1.out.trans (mid_belowM hmd (B := y1.heap.size) (by omega) (by omega)))
  have hz4 := hmd.2.2.2.1
  clear hM hmd G0 d0 d1
  obtain ⟨d0, d1, _, _⟩ := cell2f gG
  go_wp2_with fail
  refine (HH.out ga gc _ M0.out).mono ?_
  rintro e y5 ⟨rfl, hc⟩
  replace gS := keepheap2 hc gS
  replace gG := keepheap2 hc gG
  replace HB1 := hid (btrans HB1.out hc)
  replace M0 := hid (M0.out.below hc)
  have hz5 := hc.size
  clear hc d0 d1
  go_wp2_with fail
  refine (CI.out _ (btrans HB.out HB1.out)).mono ?_
  rintro e y6 ⟨ha, hc', hx, rfl, hX, hc⟩
  replace gS := keepheap2 hc gS
  replace gG := keepheap2 hc gG
  replace HB1 := hid (btrans HB1.out hc)
  replace M0 := hid (M0.out.below hc)
  have N0 := hid hX.rws
  have hz6 := hc.size
  clear hX hc
  have gN := new_alloc y6 y6.heap.size (.cells #[.int .i64 nw, .slice ha nq hc'] 24) rfl
  have hal : Below y6.heap.size y6 (y6.alloc (.cells #[.int .i64 nw, .slice ha nq hc'] 24)) := balloc (Below.refl _ _) _
  replace gS := keepheap2 hal gS
  replace gG := keepheap2 hal gG
  replace HB1 := hid (btrans HB1.out hal)
  replace M0 := hid (M0.out.below hal)
  replace N0 := hid (N0.out.below hal)
  clear hal
  go_upto_region 16 with fail
  generalize y6.alloc (.cells #[.int .i64 nw, .slice ha nq hc'] 24) = z6 at *
  generalize y6.heap.size = s6 at *
  obtain ⟨d0, d1, _, _⟩ := cell2f gN
  obtain ⟨e0, e1, _, _⟩ := cell2f gS
  go_wp2_with fail
  refine (EQ.out _ _ _ _ _ N0.out (S0.out.below HB1.out)).mono ?_
  rintro e y7 ⟨rfl, hc⟩
  replace gG := keepheap2 hc gG
  replace HB1 := hid (btrans HB1.out hc)
  replace M0 := hid (M0.out.below hc)
  clear hc d0 d1 e0 e1 N0 gN gS
  obtain ⟨d0, d1, _, _⟩ := cell2f gG
  go_wp2_with fail
  refine (HH.out ga gc _ M0.out).mono ?_
  rintro e y8 ⟨rfl, hc⟩
  replace HB1 := hid (btrans HB1.out hc)
  clear hc d0 d1 M0
  go_wp2_with fail
  go_ret
  exact ⟨rfl, btrans HB.out HB1.out⟩
end Go.Proofs.YtfjmbbjcghopgaaGreatDoor
