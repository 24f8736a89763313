/- Texts of stores, joined: Zak. -/
import Derived.Test.YtnajddjalagmoaaGreatDoorJ8
namespace Go.Proofs.YtnajddjalagmoaaGreatDoor
open Go.RowKit
set_option linter.unusedSimpArgs false
set_option linter.unusedVariables false
/-- A store in a box of its own, and a number. -/
def PR (y : World) (now bn : Int) (nr nq : Nat) (rs : List Rw) (qt : List Tx) (ta tb : Value) (wx : World) : Prop :=
  ∃ z, z = wx ∧ ∃ xb sa sc sta stc, ta = .pointer (some ⟨xb, 0, none⟩) ∧ tb = .int .i64 bn ∧ z.heap[xb]? = some (.cells #[.int .i64 now, .slice sa nr sc, .slice sta nq stc] 38 (0, 0)) ∧ Rws (fun _ => True) z sa rs ∧ Txs (fun _ => True) 1099511627776 z sta qt ∧ y.heap.size ≤ xb ∧ Below y.heap.size y z
theorem pr_mk {y wx : World} {now bn : Int} {nr nq xb sc stc : Nat} {sa sta : Option Addr} {rs : List Rw} {qt : List Tx} (g : wx.heap[xb]? = some (.cells #[.int .i64 now, .slice sa nr sc, .slice sta nq stc] 38 (0, 0))) (h1 : Rws (fun _ => True) wx sa rs) (h2 : Txs (fun _ => True) 1099511627776 wx sta qt) (h3 : y.heap.size ≤ xb) (h4 : Below y.heap.size y wx) : PR y now bn nr nq rs qt (.pointer (some ⟨xb, 0, none⟩)) (.int .i64 bn) wx :=
  ⟨wx, rfl, xb, sa, sc, sta, stc, rfl, rfl, g, h1, h2, h3, h4⟩
theorem sbs_ssn {w w' : World} {now n : Int} {rs : List Rw} {ts : List Tx} {e : Ending} (h : SBS w now rs ts n e w') (hl : txL ts) : SSN w now rs ts n e w' := by
  obtain ⟨a, c, ta, tcc, b1, u1, b2, u2, rfl, x1, x2, _, _, hb⟩ := h
  exact ⟨a, c, ta, tcc, rfl, x1.rws, Txs.any (x2.txs hl), hb⟩
theorem midh {lo hi b : Nat} {w w' : World} {o : Obj} (m : Mid lo hi w w') (g : w.heap[b]? = some o) (h : b < lo ∨ hi ≤ b) : w'.heap[b]? = some o := (m.2.2.2.2 b (lt_of_block g) h).trans g
set_option maxRecDepth 100000 in
set_option maxHeartbeats 16000000 in
theorem txnput_w (now0 : Int) (a0 : Option Addr) (cap0 : Nat) (rs0 : List Rw) (ta0 : Option Addr) (tcap0 : Nat) (ts0 : List Tx) (a1 a2 : Int) (kd3 : Int) (a3 : Option Addr) (cap3 : Nat) (ps3 : List (Int × Int)) (w : World) (hl0 : rs0.length ≤ 9223372036854775807) (w0 : RwsL w a0 rs0) (htl0 : ts0.length ≤ 9223372036854775807) (wt0 : Txs (fun _ => True) 9223372036854775807 w ta0 ts0) (w3 : PtsIn w a3 cap3 ps3) (na nb : Addr) (hL : w.cell? ⟨0, 0, none⟩ = some (.iface 247 (.pointer (some na)))) (hLb : w.cell? ⟨1, 0, none⟩ = some (.iface 247 (.pointer (some nb)))) (hE : w.cell? ⟨3, 0, none⟩ = some (.iface 173 (.agg #[.pointer (some ⟨4, 73, none⟩)]))) : Calls Tryz.prog 3 #[.agg #[.int .i64 now0, .slice a0 rs0.length cap0, .slice ta0 ts0.length tcap0], .int .i64 a1, .int .i64 a2, shv kd3 a3 ps3.length cap3] w fun e w' => e = .returned (.bool true) ∧ Below w.heap.size w w' := by
  have HR0 := hid w0
  have HT0 := hid wt0
  have HS0 := hid w3
  clear w0 wt0 w3
  obtain ⟨nr, hnr⟩ : ∃ x, x = rs0.length := ⟨_, rfl⟩
  obtain ⟨nt, hnt⟩ : ∃ x, x = ts0.length := ⟨_, rfl⟩
  obtain ⟨np, hnp⟩ : ∃ x, x = ps3.length := ⟨_, rfl⟩
  have HNR := hid hnr.symm
  have HNT := hid hnt.symm
  have HNP := hid hnp.symm
  have SZ := hid (fun (W : World) (hb : Below w.heap.size w W) => sz_store2 now0 a0 ta0 cap0 tcap0 rs0 ts0 W hl0 htl0 (HR0.out.below hb) (HT0.out.below hb))
  have hp9 : np ≤ 9223372036854775807 := by rw [hnp]; exact Nat.le_trans HS0.out.2.1 HS0.out.2.2
  have hpc : np ≤ cap3 := by rw [hnp]; exact HS0.out.2.1
  have HSP : Hid (Pts w a3 ps3) := hid HS0.out.1
  obtain ⟨GV, hGV⟩ : ∃ GV : Prop, GV = ((rs0.length ≤ 1048576 ∧ ∀ m (h : m < rs0.length), rs0[m].2.2.2.2.length ≤ 1048576) ∧ (txS ts0 ∧ ∀ m (h : m < ts0.length), (ts0[m].2.2.length : Int) + 1 ≤ 1048576)) := ⟨_, rfl⟩
  rw [← hGV] at SZ
  have HGV := hid hGV
  clear hGV
  rw [← hnr, ← hnt] at SZ
  rw [← hnr, ← hnt, ← hnp]
  unfold shv
  clear hnr hnt hnp
  have gT := old_alloc (o' := .cells #[.int .i64 kd3, .slice a3 np cap3] 30) (new_alloc w w.heap.size (.cells #[.int .i64 now0, .slice a0 nr cap0, .slice ta0 nt tcap0] 27) rfl)
  have gU := new_alloc (w.alloc (.cells #[.int .i64 now0, .slice a0 nr cap0, .slice ta0 nt tcap0] 27)) (w.heap.size + 1) (.cells #[.int .i64 kd3, .slice a3 np cap3] 30) (by simp)
  have hB : Below w.heap.size w ((w.alloc (.cells #[.int .i64 now0, .slice a0 nr cap0, .slice ta0 nt tcap0] 27)).alloc (.cells #[.int .i64 kd3, .slice a3 np cap3] 30)) := balloc (balloc (Below.refl _ _) _) _
  go_enter Tryz.func3, Tryz.ntmps3
  go_upto_region 1 with fail
  generalize (w.alloc (.cells #[.int .i64 now0, .slice a0 nr cap0, .slice ta0 nt tcap0] 27)).alloc (.cells #[.int .i64 kd3, .slice a3 np cap3] 30) = W0 at *
  obtain ⟨⟨d0, d1, d2⟩, _⟩ := cellk3 gT
  go_wp2_with fail
  refine (SZ.out _ hB).mono ?_
  rintro e y0 ⟨⟨v, rfl, hv⟩, hc⟩
  replace gT := keepheapA hc gT
  replace gU := keepheapA hc gU
  replace hB := btrans hB hc
  clear hc SZ d0 d1 d2
  rcases hv with rfl | ⟨hv0, hv1, HV⟩
  · go_wp2_with fail
    go_ret
    exact ⟨rfl, hB⟩
  have hv2 : ¬ v < 0 := by omega
  obtain ⟨⟨u0, u1⟩, _⟩ := cellk2 gU
  by_cases hbig : v < (np : Int)
  · have SB := hid (fun W => szs_big kd3 a3 np cap3 v W hp9 hv0 hv1 hbig)
    unfold shv at SB
    go_wp2_with fail
    refine (SB.out _).mono ?_
    rintro e y1 ⟨rfl, hc⟩
    replace hB := btrans hB hc
    clear hc
    go_wp2_with fail
    go_ret
    exact ⟨rfl, hB⟩
  have SB := hid (fun W => szs_ok kd3 a3 np cap3 v W hv0 hv1 hbig)
  unfold shv at SB
  have hv3 : ¬ v - (np : Int) < 0 := by omega
  have hpm : np ≤ 1048576 := by omega
  go_wp2_with fail
  refine (SB.out _).mono ?_
  rintro e y1 ⟨rfl, hc⟩
  replace gT := keepheapA hc gT
  replace gU := keepheapA hc gU
  replace hB := btrans hB hc
  clear hc SB u0 u1
  go_upto_region 8 with fail
  replace HV : Hid ((rs0.length ≤ 1048576 ∧ ∀ m (h : m < rs0.length), rs0[m].2.2.2.2.length ≤ 1048576) ∧ (txS ts0 ∧ ∀ m (h : m < ts0.length), (ts0[m].2.2.length : Int) + 1 ≤ 1048576)) := hid (by rw [← HGV.out]; exact HV.out)
  clear HGV
  have HVR := hid HV.out.1
  have HVT := hid HV.out.2.1
  have HVC := hid HV.out.2.2
  have HP := hid (HR0.out.rws HV.out.1.2)
  have HQ := hid (HT0.out.small HV.out.2.1)
  have hm' : rs0.length ≤ 1099511627776 := by have := HV.out.1.1; omega
  have hn' : ts0.length ≤ 1099511627776 := by have := HV.out.2.1.1; omega
  have hq' : ps3.length ≤ 1099511627776 := by have := HNP.out; omega
  have hq2 : ps3.length ≤ 1048576 := by have := HNP.out; omega
  have HQS : Hid (txS (ptT now0 rs0 ts0 a1 a2 kd3 ps3)) := hid (by
    unfold ptT
    split
    · exact ptX_S HV.out.2.1 hq2 (fun hm _ => by have := HV.out.2.2 _ hm; omega)
    · exact HV.out.2.1)
  clear HR0 HT0 HS0 HV hv0 hv1 hv2 hv3 hbig
  have CT0 := hid (fun (W : World) (hb : Below w.heap.size w W) => to_storeF now0 a0 ta0 cap0 tcap0 rs0 ts0 W hm' hn' (HP.out.below hb) (HQ.out.below hb))
  have CH0 := hid (fun (W : World) (hb : Below w.heap.size w W) => to_shape kd3 a3 cap3 ps3 W hq' (by have := HNP.out; omega) (HSP.out.below hb))
  have CS0 := hid (fun (b t c3 : Nat) (W : World) (hb : Below w.heap.size w W) (f1 : RwsS W b rs0) (f2 : Rws (fun c => b < c) W (some ⟨b, 0, none⟩) rs0) (f3 : TxsS W t ts0) (f4 : Txs (fun c => t < c) 1099511627776 W (some ⟨t, 0, none⟩) ts0) (f5 : PtsOwn W c3 ps3) => spec_TxnPut now0 a1 a2 kd3 b t (some ⟨c3, 0, none⟩) ps3.length ps3 rs0 ts0 W hm' hn' (fun m hm => by have := (HVT.out.2 m hm).1; omega) f1 f2 f3 f4 hq' (Nat.le_refl _) f5.pts)
  have CJ0 := hid (fun (b t c3 : Nat) (W : World) (hb : Below w.heap.size w W) (f1 : RwsS W b rs0) (f3 : TxsS W t ts0) (f5 : PtsOwn W c3 ps3) => impl_TxnPut now0 a1 a2 kd3 b t (some ⟨c3, 0, none⟩) ps3.length ps3 rs0 ts0 W na nb hm' hn' f1 f3 (keepcell hb hL) (keepcell hb hLb) (keepcell hb hE) hq' (Nat.le_refl _) f5.pts)
  generalize ptT now0 rs0 ts0 a1 a2 kd3 ps3 = qt at *
  generalize ptN now0 rs0 ts0 a1 a2 kd3 ps3 = bn at *
  have hqm : qt.length ≤ 1099511627776 := by have := HQS.out.1; omega
  have CI0 := hid (fun (b t c3 : Nat) (W : World) (hb : Below w.heap.size w W) (f1 : RwsS W b rs0) (f2 : Rws (fun c => b < c) W (some ⟨b, 0, none⟩) rs0) (f3 : TxsS W t ts0) (f4 : Txs (fun c => t < c) 1099511627776 W (some ⟨t, 0, none⟩) ts0) (f5 : PtsOwn W c3 ps3) => (CJ0.out b t c3 W hb f1 f3 f5).mono (fun e w' h => sbs_ssn h (txS_L HQS.out)))
  obtain ⟨nq, hnq⟩ : ∃ x, x = qt.length := ⟨_, rfl⟩
  have HNQ := hid hnq.symm
  obtain ⟨hkr, hks⟩ := kst_pos HVR.out HQS.out
  have hkn : ¬ (kst rs0 qt < 0) := by omega
  clear hkr hks
  obtain ⟨ks, hks⟩ : ∃ ks, ks = kst rs0 qt := ⟨_, rfl⟩
  have MK := hid (fun b1 u1 b2 u2 lo hi a ta cap tcap w' e1 e2 e3 e4 e6 h1 h2 => mark_storeS b1 u1 b2 u2 lo hi now0 a ta cap tcap rs0 qt w' HVR.out HQS.out e1 e2 e3 e4 e6 h1 h2)
  have HE := hid (fun a ta cap tcap w' (h1 : Rws (fun _ => True) w' a (mkr 1 rs0)) (h2 : Txs (fun _ => True) 1099511627776 w' ta (mks (kkr 1 rs0 rs0.length) qt)) => held_storeX now0 a ta cap tcap rs0 qt w' HVR.out HQS.out h1 h2)
  have EQ := hid (fun a b ta tb c d tc td w' (h1 : Rws (fun _ => True) w' a rs0) (h2 : Rws (fun _ => True) w' b rs0) (h3 : Txs (fun _ => True) 1099511627776 w' ta qt) (h4 : Txs (fun _ => True) 1099511627776 w' tb qt) => eq_store now0 a b ta tb c d tc td rs0 qt w' hm' hqm h1 h2 h3 h4)
  rw [← hks] at MK HE hkn
  rw [← hnq] at MK HE EQ
  clear hnq hks
  unfold shv at CH0
  rw [HNP.out] at CH0 CS0 CI0 CJ0
  rw [HNR.out] at MK HE EQ CS0 CI0 CJ0
  rw [HNT.out] at CS0 CI0 CJ0
  have HBY := hid hB
  have CT := hid (fun (W : World) (hb : Below y1.heap.size y1 W) => CT0.out W (btrans hB hb))
  have CH := hid (fun (W : World) (hb : Below y1.heap.size y1 W) => CH0.out W (btrans hB hb))
  have CS := hid (fun (b t c3 : Nat) (W : World) (hb : Below y1.heap.size y1 W) => CS0.out b t c3 W (btrans hB hb))
  rw [HNR.out, HNT.out] at CT
  go_cut [10, 11] (fun ta tb wx => PR y1 now0 bn nr nq rs0 qt ta tb wx)
  case first =>
    refine wp_region_held_drew (S := fun w' => w'.heap[w.heap.size]? = some (.cells #[.int .i64 now0, .slice a0 nr cap0, .slice ta0 nt tcap0] 27 (0, 0)) ∧ w'.heap[w.heap.size + 1]? = some (.cells #[.int .i64 kd3, .slice a3 np cap3] 30 (0, 0))) (by kernel_rfl) ⟨gT, gU⟩ (fun hHeld => ?_)
    have D0 : Below y1.heap.size y1 y1.drew := bdrew (Below.refl _ _)
    have hUl := lt_of_block gU
    generalize y1.drew = X0 at *
    refine wpAnyH_take (i := 0) (v := ?_) rfl (by kernel_rfl) (by kernel_rfl) (by kernel_rfl) (fun _ _ _ h => h) (Or.inl ⟨by rfl, ?_⟩) hHeld ?_
    rotate_left
    · intro w' hSw; (try dsimp only at hSw); obtain ⟨⟨_, _, _⟩, _⟩ := cellk3 hSw.1; go_simp; try (with_reducible rfl)
    try simp only [sq]
    refine wpAnyH_take (i := 2) (v := ?_) rfl (by kernel_rfl) (by kernel_rfl) (by kernel_rfl) (fun _ _ _ h => h) (Or.inl ⟨by rfl, ?_⟩) hHeld ?_
    rotate_left
    · intro w' hSw; (try dsimp only at hSw); go_simp; try (with_reducible rfl)
    try simp only [sq]
    refine wpAnyH_take (i := 3) (v := ?_) rfl (by kernel_rfl) (by kernel_rfl) (by kernel_rfl) (fun _ _ _ h => h) (Or.inl ⟨by rfl, ?_⟩) hHeld ?_
    rotate_left
    · intro w' hSw; (try dsimp only at hSw); go_simp; try (with_reducible rfl)
    try simp only [sq]
    refine wpAnyH_take (i := 4) (v := ?_) rfl (by kernel_rfl) (by kernel_rfl) (by kernel_rfl) (fun _ _ _ h => h) (Or.inl ⟨by rfl, ?_⟩) hHeld ?_
    rotate_left
    · intro w' hSw; (try dsimp only at hSw); obtain ⟨⟨_, _⟩, _⟩ := cellk2 hSw.2; go_simp; try (with_reducible rfl)
    try simp only [sq]
    refine wpAnyH_ready (rs := [1, 10]) (by kernel_rfl) (by simp) ?_
    refine AllReadyH.cons rfl (fun K hK => ?_) (AllReadyH.cons rfl (fun K hK => ?_) AllReadyH.nil)
    · skip
      try simp only [sq]
      go_simp
      go_at_call 8
      refine (CT.out X0 D0).mono ?_
      rintro e X1 hsf
      obtain ⟨b, t, hR, he, f1, f2, f3, f4, f5, f6, hX1⟩ := hsf
      rw [HNR.out, HNT.out] at he
      subst he
      have F1 := hid f1
      have F2 := hid f2
      have F3 := hid f3
      have F4 := hid f4
      clear f1 f2 f3 f4 f5
      have D1 := btrans D0 hX1
      go_wp2_with fail
      refine hK.out _ _ ?_ (fun hHeld => ?_)
      · exact ⟨keepheapA hX1 hHeld.1, keepheapA hX1 hHeld.2⟩
      clear hK K
      try simp only [sq]
      refine wpAnyH_ready (rs := [5, 10]) (by kernel_rfl) (by simp) ?_
      refine AllReadyH.cons rfl (fun K hK => ?_) (AllReadyH.cons rfl (fun K hK => ?_) AllReadyH.nil)
      · skip
        try simp only [sq]
        go_simp
        go_at_call 9
        refine (CH.out X1 D1).mono ?_
        rintro e X2 ⟨c3, he, hc3, hpo, hX2⟩
        subst he
        have F5 := hid hpo
        clear hpo
        replace F1 := hid (F1.out.below hX2)
        replace F2 := hid (F2.out.below hX2)
        replace F3 := hid (F3.out.below hX2)
        replace F4 := hid (F4.out.below hX2)
        have D2 := btrans D1 hX2
        go_wp2_with fail
        refine hK.out _ _ ?_ (fun hHeld => ?_)
        · exact ⟨keepheapA hX2 hHeld.1, keepheapA hX2 hHeld.2⟩
        clear hK K
        try simp only [sq]
        refine wpAnyH_ready (rs := [6, 10]) (by kernel_rfl) (by simp) ?_
        refine AllReadyH.cons rfl (fun K hK => ?_) (AllReadyH.cons rfl (fun K hK => ?_) AllReadyH.nil)
        · skip
          try simp only [sq]
          go_simp
          go_at_call 7
          refine (CS.out b t c3 X2 (D2) F1.out F2.out F3.out F4.out F5.out).mono ?_
          rintro e X3 hss
          obtain ⟨sa, sc, sta, stc, he, hr3, ht3, hX3⟩ := hss
          rw [HNR.out, HNQ.out] at he
          subst he
          have G1 := hid hr3
          have G2 := hid ht3
          clear hr3 ht3
          replace F1 := hid (F1.out.below hX3)
          replace F2 := hid (F2.out.below hX3)
          replace F3 := hid (F3.out.below hX3)
          replace F4 := hid (F4.out.below hX3)
          replace F5 := hid (F5.out.of_block (hX3.block c3 F5.out.1) hX3.size)
          have D3 := btrans D2 hX3
          go_wp2_with fail
          refine hK.out _ _ ?_ (fun hHeld => ?_)
          · exact ⟨keepheapA hX3 hHeld.1, keepheapA hX3 hHeld.2⟩
          clear hK K
          try simp only [sq]
          refine wpAnyH_take (i := 7) (v := ?_) rfl (by kernel_rfl) (by kernel_rfl) (by kernel_rfl) (fun _ _ _ h => h) (Or.inl ⟨by rfl, ?_⟩) hHeld ?_
          rotate_left
          · intro w' hSw; (try dsimp only at hSw); go_simp; try (with_reducible rfl)
          try simp only [sq]
          refine wpAnyH_take (i := 8) (v := ?_) rfl (by kernel_rfl) (by kernel_rfl) (by kernel_rfl) (fun _ _ _ h => h) (Or.inl ⟨by rfl, ?_⟩) hHeld ?_
          rotate_left
          · intro w' hSw; (try dsimp only at hSw); go_simp; try (with_reducible rfl)
          try simp only [sq]
          refine wpAnyH_take (i := 9) (v := ?_) rfl (by kernel_rfl) (by kernel_rfl) (by kernel_rfl) (fun _ _ _ h => h) (Or.inl ⟨by rfl, ?_⟩) hHeld ?_
          rotate_left
          · intro w' hSw; (try dsimp only at hSw); go_simp; try (with_reducible rfl)
          try simp only [sq]
          refine wpAnyH_ready (rs := [10]) (by kernel_rfl) (by simp) ?_
          refine AllReadyH.cons rfl (fun K hK => ?_) AllReadyH.nil
          try simp only [sq]
          go_simp
          refine hK.out _ _ ?_ (fun hHeld => ?_)
          · exact ⟨old_alloc hHeld.1, old_alloc hHeld.2⟩
          clear hK K
          try simp only [sq]
          have gX := new_alloc X3 X3.heap.size (.cells #[.int .i64 0, .slice none 0 0, .slice none 0 0] 38) rfl
          have hal : Below X3.heap.size X3 (X3.alloc (.cells #[.int .i64 0, .slice none 0 0, .slice none 0 0] 38)) := balloc (Below.refl _ _) _
          have hxb : y1.heap.size ≤ X3.heap.size := D3.size
          have hDd := D3
          replace F1 := hid (F1.out.below hal)
          replace F2 := hid (F2.out.below hal)
          replace F3 := hid (F3.out.below hal)
          replace F4 := hid (F4.out.below hal)
          replace F5 := hid (F5.out.of_block (hal.block c3 F5.out.1) hal.size)
          replace G1 := hid (G1.out.below hal)
          replace G2 := hid (G2.out.below hal)
          have D4 := btrans D3 hal
          clear hal hDd
          generalize X3.alloc (.cells #[.int .i64 0, .slice none 0 0, .slice none 0 0] 38) = X4 at *
          generalize X3.heap.size = xb at *
          obtain ⟨⟨v0, v1, v2⟩, s0, s1, s2⟩ := cellk3 gX
          have hfar : ∀ b, b ≠ xb → (((X4.setCell ⟨xb, 0, none⟩ (.int .i64 now0)).setCell ⟨xb, 1, none⟩ (.slice sa nr sc)).setCell ⟨xb, 2, none⟩ (.slice sta nq stc)).heap[b]? = X4.heap[b]? := fun b hb => by rw [Below.heap_setCell _ _ _ _ (by dsimp only; omega), Below.heap_setCell _ _ _ _ (by dsimp only; omega), Below.heap_setCell _ _ _ _ (by dsimp only; omega)]
          refine wpAnyH_ready (rs := [11]) (by kernel_rfl) (by simp) ?_
          refine AllReadyH.cons rfl (fun K hK => ?_) AllReadyH.nil
          try simp only [sq]
          go_simp
          refine hK.out _ _ ?_ (fun hHeld => ?_)
          · exact ⟨(hfar _ (by omega)).trans hHeld.1, (hfar _ (by omega)).trans hHeld.2⟩
          clear hK K
          try simp only [sq]
          refine wpAnyH_take (i := 12) (v := ?_) rfl (by kernel_rfl) (by kernel_rfl) (by kernel_rfl) (fun _ _ _ h => h) (Or.inl ⟨by rfl, ?_⟩) hHeld ?_
          rotate_left
          · intro w' hSw; (try dsimp only at hSw); go_simp; try (with_reducible rfl)
          try simp only [sq]
          refine wpAnyH_done (by kernel_rfl) ?_ _
          have gF := setk3 gX (.int .i64 now0) (.slice sa nr sc) (.slice sta nq stc)
          have bF := bset (bset (bset D4 (q := xb) (k := 0) hxb (.int .i64 now0)) (q := xb) (k := 1) hxb (.slice sa nr sc)) (q := xb) (k := 2) hxb (.slice sta nq stc)
          have rF := G1.out.off gX (fun _ => by simp) hfar (by simp)
          have tF := G2.out.off gX (fun _ => by simp) (fun _ => by simp) hfar (by simp)
          clear v0 v1 v2 s0 s1 s2 hfar
          go_wp2_with fail
          go_meet
          exact pr_mk gF rF tF hxb bF
        · skip
          try simp only [sq]
          go_simp
          refine hK.out _ _ ?_ (fun hHeld => ?_)
          · exact ⟨old_alloc hHeld.1, old_alloc hHeld.2⟩
          clear hK K
          try simp only [sq]
          have gX := new_alloc X2 X2.heap.size (.cells #[.int .i64 0, .slice none 0 0, .slice none 0 0] 38) rfl
          have hal : Below X2.heap.size X2 (X2.alloc (.cells #[.int .i64 0, .slice none 0 0, .slice none 0 0] 38)) := balloc (Below.refl _ _) _
          have hxb : y1.heap.size ≤ X2.heap.size := D2.size
          have hDd := D2
          replace F1 := hid (F1.out.below hal)
          replace F2 := hid (F2.out.below hal)
          replace F3 := hid (F3.out.below hal)
          replace F4 := hid (F4.out.below hal)
          replace F5 := hid (F5.out.of_block (hal.block c3 F5.out.1) hal.size)
          have D3 := btrans D2 hal
          clear hal hDd
          generalize X2.alloc (.cells #[.int .i64 0, .slice none 0 0, .slice none 0 0] 38) = X3 at *
          generalize X2.heap.size = xb at *
          refine wpAnyH_ready (rs := [6]) (by kernel_rfl) (by simp) ?_
          refine AllReadyH.cons rfl (fun K hK => ?_) AllReadyH.nil
          try simp only [sq]
          go_simp
          go_at_call 7
          refine (CS.out b t c3 X3 (D3) F1.out F2.out F3.out F4.out F5.out).mono ?_
          rintro e X4 hss
          obtain ⟨sa, sc, sta, stc, he, hr3, ht3, hX4⟩ := hss
          rw [HNR.out, HNQ.out] at he
          subst he
          have G1 := hid hr3
          have G2 := hid ht3
          clear hr3 ht3
          replace F1 := hid (F1.out.below hX4)
          replace F2 := hid (F2.out.below hX4)
          replace F3 := hid (F3.out.below hX4)
          replace F4 := hid (F4.out.below hX4)
          replace F5 := hid (F5.out.of_block (hX4.block c3 F5.out.1) hX4.size)
          replace gX := keepheapA hX4 gX
          have D4 := btrans D3 hX4
          go_wp2_with fail
          refine hK.out _ _ ?_ (fun hHeld => ?_)
          · exact ⟨keepheapA hX4 hHeld.1, keepheapA hX4 hHeld.2⟩
          clear hK K
          try simp only [sq]
          refine wpAnyH_take (i := 7) (v := ?_) rfl (by kernel_rfl) (by kernel_rfl) (by kernel_rfl) (fun _ _ _ h => h) (Or.inl ⟨by rfl, ?_⟩) hHeld ?_
          rotate_left
          · intro w' hSw; (try dsimp only at hSw); go_simp; try (with_reducible rfl)
          try simp only [sq]
          refine wpAnyH_take (i := 8) (v := ?_) rfl (by kernel_rfl) (by kernel_rfl) (by kernel_rfl) (fun _ _ _ h => h) (Or.inl ⟨by rfl, ?_⟩) hHeld ?_
          rotate_left
          · intro w' hSw; (try dsimp only at hSw); go_simp; try (with_reducible rfl)
          try simp only [sq]
          refine wpAnyH_take (i := 9) (v := ?_) rfl (by kernel_rfl) (by kernel_rfl) (by kernel_rfl) (fun _ _ _ h => h) (Or.inl ⟨by rfl, ?_⟩) hHeld ?_
          rotate_left
          · intro w' hSw; (try dsimp only at hSw); go_simp; try (with_reducible rfl)
          try simp only [sq]
          obtain ⟨⟨v0, v1, v2⟩, s0, s1, s2⟩ := cellk3 gX
          have hfar : ∀ b, b ≠ xb → (((X4.setCell ⟨xb, 0, none⟩ (.int .i64 now0)).setCell ⟨xb, 1, none⟩ (.slice sa nr sc)).setCell ⟨xb, 2, none⟩ (.slice sta nq stc)).heap[b]? = X4.heap[b]? := fun b hb => by rw [Below.heap_setCell _ _ _ _ (by dsimp only; omega), Below.heap_setCell _ _ _ _ (by dsimp only; omega), Below.heap_setCell _ _ _ _ (by dsimp only; omega)]
          refine wpAnyH_ready (rs := [11]) (by kernel_rfl) (by simp) ?_
          refine AllReadyH.cons rfl (fun K hK => ?_) AllReadyH.nil
          try simp only [sq]
          go_simp
          refine hK.out _ _ ?_ (fun hHeld => ?_)
          · exact ⟨(hfar _ (by omega)).trans hHeld.1, (hfar _ (by omega)).trans hHeld.2⟩
          clear hK K
          try simp only [sq]
          refine wpAnyH_take (i := 12) (v := ?_) rfl (by kernel_rfl) (by kernel_rfl) (by kernel_rfl) (fun _ _ _ h => h) (Or.inl ⟨by rfl, ?_⟩) hHeld ?_
          rotate_left
          · intro w' hSw; (try dsimp only at hSw); go_simp; try (with_reducible rfl)
          try simp only [sq]
          refine wpAnyH_done (by kernel_rfl) ?_ _
          have gF := setk3 gX (.int .i64 now0) (.slice sa nr sc) (.slice sta nq stc)
          have bF := bset (bset (bset D4 (q := xb) (k := 0) hxb (.int .i64 now0)) (q := xb) (k := 1) hxb (.slice sa nr sc)) (q := xb) (k := 2) hxb (.slice sta nq stc)
          have rF := G1.out.off gX (fun _ => by simp) hfar (by simp)
          have tF := G2.out.off gX (fun _ => by simp) (fun _ => by simp) hfar (by simp)
          clear v0 v1 v2 s0 s1 s2 hfar
          go_wp2_with fail
          go_meet
          exact pr_mk gF rF tF hxb bF
      · skip
        try simp only [sq]
        go_simp
        refine hK.out _ _ ?_ (fun hHeld => ?_)
        · exact ⟨old_alloc hHeld.1, old_alloc hHeld.2⟩
        clear hK K
        try simp only [sq]
        have gX := new_alloc X1 X1.heap.size (.cells #[.int .i64 0, .slice none 0 0, .slice none 0 0] 38) rfl
        have hal : Below X1.heap.size X1 (X1.alloc (.cells #[.int .i64 0, .slice none 0 0, .slice none 0 0] 38)) := balloc (Below.refl _ _) _
        have hxb : y1.heap.size ≤ X1.heap.size := D1.size
        have hDd := D1
        replace F1 := hid (F1.out.below hal)
        replace F2 := hid (F2.out.below hal)
        replace F3 := hid (F3.out.below hal)
        replace F4 := hid (F4.out.below hal)
        have D2 := btrans D1 hal
        clear hal hDd
        generalize X1.alloc (.cells #[.int .i64 0, .slice none 0 0, .slice none 0 0] 38) = X2 at *
        generalize X1.heap.size = xb at *
        refine wpAnyH_ready (rs := [5]) (by kernel_rfl) (by simp) ?_
        refine AllReadyH.cons rfl (fun K hK => ?_) AllReadyH.nil
        try simp only [sq]
        go_simp
        go_at_call 9
        refine (CH.out X2 D2).mono ?_
        rintro e X3 ⟨c3, he, hc3, hpo, hX3⟩
        subst he
        have F5 := hid hpo
        clear hpo
        replace F1 := hid (F1.out.below hX3)
        replace F2 := hid (F2.out.below hX3)
        replace F3 := hid (F3.out.below hX3)
        replace F4 := hid (F4.out.below hX3)
        replace gX := keepheapA hX3 gX
        have D3 := btrans D2 hX3
        go_wp2_with fail
        refine hK.out _ _ ?_ (fun hHeld => ?_)
        · exact ⟨keepheapA hX3 hHeld.1, keepheapA hX3 hHeld.2⟩
        clear hK K
        try simp only [sq]
        refine wpAnyH_ready (rs := [6]) (by kernel_rfl) (by simp) ?_
        refine AllReadyH.cons rfl (fun K hK => ?_) AllReadyH.nil
        try simp only [sq]
        go_simp
        go_at_call 7
        refine (CS.out b t c3 X3 (D3) F1.out F2.out F3.out F4.out F5.out).mono ?_
        rintro e X4 hss
        obtain ⟨sa, sc, sta, stc, he, hr3, ht3, hX4⟩ := hss
        rw [HNR.out, HNQ.out] at he
        subst he
        have G1 := hid hr3
        have G2 := hid ht3
        clear hr3 ht3
        replace F1 := hid (F1.out.below hX4)
        replace F2 := hid (F2.out.below hX4)
        replace F3 := hid (F3.out.below hX4)
        replace F4 := hid (F4.out.below hX4)
        replace F5 := hid (F5.out.of_block (hX4.block c3 F5.out.1) hX4.size)
        replace gX := keepheapA hX4 gX
        have D4 := btrans D3 hX4
        go_wp2_with fail
        refine hK.out _ _ ?_ (fun hHeld => ?_)
        · exact ⟨keepheapA hX4 hHeld.1, keepheapA hX4 hHeld.2⟩
        clear hK K
        try simp only [sq]
        refine wpAnyH_take (i := 7) (v := ?_) rfl (by kernel_rfl) (by kernel_rfl) (by kernel_rfl) (fun _ _ _ h => h) (Or.inl ⟨by rfl, ?_⟩) hHeld ?_
        rotate_left
        · intro w' hSw; (try dsimp only at hSw); go_simp; try (with_reducible rfl)
        try simp only [sq]
        refine wpAnyH_take (i := 8) (v := ?_) rfl (by kernel_rfl) (by kernel_rfl) (by kernel_rfl) (fun _ _ _ h => h) (Or.inl ⟨by rfl, ?_⟩) hHeld ?_
        rotate_left
        · intro w' hSw; (try dsimp only at hSw); go_simp; try (with_reducible rfl)
        try simp only [sq]
        refine wpAnyH_take (i := 9) (v := ?_) rfl (by kernel_rfl) (by kernel_rfl) (by kernel_rfl) (fun _ _ _ h => h) (Or.inl ⟨by rfl, ?_⟩) hHeld ?_
        rotate_left
        · intro w' hSw; (try dsimp only at hSw); go_simp; try (with_reducible rfl)
        try simp only [sq]
        obtain ⟨⟨v0, v1, v2⟩, s0, s1, s2⟩ := cellk3 gX
        have hfar : ∀ b, b ≠ xb → (((X4.setCell ⟨xb, 0, none⟩ (.int .i64 now0)).setCell ⟨xb, 1, none⟩ (.slice sa nr sc)).setCell ⟨xb, 2, none⟩ (.slice sta nq stc)).heap[b]? = X4.heap[b]? := fun b hb => by rw [Below.heap_setCell _ _ _ _ (by dsimp only; omega), Below.heap_setCell _ _ _ _ (by dsimp only; omega), Below.heap_setCell _ _ _ _ (by dsimp only; omega)]
        refine wpAnyH_ready (rs := [11]) (by kernel_rfl) (by simp) ?_
        refine AllReadyH.cons rfl (fun K hK => ?_) AllReadyH.nil
        try simp only [sq]
        go_simp
        refine hK.out _ _ ?_ (fun hHeld => ?_)
        · exact ⟨(hfar _ (by omega)).trans hHeld.1, (hfar _ (by omega)).trans hHeld.2⟩
        clear hK K
        try simp only [sq]
        refine wpAnyH_take (i := 12) (v := ?_) rfl (by kernel_rfl) (by kernel_rfl) (by kernel_rfl) (fun _ _ _ h => h) (Or.inl ⟨by rfl, ?_⟩) hHeld ?_
        rotate_left
        · intro w' hSw; (try dsimp only at hSw); go_simp; try (with_reducible rfl)
        try simp only [sq]
        refine wpAnyH_done (by kernel_rfl) ?_ _
        have gF := setk3 gX (.int .i64 now0) (.slice sa nr sc) (.slice sta nq stc)
        have bF := bset (bset (bset D4 (q := xb) (k := 0) hxb (.int .i64 now0)) (q := xb) (k := 1) hxb (.slice sa nr sc)) (q := xb) (k := 2) hxb (.slice sta nq stc)
        have rF := G1.out.off gX (fun _ => by simp) hfar (by simp)
        have tF := G2.out.off gX (fun _ => by simp) (fun _ => by simp) hfar (by simp)
        clear v0 v1 v2 s0 s1 s2 hfar
        go_wp2_with fail
        go_meet
        exact pr_mk gF rF tF hxb bF
    · skip
      try simp only [sq]
      go_simp
      refine hK.out _ _ ?_ (fun hHeld => ?_)
      · exact ⟨old_alloc hHeld.1, old_alloc hHeld.2⟩
      clear hK K
      try simp only [sq]
      have gX := new_alloc X0 X0.heap.size (.cells #[.int .i64 0, .slice none 0 0, .slice none 0 0] 38) rfl
      have hal : Below X0.heap.size X0 (X0.alloc (.cells #[.int .i64 0, .slice none 0 0, .slice none 0 0] 38)) := balloc (Below.refl _ _) _
      have hxb : y1.heap.size ≤ X0.heap.size := D0.size
      have hDd := D0
      have D1 := btrans D0 hal
      clear hal hDd
      generalize X0.alloc (.cells #[.int .i64 0, .slice none 0 0, .slice none 0 0] 38) = X1 at *
      generalize X0.heap.size = xb at *
      refine wpAnyH_ready (rs := [1]) (by kernel_rfl) (by simp) ?_
      refine AllReadyH.cons rfl (fun K hK => ?_) AllReadyH.nil
      try simp only [sq]
      go_simp
      go_at_call 8
      refine (CT.out X1 D1).mono ?_
      rintro e X2 hsf
      obtain ⟨b, t, hR, he, f1, f2, f3, f4, f5, f6, hX2⟩ := hsf
      rw [HNR.out, HNT.out] at he
      subst he
      have F1 := hid f1
      have F2 := hid f2
      have F3 := hid f3
      have F4 := hid f4
      clear f1 f2 f3 f4 f5
      replace gX := keepheapA hX2 gX
      have D2 := btrans D1 hX2
      go_wp2_with fail
      refine hK.out _ _ ?_ (fun hHeld => ?_)
      · exact ⟨keepheapA hX2 hHeld.1, keepheapA hX2 hHeld.2⟩
      clear hK K
      try simp only [sq]
      refine wpAnyH_ready (rs := [5]) (by kernel_rfl) (by simp) ?_
      refine AllReadyH.cons rfl (fun K hK => ?_) AllReadyH.nil
      try simp only [sq]
      go_simp
      go_at_call 9
      refine (CH.out X2 D2).mono ?_
      rintro e X3 ⟨c3, he, hc3, hpo, hX3⟩
      subst he
      have F5 := hid hpo
      clear hpo
      replace F1 := hid (F1.out.below hX3)
      replace F2 := hid (F2.out.below hX3)
      replace F3 := hid (F3.out.below hX3)
      replace F4 := hid (F4.out.below hX3)
      replace gX := keepheapA hX3 gX
      have D3 := btrans D2 hX3
      go_wp2_with fail
      refine hK.out _ _ ?_ (fun hHeld => ?_)
      · exact ⟨keepheapA hX3 hHeld.1, keepheapA hX3 hHeld.2⟩
      clear hK K
      try simp only [sq]
      refine wpAnyH_ready (rs := [6]) (by kernel_rfl) (by simp) ?_
      refine AllReadyH.cons rfl (fun K hK => ?_) AllReadyH.nil
      try simp only [sq]
      go_simp
      go_at_call 7
      refine (CS.out b t c3 X3 (D3) F1.out F2.out F3.out F4.out F5.out).mono ?_
      rintro e X4 hss
      obtain ⟨sa, sc, sta, stc, he, hr3, ht3, hX4⟩ := hss
      rw [HNR.out, HNQ.out] at he
      subst he
      have G1 := hid hr3
      have G2 := hid ht3
      clear hr3 ht3
      replace F1 := hid (F1.out.below hX4)
      replace F2 := hid (F2.out.below hX4)
      replace F3 := hid (F3.out.below hX4)
      replace F4 := hid (F4.out.below hX4)
      replace F5 := hid (F5.out.of_block (hX4.block c3 F5.out.1) hX4.size)
      replace gX := keepheapA hX4 gX
      have D4 := btrans D3 hX4
      go_wp2_with fail
      refine hK.out _ _ ?_ (fun hHeld => ?_)
      · exact ⟨keepheapA hX4 hHeld.1, keepheapA hX4 hHeld.2⟩
      clear hK K
      try simp only [sq]
      refine wpAnyH_take (i := 7) (v := ?_) rfl (by kernel_rfl) (by kernel_rfl) (by kernel_rfl) (fun _ _ _ h => h) (Or.inl ⟨by rfl, ?_⟩) hHeld ?_
      rotate_left
      · intro w' hSw; (try dsimp only at hSw); go_simp; try (with_reducible rfl)
      try simp only [sq]
      refine wpAnyH_take (i := 8) (v := ?_) rfl (by kernel_rfl) (by kernel_rfl) (by kernel_rfl) (fun _ _ _ h => h) (Or.inl ⟨by rfl, ?_⟩) hHeld ?_
      rotate_left
      · intro w' hSw; (try dsimp only at hSw); go_simp; try (with_reducible rfl)
      try simp only [sq]
      refine wpAnyH_take (i := 9) (v := ?_) rfl (by kernel_rfl) (by kernel_rfl) (by kernel_rfl) (fun _ _ _ h => h) (Or.inl ⟨by rfl, ?_⟩) hHeld ?_
      rotate_left
      · intro w' hSw; (try dsimp only at hSw); go_simp; try (with_reducible rfl)
      try simp only [sq]
      obtain ⟨⟨v0, v1, v2⟩, s0, s1, s2⟩ := cellk3 gX
      have hfar : ∀ b, b ≠ xb → (((X4.setCell ⟨xb, 0, none⟩ (.int .i64 now0)).setCell ⟨xb, 1, none⟩ (.slice sa nr sc)).setCell ⟨xb, 2, none⟩ (.slice sta nq stc)).heap[b]? = X4.heap[b]? := fun b hb => by rw [Below.heap_setCell _ _ _ _ (by dsimp only; omega), Below.heap_setCell _ _ _ _ (by dsimp only; omega), Below.heap_setCell _ _ _ _ (by dsimp only; omega)]
      refine wpAnyH_ready (rs := [11]) (by kernel_rfl) (by simp) ?_
      refine AllReadyH.cons rfl (fun K hK => ?_) AllReadyH.nil
      try simp only [sq]
      go_simp
      refine hK.out _ _ ?_ (fun hHeld => ?_)
      · exact ⟨(hfar _ (by omega)).trans hHeld.1, (hfar _ (by omega)).trans hHeld.2⟩
      clear hK K
      try simp only [sq]
      refine wpAnyH_take (i := 12) (v := ?_) rfl (by kernel_rfl) (by kernel_rfl) (by kernel_rfl) (fun _ _ _ h => h) (Or.inl ⟨by rfl, ?_⟩) hHeld ?_
      rotate_left
      · intro w' hSw; (try dsimp only at hSw); go_simp; try (with_reducible rfl)
      try simp only [sq]
      refine wpAnyH_done (by kernel_rfl) ?_ _
      have gF := setk3 gX (.int .i64 now0) (.slice sa nr sc) (.slice sta nq stc)
      have bF := bset (bset (bset D4 (q := xb) (k := 0) hxb (.int .i64 now0)) (q := xb) (k := 1) hxb (.slice sa nr sc)) (q := xb) (k := 2) hxb (.slice sta nq stc)
      have rF := G1.out.off gX (fun _ => by simp) hfar (by simp)
      have tF := G2.out.off gX (fun _ => by simp) (fun _ => by simp) hfar (by simp)
      clear v0 v1 v2 s0 s1 s2 hfar
      go_wp2_with fail
      go_meet
      exact pr_mk gF rF tF hxb bF
  case rest =>
    obtain ⟨z, hzz, xb, sa, sc, sta, stc, rfl, rfl, gA, hso, hst, hxb, hc⟩ := hcut
    subst hzz
    replace gT := keepheapA hc gT
    replace gU := keepheapA hc gU
    replace hB := btrans hB hc
    have S00 := hid hso
    have ST00 := hid hst
    have HBS : Hid (BS z z) := hid (Below.refl _ _)
    have hUl := lt_of_block gU
    have hAl := lt_of_block gA
    have hyz := hc.size
    clear hc hso hst CT CH CS
    obtain ⟨⟨d0, d1, d2⟩, _⟩ := cellk3 gT
    go_wp2_with fail
    have CT3 := CT0.out _ hB
    rw [HNR.out, HNT.out] at CT3
    refine CT3.mono ?_
    rintro e y3 hsf
    obtain ⟨b3, t3, hR3, he, f1, f2, f3, f4, f5, f6, hc⟩ := hsf
    rw [HNR.out, HNT.out] at he
    subst he
    clear CT3
    have R1 := hid f1
    have R2 := hid f2
    have R3 := hid f3
    have R4 := hid f4
    have R5 := hid f5
    replace HBS := hid (btrans HBS.out hc)
    replace gT := keepheapA hc gT
    replace gU := keepheapA hc gU
    replace gA := keepheapA hc gA
    replace hB := btrans hB hc
    have hzy3 := hc.size
    clear hc f1 f2 f3 f4 f5 d0 d1 d2
    have hi3 := R5.out.2.2.1
    have hi3b := R5.out.1
    have hi3c := R5.out.2.1
    go_upto_region 10 with fail
    have hal : Below y3.heap.size y3 (y3.alloc (.cells #[.int .i64 now0, .slice (some ⟨b3, 0, none⟩) nr nr, .slice (some ⟨t3, 0, none⟩) nt nt] 38)) := balloc (Below.refl _ _) _
    have gNew := new_alloc y3 y3.heap.size (.cells #[.int .i64 now0, .slice (some ⟨b3, 0, none⟩) nr nr, .slice (some ⟨t3, 0, none⟩) nt nt] 38) rfl
    have hsa : (y3.alloc (.cells #[.int .i64 now0, .slice (some ⟨b3, 0, none⟩) nr nr, .slice (some ⟨t3, 0, none⟩) nt nt] 38)).heap.size = y3.heap.size + 1 := by simp
    have hsa1 := Nat.le_of_eq hsa
    have hsa2 := Nat.le_of_eq hsa.symm
    clear hsa
    replace gT := keepheapA hal gT
    replace gU := keepheapA hal gU
    replace gA := keepheapA hal gA
    replace R1 := hid (R1.out.below hal)
    replace R2 := hid (R2.out.below hal)
    replace R3 := hid (R3.out.below hal)
    replace R4 := hid (R4.out.below hal)
    replace R5 := hid (R5.out.below hal)
    replace hB := btrans hB hal
    replace HBS := hid (btrans HBS.out hal)
    clear hal
    generalize y3.alloc (.cells #[.int .i64 now0, .slice (some ⟨b3, 0, none⟩) nr nr, .slice (some ⟨t3, 0, none⟩) nt nt] 38) = z3 at *
    generalize y3.heap.size = x3 at *
    have gX := gNew
    have hx3a := hsa1
    have hx3b := hsa2
    clear gNew hsa1 hsa2
    obtain ⟨⟨u0, u1⟩, _⟩ := cellk2 gU
    go_wp2_with fail
    refine (CH0.out _ hB).mono ?_
    rintro e y4 ⟨c3, rfl, hc3, hpo, hc⟩
    have R6 := hid hpo
    replace gT := keepheapA hc gT
    replace gU := keepheapA hc gU
    replace gA := keepheapA hc gA
    replace gX := keepheapA hc gX
    replace R1 := hid (R1.out.below hc)
    replace R2 := hid (R2.out.below hc)
    replace R3 := hid (R3.out.below hc)
    replace R4 := hid (R4.out.below hc)
    replace R5 := hid (R5.out.below hc)
    replace hB := btrans hB hc
    replace HBS := hid (btrans HBS.out hc)
    have hzy4 := hc.size
    have hc3l := hpo.1
    clear hc hpo u0 u1
    go_upto_region 11 with fail
    have hal : Below y4.heap.size y4 (y4.alloc (.cells #[.int .i64 kd3, .slice (some ⟨c3, 0, none⟩) np np] 44)) := balloc (Below.refl _ _) _
    have gNew := new_alloc y4 y4.heap.size (.cells #[.int .i64 kd3, .slice (some ⟨c3, 0, none⟩) np np] 44) rfl
    have hsa : (y4.alloc (.cells #[.int .i64 kd3, .slice (some ⟨c3, 0, none⟩) np np] 44)).heap.size = y4.heap.size + 1 := by simp
    have hsa1 := Nat.le_of_eq hsa
    have hsa2 := Nat.le_of_eq hsa.symm
    clear hsa
    replace gT := keepheapA hal gT
    replace gU := keepheapA hal gU
    replace gA := keepheapA hal gA
    replace gX := keepheapA hal gX
    replace R1 := hid (R1.out.below hal)
    replace R2 := hid (R2.out.below hal)
    replace R3 := hid (R3.out.below hal)
    replace R4 := hid (R4.out.below hal)
    replace R5 := hid (R5.out.below hal)
    replace hB := btrans hB hal
    replace HBS := hid (btrans HBS.out hal)
    replace R6 := hid (R6.out.of_block (hal.block c3 R6.out.1) hal.size)
    clear hal
    generalize y4.alloc (.cells #[.int .i64 kd3, .slice (some ⟨c3, 0, none⟩) np np] 44) = z4 at *
    generalize y4.heap.size = x4 at *
    have gV := gNew
    have hx4a := hsa1
    have hx4b := hsa2
    clear gNew hsa1 hsa2
    obtain ⟨⟨d0, d1, d2⟩, _⟩ := cellk3 gX
    obtain ⟨⟨u0, u1⟩, _⟩ := cellk2 gV
    go_wp2_with fail
    refine (CJ0.out b3 t3 c3 _ hB R1.out R3.out R6.out).mono ?_
    rintro e y5 hsb
    obtain ⟨ga, gc, gta, gtc, p1, v1, p2, v2, he, g1x, g2x, hp1, hp2, hc⟩ := hsb
    rw [HNR.out, HNQ.out] at he
    subst he
    rw [HNR.out] at g1x
    rw [HNQ.out] at g2x
    have G1 := hid g1x
    have G2 := hid g2x
    replace gT := keepheapA hc gT
    replace gU := keepheapA hc gU
    replace gA := keepheapA hc gA
    replace gX := keepheapA hc gX
    replace gV := keepheapA hc gV
    replace R1 := hid (R1.out.below hc)
    replace R2 := hid (R2.out.below hc)
    replace R3 := hid (R3.out.below hc)
    replace R4 := hid (R4.out.below hc)
    replace R5 := hid (R5.out.below hc)
    replace hB := btrans hB hc
    replace HBS := hid (btrans HBS.out hc)
    replace R6 := hid (R6.out.of_block (hc.block c3 R6.out.1) hc.size)
    have hzy5 := hc.size
    have hv1 := g1x.1
    have hv2 := g2x.1
    clear hc g1x g2x d0 d1 d2 u0 u1
    go_upto_region 12 with fail
    have hal : Below y5.heap.size y5 (y5.alloc (.cells #[.int .i64 now0, .slice ga nr gc, .slice gta nq gtc] 38)) := balloc (Below.refl _ _) _
    have gNew := new_alloc y5 y5.heap.size (.cells #[.int .i64 now0, .slice ga nr gc, .slice gta nq gtc] 38) rfl
    have hsa : (y5.alloc (.cells #[.int .i64 now0, .slice ga nr gc, .slice gta nq gtc] 38)).heap.size = y5.heap.size + 1 := by simp
    have hsa1 := Nat.le_of_eq hsa
    have hsa2 := Nat.le_of_eq hsa.symm
    clear hsa
    replace gT := keepheapA hal gT
    replace gU := keepheapA hal gU
    replace gA := keepheapA hal gA
    replace gX := keepheapA hal gX
    replace gV := keepheapA hal gV
    replace R1 := hid (R1.out.below hal)
    replace R2 := hid (R2.out.below hal)
    replace R3 := hid (R3.out.below hal)
    replace R4 := hid (R4.out.below hal)
    replace R5 := hid (R5.out.below hal)
    replace G1 := hid (G1.out.below hal)
    replace G2 := hid (G2.out.below hal)
    replace hB := btrans hB hal
    replace HBS := hid (btrans HBS.out hal)
    replace R6 := hid (R6.out.of_block (hal.block c3 R6.out.1) hal.size)
    clear hal
    generalize y5.alloc (.cells #[.int .i64 now0, .slice ga nr gc, .slice gta nq gtc] 38) = z5 at *
    generalize y5.heap.size = x5 at *
    have gG := gNew
    have hx5a := hsa1
    have hx5b := hsa2
    clear gNew hsa1 hsa2
    obtain ⟨⟨d0, d1, d2⟩, _⟩ := cellk3 gG
    obtain ⟨⟨e0, e1, e2⟩, _⟩ := cellk3 gA
    go_wp2_with fail
    refine (EQ.out ga sa gta sta gc sc gtc stc _ (by have := G1.out.rws; exact this) (S00.out.below HBS.out) (by have := Txs.any (G2.out.txs (txS_L HQS.out)); exact this) (ST00.out.below HBS.out)).mono ?_
    rintro e y6 ⟨rfl, hc⟩
    replace gT := keepheapA hc gT
    replace gU := keepheapA hc gU
    replace gA := keepheapA hc gA
    replace gX := keepheapA hc gX
    replace gV := keepheapA hc gV
    replace gG := keepheapA hc gG
    replace R1 := hid (R1.out.below hc)
    replace R2 := hid (R2.out.below hc)
    replace R3 := hid (R3.out.below hc)
    replace R4 := hid (R4.out.below hc)
    replace R5 := hid (R5.out.below hc)
    replace G1 := hid (G1.out.below hc)
    replace G2 := hid (G2.out.below hc)
    replace hB := btrans hB hc
    replace HBS := hid (btrans HBS.out hc)
    replace R6 := hid (R6.out.of_block (hc.block c3 R6.out.1) hc.size)
    have hzy6 := hc.size
    clear hc d0 d1 d2 e0 e1 e2
    go_upto_region 14 with fail
    refine wp_region_held_drew (S := fun w' => w'.heap[x3]? = some (.cells #[.int .i64 now0, .slice (some ⟨b3, 0, none⟩) nr nr, .slice (some ⟨t3, 0, none⟩) nt nt] 38 (0, 0)) ∧ w'.heap[w.heap.size]? = some (.cells #[.int .i64 now0, .slice a0 nr cap0, .slice ta0 nt tcap0] 27 (0, 0))) (by kernel_rfl) ⟨gX, gT⟩ (fun hHeld => ?_)
    have hc : Below y6.heap.size y6 y6.drew := bdrew (Below.refl _ _)
    replace gT := keepheapA hc gT
    replace gU := keepheapA hc gU
    replace gA := keepheapA hc gA
    replace gX := keepheapA hc gX
    replace gV := keepheapA hc gV
    replace gG := keepheapA hc gG
    replace R1 := hid (R1.out.below hc)
    replace R2 := hid (R2.out.below hc)
    replace R3 := hid (R3.out.below hc)
    replace R4 := hid (R4.out.below hc)
    replace R5 := hid (R5.out.below hc)
    replace G1 := hid (G1.out.below hc)
    replace G2 := hid (G2.out.below hc)
    replace hB := btrans hB hc
    replace HBS := hid (btrans HBS.out hc)
    replace R6 := hid (R6.out.of_block (hc.block c3 R6.out.1) hc.size)
    clear hc
    generalize y6.drew = XX at *
    refine wpAnyH_take (i := 0) (v := ?_) rfl (by kernel_rfl) (by kernel_rfl) (by kernel_rfl) (fun _ _ _ h => h) (Or.inl ⟨by rfl, ?_⟩) hHeld ?_
    rotate_left
    · intro w' hSw; (try dsimp only at hSw); obtain ⟨⟨_, _, _⟩, _⟩ := cellk3 hSw.1; go_simp; try (with_reducible rfl)
    try simp only [sq]
    refine wpAnyH_take (i := 1) (v := ?_) rfl (by kernel_rfl) (by kernel_rfl) (by kernel_rfl) (fun _ _ _ h => h) (Or.inl ⟨by rfl, ?_⟩) hHeld ?_
    rotate_left
    · intro w' hSw; (try dsimp only at hSw); obtain ⟨⟨_, _, _⟩, _⟩ := cellk3 hSw.2; go_simp; try (with_reducible rfl)
    try simp only [sq]
    refine wpAnyH_ready (rs := [2]) (by kernel_rfl) (by simp) ?_
    refine AllReadyH.cons rfl (fun K hK => ?_) AllReadyH.nil
    try simp only [sq]
    go_simp
    go_at_call 8
    have CTx := CT0.out _ hB
    rw [HNR.out, HNT.out] at CTx
    refine CTx.mono ?_
    rintro e m1 hsf
    obtain ⟨b', t', hR', he, f1, f2, f3, f4, f5, f6, hc⟩ := hsf
    rw [HNR.out, HNT.out] at he
    subst he
    have T1 := hid f2
    have T2 := hid f4
    clear CTx f1 f2 f3 f4 f5
    replace gT := keepheapA hc gT
    replace gU := keepheapA hc gU
    replace gA := keepheapA hc gA
    replace gX := keepheapA hc gX
    replace gV := keepheapA hc gV
    replace gG := keepheapA hc gG
    replace R1 := hid (R1.out.below hc)
    replace R2 := hid (R2.out.below hc)
    replace R3 := hid (R3.out.below hc)
    replace R4 := hid (R4.out.below hc)
    replace R5 := hid (R5.out.below hc)
    replace G1 := hid (G1.out.below hc)
    replace G2 := hid (G2.out.below hc)
    replace hB := btrans hB hc
    replace HBS := hid (btrans HBS.out hc)
    replace R6 := hid (R6.out.of_block (hc.block c3 R6.out.1) hc.size)
    go_wp2_with fail
    refine hK.out _ _ ?_ (fun hHeld => ?_)
    · exact ⟨keepheapA hc hHeld.1, keepheapA hc hHeld.2⟩
    clear hK K hc
    try simp only [sq]
    refine wpAnyH_ready (rs := [3]) (by kernel_rfl) (by simp) ?_
    refine AllReadyH.cons rfl (fun K hK => ?_) AllReadyH.nil
    try simp only [sq]
    go_simp
    go_at_call 11
    have EQx := eq_store now0 _ _ _ _ nr nr nt nt rs0 ts0 _ hm' hn' R2.out T1.out R4.out T2.out
    rw [HNR.out, HNT.out] at EQx
    refine EQx.mono ?_
    rintro e m2 ⟨rfl, hc⟩
    clear EQx T1 T2
    replace gT := keepheapA hc gT
    replace gU := keepheapA hc gU
    replace gA := keepheapA hc gA
    replace gX := keepheapA hc gX
    replace gV := keepheapA hc gV
    replace gG := keepheapA hc gG
    replace R1 := hid (R1.out.below hc)
    replace R2 := hid (R2.out.below hc)
    replace R3 := hid (R3.out.below hc)
    replace R4 := hid (R4.out.below hc)
    replace R5 := hid (R5.out.below hc)
    replace G1 := hid (G1.out.below hc)
    replace G2 := hid (G2.out.below hc)
    replace hB := btrans hB hc
    replace HBS := hid (btrans HBS.out hc)
    replace R6 := hid (R6.out.of_block (hc.block c3 R6.out.1) hc.size)
    go_wp2_with fail
    refine hK.out _ _ ?_ (fun hHeld => ?_)
    · exact ⟨keepheapA hc hHeld.1, keepheapA hc hHeld.2⟩
    clear hK K hc
    try simp only [sq]
    refine wpAnyH_take (i := 4) (v := ?_) rfl (by kernel_rfl) (by kernel_rfl) (by kernel_rfl) (fun _ _ _ h => h) (Or.inl ⟨by rfl, ?_⟩) hHeld ?_
    rotate_left
    · intro w' hSw; (try dsimp only at hSw); go_simp; try (with_reducible rfl)
    try simp only [sq]
    refine wpAnyH_done (by kernel_rfl) ?_ _
    clear hHeld
    go_upto_region 16 with fail
    refine wp_region_held_drew (S := fun w' => w'.heap[x4]? = some (.cells #[.int .i64 kd3, .slice (some ⟨c3, 0, none⟩) np np] 44 (0, 0)) ∧ w'.heap[w.heap.size + 1]? = some (.cells #[.int .i64 kd3, .slice a3 np cap3] 30 (0, 0))) (by kernel_rfl) ⟨gV, gU⟩ (fun hHeld => ?_)
    have hc : Below m2.heap.size m2 m2.drew := bdrew (Below.refl _ _)
    replace gT := keepheapA hc gT
    replace gU := keepheapA hc gU
    replace gA := keepheapA hc gA
    replace gX := keepheapA hc gX
    replace gV := keepheapA hc gV
    replace gG := keepheapA hc gG
    replace R1 := hid (R1.out.below hc)
    replace R2 := hid (R2.out.below hc)
    replace R3 := hid (R3.out.below hc)
    replace R4 := hid (R4.out.below hc)
    replace R5 := hid (R5.out.below hc)
    replace G1 := hid (G1.out.below hc)
    replace G2 := hid (G2.out.below hc)
    replace hB := btrans hB hc
    replace HBS := hid (btrans HBS.out hc)
    replace R6 := hid (R6.out.of_block (hc.block c3 R6.out.1) hc.size)
    clear hc
    generalize m2.drew = XX at *
    refine wpAnyH_take (i := 0) (v := ?_) rfl (by kernel_rfl) (by kernel_rfl) (by kernel_rfl) (fun _ _ _ h => h) (Or.inl ⟨by rfl, ?_⟩) hHeld ?_
    rotate_left
    · intro w' hSw; (try dsimp only at hSw); obtain ⟨⟨_, _⟩, _⟩ := cellk2 hSw.1; go_simp; try (with_reducible rfl)
    try simp only [sq]
    refine wpAnyH_take (i := 1) (v := ?_) rfl (by kernel_rfl) (by kernel_rfl) (by kernel_rfl) (fun _ _ _ h => h) (Or.inl ⟨by rfl, ?_⟩) hHeld ?_
    rotate_left
    · intro w' hSw; (try dsimp only at hSw); obtain ⟨⟨_, _⟩, _⟩ := cellk2 hSw.2; go_simp; try (with_reducible rfl)
    try simp only [sq]
    refine wpAnyH_ready (rs := [2]) (by kernel_rfl) (by simp) ?_
    refine AllReadyH.cons rfl (fun K hK => ?_) AllReadyH.nil
    try simp only [sq]
    go_simp
    go_at_call 9
    refine (CH0.out _ hB).mono ?_
    rintro e m3 ⟨c', rfl, hc', hpo', hc⟩
    have T1 := hid hpo'
    clear hpo'
    replace gT := keepheapA hc gT
    replace gU := keepheapA hc gU
    replace gA := keepheapA hc gA
    replace gX := keepheapA hc gX
    replace gV := keepheapA hc gV
    replace gG := keepheapA hc gG
    replace R1 := hid (R1.out.below hc)
    replace R2 := hid (R2.out.below hc)
    replace R3 := hid (R3.out.below hc)
    replace R4 := hid (R4.out.below hc)
    replace R5 := hid (R5.out.below hc)
    replace G1 := hid (G1.out.below hc)
    replace G2 := hid (G2.out.below hc)
    replace hB := btrans hB hc
    replace HBS := hid (btrans HBS.out hc)
    replace R6 := hid (R6.out.of_block (hc.block c3 R6.out.1) hc.size)
    go_wp2_with fail
    refine hK.out _ _ ?_ (fun hHeld => ?_)
    · exact ⟨keepheapA hc hHeld.1, keepheapA hc hHeld.2⟩
    clear hK K hc
    try simp only [sq]
    refine wpAnyH_ready (rs := [3]) (by kernel_rfl) (by simp) ?_
    refine AllReadyH.cons rfl (fun K hK => ?_) AllReadyH.nil
    try simp only [sq]
    go_simp
    go_at_call 12
    have EQx := eq_shape kd3 (some ⟨c3, 0, none⟩) (some ⟨c', 0, none⟩) ps3.length ps3.length ps3 _ hq' (Nat.le_refl _) (Nat.le_refl _) R6.out.pts T1.out.pts
    unfold shv at EQx
    rw [HNP.out] at EQx
    refine EQx.mono ?_
    rintro e m4 ⟨rfl, hc⟩
    clear EQx T1
    replace gT := keepheapA hc gT
    replace gU := keepheapA hc gU
    replace gA := keepheapA hc gA
    replace gX := keepheapA hc gX
    replace gV := keepheapA hc gV
    replace gG := keepheapA hc gG
    replace R1 := hid (R1.out.below hc)
    replace R2 := hid (R2.out.below hc)
    replace R3 := hid (R3.out.below hc)
    replace R4 := hid (R4.out.below hc)
    replace R5 := hid (R5.out.below hc)
    replace G1 := hid (G1.out.below hc)
    replace G2 := hid (G2.out.below hc)
    replace hB := btrans hB hc
    replace HBS := hid (btrans HBS.out hc)
    replace R6 := hid (R6.out.of_block (hc.block c3 R6.out.1) hc.size)
    go_wp2_with fail
    refine hK.out _ _ ?_ (fun hHeld => ?_)
    · exact ⟨keepheapA hc hHeld.1, keepheapA hc hHeld.2⟩
    clear hK K hc
    try simp only [sq]
    refine wpAnyH_take (i := 4) (v := ?_) rfl (by kernel_rfl) (by kernel_rfl) (by kernel_rfl) (fun _ _ _ h => h) (Or.inl ⟨by rfl, ?_⟩) hHeld ?_
    rotate_left
    · intro w' hSw; (try dsimp only at hSw); go_simp; try (with_reducible rfl)
    try simp only [sq]
    refine wpAnyH_done (by kernel_rfl) ?_ _
    clear hHeld
    go_upto_region 19 with fail
    obtain ⟨⟨d0, d1, d2⟩, _⟩ := cellk3 gX
    go_wp2_with fail
    obtain ⟨s1, s2, s3, s4, s5, s6, s7⟩ := R5.out
    have MS := mark_store2 b3 x3 hR3 b3 t3 now0 rs0 ts0 m4 (Nat.le_refl _) s1 s2 s3 s4 HVR.out.1 HVR.out.2 HVT.out s5 s6 s7
    rw [HNR.out, HNT.out] at MS
    refine MS.mono ?_
    rintro e k1 ⟨⟨kv, rfl, hkv0, hkv1⟩, hmid⟩
    clear s5 s6 s7 MS d0 d1 d2
    have hG1 := G1.out.1
    have hG2 := G2.out.1
    have hc3b := R6.out.1
    replace gT := midh hmid gT (by omega)
    replace gU := midh hmid gU (by omega)
    replace gA := midh hmid gA (by omega)
    replace gV := midh hmid gV (by omega)
    replace gG := midh hmid gG (by omega)
    replace hB := mid_B hB hmid (by omega) hB.size
    replace HBS := hid (bs_mid HBS.out hmid (show z.heap.size ≤ b3 by omega))
    replace R6 := hid (R6.out.of_block (hmid.2.2.2.2 c3 R6.out.1 (by omega)) hmid.2.2.2.1)
    replace G1 := hid (G1.out.frame (fun b q1 q2 => hmid.2.2.2.2 b (by omega) (by omega)) hmid.2.2.2.1)
    replace G2 := hid (G2.out.frame (fun b q1 q2 q3 => hmid.2.2.2.2 b (by omega) (by omega)) hmid.2.2.2.1)
    have hzk1 := hmid.2.2.2.1
    clear hmid gX R1 R2 R3 R4 R5 hG1 hG2
    obtain ⟨⟨u0, u1⟩, _⟩ := cellk2 gV
    go_wp2_with fail
    have MS := mark_shapeK k1 kd3 kv c3 ps3 hkv0 hkv1 hq2 R6.out
    unfold shv at MS
    rw [HNP.out] at MS
    refine MS.mono ?_
    rintro e k2 ⟨rfl, hmid⟩
    clear MS u0 u1
    have hG1 := G1.out.1
    have hG2 := G2.out.1
    replace gT := midh hmid gT (by omega)
    replace gU := midh hmid gU (by omega)
    replace gA := midh hmid gA (by omega)
    replace gG := midh hmid gG (by omega)
    replace hB := mid_B hB hmid (by omega) hB.size
    replace HBS := hid (bs_mid HBS.out hmid (show z.heap.size ≤ c3 by omega))
    replace G1 := hid (G1.out.frame (fun b q1 q2 => hmid.2.2.2.2 b (by omega) (by omega)) hmid.2.2.2.1)
    replace G2 := hid (G2.out.frame (fun b q1 q2 q3 => hmid.2.2.2.2 b (by omega) (by omega)) hmid.2.2.2.1)
    have hzk2 := hmid.2.2.2.1
    clear hmid gV R6 hG1 hG2
    have hk0 : ¬ (kv + 2 * (np : Int) < 0) := by omega
    generalize kv + 2 * (np : Int) = kw at *
    clear hkv0 hkv1
    obtain ⟨⟨d0, d1, d2⟩, _⟩ := cellk3 gG
    obtain ⟨⟨e0, e1, e2⟩, _⟩ := cellk3 gA
    go_wp2_with fail
    refine (EQ.out ga sa gta sta gc sc gtc stc _ (by have := G1.out.rws; exact this) (S00.out.below HBS.out) (by have := Txs.any (G2.out.txs (txS_L HQS.out)); exact this) (ST00.out.below HBS.out)).mono ?_
    rintro e y7 ⟨rfl, hc⟩
    replace gT := keepheapA hc gT
    replace gU := keepheapA hc gU
    replace gA := keepheapA hc gA
    replace gG := keepheapA hc gG
    replace G1 := hid (G1.out.below hc)
    replace G2 := hid (G2.out.below hc)
    replace hB := btrans hB hc
    replace HBS := hid (btrans HBS.out hc)
    have hzy7 := hc.size
    clear hc d0 d1 d2 e0 e1 e2
    go_upto_region 24 with fail
    obtain ⟨⟨d0, d1, d2⟩, _⟩ := cellk3 gG
    go_wp2_with fail
    refine (MK.out p1 v1 p2 v2 (x4 + 1) x5 ga gta gc gtc _ (by omega) (by omega) (by omega) (by omega) (by have := lt_of_block gG; omega) G1.out G2.out).mono ?_
    rintro e k3 ⟨rfl, hmo, hmt, hmid⟩
    clear d0 d1 d2 G1 G2
    replace gT := midh hmid gT (by omega)
    replace gU := midh hmid gU (by omega)
    replace gA := midh hmid gA (by omega)
    replace gG := midh hmid gG (by omega)
    replace hB := mid_B hB hmid (by omega) hB.size
    replace HBS := hid (bs_mid HBS.out hmid (show z.heap.size ≤ x4 + 1 by omega))
    have hzk3 := hmid.2.2.2.1
    have G1 : Hid (Rws (fun _ => True) k3 ga (mkr 1 rs0)) := hid (by have := hmo.rws; exact this)
    have G2 : Hid (Txs (fun _ => True) 1099511627776 k3 gta (mks (kkr 1 rs0 nr) qt)) := hid (Txs.any (LTS.txs hmt (by first | exact mks_L HQS.out | exact txS_L (mks_S HQS.out))))
    clear hmid hmo hmt MK
    go_upto_region 26 with fail
    obtain ⟨⟨d0, d1, d2⟩, _⟩ := cellk3 gG
    go_wp2_with fail
    refine (HE.out ga gta gc gtc _ G1.out G2.out).mono ?_
    rintro e y8 ⟨rfl, hc⟩
    replace gT := keepheapA hc gT
    replace gU := keepheapA hc gU
    replace gA := keepheapA hc gA
    replace gG := keepheapA hc gG
    replace G1 := hid (G1.out.below hc)
    replace G2 := hid (G2.out.below hc)
    replace hB := btrans hB hc
    replace HBS := hid (btrans HBS.out hc)
    have hzy8 := hc.size
    clear hc d0 d1 d2
    go_upto_region 31 with fail
    have CT := hid (fun (W : World) (hb : Below y8.heap.size y8 W) => CT0.out W (btrans hB hb))
    have CH := hid (fun (W : World) (hb : Below y8.heap.size y8 W) => CH0.out W (btrans hB hb))
    have CI := hid (fun (b t c3 : Nat) (W : World) (hb : Below y8.heap.size y8 W) => CI0.out b t c3 W (btrans hB hb))
    rw [HNR.out, HNT.out] at CT
    go_cut [19, 20] (fun ta tb wx => PR y8 now0 bn nr nq rs0 qt ta tb wx)
    case first =>
      refine wp_region_held_drew (S := fun w' => w'.heap[w.heap.size]? = some (.cells #[.int .i64 now0, .slice a0 nr cap0, .slice ta0 nt tcap0] 27 (0, 0)) ∧ w'.heap[w.heap.size + 1]? = some (.cells #[.int .i64 kd3, .slice a3 np cap3] 30 (0, 0))) (by kernel_rfl) ⟨gT, gU⟩ (fun hHeld => ?_)
      have D0 : Below y8.heap.size y8 y8.drew := bdrew (Below.refl _ _)
      have hUl := lt_of_block gU
      generalize y8.drew = X0 at *
      refine wpAnyH_take (i := 0) (v := ?_) rfl (by kernel_rfl) (by kernel_rfl) (by kernel_rfl) (fun _ _ _ h => h) (Or.inl ⟨by rfl, ?_⟩) hHeld ?_
      rotate_left
      · intro w' hSw; (try dsimp only at hSw); obtain ⟨⟨_, _, _⟩, _⟩ := cellk3 hSw.1; go_simp; try (with_reducible rfl)
      try simp only [sq]
      refine wpAnyH_take (i := 2) (v := ?_) rfl (by kernel_rfl) (by kernel_rfl) (by kernel_rfl) (fun _ _ _ h => h) (Or.inl ⟨by rfl, ?_⟩) hHeld ?_
      rotate_left
      · intro w' hSw; (try dsimp only at hSw); go_simp; try (with_reducible rfl)
      try simp only [sq]
      refine wpAnyH_take (i := 3) (v := ?_) rfl (by kernel_rfl) (by kernel_rfl) (by kernel_rfl) (fun _ _ _ h => h) (Or.inl ⟨by rfl, ?_⟩) hHeld ?_
      rotate_left
      · intro w' hSw; (try dsimp only at hSw); go_simp; try (with_reducible rfl)
      try simp only [sq]
      refine wpAnyH_take (i := 4) (v := ?_) rfl (by kernel_rfl) (by kernel_rfl) (by kernel_rfl) (fun _ _ _ h => h) (Or.inl ⟨by rfl, ?_⟩) hHeld ?_
      rotate_left
      · intro w' hSw; (try dsimp only at hSw); obtain ⟨⟨_, _⟩, _⟩ := cellk2 hSw.2; go_simp; try (with_reducible rfl)
      try simp only [sq]
      refine wpAnyH_ready (rs := [1, 10]) (by kernel_rfl) (by simp) ?_
      refine AllReadyH.cons rfl (fun K hK => ?_) (AllReadyH.cons rfl (fun K hK => ?_) AllReadyH.nil)
      · skip
        try simp only [sq]
        go_simp
        go_at_call 8
        refine (CT.out X0 D0).mono ?_
        rintro e X1 hsf
        obtain ⟨b, t, hR, he, f1, f2, f3, f4, f5, f6, hX1⟩ := hsf
        rw [HNR.out, HNT.out] at he
        subst he
        have F1 := hid f1
        have F2 := hid f2
        have F3 := hid f3
        have F4 := hid f4
        clear f1 f2 f3 f4 f5
        have D1 := btrans D0 hX1
        go_wp2_with fail
        refine hK.out _ _ ?_ (fun hHeld => ?_)
        · exact ⟨keepheapA hX1 hHeld.1, keepheapA hX1 hHeld.2⟩
        clear hK K
        try simp only [sq]
        refine wpAnyH_ready (rs := [5, 10]) (by kernel_rfl) (by simp) ?_
        refine AllReadyH.cons rfl (fun K hK => ?_) (AllReadyH.cons rfl (fun K hK => ?_) AllReadyH.nil)
        · skip
          try simp only [sq]
          go_simp
          go_at_call 9
          refine (CH.out X1 D1).mono ?_
          rintro e X2 ⟨c3, he, hc3, hpo, hX2⟩
          subst he
          have F5 := hid hpo
          clear hpo
          replace F1 := hid (F1.out.below hX2)
          replace F2 := hid (F2.out.below hX2)
          replace F3 := hid (F3.out.below hX2)
          replace F4 := hid (F4.out.below hX2)
          have D2 := btrans D1 hX2
          go_wp2_with fail
          refine hK.out _ _ ?_ (fun hHeld => ?_)
          · exact ⟨keepheapA hX2 hHeld.1, keepheapA hX2 hHeld.2⟩
          clear hK K
          try simp only [sq]
          refine wpAnyH_ready (rs := [6, 10]) (by kernel_rfl) (by simp) ?_
          refine AllReadyH.cons rfl (fun K hK => ?_) (AllReadyH.cons rfl (fun K hK => ?_) AllReadyH.nil)
          · skip
            try simp only [sq]
            go_simp
            go_at_call 10
            refine (CI.out b t c3 X2 (D2) F1.out F2.out F3.out F4.out F5.out).mono ?_
            rintro e X3 hss
            obtain ⟨sa, sc, sta, stc, he, hr3, ht3, hX3⟩ := hss
            rw [HNR.out, HNQ.out] at he
            subst he
            have G1 := hid hr3
            have G2 := hid ht3
            clear hr3 ht3
            replace F1 := hid (F1.out.below hX3)
            replace F2 := hid (F2.out.below hX3)
            replace F3 := hid (F3.out.below hX3)
            replace F4 := hid (F4.out.below hX3)
            replace F5 := hid (F5.out.of_block (hX3.block c3 F5.out.1) hX3.size)
            have D3 := btrans D2 hX3
            go_wp2_with fail
            refine hK.out _ _ ?_ (fun hHeld => ?_)
            · exact ⟨keepheapA hX3 hHeld.1, keepheapA hX3 hHeld.2⟩
            clear hK K
            try simp only [sq]
            refine wpAnyH_take (i := 7) (v := ?_) rfl (by kernel_rfl) (by kernel_rfl) (by kernel_rfl) (fun _ _ _ h => h) (Or.inl ⟨by rfl, ?_⟩) hHeld ?_
            rotate_left
            · intro w' hSw; (try dsimp only at hSw); go_simp; try (with_reducible rfl)
            try simp only [sq]
            refine wpAnyH_take (i := 8) (v := ?_) rfl (by kernel_rfl) (by kernel_rfl) (by kernel_rfl) (fun _ _ _ h => h) (Or.inl ⟨by rfl, ?_⟩) hHeld ?_
            rotate_left
            · intro w' hSw; (try dsimp only at hSw); go_simp; try (with_reducible rfl)
            try simp only [sq]
            refine wpAnyH_take (i := 9) (v := ?_) rfl (by kernel_rfl) (by kernel_rfl) (by kernel_rfl) (fun _ _ _ h => h) (Or.inl ⟨by rfl, ?_⟩) hHeld ?_
            rotate_left
            · intro w' hSw; (try dsimp only at hSw); go_simp; try (with_reducible rfl)
            try simp only [sq]
            refine wpAnyH_ready (rs := [10]) (by kernel_rfl) (by simp) ?_
            refine AllReadyH.cons rfl (fun K hK => ?_) AllReadyH.nil
            try simp only [sq]
            go_simp
            refine hK.out _ _ ?_ (fun hHeld => ?_)
            · exact ⟨old_alloc hHeld.1, old_alloc hHeld.2⟩
            clear hK K
            try simp only [sq]
            have gX := new_alloc X3 X3.heap.size (.cells #[.int .i64 0, .slice none 0 0, .slice none 0 0] 38) rfl
            have hal : Below X3.heap.size X3 (X3.alloc (.cells #[.int .i64 0, .slice none 0 0, .slice none 0 0] 38)) := balloc (Below.refl _ _) _
            have hxb : y8.heap.size ≤ X3.heap.size := D3.size
            have hDd := D3
            replace F1 := hid (F1.out.below hal)
            replace F2 := hid (F2.out.below hal)
            replace F3 := hid (F3.out.below hal)
            replace F4 := hid (F4.out.below hal)
            replace F5 := hid (F5.out.of_block (hal.block c3 F5.out.1) hal.size)
            replace G1 := hid (G1.out.below hal)
            replace G2 := hid (G2.out.below hal)
            have D4 := btrans D3 hal
            clear hal hDd
            generalize X3.alloc (.cells #[.int .i64 0, .slice none 0 0, .slice none 0 0] 38) = X4 at *
            generalize X3.heap.size = xb at *
            obtain ⟨⟨v0, v1, v2⟩, s0, s1, s2⟩ := cellk3 gX
            have hfar : ∀ b, b ≠ xb → (((X4.setCell ⟨xb, 0, none⟩ (.int .i64 now0)).setCell ⟨xb, 1, none⟩ (.slice sa nr sc)).setCell ⟨xb, 2, none⟩ (.slice sta nq stc)).heap[b]? = X4.heap[b]? := fun b hb => by rw [Below.heap_setCell _ _ _ _ (by dsimp only; omega), Below.heap_setCell _ _ _ _ (by dsimp only; omega), Below.heap_setCell _ _ _ _ (by dsimp only; omega)]
            refine wpAnyH_ready (rs := [11]) (by kernel_rfl) (by simp) ?_
            refine AllReadyH.cons rfl (fun K hK => ?_) AllReadyH.nil
            try simp only [sq]
            go_simp
            refine hK.out _ _ ?_ (fun hHeld => ?_)
            · exact ⟨(hfar _ (by omega)).trans hHeld.1, (hfar _ (by omega)).trans hHeld.2⟩
            clear hK K
            try simp only [sq]
            refine wpAnyH_take (i := 12) (v := ?_) rfl (by kernel_rfl) (by kernel_rfl) (by kernel_rfl) (fun _ _ _ h => h) (Or.inl ⟨by rfl, ?_⟩) hHeld ?_
            rotate_left
            · intro w' hSw; (try dsimp only at hSw); go_simp; try (with_reducible rfl)
            try simp only [sq]
            refine wpAnyH_done (by kernel_rfl) ?_ _
            have gF := setk3 gX (.int .i64 now0) (.slice sa nr sc) (.slice sta nq stc)
            have bF := bset (bset (bset D4 (q := xb) (k := 0) hxb (.int .i64 now0)) (q := xb) (k := 1) hxb (.slice sa nr sc)) (q := xb) (k := 2) hxb (.slice sta nq stc)
            have rF := G1.out.off gX (fun _ => by simp) hfar (by simp)
            have tF := G2.out.off gX (fun _ => by simp) (fun _ => by simp) hfar (by simp)
            clear v0 v1 v2 s0 s1 s2 hfar
            go_wp2_with fail
            go_meet
            exact pr_mk gF rF tF hxb bF
          · skip
            try simp only [sq]
            go_simp
            refine hK.out _ _ ?_ (fun hHeld => ?_)
            · exact ⟨old_alloc hHeld.1, old_alloc hHeld.2⟩
            clear hK K
            try simp only [sq]
            have gX := new_alloc X2 X2.heap.size (.cells #[.int .i64 0, .slice none 0 0, .slice none 0 0] 38) rfl
            have hal : Below X2.heap.size X2 (X2.alloc (.cells #[.int .i64 0, .slice none 0 0, .slice none 0 0] 38)) := balloc (Below.refl _ _) _
            have hxb : y8.heap.size ≤ X2.heap.size := D2.size
            have hDd := D2
            replace F1 := hid (F1.out.below hal)
            replace F2 := hid (F2.out.below hal)
            replace F3 := hid (F3.out.below hal)
            replace F4 := hid (F4.out.below hal)
            replace F5 := hid (F5.out.of_block (hal.block c3 F5.out.1) hal.size)
            have D3 := btrans D2 hal
            clear hal hDd
            generalize X2.alloc (.cells #[.int .i64 0, .slice none 0 0, .slice none 0 0] 38) = X3 at *
            generalize X2.heap.size = xb at *
            refine wpAnyH_ready (rs := [6]) (by kernel_rfl) (by simp) ?_
            refine AllReadyH.cons rfl (fun K hK => ?_) AllReadyH.nil
            try simp only [sq]
            go_simp
            go_at_call 10
            refine (CI.out b t c3 X3 (D3) F1.out F2.out F3.out F4.out F5.out).mono ?_
            rintro e X4 hss
            obtain ⟨sa, sc, sta, stc, he, hr3, ht3, hX4⟩ := hss
            rw [HNR.out, HNQ.out] at he
            subst he
            have G1 := hid hr3
            have G2 := hid ht3
            clear hr3 ht3
            replace F1 := hid (F1.out.below hX4)
            replace F2 := hid (F2.out.below hX4)
            replace F3 := hid (F3.out.below hX4)
            replace F4 := hid (F4.out.below hX4)
            replace F5 := hid (F5.out.of_block (hX4.block c3 F5.out.1) hX4.size)
            replace gX := keepheapA hX4 gX
            have D4 := btrans D3 hX4
            go_wp2_with fail
            refine hK.out _ _ ?_ (fun hHeld => ?_)
            · exact ⟨keepheapA hX4 hHeld.1, keepheapA hX4 hHeld.2⟩
            clear hK K
            try simp only [sq]
            refine wpAnyH_take (i := 7) (v := ?_) rfl (by kernel_rfl) (by kernel_rfl) (by kernel_rfl) (fun _ _ _ h => h) (Or.inl ⟨by rfl, ?_⟩) hHeld ?_
            rotate_left
            · intro w' hSw; (try dsimp only at hSw); go_simp; try (with_reducible rfl)
            try simp only [sq]
            refine wpAnyH_take (i := 8) (v := ?_) rfl (by kernel_rfl) (by kernel_rfl) (by kernel_rfl) (fun _ _ _ h => h) (Or.inl ⟨by rfl, ?_⟩) hHeld ?_
            rotate_left
            · intro w' hSw; (try dsimp only at hSw); go_simp; try (with_reducible rfl)
            try simp only [sq]
            refine wpAnyH_take (i := 9) (v := ?_) rfl (by kernel_rfl) (by kernel_rfl) (by kernel_rfl) (fun _ _ _ h => h) (Or.inl ⟨by rfl, ?_⟩) hHeld ?_
            rotate_left
            · intro w' hSw; (try dsimp only at hSw); go_simp; try (with_reducible rfl)
            try simp only [sq]
            obtain ⟨⟨v0, v1, v2⟩, s0, s1, s2⟩ := cellk3 gX
            have hfar : ∀ b, b ≠ xb → (((X4.setCell ⟨xb, 0, none⟩ (.int .i64 now0)).setCell ⟨xb, 1, none⟩ (.slice sa nr sc)).setCell ⟨xb, 2, none⟩ (.slice sta nq stc)).heap[b]? = X4.heap[b]? := fun b hb => by rw [Below.heap_setCell _ _ _ _ (by dsimp only; omega), Below.heap_setCell _ _ _ _ (by dsimp only; omega), Below.heap_setCell _ _ _ _ (by dsimp only; omega)]
            refine wpAnyH_ready (rs := [11]) (by kernel_rfl) (by simp) ?_
            refine AllReadyH.cons rfl (fun K hK => ?_) AllReadyH.nil
            try simp only [sq]
            go_simp
            refine hK.out _ _ ?_ (fun hHeld => ?_)
            · exact ⟨(hfar _ (by omega)).trans hHeld.1, (hfar _ (by omega)).trans hHeld.2⟩
            clear hK K
            try simp only [sq]
            refine wpAnyH_take (i := 12) (v := ?_) rfl (by kernel_rfl) (by kernel_rfl) (by kernel_rfl) (fun _ _ _ h => h) (Or.inl ⟨by rfl, ?_⟩) hHeld ?_
            rotate_left
            · intro w' hSw; (try dsimp only at hSw); go_simp; try (with_reducible rfl)
            try simp only [sq]
            refine wpAnyH_done (by kernel_rfl) ?_ _
            have gF := setk3 gX (.int .i64 now0) (.slice sa nr sc) (.slice sta nq stc)
            have bF := bset (bset (bset D4 (q := xb) (k := 0) hxb (.int .i64 now0)) (q := xb) (k := 1) hxb (.slice sa nr sc)) (q := xb) (k := 2) hxb (.slice sta nq stc)
            have rF := G1.out.off gX (fun _ => by simp) hfar (by simp)
            have tF := G2.out.off gX (fun _ => by simp) (fun _ => by simp) hfar (by simp)
            clear v0 v1 v2 s0 s1 s2 hfar
            go_wp2_with fail
            go_meet
            exact pr_mk gF rF tF hxb bF
        · skip
          try simp only [sq]
          go_simp
          refine hK.out _ _ ?_ (fun hHeld => ?_)
          · exact ⟨old_alloc hHeld.1, old_alloc hHeld.2⟩
          clear hK K
          try simp only [sq]
          have gX := new_alloc X1 X1.heap.size (.cells #[.int .i64 0, .slice none 0 0, .slice none 0 0] 38) rfl
          have hal : Below X1.heap.size X1 (X1.alloc (.cells #[.int .i64 0, .slice none 0 0, .slice none 0 0] 38)) := balloc (Below.refl _ _) _
          have hxb : y8.heap.size ≤ X1.heap.size := D1.size
          have hDd := D1
          replace F1 := hid (F1.out.below hal)
          replace F2 := hid (F2.out.below hal)
          replace F3 := hid (F3.out.below hal)
          replace F4 := hid (F4.out.below hal)
          have D2 := btrans D1 hal
          clear hal hDd
          generalize X1.alloc (.cells #[.int .i64 0, .slice none 0 0, .slice none 0 0] 38) = X2 at *
          generalize X1.heap.size = xb at *
          refine wpAnyH_ready (rs := [5]) (by kernel_rfl) (by simp) ?_
          refine AllReadyH.cons rfl (fun K hK => ?_) AllReadyH.nil
          try simp only [sq]
          go_simp
          go_at_call 9
          refine (CH.out X2 D2).mono ?_
          rintro e X3 ⟨c3, he, hc3, hpo, hX3⟩
          subst he
          have F5 := hid hpo
          clear hpo
          replace F1 := hid (F1.out.below hX3)
          replace F2 := hid (F2.out.below hX3)
          replace F3 := hid (F3.out.below hX3)
          replace F4 := hid (F4.out.below hX3)
          replace gX := keepheapA hX3 gX
          have D3 := btrans D2 hX3
          go_wp2_with fail
          refine hK.out _ _ ?_ (fun hHeld => ?_)
          · exact ⟨keepheapA hX3 hHeld.1, keepheapA hX3 hHeld.2⟩
          clear hK K
          try simp only [sq]
          refine wpAnyH_ready (rs := [6]) (by kernel_rfl) (by simp) ?_
          refine AllReadyH.cons rfl (fun K hK => ?_) AllReadyH.nil
          try simp only [sq]
          go_simp
          go_at_call 10
          refine (CI.out b t c3 X3 (D3) F1.out F2.out F3.out F4.out F5.out).mono ?_
          rintro e X4 hss
          obtain ⟨sa, sc, sta, stc, he, hr3, ht3, hX4⟩ := hss
          rw [HNR.out, HNQ.out] at he
          subst he
          have G1 := hid hr3
          have G2 := hid ht3
          clear hr3 ht3
          replace F1 := hid (F1.out.below hX4)
          replace F2 := hid (F2.out.below hX4)
          replace F3 := hid (F3.out.below hX4)
          replace F4 := hid (F4.out.below hX4)
          replace F5 := hid (F5.out.of_block (hX4.block c3 F5.out.1) hX4.size)
          replace gX := keepheapA hX4 gX
          have D4 := btrans D3 hX4
          go_wp2_with fail
          refine hK.out _ _ ?_ (fun hHeld => ?_)
          · exact ⟨keepheapA hX4 hHeld.1, keepheapA hX4 hHeld.2⟩
          clear hK K
          try simp only [sq]
          refine wpAnyH_take (i := 7) (v := ?_) rfl (by kernel_rfl) (by kernel_rfl) (by kernel_rfl) (fun _ _ _ h => h) (Or.inl ⟨by rfl, ?_⟩) hHeld ?_
          rotate_left
          · intro w' hSw; (try dsimp only at hSw); go_simp; try (with_reducible rfl)
          try simp only [sq]
          refine wpAnyH_take (i := 8) (v := ?_) rfl (by kernel_rfl) (by kernel_rfl) (by kernel_rfl) (fun _ _ _ h => h) (Or.inl ⟨by rfl, ?_⟩) hHeld ?_
          rotate_left
          · intro w' hSw; (try dsimp only at hSw); go_simp; try (with_reducible rfl)
          try simp only [sq]
          refine wpAnyH_take (i := 9) (v := ?_) rfl (by kernel_rfl) (by kernel_rfl) (by kernel_rfl) (fun _ _ _ h => h) (Or.inl ⟨by rfl, ?_⟩) hHeld ?_
          rotate_left
          · intro w' hSw; (try dsimp only at hSw); go_simp; try (with_reducible rfl)
          try simp only [sq]
          obtain ⟨⟨v0, v1, v2⟩, s0, s1, s2⟩ := cellk3 gX
          have hfar : ∀ b, b ≠ xb → (((X4.setCell ⟨xb, 0, none⟩ (.int .i64 now0)).setCell ⟨xb, 1, none⟩ (.slice sa nr sc)).setCell ⟨xb, 2, none⟩ (.slice sta nq stc)).heap[b]? = X4.heap[b]? := fun b hb => by rw [Below.heap_setCell _ _ _ _ (by dsimp only; omega), Below.heap_setCell _ _ _ _ (by dsimp only; omega), Below.heap_setCell _ _ _ _ (by dsimp only; omega)]
          refine wpAnyH_ready (rs := [11]) (by kernel_rfl) (by simp) ?_
          refine AllReadyH.cons rfl (fun K hK => ?_) AllReadyH.nil
          try simp only [sq]
          go_simp
          refine hK.out _ _ ?_ (fun hHeld => ?_)
          · exact ⟨(hfar _ (by omega)).trans hHeld.1, (hfar _ (by omega)).trans hHeld.2⟩
          clear hK K
          try simp only [sq]
          refine wpAnyH_take (i := 12) (v := ?_) rfl (by kernel_rfl) (by kernel_rfl) (by kernel_rfl) (fun _ _ _ h => h) (Or.inl ⟨by rfl, ?_⟩) hHeld ?_
          rotate_left
          · intro w' hSw; (try dsimp only at hSw); go_simp; try (with_reducible rfl)
          try simp only [sq]
          refine wpAnyH_done (by kernel_rfl) ?_ _
          have gF := setk3 gX (.int .i64 now0) (.slice sa nr sc) (.slice sta nq stc)
          have bF := bset (bset (bset D4 (q := xb) (k := 0) hxb (.int .i64 now0)) (q := xb) (k := 1) hxb (.slice sa nr sc)) (q := xb) (k := 2) hxb (.slice sta nq stc)
          have rF := G1.out.off gX (fun _ => by simp) hfar (by simp)
          have tF := G2.out.off gX (fun _ => by simp) (fun _ => by simp) hfar (by simp)
          clear v0 v1 v2 s0 s1 s2 hfar
          go_wp2_with fail
          go_meet
          exact pr_mk gF rF tF hxb bF
      · skip
        try simp only [sq]
        go_simp
        refine hK.out _ _ ?_ (fun hHeld => ?_)
        · exact ⟨old_alloc hHeld.1, old_alloc hHeld.2⟩
        clear hK K
        try simp only [sq]
        have gX := new_alloc X0 X0.heap.size (.cells #[.int .i64 0, .slice none 0 0, .slice none 0 0] 38) rfl
        have hal : Below X0.heap.size X0 (X0.alloc (.cells #[.int .i64 0, .slice none 0 0, .slice none 0 0] 38)) := balloc (Below.refl _ _) _
        have hxb : y8.heap.size ≤ X0.heap.size := D0.size
        have hDd := D0
        have D1 := btrans D0 hal
        clear hal hDd
        generalize X0.alloc (.cells #[.int .i64 0, .slice none 0 0, .slice none 0 0] 38) = X1 at *
        generalize X0.heap.size = xb at *
        refine wpAnyH_ready (rs := [1]) (by kernel_rfl) (by simp) ?_
        refine AllReadyH.cons rfl (fun K hK => ?_) AllReadyH.nil
        try simp only [sq]
        go_simp
        go_at_call 8
        refine (CT.out X1 D1).mono ?_
        rintro e X2 hsf
        obtain ⟨b, t, hR, he, f1, f2, f3, f4, f5, f6, hX2⟩ := hsf
        rw [HNR.out, HNT.out] at he
        subst he
        have F1 := hid f1
        have F2 := hid f2
        have F3 := hid f3
        have F4 := hid f4
        clear f1 f2 f3 f4 f5
        replace gX := keepheapA hX2 gX
        have D2 := btrans D1 hX2
        go_wp2_with fail
        refine hK.out _ _ ?_ (fun hHeld => ?_)
        · exact ⟨keepheapA hX2 hHeld.1, keepheapA hX2 hHeld.2⟩
        clear hK K
        try simp only [sq]
        refine wpAnyH_ready (rs := [5]) (by kernel_rfl) (by simp) ?_
        refine AllReadyH.cons rfl (fun K hK => ?_) AllReadyH.nil
        try simp only [sq]
        go_simp
        go_at_call 9
        refine (CH.out X2 D2).mono ?_
        rintro e X3 ⟨c3, he, hc3, hpo, hX3⟩
        subst he
        have F5 := hid hpo
        clear hpo
        replace F1 := hid (F1.out.below hX3)
        replace F2 := hid (F2.out.below hX3)
        replace F3 := hid (F3.out.below hX3)
        replace F4 := hid (F4.out.below hX3)
        replace gX := keepheapA hX3 gX
        have D3 := btrans D2 hX3
        go_wp2_with fail
        refine hK.out _ _ ?_ (fun hHeld => ?_)
        · exact ⟨keepheapA hX3 hHeld.1, keepheapA hX3 hHeld.2⟩
        clear hK K
        try simp only [sq]
        refine wpAnyH_ready (rs := [6]) (by kernel_rfl) (by simp) ?_
        refine AllReadyH.cons rfl (fun K hK => ?_) AllReadyH.nil
        try simp only [sq]
        go_simp
        go_at_call 10
        refine (CI.out b t c3 X3 (D3) F1.out F2.out F3.out F4.out F5.out).mono ?_
        rintro e X4 hss
        obtain ⟨sa, sc, sta, stc, he, hr3, ht3, hX4⟩ := hss
        rw [HNR.out, HNQ.out] at he
        subst he
        have G1 := hid hr3
        have G2 := hid ht3
        clear hr3 ht3
        replace F1 := hid (F1.out.below hX4)
        replace F2 := hid (F2.out.below hX4)
        replace F3 := hid (F3.out.below hX4)
        replace F4 := hid (F4.out.below hX4)
        replace F5 := hid (F5.out.of_block (hX4.block c3 F5.out.1) hX4.size)
        replace gX := keepheapA hX4 gX
        have D4 := btrans D3 hX4
        go_wp2_with fail
        refine hK.out _ _ ?_ (fun hHeld => ?_)
        · exact ⟨keepheapA hX4 hHeld.1, keepheapA hX4 hHeld.2⟩
        clear hK K
        try simp only [sq]
        refine wpAnyH_take (i := 7) (v := ?_) rfl (by kernel_rfl) (by kernel_rfl) (by kernel_rfl) (fun _ _ _ h => h) (Or.inl ⟨by rfl, ?_⟩) hHeld ?_
        rotate_left
        · intro w' hSw; (try dsimp only at hSw); go_simp; try (with_reducible rfl)
        try simp only [sq]
        refine wpAnyH_take (i := 8) (v := ?_) rfl (by kernel_rfl) (by kernel_rfl) (by kernel_rfl) (fun _ _ _ h => h) (Or.inl ⟨by rfl, ?_⟩) hHeld ?_
        rotate_left
        · intro w' hSw; (try dsimp only at hSw); go_simp; try (with_reducible rfl)
        try simp only [sq]
        refine wpAnyH_take (i := 9) (v := ?_) rfl (by kernel_rfl) (by kernel_rfl) (by kernel_rfl) (fun _ _ _ h => h) (Or.inl ⟨by rfl, ?_⟩) hHeld ?_
        rotate_left
        · intro w' hSw; (try dsimp only at hSw); go_simp; try (with_reducible rfl)
        try simp only [sq]
        obtain ⟨⟨v0, v1, v2⟩, s0, s1, s2⟩ := cellk3 gX
        have hfar : ∀ b, b ≠ xb → (((X4.setCell ⟨xb, 0, none⟩ (.int .i64 now0)).setCell ⟨xb, 1, none⟩ (.slice sa nr sc)).setCell ⟨xb, 2, none⟩ (.slice sta nq stc)).heap[b]? = X4.heap[b]? := fun b hb => by rw [Below.heap_setCell _ _ _ _ (by dsimp only; omega), Below.heap_setCell _ _ _ _ (by dsimp only; omega), Below.heap_setCell _ _ _ _ (by dsimp only; omega)]
        refine wpAnyH_ready (rs := [11]) (by kernel_rfl) (by simp) ?_
        refine AllReadyH.cons rfl (fun K hK => ?_) AllReadyH.nil
        try simp only [sq]
        go_simp
        refine hK.out _ _ ?_ (fun hHeld => ?_)
        · exact ⟨(hfar _ (by omega)).trans hHeld.1, (hfar _ (by omega)).trans hHeld.2⟩
        clear hK K
        try simp only [sq]
        refine wpAnyH_take (i := 12) (v := ?_) rfl (by kernel_rfl) (by kernel_rfl) (by kernel_rfl) (fun _ _ _ h => h) (Or.inl ⟨by rfl, ?_⟩) hHeld ?_
        rotate_left
        · intro w' hSw; (try dsimp only at hSw); go_simp; try (with_reducible rfl)
        try simp only [sq]
        refine wpAnyH_done (by kernel_rfl) ?_ _
        have gF := setk3 gX (.int .i64 now0) (.slice sa nr sc) (.slice sta nq stc)
        have bF := bset (bset (bset D4 (q := xb) (k := 0) hxb (.int .i64 now0)) (q := xb) (k := 1) hxb (.slice sa nr sc)) (q := xb) (k := 2) hxb (.slice sta nq stc)
        have rF := G1.out.off gX (fun _ => by simp) hfar (by simp)
        have tF := G2.out.off gX (fun _ => by simp) (fun _ => by simp) hfar (by simp)
        clear v0 v1 v2 s0 s1 s2 hfar
        go_wp2_with fail
        go_meet
        exact pr_mk gF rF tF hxb bF
    case rest =>
      obtain ⟨z9, hzz, xh, ha, hcp, hta, htc, rfl, rfl, gH, hho, hht, hxh, hc⟩ := hcut
      subst hzz
      have H0 := hid hho
      have H1 := hid hht
      clear hho hht
      replace gT := keepheapA hc gT
      replace gU := keepheapA hc gU
      replace gA := keepheapA hc gA
      replace gG := keepheapA hc gG
      replace G1 := hid (G1.out.below hc)
      replace G2 := hid (G2.out.below hc)
      replace hB := btrans hB hc
      replace HBS := hid (btrans HBS.out hc)
      clear hc CT CH CI
      obtain ⟨⟨d0, d1, d2⟩, _⟩ := cellk3 gH
      obtain ⟨⟨e0, e1, e2⟩, _⟩ := cellk3 gA
      go_wp2_with fail
      refine (EQ.out ha sa hta sta hcp sc htc stc _ H0.out (S00.out.below HBS.out) H1.out (ST00.out.below HBS.out)).mono ?_
      rintro e y9 ⟨rfl, hc⟩
      replace gT := keepheapA hc gT
      replace gU := keepheapA hc gU
      replace gA := keepheapA hc gA
      replace gG := keepheapA hc gG
      replace gH := keepheapA hc gH
      replace G1 := hid (G1.out.below hc)
      replace G2 := hid (G2.out.below hc)
      replace H0 := hid (H0.out.below hc)
      replace H1 := hid (H1.out.below hc)
      replace hB := btrans hB hc
      replace HBS := hid (btrans HBS.out hc)
      clear hc d0 d1 d2 e0 e1 e2
      go_upto_region 35 with fail
      obtain ⟨⟨d0, d1, d2⟩, _⟩ := cellk3 gG
      go_wp2_with fail
      refine (HE.out ga gta gc gtc _ G1.out G2.out).mono ?_
      rintro e yA ⟨rfl, hc⟩
      replace hB := btrans hB hc
      clear hc d0 d1 d2
      go_wp2_with fail
      go_ret
      exact ⟨rfl, hB⟩
end Go.Proofs.YtnajddjalagmoaaGreatDoor
