/- Texts of stores, joined: Zk, Zi, Zl, Xq. -/
import Derived.Test.YtiocelhnmfadnaaGreatJ7
import Derived.Test.YtiocelhnmfadnaaGreatJ6
namespace Go.Proofs.YtiocelhnmfadnaaGreat
open Go.RowKit
set_option linter.unusedSimpArgs false
set_option linter.unusedVariables false
/-- A store and a number that a call answers: the rows in one range, no transaction in it. -/
def SB (w : World) (now : Int) (rs : List Rw) (ts : List Tx) (n : Int) (e : Ending) (w' : World) : Prop :=
  ∃ a c ta tcc b1 u1 b2 u2, e = .returned (.tuple #[.agg #[.int .i64 now, .slice a rs.length c, .slice ta ts.length tcc], .int .i64 n]) ∧ LC KR b1 u1 w' (.slice a rs.length c) rs ∧ LCH KT b2 u2 b1 u1 w' (.slice ta ts.length tcc) ts ∧ w.heap.size ≤ b1 ∧ w.heap.size ≤ b2 ∧ Below w.heap.size w w'
theorem sb_mk {w w' : World} {now n n' : Int} {rs : List Rw} {ts ts' : List Tx} {a ta : Option Addr} {c tcc nr nt b1 u1 b2 u2 : Nat} (e1 : ts = ts') (e2 : n = n') (h1 : rs.length = nr) (h2 : ts'.length = nt) (x1 : LC KR b1 u1 w' (.slice a nr c) rs) (x2 : LCH KT b2 u2 b1 u1 w' (.slice ta nt tcc) ts') (q1 : w.heap.size ≤ b1) (q2 : w.heap.size ≤ b2) (hb : Below w.heap.size w w') : SB w now rs ts n (.returned (.tuple #[.agg #[.int .i64 now, .slice a nr c, .slice ta nt tcc], .int .i64 n'])) w' := by
  subst e1 e2 h1 h2
  exact ⟨a, c, ta, tcc, b1, u1, b2, u2, rfl, x1, x2, q1, q2, hb⟩
theorem beg_no {now : Int} {rs : List Rw} {ts : List Tx} (h : begb now rs ts = false) : begT now rs ts = ts ∧ begN now rs ts = -1 := by
  unfold begT begN
  rw [h]
  exact ⟨rfl, rfl⟩
theorem beg_bad {now : Int} {rs : List Rw} {ts : List Tx} (h : storeb now rs ts = false) : begT now rs ts = ts ∧ begN now rs ts = -1 := beg_no (by unfold begb; rw [h]; rfl)
theorem beg_yes {now : Int} {rs : List Rw} {ts : List Tx} (h : storeb now rs ts = true) (hf : frI ts = (frk ts : Int)) : begT now rs ts = putT now ts (frk ts) ∧ begN now rs ts = (frk ts : Int) := by
  have hb : begb now rs ts = true := by
    cases e : begb now rs ts with
    | true => rfl
    | false => have := (frI_begb h).1.2 e; omega
  unfold begT begN
  rw [hb]
  exact ⟨rfl, rfl⟩
set_option maxRecDepth 100000 in
set_option maxHeartbeats 4000000 in
theorem impl_Begin {N1 N2 : Nat → Prop} (now : Int) (B D : Nat) (rs : List Rw) (ts : List Tx) (w : World) (hm : rs.length ≤ 1099511627776) (htm : ts.length ≤ 1099511627776) (hr : RwsS w B rs) (hrr : Rws N1 w (some ⟨B, 0, none⟩) rs) (ht : TxsS w D ts) (htt : Txs N2 1099511627776 w (some ⟨D, 0, none⟩) ts) : Calls Tryz.prog 8 #[.agg #[.int .i64 now, .slice (some ⟨B, 0, none⟩) rs.length rs.length, .slice (some ⟨D, 0, none⟩) ts.length ts.length]] w fun e w' => SB w now rs (begT now rs ts) (begN now rs ts) e w' := by
  have HCP := hid (fun (W : World) (hb : Below w.heap.size w W) => store_copiedL now B D rs.length ts.length rs ts W hm htm (hr.below hb).z (ht.below hb))
  have HOK := hid (fun (W : World) (hb : Below w.heap.size w W) => impl_StoreOk now (some ⟨B, 0, none⟩) (some ⟨D, 0, none⟩) rs.length ts.length rs ts W hm htm (hrr.below hb) (htt.below hb))
  have HTL : Hid (txL ts) := hid (fun j (hj : j < ts.length) => (ht.2 j hj).choose_spec.choose_spec.2.2.1)
  have H40 : Hid (storeb now rs ts = true → ts.length ≤ 40) := hid storeb_40
  have HBG : Hid (storeb now rs ts = true → ∀ (nr c tg tcc base hi P : Nat) px (W : World), base ≤ hi → hi ≤ P → P < W.heap.size → W.heap[P]? = some (.cells #[.int .i64 now, .slice (some ⟨c, 0, none⟩) rs.length nr, .slice (some ⟨tg, 0, none⟩) ts.length tcc] 34 (0, 0)) → LX KT 56 base hi W (.slice (some ⟨tg, 0, none⟩) ts.length tcc) ts px → Calls Tryz.prog 25 #[.pointer (some ⟨P, 0, none⟩)] W fun e w' => BG now (some ⟨c, 0, none⟩) rs.length nr tg base hi P ts W e w') := hid (fun hs nr c tg tcc base hi P px W h1 h2 h3 h4 h5 => impl_begin now (some ⟨c, 0, none⟩) rs.length nr tg tcc base hi P ts px W (storeb_40 hs) h1 h2 h3 h4 h5 HTL.out)
  have HNO := hid (@beg_bad now rs ts)
  have HFU : Hid (storeb now rs ts = true → frI ts = -1 → begT now rs ts = ts ∧ begN now rs ts = -1) := hid (fun h e => beg_no ((frI_begb h).1.1 e))
  have HYE := hid (@beg_yes now rs ts)
  clear hr hrr ht htt HTL H40
  unfold BG at HBG
  generalize begT now rs ts = bt at *
  generalize begN now rs ts = bn at *
  generalize frI ts = fi at *
  generalize frk ts = fk at *
  generalize putT now ts fk = pt at *
  generalize storeb now rs ts = ok at *
  generalize hnr : rs.length = nr at *
  generalize hnt : ts.length = nt at *
  have HNR := hid hnr
  have HNT := hid hnt
  clear hnr hnt
  have hB : Below w.heap.size w ((w.alloc (.cells #[.int .i64 now, .slice (some ⟨B, 0, none⟩) nr nr, .slice (some ⟨D, 0, none⟩) nt nt] 34)).alloc (.cells #[.int .i64 0, .slice none 0 0, .slice none 0 0] 34)) := balloc (balloc (Below.refl _ _) _) _
  have gP := old_alloc (o' := .cells #[.int .i64 0, .slice none 0 0, .slice none 0 0] 34) (new_alloc w w.heap.size (.cells #[.int .i64 now, .slice (some ⟨B, 0, none⟩) nr nr, .slice (some ⟨D, 0, none⟩) nt nt] 34) rfl)
  have gZ := new_alloc (w.alloc (.cells #[.int .i64 now, .slice (some ⟨B, 0, none⟩) nr nr, .slice (some ⟨D, 0, none⟩) nt nt] 34)) (w.heap.size + 1) (.cells #[.int .i64 0, .slice none 0 0, .slice none 0 0] 34) (by simp)
  have hWs : w.heap.size + 1 < ((w.alloc (.cells #[.int .i64 now, .slice (some ⟨B, 0, none⟩) nr nr, .slice (some ⟨D, 0, none⟩) nt nt] 34)).alloc (.cells #[.int .i64 0, .slice none 0 0, .slice none 0 0] 34)).heap.size := by simp
  go_enter Tryz.func8, Tryz.ntmps8
  go_upto_region 1 with fail
  generalize (w.alloc (.cells #[.int .i64 now, .slice (some ⟨B, 0, none⟩) nr nr, .slice (some ⟨D, 0, none⟩) nt nt] 34)).alloc (.cells #[.int .i64 0, .slice none 0 0, .slice none 0 0] 34) = W at *
  obtain ⟨⟨d0, d1, d2⟩, _⟩ := cellk3 gP
  go_wp2_with fail
  refine (HCP.out _ hB).mono ?_
  rintro e y ⟨g, c, tg, tcc, mid, rfl, ⟨hx1, px, hx2⟩, hrz, e1, e2, hy⟩
  replace gP := keepheap2 hy gP
  replace gZ := keepheap2 hy gZ
  replace hB := btrans hB hy
  have hyz := hy.size
  have HX1 := hid hx1
  have HX2 := hid hx2
  clear hy hx1 hx2 HCP d0 d1 d2 hrz
  go_upto_region 2 with fail
  have hal : Below y.heap.size y (y.alloc (.cells #[.int .i64 now, .slice (some ⟨g, 0, none⟩) nr c, .slice (some ⟨tg, 0, none⟩) nt tcc] 34)) := balloc (Below.refl _ _) _
  have gQ := new_alloc y y.heap.size (.cells #[.int .i64 now, .slice (some ⟨g, 0, none⟩) nr c, .slice (some ⟨tg, 0, none⟩) nt tcc] 34) rfl
  replace gP := keepheap2 hal gP
  replace gZ := keepheap2 hal gZ
  replace hB := btrans hB hal
  replace HX1 := hid (HX1.out.below hal)
  replace HX2 := hid (HX2.out.below hal)
  have hyq : (y.alloc (.cells #[.int .i64 now, .slice (some ⟨g, 0, none⟩) nr c, .slice (some ⟨tg, 0, none⟩) nt tcc] 34)).heap.size = y.heap.size + 1 := by simp
  clear hal
  generalize y.alloc (.cells #[.int .i64 now, .slice (some ⟨g, 0, none⟩) nr c, .slice (some ⟨tg, 0, none⟩) nt tcc] 34) = Y at *
  generalize W.heap.size = Wz at *
  generalize y.heap.size = Q at *
  obtain ⟨⟨d0, d1, d2⟩, _⟩ := cellk3 gP
  go_wp2_with fail
  refine (HOK.out _ hB).mono ?_
  rintro e z ⟨rfl, hz⟩
  replace gP := keepheap2 hz gP
  replace gZ := keepheap2 hz gZ
  replace gQ := keepheap2 hz gQ
  replace hB := btrans hB hz
  have hzz := hz.size
  replace HX1 := hid (HX1.out.below hz)
  replace HX2 := hid (HX2.out.below hz)
  have hth := HX2.out.2.2.1 tg rfl
  have htb : Wz ≤ tg := (World.ownsRow.lt HX2.out.2.1 tg rfl).1
  clear hz d0 d1 d2 HOK
  cases ok
  · skip
    obtain ⟨k1, k2⟩ := HNO.out rfl
    have HX3 := hid ((HX2.out.lc).hole (p := mid) (q := Q) (.inl (Nat.le_refl _)))
    clear HBG HFU HYE
    have HB := hid hB
    clear hB
    obtain ⟨⟨v0, v1, v2⟩, s0, s1, s2⟩ := cellk3 gZ
    obtain ⟨⟨t0, t1, t2⟩, _⟩ := cellk3 gQ
    go_wp2_with fail
    have gF := setk3 gZ (.int .i64 now) (.slice (some ⟨g, 0, none⟩) nr c) (.slice (some ⟨tg, 0, none⟩) nt tcc)
    have bF := (bset (bset (bset HB.out (q := w.heap.size + 1) (k := 0) (by omega) (.int .i64 now)) (q := w.heap.size + 1) (k := 1) (by omega) (.slice (some ⟨g, 0, none⟩) nr c)) (q := w.heap.size + 1) (k := 2) (by omega) (.slice (some ⟨tg, 0, none⟩) nt tcc))
    have hfar : ∀ b, b ≠ w.heap.size + 1 → (((z.setCell ⟨w.heap.size + 1, 0, none⟩ (.int .i64 now)).setCell ⟨w.heap.size + 1, 1, none⟩ (.slice (some ⟨g, 0, none⟩) nr c)).setCell ⟨w.heap.size + 1, 2, none⟩ (.slice (some ⟨tg, 0, none⟩) nt tcc)).heap[b]? = z.heap[b]? := fun b hb => by rw [Below.heap_setCell _ _ _ _ (by dsimp only; omega), Below.heap_setCell _ _ _ _ (by dsimp only; omega), Below.heap_setCell _ _ _ _ (by dsimp only; omega)]
    have x1 := HX1.out.frame (w' := (((z.setCell ⟨w.heap.size + 1, 0, none⟩ (.int .i64 now)).setCell ⟨w.heap.size + 1, 1, none⟩ (.slice (some ⟨g, 0, none⟩) nr c)).setCell ⟨w.heap.size + 1, 2, none⟩ (.slice (some ⟨tg, 0, none⟩) nt tcc))) (fun b h1 h2 => hfar b (by omega)) (by simp)
    have x2 := HX3.out.frame (w' := (((z.setCell ⟨w.heap.size + 1, 0, none⟩ (.int .i64 now)).setCell ⟨w.heap.size + 1, 1, none⟩ (.slice (some ⟨g, 0, none⟩) nr c)).setCell ⟨w.heap.size + 1, 2, none⟩ (.slice (some ⟨tg, 0, none⟩) nt tcc))) (fun b h1 h2 h3 => hfar b (by omega)) (by simp)
    generalize (((z.setCell ⟨w.heap.size + 1, 0, none⟩ (.int .i64 now)).setCell ⟨w.heap.size + 1, 1, none⟩ (.slice (some ⟨g, 0, none⟩) nr c)).setCell ⟨w.heap.size + 1, 2, none⟩ (.slice (some ⟨tg, 0, none⟩) nt tcc)) = wf at *
    obtain ⟨⟨z0, z1, z2⟩, _⟩ := cellk3 gF
    exact bodyPost_ret (v := .tuple #[.agg #[.int .i64 now, .slice (some ⟨g, 0, none⟩) nr c, .slice (some ⟨tg, 0, none⟩) nt tcc], .int .i64 (-1)]) (by simp [results, Tryz.results8, go_sem, z0, z1, z2]) rfl (sb_mk k1 k2 HNR.out HNT.out x1 x2 (by omega) (by omega) bF)
  · skip
    clear HNO
    have h3 := HBG.out rfl c g tg tcc Wz mid Q px z e1 e2 (by omega) gQ HX2.out
    have H3 := hid h3
    clear h3 HBG
    go_wp2_with fail
    refine H3.out.mono ?_
    rintro e x ⟨rfl, (⟨hf, hx⟩ | ⟨hf, g', c', hg1, hg2, hg3, hg4, hg5⟩)⟩
    · subst hf
      obtain ⟨k1, k2⟩ := HFU.out trivial rfl
      replace gZ := keepheap2 hx gZ
      replace gQ := keepheap2 hx gQ
      replace hB := btrans hB hx
      have hxz := hx.size
      replace HX1 := hid (HX1.out.below hx)
      have HX3 := hid (((HX2.out.below hx).lc).hole (p := mid) (q := Q) (.inl (Nat.le_refl _)))
      clear hx HYE HFU
      have HB := hid hB
      clear hB
      obtain ⟨⟨v0, v1, v2⟩, s0, s1, s2⟩ := cellk3 gZ
      obtain ⟨⟨t0, t1, t2⟩, _⟩ := cellk3 gQ
      go_wp2_with fail
      have gF := setk3 gZ (.int .i64 now) (.slice (some ⟨g, 0, none⟩) nr c) (.slice (some ⟨tg, 0, none⟩) nt tcc)
      have bF := (bset (bset (bset HB.out (q := w.heap.size + 1) (k := 0) (by omega) (.int .i64 now)) (q := w.heap.size + 1) (k := 1) (by omega) (.slice (some ⟨g, 0, none⟩) nr c)) (q := w.heap.size + 1) (k := 2) (by omega) (.slice (some ⟨tg, 0, none⟩) nt tcc))
      have hfar : ∀ b, b ≠ w.heap.size + 1 → (((x.setCell ⟨w.heap.size + 1, 0, none⟩ (.int .i64 now)).setCell ⟨w.heap.size + 1, 1, none⟩ (.slice (some ⟨g, 0, none⟩) nr c)).setCell ⟨w.heap.size + 1, 2, none⟩ (.slice (some ⟨tg, 0, none⟩) nt tcc)).heap[b]? = x.heap[b]? := fun b hb => by rw [Below.heap_setCell _ _ _ _ (by dsimp only; omega), Below.heap_setCell _ _ _ _ (by dsimp only; omega), Below.heap_setCell _ _ _ _ (by dsimp only; omega)]
      have x1 := HX1.out.frame (w' := (((x.setCell ⟨w.heap.size + 1, 0, none⟩ (.int .i64 now)).setCell ⟨w.heap.size + 1, 1, none⟩ (.slice (some ⟨g, 0, none⟩) nr c)).setCell ⟨w.heap.size + 1, 2, none⟩ (.slice (some ⟨tg, 0, none⟩) nt tcc))) (fun b h1 h2 => hfar b (by omega)) (by simp)
      have x2 := HX3.out.frame (w' := (((x.setCell ⟨w.heap.size + 1, 0, none⟩ (.int .i64 now)).setCell ⟨w.heap.size + 1, 1, none⟩ (.slice (some ⟨g, 0, none⟩) nr c)).setCell ⟨w.heap.size + 1, 2, none⟩ (.slice (some ⟨tg, 0, none⟩) nt tcc))) (fun b h1 h2 h3 => hfar b (by omega)) (by simp)
      generalize (((x.setCell ⟨w.heap.size + 1, 0, none⟩ (.int .i64 now)).setCell ⟨w.heap.size + 1, 1, none⟩ (.slice (some ⟨g, 0, none⟩) nr c)).setCell ⟨w.heap.size + 1, 2, none⟩ (.slice (some ⟨tg, 0, none⟩) nt tcc)) = wf at *
      obtain ⟨⟨z0, z1, z2⟩, _⟩ := cellk3 gF
      exact bodyPost_ret (v := .tuple #[.agg #[.int .i64 now, .slice (some ⟨g, 0, none⟩) nr c, .slice (some ⟨tg, 0, none⟩) nt tcc], .int .i64 (-1)]) (by simp [results, Tryz.results8, go_sem, z0, z1, z2]) rfl (sb_mk k1 k2 HNR.out HNT.out x1 x2 (by omega) (by omega) bF)
    · subst hf
      obtain ⟨k1, k2⟩ := HYE.out trivial rfl
      replace gZ := (hg4 _ (by have := lt_of_block gZ; omega) (by omega) (by omega)).trans gZ
      replace gQ := hg1
      replace hB : Below w.heap.size w x := ⟨hg5.1.trans hB.os, hg5.2.1.trans hB.tape, hg5.2.2.trans hB.output, by have := hB.size; omega, fun b hb => (hg4 b (by have := hB.size; omega) (by omega) (by omega)).trans (hB.block b hb)⟩
      replace HX1 := hid ((HX1.out.frame (w' := x) (fun b h1 h2 => hg4 b (by omega) (by omega) (by omega)) hg3).wide (hi' := Q + 1) (by omega) (by omega))
      have HX3 := hid hg2
      clear hg1 hg2 hg4 hg5 HFU HYE HX2
      have HB := hid hB
      clear hB
      obtain ⟨⟨v0, v1, v2⟩, s0, s1, s2⟩ := cellk3 gZ
      obtain ⟨⟨t0, t1, t2⟩, _⟩ := cellk3 gQ
      go_wp2_with fail
      have gF := setk3 gZ (.int .i64 now) (.slice (some ⟨g, 0, none⟩) nr c) (.slice (some ⟨g', 0, none⟩) pt.length c')
      have bF := (bset (bset (bset HB.out (q := w.heap.size + 1) (k := 0) (by omega) (.int .i64 now)) (q := w.heap.size + 1) (k := 1) (by omega) (.slice (some ⟨g, 0, none⟩) nr c)) (q := w.heap.size + 1) (k := 2) (by omega) (.slice (some ⟨g', 0, none⟩) pt.length c'))
      have hfar : ∀ b, b ≠ w.heap.size + 1 → (((x.setCell ⟨w.heap.size + 1, 0, none⟩ (.int .i64 now)).setCell ⟨w.heap.size + 1, 1, none⟩ (.slice (some ⟨g, 0, none⟩) nr c)).setCell ⟨w.heap.size + 1, 2, none⟩ (.slice (some ⟨g', 0, none⟩) pt.length c')).heap[b]? = x.heap[b]? := fun b hb => by rw [Below.heap_setCell _ _ _ _ (by dsimp only; omega), Below.heap_setCell _ _ _ _ (by dsimp only; omega), Below.heap_setCell _ _ _ _ (by dsimp only; omega)]
      have x1 := HX1.out.frame (w' := (((x.setCell ⟨w.heap.size + 1, 0, none⟩ (.int .i64 now)).setCell ⟨w.heap.size + 1, 1, none⟩ (.slice (some ⟨g, 0, none⟩) nr c)).setCell ⟨w.heap.size + 1, 2, none⟩ (.slice (some ⟨g', 0, none⟩) pt.length c'))) (fun b h1 h2 => hfar b (by omega)) (by simp)
      have x2 := HX3.out.frame (w' := (((x.setCell ⟨w.heap.size + 1, 0, none⟩ (.int .i64 now)).setCell ⟨w.heap.size + 1, 1, none⟩ (.slice (some ⟨g, 0, none⟩) nr c)).setCell ⟨w.heap.size + 1, 2, none⟩ (.slice (some ⟨g', 0, none⟩) pt.length c'))) (fun b h1 h2 h3 => hfar b (by omega)) (by simp)
      generalize (((x.setCell ⟨w.heap.size + 1, 0, none⟩ (.int .i64 now)).setCell ⟨w.heap.size + 1, 1, none⟩ (.slice (some ⟨g, 0, none⟩) nr c)).setCell ⟨w.heap.size + 1, 2, none⟩ (.slice (some ⟨g', 0, none⟩) pt.length c')) = wf at *
      obtain ⟨⟨z0, z1, z2⟩, _⟩ := cellk3 gF
      exact bodyPost_ret (v := .tuple #[.agg #[.int .i64 now, .slice (some ⟨g, 0, none⟩) nr c, .slice (some ⟨g', 0, none⟩) pt.length c'], .int .i64 fk]) (by simp [results, Tryz.results8, go_sem, z0, z1, z2]) rfl (sb_mk k1 k2 HNR.out rfl x1 x2 (by omega) (by omega) bF)
end Go.Proofs.YtiocelhnmfadnaaGreat
namespace Go.Proofs.YtiocelhnmfadnaaGreat
open Go.RowKit
set_option linter.unusedSimpArgs false
set_option linter.unusedVariables false
set_option maxRecDepth 100000 in
set_option maxHeartbeats 4000000 in
theorem spec_copyStoreL (now : Int) (B D tc : Nat) (rs : List Rw) (ts : List Tx) (w : World) (hm : rs.length ≤ 1099511627776) (htm : ts.length ≤ 1099511627776) (hr : RwsS w B rs) (ht : TxsS w D ts) : Calls Tryz.prog 19 #[.agg #[.int .i64 now, .slice (some ⟨B, 0, none⟩) rs.length rs.length, .slice (some ⟨D, 0, none⟩) ts.length tc]] w fun e w' => ∃ a c ta tcc b1 u1 b2 u2, e = .returned (.agg #[.int .i64 now, .slice a rs.length c, .slice ta ts.length tcc]) ∧ (LC KR b1 u1 w' (.slice a rs.length c) rs ∧ ∃ px, LX KT 56 b2 u2 w' (.slice ta ts.length tcc) ts px) ∧ u1 ≤ b2 ∧ b2 ≤ u2 ∧ w.heap.size ≤ b1 ∧ w.heap.size ≤ b2 ∧ Below w.heap.size w w' := by
  obtain ⟨i0, hi0, hz0, hz1, hz2⟩ := info_parts Tryz.infoTx
  have HR := hid (fun (W : World) (hb : Below w.heap.size w W) => spec_copyRows now B rs W hm (hr.below hb))
  have HTS := hid ht
  clear hr ht
  unfold VR at HR
  generalize hnr : rs.length = nr at *
  have HNR := hid hnr
  obtain ⟨nt, hnt⟩ : ∃ nt, nt = ts.length := ⟨_, rfl⟩
  have HNT := hid hnt.symm
  rw [← hnt] at htm ⊢
  clear hnr hnt
  have hB : Below w.heap.size w ((w.alloc (.cells #[.int .i64 now, .slice (some ⟨B, 0, none⟩) nr nr, .slice (some ⟨D, 0, none⟩) nt tc] 34)).alloc (.cells #[.int .i64 0, .slice none 0 0, .slice none 0 0] 34)) := balloc (balloc (Below.refl _ _) _) _
  have g0 := old_alloc (o' := .cells #[.int .i64 0, .slice none 0 0, .slice none 0 0] 34) (new_alloc w w.heap.size (.cells #[.int .i64 now, .slice (some ⟨B, 0, none⟩) nr nr, .slice (some ⟨D, 0, none⟩) nt tc] 34) rfl)
  have g1 := new_alloc (w.alloc (.cells #[.int .i64 now, .slice (some ⟨B, 0, none⟩) nr nr, .slice (some ⟨D, 0, none⟩) nt tc] 34)) (w.heap.size + 1) (.cells #[.int .i64 0, .slice none 0 0, .slice none 0 0] 34) (by simp)
  have hWs : w.heap.size + 1 < ((w.alloc (.cells #[.int .i64 now, .slice (some ⟨B, 0, none⟩) nr nr, .slice (some ⟨D, 0, none⟩) nt tc] 34)).alloc (.cells #[.int .i64 0, .slice none 0 0, .slice none 0 0] 34)).heap.size := by simp
  go_enter Tryz.func19, Tryz.ntmps19
  go_upto_region 1 with fail
  generalize (w.alloc (.cells #[.int .i64 now, .slice (some ⟨B, 0, none⟩) nr nr, .slice (some ⟨D, 0, none⟩) nt tc] 34)).alloc (.cells #[.int .i64 0, .slice none 0 0, .slice none 0 0] 34) = W at *
  obtain ⟨⟨d0, d1, d2⟩, _⟩ := cellk3 g0
  go_wp2_with fail
  refine (HR.out _ hB).mono ?_
  rintro e y ⟨a, c, pr, rfl, hX, hy⟩
  replace g0 := keepheap2 hy g0
  replace g1 := keepheap2 hy g1
  replace hB := btrans hB hy
  have hyz := hy.size
  have HX := hid hX.lc
  clear hy hX HR d0 d1 d2
  go_upto_region 2 with fail
  have hal : Below y.heap.size y (y.alloc (.cells #[.int .i64 now, .slice a nr c, .slice none 0 0] 34)) := balloc (Below.refl _ _) _
  have g2 := new_alloc y y.heap.size (.cells #[.int .i64 now, .slice a nr c, .slice none 0 0] 34) rfl
  replace g0 := keepheap2 hal g0
  replace g1 := keepheap2 hal g1
  have HX1 := hid (HX.out.below hal)
  have HB1 := hid (btrans hB hal)
  have hyq : y.heap.size < (y.alloc (.cells #[.int .i64 now, .slice a nr c, .slice none 0 0] 34)).heap.size := by simp
  clear hal hB HX
  generalize y.alloc (.cells #[.int .i64 now, .slice a nr c, .slice none 0 0] 34) = Y0 at *
  generalize W.heap.size = Wz at *
  generalize y.heap.size = Q at *
  have HX0 := hid (LX.nil (K := KT) (t := 56) (base := Q + 1) (hi := Y0.heap.size) (own_nilT (w := Y0)) (fun g e => by cases e) (Nat.le_refl _))
  have hBz := HB1.out.size
  go_wp2_with fail
  go_loopw [4] (fun ti wr => ∃ i : Nat, ∃ v : Value, ∃ ps' : List (Tx × Value), ti = .int .i64 i ∧ i ≤ nt ∧ Hid (LX KT 56 (Q + 1) wr.heap.size wr v (ts.take i) ps') ∧ Hid (wr.heap[w.heap.size]? = some (.cells #[.int .i64 now, .slice (some ⟨B, 0, none⟩) nr nr, .slice (some ⟨D, 0, none⟩) nt tc] 34 (0, 0))) ∧ Hid (wr.heap[w.heap.size + 1]? = some (.cells #[.int .i64 0, .slice none 0 0, .slice none 0 0] 34 (0, 0))) ∧ Hid (wr.heap[Q]? = some (.cells #[.int .i64 now, .slice a nr c, v] 34 (0, 0))) ∧ Hid (LC KR Wz Q wr (.slice a nr c) rs) ∧ Hid (Q < wr.heap.size) ∧ Hid (Below w.heap.size w wr)) (fun ti _ => nt - (intOf ti).toNat)
  case atStart => exact ⟨0, _, [], rfl, Nat.zero_le _, HX0, hid g0, hid g1, hid g2, HX1, hid (by omega), HB1⟩
  case round =>
    clear HX0 g0 g1 g2 HX1 HB1 hBz
    obtain ⟨i, v, ps', rfl, hi, HV, G0, G1, G2, HXR, HS, HBW⟩ := hrel
    obtain ⟨⟨d0, d1, d2⟩, _⟩ := cellk3 G0.out
    have hws := HS.out
    by_cases hlt : i < nt
    · have c1 : (i : Int) < (nt : Int) := by omega
      have hir : i < ts.length := by rw [HNT.out]; exact hlt
      obtain ⟨ci, cpi, k9, ⟨k0, k1, k2⟩, k6, k7⟩ := (HTS.out.below HBW.out).2 i hir
      have HTK : Hid (ts.take (i + 1) = ts.take i ++ [ts[i]]) := hid (by rw [List.take_add_one, List.getElem?_eq_getElem hir]; rfl)
      have HIL : Hid ((ts.take i).length = i) := hid (by rw [List.length_take]; omega)
      obtain ⟨r, hr⟩ : ∃ r, r = ts[i] := ⟨_, rfl⟩
      rw [← hr] at k0 k1 k2 k6 k7 HTK
      clear hr
      obtain ⟨st, op, cs⟩ := r
      simp only at k0 k1 k2 k6 k7
      have hbx : Below wr.heap.size wr (wr.alloc (.cells #[.int .i64 st, .bool op, .slice (some ⟨ci, 0, none⟩) cs.length cpi] 56)) := balloc (Below.refl _ _) _
      have HC1 := hid (spec_copyChs ci cpi cs _ k6 (k7.below hbx))
      clear k7
      go_upto_region 6 with fail
      have gx := new_alloc wr wr.heap.size (.cells #[.int .i64 st, .bool op, .slice (some ⟨ci, 0, none⟩) cs.length cpi] 56) rfl
      have HV1 := hid (HV.out.below hbx)
      have HG0 := hid (keepheap2 hbx G0.out)
      have HG1 := hid (keepheap2 hbx G1.out)
      have HG2 := hid (keepheap2 hbx G2.out)
      have HXR1 := hid (HXR.out.below hbx)
      have HB1 := hid (btrans HBW.out hbx)
      have hs1 : wr.heap.size < (wr.alloc (.cells #[.int .i64 st, .bool op, .slice (some ⟨ci, 0, none⟩) cs.length cpi] 56)).heap.size := by simp
      clear k0 k1 k2 d0 d1 d2 hbx HV G0 G1 G2 HXR
      generalize wr.alloc (.cells #[.int .i64 st, .bool op, .slice (some ⟨ci, 0, none⟩) cs.length cpi] 56) = W1 at *
      generalize wr.heap.size = X at *
      obtain ⟨⟨x0, x1, x2⟩, _⟩ := cellk3 gx
      go_wp2_with fail
      refine HC1.out.mono ?_
      rintro e y ⟨sv, px, rfl, hXc, ⟨g, cp, rfl⟩, hy⟩
      have gy := keepheap2 hy gx
      have hys := hy.size
      have HV2 := hid (HV1.out.below hy)
      have HG0' := hid (keepheap2 hy HG0.out)
      have HG1' := hid (keepheap2 hy HG1.out)
      have HG2' := hid (keepheap2 hy HG2.out)
      have HXR2 := hid (HXR1.out.below hy)
      have HBy := hid (btrans HB1.out hy)
      have hwy := HBy.out.size
      have HO := hid hXc.lc
      clear hy hXc gx HC1 HV1 HG0 HG1 HG2 HXR1 HB1 x0 x1 x2
      obtain ⟨⟨x0, x1, x2⟩, y0, y1, y2⟩ := cellk3 gy
      go_upto_region 7 with fail
      have gq := setk3_2 gy (.slice (some ⟨g, 0, none⟩) cs.length cp)
      have hfar : ∀ b, b ≠ X → (y.setCell ⟨X, 2, none⟩ (.slice (some ⟨g, 0, none⟩) cs.length cp)).heap[b]? = y.heap[b]? := fun b hb => by rw [Below.heap_setCell _ _ _ _ (by dsimp only; omega)]
      have HV3 := hid (HV2.out.frame (w' := y.setCell ⟨X, 2, none⟩ (.slice (some ⟨g, 0, none⟩) cs.length cp)) (fun b h1 h2 => hfar b (by omega)) (by simp))
      have HG0 := hid ((hfar w.heap.size (by omega)).trans HG0'.out)
      have HG1 := hid ((hfar (w.heap.size + 1) (by omega)).trans HG1'.out)
      have g2 := (hfar Q (by omega)).trans HG2'.out
      have HXR3 := hid (HXR2.out.frame (w' := y.setCell ⟨X, 2, none⟩ (.slice (some ⟨g, 0, none⟩) cs.length cp)) (fun b h1 h2 => hfar b (by omega)) (by simp))
      have HB3 := hid (bset HBy.out (q := X) (k := 2) (by omega) (.slice (some ⟨g, 0, none⟩) cs.length cp))
      have HO3 := hid (HO.out.frame (w' := y.setCell ⟨X, 2, none⟩ (.slice (some ⟨g, 0, none⟩) cs.length cp)) (fun b h1 h2 => hfar b (by omega)) (by simp))
      have hs3 : (y.setCell ⟨X, 2, none⟩ (.slice (some ⟨g, 0, none⟩) cs.length cp)).heap.size = y.heap.size := by simp
      have hs3a := Nat.le_of_eq hs3
      have hs3b := Nat.le_of_eq hs3.symm
      clear hs3 hfar HV2 HG0' HG1' HG2' HXR2 HBy HO gy x0 x1 x2 y0 y1 y2
      generalize y.setCell ⟨X, 2, none⟩ (.slice (some ⟨g, 0, none⟩) cs.length cp) = Y at *
      generalize W1.heap.size = W1z at *
      generalize y.heap.size = yz at *
      obtain ⟨⟨x0, x1, x2⟩, _⟩ := cellk3 gq
      obtain ⟨⟨v0, v1, v2⟩, _⟩ := cellk3 g2
      have hownZ : Y.ownsRow (Q + 1) 56 3 v i (flatK KT ps') := by have := HV3.out.2.1; rw [HIL.out] at this; exact this
      have hal2 : Below Y.heap.size Y (Y.alloc (.cells #[.int .i64 st, .bool op, .slice (some ⟨g, 0, none⟩) cs.length cp] 56)) := balloc (Below.refl _ _) _
      have HGE := hid (keepheap2 hal2 g2)
      have hvb : v.ownBlock ≠ some Q := fun e => by have := (hownZ.lt _ e).1; omega
      clear gq g2
      go_wp2_with (at_builtin; (refine wpList_append_lies _ rfl (.tmp 27) (.tmp 29) 32 rfl (Q + 1) 56 i0 _ 3 40 Tryz.underlying32 hi0 hz0 hz1 hz2 rfl (by decide) v i (flatK KT ps') rfl (hownZ.alloc _) ⟨Y.heap.size, 0, none⟩ 1 1 [.int .i64 st, .bool op, .slice (some ⟨g, 0, none⟩) cs.length cp] rfl rfl (World.news_of_block (cs := #[.int .i64 st, .bool op, .slice (some ⟨g, 0, none⟩) cs.length cp]) (t := 56) (fr := (0, 0)) (heap_alloc_new Y _)) (by simp [Value.oneCell']) (by omega) (by unfold maxLen; omega) (by omega) (by simp; omega) (Y.heap.size + 1) (by simp) ?_; intro gg cq w2 hown2 hgrow hat hlt2; have g2 := (hgrow.block Q (lt_of_block HGE.out) (fun e => hvb e.symm)).trans HGE.out; obtain ⟨⟨t0, t1, t2⟩, s0, s1, s2⟩ := cellk3 g2))
      have hsn := LX.snoc (K := KT) (x := (st, op, cs)) (sv := .slice (some ⟨g, 0, none⟩) cs.length cp) (l := W1z) (u := yz) (g := gg) (cap := cq) (HV3.out.below hal2) (by omega) (by omega) (HO3.out.below hal2) (by rw [HIL.out]; exact hown2) hgrow (by simpa using hat) hlt2
      rw [HIL.out] at hsn
      have hb2 : Below w.heap.size w w2 := Below.grown (balloc HB3.out _) hgrow (by simp; omega) (fun k e => by have := (hownZ.lt k e).1; omega)
      have hw2 := hgrow.size
      have hbk : ∀ b, b ≤ Q → w2.heap[b]? = Y.heap[b]? := fun b hb => (hgrow.block b (by simp; omega) (fun e => by have := (hownZ.lt _ e.symm).1; omega)).trans (hal2.block b (by omega))
      have hfar : ∀ b, b ≠ Q → (w2.setCell ⟨Q, 2, none⟩ (.slice (some ⟨gg, 0, none⟩) (i + 1) cq)).heap[b]? = w2.heap[b]? := fun b hb => by rw [Below.heap_setCell _ _ _ _ (by dsimp only; omega)]
      have HF1 := hid ((hsn.frame (w' := w2.setCell ⟨Q, 2, none⟩ (.slice (some ⟨gg, 0, none⟩) (i + 1) cq)) (fun b h1 h2 => hfar b (by omega)) (by simp)).mono (hi' := (w2.setCell ⟨Q, 2, none⟩ (.slice (some ⟨gg, 0, none⟩) (i + 1) cq)).heap.size) (Nat.le_refl _) (by simp) (Nat.le_refl _))
      rw [← HTK.out] at HF1
      have HF2 := hid (((hfar w.heap.size (by omega)).trans (hbk _ (by omega))).trans HG0.out)
      have HF3 := hid (((hfar (w.heap.size + 1) (by omega)).trans (hbk _ (by omega))).trans HG1.out)
      have HF4 : Hid ((w2.setCell ⟨Q, 2, none⟩ (.slice (some ⟨gg, 0, none⟩) (i + 1) cq)).heap[Q]? = some (.cells #[.int .i64 now, .slice a nr c, .slice (some ⟨gg, 0, none⟩) (i + 1) cq] 34 (0, 0))) := hid (setk3_2 g2 _)
      have HF7 := hid (HXR3.out.frame (w' := w2.setCell ⟨Q, 2, none⟩ (.slice (some ⟨gg, 0, none⟩) (i + 1) cq)) (fun b h1 h2 => (hfar b (by omega)).trans (hbk b (by omega))) (by simp at hw2 ⊢; omega))
      have HF5 : Hid (Q < (w2.setCell ⟨Q, 2, none⟩ (.slice (some ⟨gg, 0, none⟩) (i + 1) cq)).heap.size) := hid (by simp at hw2 ⊢; omega)
      have HF6 := hid (bset hb2 (q := Q) (k := 2) (by omega) (.slice (some ⟨gg, 0, none⟩) (i + 1) cq))
      clear hsn hb2 hown2 hgrow hal2 hownZ hfar hbk g2 t0 t1 t2 s0 s1 s2 HGE
      go_roundw
      case rel => exact ⟨i + 1, _, _, by go_num, by omega, HF1, HF2, HF3, HF4, HF7, HF5, HF6⟩
      case measure => simp [intOf]; omega
    · have c1 : (nt : Int) ≤ (i : Int) := by omega
      have hin : i = ts.length := by have := HNT.out; omega
      have hX : LX KT 56 (Q + 1) wr.heap.size wr v ts ps' := by have := HV.out; rw [hin, List.take_length] at this; exact this
      obtain ⟨ta, tcc, rfl⟩ := hX.form
      rw [HNT.out] at hX G2
      have HX := hid hX
      clear hin HV hX
      obtain ⟨⟨v0, v1, v2⟩, s0, s1, s2⟩ := cellk3 G1.out
      obtain ⟨⟨t0, t1, t2⟩, _⟩ := cellk3 G2.out
      go_wp2_with fail
      have gF := setk3 G1.out (.int .i64 now) (.slice a nr c) (.slice ta nt tcc)
      have bF := bset (bset (bset HBW.out (q := w.heap.size + 1) (k := 0) (by omega) (.int .i64 now)) (q := w.heap.size + 1) (k := 1) (by omega) (.slice a nr c)) (q := w.heap.size + 1) (k := 2) (by omega) (.slice ta nt tcc)
      have hfar : ∀ b, b ≠ w.heap.size + 1 → (((wr.setCell ⟨w.heap.size + 1, 0, none⟩ (.int .i64 now)).setCell ⟨w.heap.size + 1, 1, none⟩ (.slice a nr c)).setCell ⟨w.heap.size + 1, 2, none⟩ (.slice ta nt tcc)).heap[b]? = wr.heap[b]? := fun b hb => by rw [Below.heap_setCell _ _ _ _ (by dsimp only; omega), Below.heap_setCell _ _ _ _ (by dsimp only; omega), Below.heap_setCell _ _ _ _ (by dsimp only; omega)]
      have x1 := HXR.out.frame (w' := ((wr.setCell ⟨w.heap.size + 1, 0, none⟩ (.int .i64 now)).setCell ⟨w.heap.size + 1, 1, none⟩ (.slice a nr c)).setCell ⟨w.heap.size + 1, 2, none⟩ (.slice ta nt tcc)) (fun b h1 h2 => hfar b (by omega)) (by simp)
      have x2 := (HX.out.frame (w' := ((wr.setCell ⟨w.heap.size + 1, 0, none⟩ (.int .i64 now)).setCell ⟨w.heap.size + 1, 1, none⟩ (.slice a nr c)).setCell ⟨w.heap.size + 1, 2, none⟩ (.slice ta nt tcc)) (fun b h1 h2 => hfar b (by omega)) (by simp))
      generalize ((wr.setCell ⟨w.heap.size + 1, 0, none⟩ (.int .i64 now)).setCell ⟨w.heap.size + 1, 1, none⟩ (.slice a nr c)).setCell ⟨w.heap.size + 1, 2, none⟩ (.slice ta nt tcc) = wf at *
      obtain ⟨⟨z0, z1, z2⟩, _⟩ := cellk3 gF
      exact bodyPost_ret (v := .agg #[.int .i64 now, .slice a nr c, .slice ta nt tcc]) (by simp [results, Tryz.results19, go_sem, z0, z1, z2]) rfl ⟨a, c, ta, tcc, Wz, Q, Q + 1, wr.heap.size, rfl, ⟨x1, _, x2⟩, by omega, by omega, by omega, by omega, bF⟩
end Go.Proofs.YtiocelhnmfadnaaGreat
namespace Go.Proofs.YtiocelhnmfadnaaGreat
open Go.RowKit
set_option linter.unusedSimpArgs false
set_option linter.unusedVariables false
/-- A store and a number that the specification answers. -/
def SSB (w : World) (now : Int) (rs : List Rw) (ts : List Tx) (n : Int) (e : Ending) (w' : World) : Prop :=
  ∃ a c ta tcc, e = .returned (.tuple #[.agg #[.int .i64 now, .slice a rs.length c, .slice ta ts.length tcc], .int .i64 n]) ∧ Rws (fun _ => True) w' a rs ∧ Txs (fun _ => True) 1099511627776 w' ta ts ∧ Below w.heap.size w w'
theorem ssb_mk {w w' : World} {now n n' : Int} {rs : List Rw} {ts ts' : List Tx} {a ta : Option Addr} {c tcc nr nt b1 u1 b2 u2 : Nat} (e1 : ts = ts') (e2 : n = n') (h1 : rs.length = nr) (h2 : ts'.length = nt) (x1 : LC KR b1 u1 w' (.slice a nr c) rs) (x2 : LC KT b2 u2 w' (.slice ta nt tcc) ts') (hl : txL ts') (hb : Below w.heap.size w w') : SSB w now rs ts n (.returned (.tuple #[.agg #[.int .i64 now, .slice a nr c, .slice ta nt tcc], .int .i64 n'])) w' := by
  subst e1 e2 h1 h2
  exact ⟨a, c, ta, tcc, rfl, x1.rws, Txs.any (x2.txs hl), hb⟩
theorem putT_L {now : Int} {ts : List Tx} {f : Nat} (h : txL ts) : txL (putT now ts f) := by
  intro j hj
  unfold putT at hj ⊢
  split at hj
  · rename_i e
    simp only [if_pos e]
    rw [List.getElem_append]
    split
    · exact h _ _
    · simp
  · rename_i e
    simp only [if_neg e]
    rw [List.getElem_set]
    split
    · simp
    · exact h _ _
/-- A transaction without changes set into a list in memory of its own. -/
theorem LC.put3 {base hi g cap i : Nat} {w : World} {now : Int} {ts : List Tx} (h : LC KT base hi w (.slice (some ⟨g, 0, none⟩) ts.length cap) ts) (hi' : i < ts.length) : LC KT base hi (((w.setCell ⟨g, i * 3, none⟩ (.int .i64 now)).setCell ⟨g, i * 3 + 1, none⟩ (.bool true)).setCell ⟨g, i * 3 + 2, none⟩ (.slice none 0 0)) (.slice (some ⟨g, 0, none⟩) ts.length cap) (ts.set i (now, true, [])) := by
  obtain ⟨h0, ⟨_, h⟩ | ⟨g2, cap2, ss, lo, up, h1, h2, h3, h4, h5, h6, h7⟩⟩ := h
  · cases h
  · cases h1
    have ht : ∀ k, k < ts.length * 3 → ∃ u, w.cell? ⟨g, k, none⟩ = some u := fun k hk => by
      obtain ⟨c0, _⟩ := h5 k hk
      obtain ⟨u0, hu0⟩ := Option.isSome_iff_exists.1 c0
      exact ⟨u0, by simpa using hu0⟩
    refine ⟨by simpa using h0, .inr ⟨g, cap, fun j => if j = i then .slice none 0 0 else ss j, lo, up, by rw [List.length_set], by rw [List.length_set]; exact h2, h3, h4, ?_, fun j hj => ?_, fun a b hab ha hb => by rw [List.length_set] at ha hb; exact h7 a b hab ha hb⟩⟩
    · rw [List.length_set]; exact there_set (there_set (there_set h5 _) _) _
    · rw [List.length_set] at hj
      obtain ⟨a1, a2, a3, a4⟩ := h6 j hj
      refine ⟨?_, a2, a3, a4⟩
      by_cases e : j = i
      · subst e
        simp only [List.getElem_set_self, if_true]
        refine ⟨fun t ht' => ?_, subT_nil _ _ _ _ (by simp; omega)⟩
        obtain ⟨u0, q0⟩ := ht (j * 3) (by omega)
        obtain ⟨u1, q1⟩ := ht (j * 3 + 1) (by omega)
        obtain ⟨u2, q2⟩ := ht (j * 3 + 2) (by omega)
        have r1 : (w.setCell ⟨g, j * 3, none⟩ (.int .i64 now)).cell? ⟨g, j * 3 + 1, none⟩ = some u1 := by rw [World.cell?_setCell_other _ _ _ _ (by intro q; injection q; omega)]; exact q1
        have r2 : ((w.setCell ⟨g, j * 3, none⟩ (.int .i64 now)).setCell ⟨g, j * 3 + 1, none⟩ (.bool true)).cell? ⟨g, j * 3 + 2, none⟩ = some u2 := by rw [World.cell?_setCell_other _ _ _ _ (by intro q; injection q; omega), World.cell?_setCell_other _ _ _ _ (by intro q; injection q; omega)]; exact q2
        have ht3 : t < 3 := ht'
        match t, ht3 with
        | 0, _ =>
          rw [World.cell?_setCell_other _ _ _ _ (by intro q; injection q; simp only [KT] at *; omega), World.cell?_setCell_other _ _ _ _ (by intro q; injection q; simp only [KT] at *; omega)]
          exact World.cell?_setCell_same _ _ _ q0
        | 1, _ =>
          rw [World.cell?_setCell_other _ _ _ _ (by intro q; injection q; simp only [KT] at *; omega)]
          exact World.cell?_setCell_same _ _ _ r1
        | 2, _ => exact World.cell?_setCell_same _ _ _ r2
      · simp only [if_neg e]
        rw [List.getElem_set_ne (by omega)]
        have hne : j * 3 + 3 ≤ i * 3 ∨ i * 3 + 3 ≤ j * 3 := by omega
        exact ((a1.set a4 (k := i * 3) (by show i * 3 < j * 3 ∨ j * 3 + 3 ≤ i * 3; omega) _).set a4 (k := i * 3 + 1) (by show i * 3 + 1 < j * 3 ∨ j * 3 + 3 ≤ i * 3 + 1; omega) _).set a4 (k := i * 3 + 2) (by show i * 3 + 2 < j * 3 ∨ j * 3 + 3 ≤ i * 3 + 2; omega) _
theorem LC.cells3 {base hi g cap i : Nat} {w : World} {ts : List Tx} (h : LC KT base hi w (.slice (some ⟨g, 0, none⟩) ts.length cap) ts) (hi' : i < ts.length) : (∃ u0 u1 u2, w.cell? ⟨g, i * 3, none⟩ = some u0 ∧ w.cell? ⟨g, i * 3 + 1, none⟩ = some u1 ∧ w.cell? ⟨g, i * 3 + 2, none⟩ = some u2) ∧ w.frozen? ⟨g, i * 3, none⟩ = false ∧ w.frozen? ⟨g, i * 3 + 1, none⟩ = false ∧ w.frozen? ⟨g, i * 3 + 2, none⟩ = false ∧ base ≤ g ∧ g < hi := by
  obtain ⟨h0, ⟨_, h⟩ | ⟨g2, cap2, ss, lo, up, h1, h2, h3, h4, h5, h6, h7⟩⟩ := h
  · cases h
  · cases h1
    have ht : ∀ k, k < ts.length * 3 → ∃ u, w.cell? ⟨g, k, none⟩ = some u := fun k hk => by
      obtain ⟨c0, _⟩ := h5 k hk
      obtain ⟨u0, hu0⟩ := Option.isSome_iff_exists.1 c0
      exact ⟨u0, by simpa using hu0⟩
    have hf : ∀ k, k < ts.length * 3 → w.frozen? ⟨g, k, none⟩ = false := fun k hk => by simpa using (h5 k hk).2
    obtain ⟨u0, q0⟩ := ht (i * 3) (by omega)
    obtain ⟨u1, q1⟩ := ht (i * 3 + 1) (by omega)
    obtain ⟨u2, q2⟩ := ht (i * 3 + 2) (by omega)
    exact ⟨⟨u0, u1, u2, q0, q1, q2⟩, hf _ (by omega), hf _ (by omega), hf _ (by omega), h3, h4⟩
theorem LC.some_form {α : Type} {K : Kd α} {base hi n : Nat} {w : World} {a : Option Addr} {cap : Nat} {xs : List α} (h : LC K base hi w (.slice a n cap) xs) (hx : 0 < xs.length) : ∃ g, a = some ⟨g, 0, none⟩ := by
  obtain ⟨h0, ⟨e, h⟩ | ⟨g2, cap2, ss, lo, up, h1, h2, h3, h4, h5, h6, h7⟩⟩ := h
  · subst e; simp at hx
  · cases h1; exact ⟨g2, rfl⟩
theorem beg_full {now : Int} {rs : List Rw} {ts : List Tx} (h : ¬ frk ts < 40) : begT now rs ts = ts ∧ begN now rs ts = -1 := beg_no (by unfold begb; simp [h])
theorem beg_go {now : Int} {rs : List Rw} {ts : List Tx} (hs : storeb now rs ts = true) (h : frk ts < 40) : begT now rs ts = putT now ts (frk ts) ∧ begN now rs ts = (frk ts : Int) := by
  have hb : begb now rs ts = true := by unfold begb; simp [h, hs]
  unfold begT begN
  rw [hb]
  exact ⟨rfl, rfl⟩
def AO (ts : List Tx) (i : Nat) : Prop := ∀ m (h : m < ts.length), m < i → ts[m].2.1 = true
theorem AO.zero (ts : List Tx) : AO ts 0 := fun m h hh => absurd hh (by omega)
theorem AO.snoc {ts : List Tx} {i : Nat} (h : AO ts i) (hi : i < ts.length) (e : ts[i].2.1 = true) : AO ts (i + 1) := fun m hm h' => by
  by_cases e2 : m = i
  · subst e2; exact e
  · exact h m hm (by omega)
theorem AO.yes {ts : List Tx} {i : Nat} (h : AO ts i) (hi : i < ts.length) (e : ts[i].2.1 = false) : frk ts = i := frk_yes hi h e
theorem AO.no {ts : List Tx} {i : Nat} (h : AO ts i) (hi : ts.length = i) : frk ts = i := by subst hi; exact frk_no (fun m hm => h m hm hm)
set_option maxRecDepth 100000 in
set_option maxHeartbeats 4000000 in
theorem spec_Begin {N1 N2 : Nat → Prop} (now : Int) (B D : Nat) (rs : List Rw) (ts : List Tx) (w : World) (hm : rs.length ≤ 1099511627776) (htm : ts.length ≤ 1099511627776) (hr : RwsS w B rs) (hrr : Rws N1 w (some ⟨B, 0, none⟩) rs) (ht : TxsS w D ts) (htt : Txs N2 1099511627776 w (some ⟨D, 0, none⟩) ts) : Calls Tryz.prog 6 #[.agg #[.int .i64 now, .slice (some ⟨B, 0, none⟩) rs.length rs.length, .slice (some ⟨D, 0, none⟩) ts.length ts.length]] w fun e w' => SSB w now rs (begT now rs ts) (begN now rs ts) e w' := by
  obtain ⟨i0, hi0, hz0, hz1, hz2⟩ := info_parts Tryz.infoTx
  have HCP := hid (fun (W : World) (hb : Below w.heap.size w W) => spec_copyStoreL now B D ts.length rs ts W hm htm (hr.below hb) (ht.below hb))
  have HOK := hid (fun (W : World) (hb : Below w.heap.size w W) => spec_StoreOk now (some ⟨B, 0, none⟩) (some ⟨D, 0, none⟩) rs.length ts.length rs ts W hm htm (hrr.below hb) (htt.below hb))
  have HTS := hid (fun (W : World) (hb : Below w.heap.size w W) => ht.below hb)
  have HTL : Hid (txL ts) := hid (fun j (hj : j < ts.length) => (ht.2 j hj).choose_spec.choose_spec.2.2.1)
  have HNO := hid (@beg_bad now rs ts)
  have HFU := hid (@beg_full now rs ts)
  have HYE := hid (@beg_go now rs ts)
  obtain ⟨fk, hfk⟩ : ∃ fk, fk = frk ts := ⟨_, rfl⟩
  rw [← hfk] at HFU HYE
  have HFK := hid hfk
  clear hfk
  have HPL := hid (@putT_L now ts (frk ts) HTL.out)
  rw [← HFK.out] at HPL
  clear hr hrr ht htt
  generalize begT now rs ts = bt at *
  generalize begN now rs ts = bn at *
  generalize storeb now rs ts = ok at *
  generalize hnr : rs.length = nr at *
  generalize hnt : ts.length = nt at *
  have HNR := hid hnr
  have HNT := hid hnt
  clear hnr hnt
  have hB : Below w.heap.size w ((w.alloc (.cells #[.int .i64 now, .slice (some ⟨B, 0, none⟩) nr nr, .slice (some ⟨D, 0, none⟩) nt nt] 34)).alloc (.cells #[.int .i64 0, .slice none 0 0, .slice none 0 0] 34)) := balloc (balloc (Below.refl _ _) _) _
  have gP := old_alloc (o' := .cells #[.int .i64 0, .slice none 0 0, .slice none 0 0] 34) (new_alloc w w.heap.size (.cells #[.int .i64 now, .slice (some ⟨B, 0, none⟩) nr nr, .slice (some ⟨D, 0, none⟩) nt nt] 34) rfl)
  have gZ := new_alloc (w.alloc (.cells #[.int .i64 now, .slice (some ⟨B, 0, none⟩) nr nr, .slice (some ⟨D, 0, none⟩) nt nt] 34)) (w.heap.size + 1) (.cells #[.int .i64 0, .slice none 0 0, .slice none 0 0] 34) (by simp)
  have hWs : w.heap.size + 1 < ((w.alloc (.cells #[.int .i64 now, .slice (some ⟨B, 0, none⟩) nr nr, .slice (some ⟨D, 0, none⟩) nt nt] 34)).alloc (.cells #[.int .i64 0, .slice none 0 0, .slice none 0 0] 34)).heap.size := by simp
  go_enter Tryz.func6, Tryz.ntmps6
  go_upto_region 1 with fail
  generalize (w.alloc (.cells #[.int .i64 now, .slice (some ⟨B, 0, none⟩) nr nr, .slice (some ⟨D, 0, none⟩) nt nt] 34)).alloc (.cells #[.int .i64 0, .slice none 0 0, .slice none 0 0] 34) = W at *
  obtain ⟨⟨d0, d1, d2⟩, _⟩ := cellk3 gP
  go_wp2_with fail
  refine (HCP.out _ hB).mono ?_
  rintro e y ⟨a, c, ta, tcc, b1, u1, b2, u2, rfl, ⟨hx1, px, hx2⟩, hu, hu2, e1, e2, hy⟩
  replace gP := keepheap2 hy gP
  replace gZ := keepheap2 hy gZ
  replace hB := btrans hB hy
  have hyz := hy.size
  have HX1 := hid hx1
  have HX2 := hid hx2
  have hq1 := hx1.1
  have hq2 := hx2.2.2.2.1
  clear hy hx1 hx2 HCP d0 d1 d2
  go_upto_region 2 with fail
  have hal : Below y.heap.size y (y.alloc (.cells #[.int .i64 now, .slice a nr c, .slice ta nt tcc] 34)) := balloc (Below.refl _ _) _
  have gQ := new_alloc y y.heap.size (.cells #[.int .i64 now, .slice a nr c, .slice ta nt tcc] 34) rfl
  replace gP := keepheap2 hal gP
  replace gZ := keepheap2 hal gZ
  replace hB := btrans hB hal
  replace HX1 := hid (HX1.out.below hal)
  replace HX2 := hid (HX2.out.below hal)
  have hyq : (y.alloc (.cells #[.int .i64 now, .slice a nr c, .slice ta nt tcc] 34)).heap.size = y.heap.size + 1 := by simp
  clear hal
  generalize y.alloc (.cells #[.int .i64 now, .slice a nr c, .slice ta nt tcc] 34) = Y at *
  generalize W.heap.size = Wz at *
  generalize y.heap.size = Q at *
  obtain ⟨⟨d0, d1, d2⟩, _⟩ := cellk3 gP
  have HTY := hid (HTS.out _ hB)
  clear HTS
  go_wp2_with fail
  go_loopw [5] (fun ti wr => ∃ i : Nat, ti = .int .i64 i ∧ i ≤ nt ∧ Hid (AO ts i) ∧ wr = Y) (fun ti _ => nt - (intOf ti).toNat)
  case atStart => exact ⟨0, rfl, Nat.zero_le _, hid (AO.zero ts), rfl⟩
  case round =>
    obtain ⟨i, rfl, hi, HA, rfl⟩ := hrel
    by_cases hlt : i < nt
    · have c1 : (i : Int) < (nt : Int) := by omega
      have hir : i < ts.length := by rw [HNT.out]; exact hlt
      obtain ⟨ci, cpi, k9, ⟨k0, k1, k2⟩, k6, k7⟩ := HTY.out.2 i hir
      have HK := hid (fun e => HFK.out.trans (HA.out.yes hir e))
      have HX := hid (HA.out.snoc hir)
      clear k7 HFK HA
      generalize ts[i].2.1 = op at *
      cases op
      · have hfk := HK.out rfl
        subst hfk
        clear HK HX k0 k2
        go_wp2_with fail
        refine (HOK.out _ hB).mono ?_
        rintro e z ⟨rfl, hz⟩
        replace gP := keepheap2 hz gP
        replace gZ := keepheap2 hz gZ
        replace gQ := keepheap2 hz gQ
        replace hB := btrans hB hz
        have hzz := hz.size
        replace HX1 := hid (HX1.out.below hz)
        replace HX2 := hid (HX2.out.below hz)
        clear hz d0 d1 d2 HOK k1 c1
        cases ok
        · skip
          obtain ⟨k1, k2⟩ := HNO.out rfl
          have HX3 := hid HX2.out.lc
          clear HFU HYE
          have HB := hid hB
          clear hB
          obtain ⟨⟨v0, v1, v2⟩, s0, s1, s2⟩ := cellk3 gZ
          obtain ⟨⟨t0, t1, t2⟩, _⟩ := cellk3 gQ
          go_wp2_with fail
          have gF := setk3 gZ (.int .i64 now) (.slice a nr c) (.slice ta nt tcc)
          have bF := (bset (bset (bset HB.out (q := w.heap.size + 1) (k := 0) (by omega) (.int .i64 now)) (q := w.heap.size + 1) (k := 1) (by omega) (.slice a nr c)) (q := w.heap.size + 1) (k := 2) (by omega) (.slice ta nt tcc))
          have hfar : ∀ b, b ≠ w.heap.size + 1 → (((z.setCell ⟨w.heap.size + 1, 0, none⟩ (.int .i64 now)).setCell ⟨w.heap.size + 1, 1, none⟩ (.slice a nr c)).setCell ⟨w.heap.size + 1, 2, none⟩ (.slice ta nt tcc)).heap[b]? = z.heap[b]? := fun b hb => by rw [Below.heap_setCell _ _ _ _ (by dsimp only; omega), Below.heap_setCell _ _ _ _ (by dsimp only; omega), Below.heap_setCell _ _ _ _ (by dsimp only; omega)]
          have x1 := HX1.out.frame (w' := (((z.setCell ⟨w.heap.size + 1, 0, none⟩ (.int .i64 now)).setCell ⟨w.heap.size + 1, 1, none⟩ (.slice a nr c)).setCell ⟨w.heap.size + 1, 2, none⟩ (.slice ta nt tcc))) (fun b h1 h2 => hfar b (by omega)) (by simp)
          have x2 := HX3.out.frame (w' := (((z.setCell ⟨w.heap.size + 1, 0, none⟩ (.int .i64 now)).setCell ⟨w.heap.size + 1, 1, none⟩ (.slice a nr c)).setCell ⟨w.heap.size + 1, 2, none⟩ (.slice ta nt tcc))) (fun b h1 h2 => hfar b (by omega)) (by simp)
          generalize (((z.setCell ⟨w.heap.size + 1, 0, none⟩ (.int .i64 now)).setCell ⟨w.heap.size + 1, 1, none⟩ (.slice a nr c)).setCell ⟨w.heap.size + 1, 2, none⟩ (.slice ta nt tcc)) = wf at *
          obtain ⟨⟨z0, z1, z2⟩, _⟩ := cellk3 gF
          exact bodyPost_ret (v := .tuple #[.agg #[.int .i64 now, .slice a nr c, .slice ta nt tcc], .int .i64 (-1)]) (by simp [results, Tryz.results6, go_sem, z0, z1, z2]) rfl (ssb_mk k1 k2 HNR.out HNT.out x1 x2 HTL.out bF)
        · skip
          clear HNO
          by_cases h40 : fk < 40
          · obtain ⟨k1, k2⟩ := HYE.out rfl h40
            have c40 : ¬ ((40 : Int) ≤ (fk : Int)) := by omega
            clear HFU HYE
            obtain ⟨⟨d0, d1, d2⟩, _⟩ := cellk3 gP
            go_upto_region 8 with fail
            have hal : Below z.heap.size z (z.alloc (.cells #[.int .i64 now, .bool true, .slice none 0 0] 56)) := balloc (Below.refl _ _) _
            have gX := new_alloc z z.heap.size (.cells #[.int .i64 now, .bool true, .slice none 0 0] 56) rfl
            replace gZ := keepheap2 hal gZ
            replace gQ := keepheap2 hal gQ
            replace hB := btrans hB hal
            replace HX1 := hid (HX1.out.below hal)
            replace HX2 := hid (HX2.out.below hal)
            have hzx : (z.alloc (.cells #[.int .i64 now, .bool true, .slice none 0 0] 56)).heap.size = z.heap.size + 1 := by simp
            have hzx1 := Nat.le_of_eq hzx
            have hzx2 := Nat.le_of_eq hzx.symm
            clear hal gP d0 d1 d2 hzx
            generalize z.alloc (.cells #[.int .i64 now, .bool true, .slice none 0 0] 56) = V at *
            generalize z.heap.size = X at *
            obtain ⟨⟨x0, x1, x2⟩, _⟩ := cellk3 gX
            obtain ⟨⟨v0, v1, v2⟩, y0, y1, y2⟩ := cellk3 gQ
            have hL : LC KT b2 u2 V (.slice ta ts.length tcc) ts := by rw [HNT.out]; exact HX2.out.lc
            obtain ⟨g, rfl⟩ := hL.some_form (by omega)
            obtain ⟨⟨u0', u1', u2', q0, q1, q2⟩, p0, p1, p2, hg1, hg2⟩ := hL.cells3 (i := fk) hir
            have c5 : (fk : Int) < (nt : Int) := by omega
            have c6 : ¬ ((fk : Int) = (nt : Int)) := by omega
            go_upto_region 11 with fail
            have hL3 := hL.put3 (now := now) hir
            have hpt : putT now ts fk = ts.set fk (now, true, []) := by unfold putT; rw [if_neg (by omega)]
            have hpn : (putT now ts fk).length = nt := by rw [hpt, List.length_set]; exact HNT.out
            rw [HNT.out, ← hpt] at hL3
            have hfar3 : ∀ b, b ≠ g → (((V.setCell ⟨g, fk * 3, none⟩ (.int .i64 now)).setCell ⟨g, fk * 3 + 1, none⟩ (.bool true)).setCell ⟨g, fk * 3 + 2, none⟩ (.slice none 0 0)).heap[b]? = V.heap[b]? := fun b hb => by rw [Below.heap_setCell _ _ _ _ (by dsimp only; omega), Below.heap_setCell _ _ _ _ (by dsimp only; omega), Below.heap_setCell _ _ _ _ (by dsimp only; omega)]
            have hsz3 : (((V.setCell ⟨g, fk * 3, none⟩ (.int .i64 now)).setCell ⟨g, fk * 3 + 1, none⟩ (.bool true)).setCell ⟨g, fk * 3 + 2, none⟩ (.slice none 0 0)).heap.size = V.heap.size := by simp
            have hB3 := (bset (bset (bset hB (q := g) (k := fk * 3) (by omega) (.int .i64 now)) (q := g) (k := fk * 3 + 1) (by omega) (.bool true)) (q := g) (k := fk * 3 + 2) (by omega) (.slice none 0 0))
            replace gZ := (hfar3 _ (by omega)).trans gZ
            replace gQ := (hfar3 _ (by omega)).trans gQ
            replace HX1 := hid (HX1.out.frame (w' := ((V.setCell ⟨g, fk * 3, none⟩ (.int .i64 now)).setCell ⟨g, fk * 3 + 1, none⟩ (.bool true)).setCell ⟨g, fk * 3 + 2, none⟩ (.slice none 0 0)) (fun b h1 h2 => hfar3 b (by omega)) (by omega))
            have HX3 := hid hL3
            have HB := hid hB3
            clear hB hB3 hL3 hL q0 q1 q2 p0 p1 p2 x0 x1 x2 v0 v1 v2 y0 y1 y2 gX hfar3 HX2
            generalize ((V.setCell ⟨g, fk * 3, none⟩ (.int .i64 now)).setCell ⟨g, fk * 3 + 1, none⟩ (.bool true)).setCell ⟨g, fk * 3 + 2, none⟩ (.slice none 0 0) = V3 at *
            obtain ⟨⟨v0, v1, v2⟩, s0, s1, s2⟩ := cellk3 gZ
            obtain ⟨⟨t0, t1, t2⟩, _⟩ := cellk3 gQ
            go_wp2_with fail
            have gF := setk3 gZ (.int .i64 now) (.slice a nr c) (.slice (some ⟨g, 0, none⟩) nt tcc)
            have bF := (bset (bset (bset HB.out (q := w.heap.size + 1) (k := 0) (by omega) (.int .i64 now)) (q := w.heap.size + 1) (k := 1) (by omega) (.slice a nr c)) (q := w.heap.size + 1) (k := 2) (by omega) (.slice (some ⟨g, 0, none⟩) nt tcc))
            have hfar : ∀ b, b ≠ w.heap.size + 1 → (((V3.setCell ⟨w.heap.size + 1, 0, none⟩ (.int .i64 now)).setCell ⟨w.heap.size + 1, 1, none⟩ (.slice a nr c)).setCell ⟨w.heap.size + 1, 2, none⟩ (.slice (some ⟨g, 0, none⟩) nt tcc)).heap[b]? = V3.heap[b]? := fun b hb => by rw [Below.heap_setCell _ _ _ _ (by dsimp only; omega), Below.heap_setCell _ _ _ _ (by dsimp only; omega), Below.heap_setCell _ _ _ _ (by dsimp only; omega)]
            have x1 := HX1.out.frame (w' := (((V3.setCell ⟨w.heap.size + 1, 0, none⟩ (.int .i64 now)).setCell ⟨w.heap.size + 1, 1, none⟩ (.slice a nr c)).setCell ⟨w.heap.size + 1, 2, none⟩ (.slice (some ⟨g, 0, none⟩) nt tcc))) (fun b h1 h2 => hfar b (by omega)) (by simp)
            have x2 := HX3.out.frame (w' := (((V3.setCell ⟨w.heap.size + 1, 0, none⟩ (.int .i64 now)).setCell ⟨w.heap.size + 1, 1, none⟩ (.slice a nr c)).setCell ⟨w.heap.size + 1, 2, none⟩ (.slice (some ⟨g, 0, none⟩) nt tcc))) (fun b h1 h2 => hfar b (by omega)) (by simp)
            generalize (((V3.setCell ⟨w.heap.size + 1, 0, none⟩ (.int .i64 now)).setCell ⟨w.heap.size + 1, 1, none⟩ (.slice a nr c)).setCell ⟨w.heap.size + 1, 2, none⟩ (.slice (some ⟨g, 0, none⟩) nt tcc)) = wf at *
            obtain ⟨⟨z0, z1, z2⟩, _⟩ := cellk3 gF
            exact bodyPost_ret (v := .tuple #[.agg #[.int .i64 now, .slice a nr c, .slice (some ⟨g, 0, none⟩) nt tcc], .int .i64 fk]) (by simp [results, Tryz.results6, go_sem, z0, z1, z2]) rfl (ssb_mk k1 k2 HNR.out hpn x1 x2 HPL.out bF)
          · obtain ⟨k1, k2⟩ := HFU.out h40
            have c40 : (40 : Int) ≤ (fk : Int) := by omega
            have HX3 := hid HX2.out.lc
            clear HFU HYE
            have HB := hid hB
            clear hB
            obtain ⟨⟨v0, v1, v2⟩, s0, s1, s2⟩ := cellk3 gZ
            obtain ⟨⟨t0, t1, t2⟩, _⟩ := cellk3 gQ
            go_wp2_with fail
            have gF := setk3 gZ (.int .i64 now) (.slice a nr c) (.slice ta nt tcc)
            have bF := (bset (bset (bset HB.out (q := w.heap.size + 1) (k := 0) (by omega) (.int .i64 now)) (q := w.heap.size + 1) (k := 1) (by omega) (.slice a nr c)) (q := w.heap.size + 1) (k := 2) (by omega) (.slice ta nt tcc))
            have hfar : ∀ b, b ≠ w.heap.size + 1 → (((z.setCell ⟨w.heap.size + 1, 0, none⟩ (.int .i64 now)).setCell ⟨w.heap.size + 1, 1, none⟩ (.slice a nr c)).setCell ⟨w.heap.size + 1, 2, none⟩ (.slice ta nt tcc)).heap[b]? = z.heap[b]? := fun b hb => by rw [Below.heap_setCell _ _ _ _ (by dsimp only; omega), Below.heap_setCell _ _ _ _ (by dsimp only; omega), Below.heap_setCell _ _ _ _ (by dsimp only; omega)]
            have x1 := HX1.out.frame (w' := (((z.setCell ⟨w.heap.size + 1, 0, none⟩ (.int .i64 now)).setCell ⟨w.heap.size + 1, 1, none⟩ (.slice a nr c)).setCell ⟨w.heap.size + 1, 2, none⟩ (.slice ta nt tcc))) (fun b h1 h2 => hfar b (by omega)) (by simp)
            have x2 := HX3.out.frame (w' := (((z.setCell ⟨w.heap.size + 1, 0, none⟩ (.int .i64 now)).setCell ⟨w.heap.size + 1, 1, none⟩ (.slice a nr c)).setCell ⟨w.heap.size + 1, 2, none⟩ (.slice ta nt tcc))) (fun b h1 h2 => hfar b (by omega)) (by simp)
            generalize (((z.setCell ⟨w.heap.size + 1, 0, none⟩ (.int .i64 now)).setCell ⟨w.heap.size + 1, 1, none⟩ (.slice a nr c)).setCell ⟨w.heap.size + 1, 2, none⟩ (.slice ta nt tcc)) = wf at *
            obtain ⟨⟨z0, z1, z2⟩, _⟩ := cellk3 gF
            exact bodyPost_ret (v := .tuple #[.agg #[.int .i64 now, .slice a nr c, .slice ta nt tcc], .int .i64 (-1)]) (by simp [results, Tryz.results6, go_sem, z0, z1, z2]) rfl (ssb_mk k1 k2 HNR.out HNT.out x1 x2 HTL.out bF)
      · have HF := hid (HX.out rfl)
        go_wp2_with fail
        go_roundw
        case rel => exact ⟨i + 1, by go_num, by omega, HF, by first | trivial | rfl⟩
        case measure => simp [intOf]; omega
    · have c1 : (nt : Int) ≤ (i : Int) := by omega
      have hin : i = nt := by omega
      subst hin
      have hfk := HFK.out.trans (HA.out.no HNT.out)
      subst hfk
      clear HFK HA
      go_wp2_with fail
      refine (HOK.out _ hB).mono ?_
      rintro e z ⟨rfl, hz⟩
      replace gP := keepheap2 hz gP
      replace gZ := keepheap2 hz gZ
      replace gQ := keepheap2 hz gQ
      replace hB := btrans hB hz
      have hzz := hz.size
      replace HX1 := hid (HX1.out.below hz)
      replace HX2 := hid (HX2.out.below hz)
      clear hz d0 d1 d2 HOK c1
      cases ok
      · skip
        obtain ⟨k1, k2⟩ := HNO.out rfl
        have HX3 := hid HX2.out.lc
        clear HFU HYE
        have HB := hid hB
        clear hB
        obtain ⟨⟨v0, v1, v2⟩, s0, s1, s2⟩ := cellk3 gZ
        obtain ⟨⟨t0, t1, t2⟩, _⟩ := cellk3 gQ
        go_wp2_with fail
        have gF := setk3 gZ (.int .i64 now) (.slice a nr c) (.slice ta fk tcc)
        have bF := (bset (bset (bset HB.out (q := w.heap.size + 1) (k := 0) (by omega) (.int .i64 now)) (q := w.heap.size + 1) (k := 1) (by omega) (.slice a nr c)) (q := w.heap.size + 1) (k := 2) (by omega) (.slice ta fk tcc))
        have hfar : ∀ b, b ≠ w.heap.size + 1 → (((z.setCell ⟨w.heap.size + 1, 0, none⟩ (.int .i64 now)).setCell ⟨w.heap.size + 1, 1, none⟩ (.slice a nr c)).setCell ⟨w.heap.size + 1, 2, none⟩ (.slice ta fk tcc)).heap[b]? = z.heap[b]? := fun b hb => by rw [Below.heap_setCell _ _ _ _ (by dsimp only; omega), Below.heap_setCell _ _ _ _ (by dsimp only; omega), Below.heap_setCell _ _ _ _ (by dsimp only; omega)]
        have x1 := HX1.out.frame (w' := (((z.setCell ⟨w.heap.size + 1, 0, none⟩ (.int .i64 now)).setCell ⟨w.heap.size + 1, 1, none⟩ (.slice a nr c)).setCell ⟨w.heap.size + 1, 2, none⟩ (.slice ta fk tcc))) (fun b h1 h2 => hfar b (by omega)) (by simp)
        have x2 := HX3.out.frame (w' := (((z.setCell ⟨w.heap.size + 1, 0, none⟩ (.int .i64 now)).setCell ⟨w.heap.size + 1, 1, none⟩ (.slice a nr c)).setCell ⟨w.heap.size + 1, 2, none⟩ (.slice ta fk tcc))) (fun b h1 h2 => hfar b (by omega)) (by simp)
        generalize (((z.setCell ⟨w.heap.size + 1, 0, none⟩ (.int .i64 now)).setCell ⟨w.heap.size + 1, 1, none⟩ (.slice a nr c)).setCell ⟨w.heap.size + 1, 2, none⟩ (.slice ta fk tcc)) = wf at *
        obtain ⟨⟨z0, z1, z2⟩, _⟩ := cellk3 gF
        exact bodyPost_ret (v := .tuple #[.agg #[.int .i64 now, .slice a nr c, .slice ta fk tcc], .int .i64 (-1)]) (by simp [results, Tryz.results6, go_sem, z0, z1, z2]) rfl (ssb_mk k1 k2 HNR.out HNT.out x1 x2 HTL.out bF)
      · skip
        clear HNO
        by_cases h40 : fk < 40
        · obtain ⟨k1, k2⟩ := HYE.out rfl h40
          have c40 : ¬ ((40 : Int) ≤ (fk : Int)) := by omega
          clear HFU HYE
          obtain ⟨⟨d0, d1, d2⟩, _⟩ := cellk3 gP
          go_upto_region 8 with fail
          have hal : Below z.heap.size z (z.alloc (.cells #[.int .i64 now, .bool true, .slice none 0 0] 56)) := balloc (Below.refl _ _) _
          have gX := new_alloc z z.heap.size (.cells #[.int .i64 now, .bool true, .slice none 0 0] 56) rfl
          replace gZ := keepheap2 hal gZ
          replace gQ := keepheap2 hal gQ
          replace hB := btrans hB hal
          replace HX1 := hid (HX1.out.below hal)
          replace HX2 := hid (HX2.out.below hal)
          have hzx : (z.alloc (.cells #[.int .i64 now, .bool true, .slice none 0 0] 56)).heap.size = z.heap.size + 1 := by simp
          have hzx1 := Nat.le_of_eq hzx
          have hzx2 := Nat.le_of_eq hzx.symm
          clear hal gP d0 d1 d2 hzx
          generalize z.alloc (.cells #[.int .i64 now, .bool true, .slice none 0 0] 56) = V at *
          generalize z.heap.size = X at *
          obtain ⟨⟨x0, x1, x2⟩, _⟩ := cellk3 gX
          obtain ⟨⟨v0, v1, v2⟩, y0, y1, y2⟩ := cellk3 gQ
          have hown : V.ownsRow b2 56 3 (.slice ta fk tcc) fk (flatK KT px) := by have := HX2.out.2.1; rw [HNT.out] at this; exact this
          have hal2 : Below V.heap.size V (V.alloc (.cells #[.int .i64 now, .bool true, .slice none 0 0] 56)) := balloc (Below.refl _ _) _
          have HGE := hid (keepheap2 hal2 gQ)
          have hvb : (Value.slice ta fk tcc).ownBlock ≠ some Q := fun e => by have := HX2.out.2.2.1 _ e; omega
          have hvb1 : ∀ k, (Value.slice ta fk tcc).ownBlock = some k → b2 ≤ k := fun k e => (hown.lt k e).1
          go_upto_region 11 with (at_builtin; (refine wpList_append_lies _ rfl (.tmp 42) (.tmp 44) 32 rfl b2 56 i0 _ 3 40 Tryz.underlying32 hi0 hz0 hz1 hz2 rfl (by decide) (.slice ta fk tcc) fk (flatK KT px) rfl (hown.alloc _) ⟨V.heap.size, 0, none⟩ 1 1 [.int .i64 now, .bool true, .slice none 0 0] rfl rfl (World.news_of_block (cs := #[.int .i64 now, .bool true, .slice none 0 0]) (t := 56) (fr := (0, 0)) (heap_alloc_new V _)) (by simp [Value.oneCell']) (by omega) (by unfold maxLen; omega) (by omega) (by simp; omega) (V.heap.size + 1) (by simp) ?_; intro gg cq w2 hown2 hgrow hat hlt2; have g2 := (hgrow.block Q (lt_of_block HGE.out) (fun e => hvb e.symm)).trans HGE.out; obtain ⟨⟨t0, t1, t2⟩, s0, s1, s2⟩ := cellk3 g2))
          have hgq : gg < u2 ∨ Q + 1 ≤ gg := by
            rcases hat with e | e
            · exact .inl (HX2.out.2.2.1 _ e)
            · right; (try simp at e); omega
          have hsn := (LX.snocR (K := KT) (x := (now, true, [])) (sv := .slice none 0 0) (l := u2) (u := u2) (g := gg) (cap := cq) (HX2.out.below hal2) (Nat.le_refl _) (Nat.le_refl _) hu2 (subT_nil _ _ _ _ (by simp; omega)) (by rw [HNT.out]; exact hown2) hgrow (by simpa using hat) hlt2).lch (p := u2) (q := Q + 1) (Nat.le_refl _) (fun q e => by simp [Value.ownBlock] at e; omega)
          rw [HNT.out] at hsn
          have hpt : putT now ts fk = ts ++ [(now, true, [])] := by unfold putT; rw [if_pos HNT.out.symm]
          have hpn : (putT now ts fk).length = fk + 1 := by rw [hpt, List.length_append, HNT.out]; rfl
          rw [← hpt] at hsn
          have hb2 : Below w.heap.size w w2 := Below.grown (balloc hB _) hgrow (by simp; omega) (fun k e => by have := hvb1 k e; omega)
          have hw2 := hgrow.size
          have hbk : ∀ b, b < V.heap.size → (b < b2 ∨ b = Q) → w2.heap[b]? = V.heap[b]? := fun b hb hc => (hgrow.block b (by simp; omega) (fun e => by have := hvb1 b e.symm; rcases hc with hc | hc; omega; subst hc; exact hvb e.symm)).trans (hal2.block b (by omega))
          have hfar3 : ∀ b, b ≠ Q → (w2.setCell ⟨Q, 2, none⟩ (.slice (some ⟨gg, 0, none⟩) (fk + 1) cq)).heap[b]? = w2.heap[b]? := fun b hb => by rw [Below.heap_setCell _ _ _ _ (by dsimp only; omega)]
          have hsz3 : (w2.setCell ⟨Q, 2, none⟩ (.slice (some ⟨gg, 0, none⟩) (fk + 1) cq)).heap.size = w2.heap.size := by simp
          replace gZ := ((hfar3 _ (by omega)).trans (hbk _ (lt_of_block gZ) (by omega))).trans gZ
          replace gQ : (w2.setCell ⟨Q, 2, none⟩ (.slice (some ⟨gg, 0, none⟩) (fk + 1) cq)).heap[Q]? = some (.cells #[.int .i64 now, .slice a nr c, .slice (some ⟨gg, 0, none⟩) (fk + 1) cq] 34 (0, 0)) := set_at g2
          replace HX1 := hid (HX1.out.frame (w' := w2.setCell ⟨Q, 2, none⟩ (.slice (some ⟨gg, 0, none⟩) (fk + 1) cq)) (fun b h1 h2 => (hfar3 b (by omega)).trans (hbk b (by omega) (by omega))) (by simp at hw2; omega))
          have HX3 := hid ((hsn.frame (w' := w2.setCell ⟨Q, 2, none⟩ (.slice (some ⟨gg, 0, none⟩) (fk + 1) cq)) (fun b h1 h2 h3 => hfar3 b (by omega)) (by omega)).lc)
          have HB := hid (bset hb2 (q := Q) (k := 2) (by omega) (.slice (some ⟨gg, 0, none⟩) (fk + 1) cq))
          clear hB hb2 hsn hown hown2 hgrow hat hal2 HGE x0 x1 x2 v0 v1 v2 y0 y1 y2 t0 t1 t2 s0 s1 s2 g2 gX hfar3 hbk HX2
          simp at hw2
          generalize w2.setCell ⟨Q, 2, none⟩ (.slice (some ⟨gg, 0, none⟩) (fk + 1) cq) = V3 at *
          obtain ⟨⟨v0, v1, v2⟩, s0, s1, s2⟩ := cellk3 gZ
          obtain ⟨⟨t0, t1, t2⟩, _⟩ := cellk3 gQ
          go_wp2_with fail
          have gF := setk3 gZ (.int .i64 now) (.slice a nr c) (.slice (some ⟨gg, 0, none⟩) (fk + 1) cq)
          have bF := (bset (bset (bset HB.out (q := w.heap.size + 1) (k := 0) (by omega) (.int .i64 now)) (q := w.heap.size + 1) (k := 1) (by omega) (.slice a nr c)) (q := w.heap.size + 1) (k := 2) (by omega) (.slice (some ⟨gg, 0, none⟩) (fk + 1) cq))
          have hfar : ∀ b, b ≠ w.heap.size + 1 → (((V3.setCell ⟨w.heap.size + 1, 0, none⟩ (.int .i64 now)).setCell ⟨w.heap.size + 1, 1, none⟩ (.slice a nr c)).setCell ⟨w.heap.size + 1, 2, none⟩ (.slice (some ⟨gg, 0, none⟩) (fk + 1) cq)).heap[b]? = V3.heap[b]? := fun b hb => by rw [Below.heap_setCell _ _ _ _ (by dsimp only; omega), Below.heap_setCell _ _ _ _ (by dsimp only; omega), Below.heap_setCell _ _ _ _ (by dsimp only; omega)]
          have x1 := HX1.out.frame (w' := (((V3.setCell ⟨w.heap.size + 1, 0, none⟩ (.int .i64 now)).setCell ⟨w.heap.size + 1, 1, none⟩ (.slice a nr c)).setCell ⟨w.heap.size + 1, 2, none⟩ (.slice (some ⟨gg, 0, none⟩) (fk + 1) cq))) (fun b h1 h2 => hfar b (by omega)) (by simp)
          have x2 := HX3.out.frame (w' := (((V3.setCell ⟨w.heap.size + 1, 0, none⟩ (.int .i64 now)).setCell ⟨w.heap.size + 1, 1, none⟩ (.slice a nr c)).setCell ⟨w.heap.size + 1, 2, none⟩ (.slice (some ⟨gg, 0, none⟩) (fk + 1) cq))) (fun b h1 h2 => hfar b (by omega)) (by simp)
          generalize (((V3.setCell ⟨w.heap.size + 1, 0, none⟩ (.int .i64 now)).setCell ⟨w.heap.size + 1, 1, none⟩ (.slice a nr c)).setCell ⟨w.heap.size + 1, 2, none⟩ (.slice (some ⟨gg, 0, none⟩) (fk + 1) cq)) = wf at *
          obtain ⟨⟨z0, z1, z2⟩, _⟩ := cellk3 gF
          exact bodyPost_ret (v := .tuple #[.agg #[.int .i64 now, .slice a nr c, .slice (some ⟨gg, 0, none⟩) (fk + 1) cq], .int .i64 fk]) (by simp [results, Tryz.results6, go_sem, z0, z1, z2]) rfl (ssb_mk k1 k2 HNR.out hpn x1 x2 HPL.out bF)
        · obtain ⟨k1, k2⟩ := HFU.out h40
          have c40 : (40 : Int) ≤ (fk : Int) := by omega
          have HX3 := hid HX2.out.lc
          clear HFU HYE
          have HB := hid hB
          clear hB
          obtain ⟨⟨v0, v1, v2⟩, s0, s1, s2⟩ := cellk3 gZ
          obtain ⟨⟨t0, t1, t2⟩, _⟩ := cellk3 gQ
          go_wp2_with fail
          have gF := setk3 gZ (.int .i64 now) (.slice a nr c) (.slice ta fk tcc)
          have bF := (bset (bset (bset HB.out (q := w.heap.size + 1) (k := 0) (by omega) (.int .i64 now)) (q := w.heap.size + 1) (k := 1) (by omega) (.slice a nr c)) (q := w.heap.size + 1) (k := 2) (by omega) (.slice ta fk tcc))
          have hfar : ∀ b, b ≠ w.heap.size + 1 → (((z.setCell ⟨w.heap.size + 1, 0, none⟩ (.int .i64 now)).setCell ⟨w.heap.size + 1, 1, none⟩ (.slice a nr c)).setCell ⟨w.heap.size + 1, 2, none⟩ (.slice ta fk tcc)).heap[b]? = z.heap[b]? := fun b hb => by rw [Below.heap_setCell _ _ _ _ (by dsimp only; omega), Below.heap_setCell _ _ _ _ (by dsimp only; omega), Below.heap_setCell _ _ _ _ (by dsimp only; omega)]
          have x1 := HX1.out.frame (w' := (((z.setCell ⟨w.heap.size + 1, 0, none⟩ (.int .i64 now)).setCell ⟨w.heap.size + 1, 1, none⟩ (.slice a nr c)).setCell ⟨w.heap.size + 1, 2, none⟩ (.slice ta fk tcc))) (fun b h1 h2 => hfar b (by omega)) (by simp)
          have x2 := HX3.out.frame (w' := (((z.setCell ⟨w.heap.size + 1, 0, none⟩ (.int .i64 now)).setCell ⟨w.heap.size + 1, 1, none⟩ (.slice a nr c)).setCell ⟨w.heap.size + 1, 2, none⟩ (.slice ta fk tcc))) (fun b h1 h2 => hfar b (by omega)) (by simp)
          generalize (((z.setCell ⟨w.heap.size + 1, 0, none⟩ (.int .i64 now)).setCell ⟨w.heap.size + 1, 1, none⟩ (.slice a nr c)).setCell ⟨w.heap.size + 1, 2, none⟩ (.slice ta fk tcc)) = wf at *
          obtain ⟨⟨z0, z1, z2⟩, _⟩ := cellk3 gF
          exact bodyPost_ret (v := .tuple #[.agg #[.int .i64 now, .slice a nr c, .slice ta fk tcc], .int .i64 (-1)]) (by simp [results, Tryz.results6, go_sem, z0, z1, z2]) rfl (ssb_mk k1 k2 HNR.out HNT.out x1 x2 HTL.out bF)
end Go.Proofs.YtiocelhnmfadnaaGreat
namespace Go.Proofs.YtiocelhnmfadnaaGreat
open Go.RowKit
set_option linter.unusedSimpArgs false
set_option linter.unusedVariables false
end Go.Proofs.YtiocelhnmfadnaaGreat
