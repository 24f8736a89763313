/- Texts of stores, joined: Zn, Zo, Zp, Zab, Zq, Zr, Zs, Zt, Zu. -/
import Derived.Test.YtnajddjalagmoaaGreatDoorJ5
import Derived.Test.YtnajddjalagmoaaGreatDoorJ4
import Derived.Lib.AppendZeros
import Derived.Lib.AppendZerosOnto
import Derived.Laws.NewBlocks
import Derived.Lib.Overlaps
import Derived.Test.YtnajddjalagmoaaGreatDoorJ2
namespace Go.Proofs.YtnajddjalagmoaaGreatDoor
open Go.RowKit
set_option linter.unusedSimpArgs false
set_option linter.unusedVariables false
theorem midh_grown {lo hi p q b : Nat} {w w1 w2 : World} (h : MidH lo hi p q w w1) (g : w1.grownBy w2 (some b)) (h1 : lo ≤ b) (h2 : b < hi) (h3 : b < p ∨ q ≤ b) : MidH lo hi p q w w2 :=
  ⟨mid_grown h.1 g h1 h2, fun x hx e1 e2 => (g.block x (Nat.lt_of_lt_of_le hx h.1.2.2.2.1) (fun e => by cases e; omega)).trans (h.2 x hx e1 e2)⟩
set_option maxRecDepth 100000 in
set_option maxHeartbeats 4000000 in
theorem mark_chsH (base hi p q : Nat) (v : Value) (xs : List Ch) (k0 : Int) (w : World) (hs : chS xs) (h0 : 0 ≤ k0) (h1 : k0 ≤ 4500000000000000000) (h : LCH KC base hi p q w v xs) : Calls Tryz.prog 69 #[v, .int .i64 k0] w fun e w' => e = .returned (.int .i64 (kkc k0 xs xs.length)) ∧ LCH KC base hi p q w' v (mkc k0 xs) ∧ MidH base hi p q w w' := by
  obtain ⟨hih, h⟩ := h
  rcases h with ⟨rfl, rfl⟩ | ⟨g, cap, ss, lo, up, rfl, hcap, hbg, hgh, hth, hel, hd, hgp, hsp⟩
  · go_enter Tryz.func69, Tryz.ntmps69
    go_wp2_with fail
    go_loopw [1, 5] (fun tk' ti wr => tk' = .int .i64 k0 ∧ ti = .int .i64 0 ∧ wr = w) (fun _ _ _ => 0)
    case atStart => exact ⟨rfl, rfl, rfl⟩
    case round =>
      obtain ⟨rfl, rfl, rfl⟩ := hrel
      go_wp2_with fail
      go_ret
      exact ⟨by simp [kkc, kcn], ⟨hih, .inl ⟨by simp [mkc], rfl⟩⟩, midh_refl _ _ _ _ _⟩
  have HL := hid hs.2
  have hm := hs.1
  have HE := hid (fun j hj => (hel j hj).1)
  have HC := hid (fun j hj => (hel j hj).2)
  have HD := hid hd
  have HSP := hid hsp
  have HK := hid (kkc_bound (k0 := k0) hs.2)
  clear hs hel hd hsp
  obtain ⟨n, hn⟩ : ∃ n, n = xs.length := ⟨_, rfl⟩
  have HN := hid hn.symm
  rw [← hn] at hm hth hcap ⊢
  have HTT := hid hth
  have HF : Hid (∀ (W : World) (q' : Int), q' = kkc k0 xs n → MidH base hi p q w W → W.there g 0 (n * 4) → (∀ i (h : i < xs.length), i < n → ElX KC W g i (mke (kkc k0 xs i) xs[i]) (ss i) (lo i) (up i)) → (Ending.returned (.int .i64 q') = .returned (.int .i64 (kkc k0 xs n)) ∧ LCH KC base hi p q W (.slice (some ⟨g, 0, none⟩) n cap) (mkc k0 xs))) := hid (fun W q' hq hM hT h => ⟨by rw [hq], by
    refine ⟨Nat.le_trans hih hM.1.2.2.2.1, .inr ⟨g, cap, ss, lo, up, by rw [mkc_len, ← hn], by rw [mkc_len, ← hn]; exact hcap, hbg, hgh, by rw [mkc_len, ← hn]; exact hT, fun j hj => ?_, fun i j hne hi' hj => ?_, hgp, fun j hj => by rw [mkc_len] at hj; exact HSP.out j hj⟩⟩
    · have hj' := hj
      rw [mkc_len] at hj'
      rw [mkc_at hj']
      exact ⟨h j hj' (by omega), HC.out j hj'⟩
    · rw [mkc_len] at hi' hj
      exact HD.out i j hne hi' hj⟩)
  clear hth hcap hn
  have hmid0 := midh_refl base hi p q w
  have hgw : g < w.heap.size := by omega
  go_enter Tryz.func69, Tryz.ntmps69
  go_wp2_with fail
  go_loopw [1, 5] (fun tk' ti wr => ∃ j : Nat, ∃ k : Int, ti = .int .i64 j ∧ tk' = .int .i64 k ∧ j ≤ n ∧ Hid (k = kkc k0 xs j) ∧ Hid (MidH base hi p q w wr) ∧ Hid (wr.there g 0 (n * 4)) ∧ Hid (∀ i (h : i < xs.length), i < j → ElX KC wr g i (mke (kkc k0 xs i) xs[i]) (ss i) (lo i) (up i)) ∧ Hid (∀ i (h : i < xs.length), j ≤ i → ElX KC wr g i xs[i] (ss i) (lo i) (up i))) (fun _ ti _ => n - (intOf ti).toNat)
  case atStart => exact ⟨0, k0, rfl, rfl, Nat.zero_le _, hid (by simp [kkc, kcn]), hid hmid0, HTT, hid (fun i h hh => absurd hh (by omega)), hid (fun i h _ => HE.out i h)⟩
  case round =>
    clear hmid0
    obtain ⟨j, k, rfl, rfl, hj, HKJ, HM, HT, HA, HZ⟩ := hrel
    by_cases hlt : j < n
    · have c1 : (j : Int) < (n : Int) := by omega
      have hjr : j < xs.length := by rw [HN.out]; exact hlt
      obtain ⟨hk0, hk1⟩ := HK.out j (by omega)
      rw [← HKJ.out] at hk0 hk1
      have hk2 : k ≤ 4600000000000000000 := by omega
      have hk3 : 0 ≤ k := by omega
      have HKN := hid (kkc_next (k0 := k0) hjr)
      rw [← HKJ.out] at HKN
      obtain ⟨zc, zs⟩ := HZ.out j hjr (Nat.le_refl _)
      obtain ⟨hcb, hch, hcg⟩ := HC.out j hjr
      have hws := HM.out.1.2.2.2.1
      obtain ⟨_, c, cp, esv, b1, b2, b3, b4, b5⟩ := zs
      have hnp := HL.out j hjr
      have HMK : Hid (∀ W, (∀ t, t < 4 → W.cell? ⟨g, j * 4 + t, none⟩ = ([.int .i64 k, .bool ((k + 1) % 3 == 0), .int .i64 (k + 2), ss j] : List Value)[t]?) → PtsOwn W c (tkk (k + 3) xs[j].2.2.2.length) → up j ≤ W.heap.size → ElX KC W g j (mke (kkc k0 xs j) xs[j]) (ss j) (lo j) (up j)) := hid (fun W h1 h2 h3 => by
        rw [← HKJ.out]
        refine ⟨h1, h3, c, cp, ?_, ?_, ?_, b3, b4, h2⟩
        · simp only [mke, tkk_len]; exact esv
        · simp only [mke, tkk_len]; exact b1
        · simp only [mke, tkk_len]; exact b2)
      generalize hps : xs[j].2.2.2 = ps at *
      clear hps
      obtain ⟨sv, hsv⟩ : ∃ sv, sv = ss j := ⟨_, rfl⟩
      have HSJ := hid hsv
      rw [← hsv] at zc HMK esv
      clear hsv
      subst esv
      have q3 := zc 3 (by decide)
      simp only [KC, List.getElem?_cons_succ, List.getElem?_cons_zero] at q3
      have HDJ : Hid (∀ i, i < xs.length → i ≠ j → up i ≤ lo j ∨ up j ≤ lo i) := hid (fun i hi' hne => HD.out i j hne hi' hjr)
      obtain ⟨u0, z0, y0⟩ := there_at HT.out (show j * 4 < n * 4 by omega)
      obtain ⟨u1, z1, y1⟩ := there_at HT.out (show j * 4 + 1 < n * 4 by omega)
      obtain ⟨u2, z2, y2⟩ := there_at HT.out (show j * 4 + 2 < n * 4 by omega)
      have z1' : ∀ a0, (wr.setCell ⟨g, j * 4, none⟩ a0).cell? ⟨g, j * 4 + 1, none⟩ = some u1 := fun a0 => by rw [World.cell?_setCell_other _ _ _ _ (by simp)]; exact z1
      have y1' : ∀ a0, (wr.setCell ⟨g, j * 4, none⟩ a0).frozen? ⟨g, j * 4 + 1, none⟩ = false := fun a0 => by rw [World.frozen?_setCell]; exact y1
      have z2' : ∀ a0 a1, ((wr.setCell ⟨g, j * 4, none⟩ a0).setCell ⟨g, j * 4 + 1, none⟩ a1).cell? ⟨g, j * 4 + 2, none⟩ = some u2 := fun a0 a1 => by rw [World.cell?_setCell_other _ _ _ _ (by simp), World.cell?_setCell_other _ _ _ _ (by simp)]; exact z2
      have y2' : ∀ a0 a1, ((wr.setCell ⟨g, j * 4, none⟩ a0).setCell ⟨g, j * 4 + 1, none⟩ a1).frozen? ⟨g, j * 4 + 2, none⟩ = false := fun a0 a1 => by rw [World.frozen?_setCell, World.frozen?_setCell]; exact y2
      have zl' : ∀ a0 a1 a2, (((wr.setCell ⟨g, j * 4, none⟩ a0).setCell ⟨g, j * 4 + 1, none⟩ a1).setCell ⟨g, j * 4 + 2, none⟩ a2).cell? ⟨g, j * 4 + 3, none⟩ = some (.slice (some ⟨c, 0, none⟩) ps.length cp) := fun a0 a1 a2 => by rw [World.cell?_setCell_other _ _ _ _ (by simp), World.cell?_setCell_other _ _ _ _ (by simp), World.cell?_setCell_other _ _ _ _ (by simp)]; exact q3
      have HM3 := hid (fun a0 a1 a2 => (midh_set (midh_set (midh_set (HM.out) hbg hgh hgp a0) hbg hgh hgp a1) hbg hgh hgp a2 : MidH base hi p q w (((wr.setCell ⟨g, j * 4, none⟩ a0).setCell ⟨g, j * 4 + 1, none⟩ a1).setCell ⟨g, j * 4 + 2, none⟩ a2)))
      have HT3 := hid (fun a0 a1 a2 => (there_set (there_set (there_set (HT.out) a0) a1) a2 : (((wr.setCell ⟨g, j * 4, none⟩ a0).setCell ⟨g, j * 4 + 1, none⟩ a1).setCell ⟨g, j * 4 + 2, none⟩ a2).there g 0 (n * 4)))
      have HA3 : Hid (∀ a0 a1 a2 i (h : i < xs.length), i < j → ElX KC (((wr.setCell ⟨g, j * 4, none⟩ a0).setCell ⟨g, j * 4 + 1, none⟩ a1).setCell ⟨g, j * 4 + 2, none⟩ a2) g i (mke (kkc k0 xs i) xs[i]) (ss i) (lo i) (up i)) := hid (fun a0 a1 a2 i h h1 => ((((HA.out i h h1).set (HC.out i h).2.2 (by show _ < i * 4 ∨ i * 4 + 4 ≤ _; omega) a0).set (HC.out i h).2.2 (by show _ < i * 4 ∨ i * 4 + 4 ≤ _; omega) a1).set (HC.out i h).2.2 (by show _ < i * 4 ∨ i * 4 + 4 ≤ _; omega) a2))
      have HZ3 : Hid (∀ a0 a1 a2 i (h : i < xs.length), j + 1 ≤ i → ElX KC (((wr.setCell ⟨g, j * 4, none⟩ a0).setCell ⟨g, j * 4 + 1, none⟩ a1).setCell ⟨g, j * 4 + 2, none⟩ a2) g i xs[i] (ss i) (lo i) (up i)) := hid (fun a0 a1 a2 i h h1 => ((((HZ.out i h (by omega)).set (HC.out i h).2.2 (by show _ < i * 4 ∨ i * 4 + 4 ≤ _; omega) a0).set (HC.out i h).2.2 (by show _ < i * 4 ∨ i * 4 + 4 ≤ _; omega) a1).set (HC.out i h).2.2 (by show _ < i * 4 ∨ i * 4 + 4 ≤ _; omega) a2))
      have x0 : ∀ a0 a1 a2, (((wr.setCell ⟨g, j * 4, none⟩ a0).setCell ⟨g, j * 4 + 1, none⟩ a1).setCell ⟨g, j * 4 + 2, none⟩ a2).cell? ⟨g, j * 4, none⟩ = some a0 := fun a0 a1 a2 => by rw [World.cell?_setCell_other _ _ _ _ (by simp), World.cell?_setCell_other _ _ _ _ (by simp)]; exact World.cell?_setCell_same _ _ _ z0
      have x1 : ∀ a0 a1 a2, (((wr.setCell ⟨g, j * 4, none⟩ a0).setCell ⟨g, j * 4 + 1, none⟩ a1).setCell ⟨g, j * 4 + 2, none⟩ a2).cell? ⟨g, j * 4 + 1, none⟩ = some a1 := fun a0 a1 a2 => by rw [World.cell?_setCell_other _ _ _ _ (by simp)]; exact World.cell?_setCell_same _ _ _ (z1' a0)
      have x2 : ∀ a0 a1 a2, (((wr.setCell ⟨g, j * 4, none⟩ a0).setCell ⟨g, j * 4 + 1, none⟩ a1).setCell ⟨g, j * 4 + 2, none⟩ a2).cell? ⟨g, j * 4 + 2, none⟩ = some a2 := fun a0 a1 a2 => by exact World.cell?_setCell_same _ _ _ (z2' a0 a1)
      have HX := hid (fun a0 a1 a2 => (⟨x0 a0 a1 a2, x1 a0 a1 a2, x2 a0 a1 a2, zl' a0 a1 a2⟩ : (((wr.setCell ⟨g, j * 4, none⟩ a0).setCell ⟨g, j * 4 + 1, none⟩ a1).setCell ⟨g, j * 4 + 2, none⟩ a2).cell? ⟨g, j * 4, none⟩ = some a0 ∧ (((wr.setCell ⟨g, j * 4, none⟩ a0).setCell ⟨g, j * 4 + 1, none⟩ a1).setCell ⟨g, j * 4 + 2, none⟩ a2).cell? ⟨g, j * 4 + 1, none⟩ = some a1 ∧ (((wr.setCell ⟨g, j * 4, none⟩ a0).setCell ⟨g, j * 4 + 1, none⟩ a1).setCell ⟨g, j * 4 + 2, none⟩ a2).cell? ⟨g, j * 4 + 2, none⟩ = some a2 ∧ (((wr.setCell ⟨g, j * 4, none⟩ a0).setCell ⟨g, j * 4 + 1, none⟩ a1).setCell ⟨g, j * 4 + 2, none⟩ a2).cell? ⟨g, j * 4 + 3, none⟩ = some (.slice (some ⟨c, 0, none⟩) ps.length cp)))
      have HP3 := hid (fun a0 a1 a2 => (own_blk b5 (by rw [Below.heap_setCell _ _ _ _ (by dsimp only; omega), Below.heap_setCell _ _ _ _ (by dsimp only; omega), Below.heap_setCell _ _ _ _ (by dsimp only; omega)]) (by simp only [World.size_setCell]; exact b5.1) : PtsOwn (((wr.setCell ⟨g, j * 4, none⟩ a0).setCell ⟨g, j * 4 + 1, none⟩ a1).setCell ⟨g, j * 4 + 2, none⟩ a2) c ps))
      have HSZ := hid (fun a0 a1 a2 => (by simp only [World.size_setCell] : (((wr.setCell ⟨g, j * 4, none⟩ a0).setCell ⟨g, j * 4 + 1, none⟩ a1).setCell ⟨g, j * 4 + 2, none⟩ a2).heap.size = wr.heap.size))
      clear b5 zc
      clear HM HT HA HZ q3 z1 y1 z2 y2 x0 x1 x2
      go_wp2_with fail
      refine (mark_ptsK _ c ps.length cp ps (k + 1 + 1 + 1) (by omega) (by omega) hnp rfl (HP3.out _ _ _)).mono ?_
      rintro e w1 ⟨rfl, hp1, hg⟩
      have hgne : some g ≠ some c := fun e => by cases e; omega
      have hsz1 := hg.size
      rw [HSZ.out] at hsz1
      have HM5 := hid (midh_grown (HM3.out (.int .i64 k) (.bool ((k + 1) % 3 == 0)) (.int .i64 (k + 1 + 1))) hg (by omega) (by omega) (by have := HSP.out j hjr; omega))
      have HT5 : Hid (w1.there g 0 (n * 4)) := hid (fun i hi' => by
        obtain ⟨s1, s2⟩ := HT3.out (.int .i64 k) (.bool ((k + 1) % 3 == 0)) (.int .i64 (k + 1 + 1)) i hi'
        have hb := hg.block g (by rw [HSZ.out]; omega) hgne
        simp only [World.cell?, World.frozen?, hb]; exact ⟨s1, s2⟩)
      have HFR : Hid (∀ i, i < xs.length → i ≠ j → ∀ q, lo i ≤ q → q < up i → q < wr.heap.size → w1.heap[q]? = _) := hid (fun i hi' hne q q1 q2 q3 => hg.block q (by rw [HSZ.out]; exact q3) (fun e => by cases e; have := HDJ.out i hi' hne; omega))
      have HA5 : Hid (∀ i (h : i < xs.length), i < j + 1 → ElX KC w1 g i (mke (kkc k0 xs i) xs[i]) (ss i) (lo i) (up i)) := hid (fun i h h1 => by
        by_cases e : i = j
        · subst e
          obtain ⟨s0, s1, s2, s3⟩ := HX.out (.int .i64 k) (.bool ((k + 1) % 3 == 0)) (.int .i64 (k + 1 + 1))
          rw [← HSJ.out]
          refine HMK.out w1 (fun t ht => ?_) (by rw [show k + 3 = k + 1 + 1 + 1 by omega]; exact hp1) (by omega)
          rcases (show t = 0 ∨ t = 1 ∨ t = 2 ∨ t = 3 by omega) with e | e | e | e <;> subst e
          · exact hg.cell s0 hgne
          · exact hg.cell s1 hgne
          · show _ = some (Value.int .i64 (k + 2)); rw [show k + 2 = k + 1 + 1 by omega]; exact hg.cell s2 hgne
          · exact hg.cell s3 hgne
        · have hx := HA3.out (.int .i64 k) (.bool ((k + 1) % 3 == 0)) (.int .i64 (k + 1 + 1)) i h (by omega)
          have htp := KC.top hx.2
          rw [HSZ.out] at htp
          exact hx.blk (hg.block g (by rw [HSZ.out]; omega) hgne) (fun q q1 q2 => HFR.out i h e q q1 q2 (by omega)) (by rw [HSZ.out]; exact hsz1))
      have HZ5 : Hid (∀ i (h : i < xs.length), j + 1 ≤ i → ElX KC w1 g i xs[i] (ss i) (lo i) (up i)) := hid (fun i h h1 => by
        have hx := HZ3.out (.int .i64 k) (.bool ((k + 1) % 3 == 0)) (.int .i64 (k + 1 + 1)) i h h1
        have htp := KC.top hx.2
        rw [HSZ.out] at htp
        exact hx.blk (hg.block g (by rw [HSZ.out]; omega) hgne) (fun q q1 q2 => HFR.out i h (by omega) q q1 q2 (by omega)) (by rw [HSZ.out]; exact hsz1))
      have HK5 : Hid (k + 1 + 1 + 1 + 2 * (ps.length : Int) = kkc k0 xs (j + 1)) := hid (by rw [HKN.out]; omega)
      clear hg hp1 HM3 HT3 HA3 HZ3 HX HFR HP3 HSZ zl' z1' z2' y1' y2' 
      go_wp2_with fail
      go_roundw
      case rel => exact ⟨j + 1, _, by go_num, rfl, by omega, HK5, HM5, HT5, HA5, HZ5⟩
      case measure => simp [intOf]; omega
    · obtain rfl : j = n := by omega
      have c1 : (j : Int) ≤ (j : Int) := by omega
      go_wp2_with fail
      go_ret
      obtain ⟨e1, e2⟩ := HF.out wr k HKJ.out HM.out HT.out HA.out
      exact ⟨e1, e2, HM.out⟩
end Go.Proofs.YtnajddjalagmoaaGreatDoor
namespace Go.Proofs.YtnajddjalagmoaaGreatDoor
open Go.RowKit
set_option linter.unusedSimpArgs false
set_option linter.unusedVariables false
/-- Of two pieces of memory. -/
def InS (lo up qq hh c : Nat) : Prop := (lo ≤ c ∧ c < up ∧ c < hh) ∨ (qq ≤ c ∧ c < hh ∧ lo ≤ c)
theorem inS_of {lo up qq hh c : Nat} (h1 : lo ≤ c) (h2 : c < hh) (h3 : c < up ∨ qq ≤ c) : InS lo up qq hh c := by
  rcases h3 with h3 | h3
  · exact .inl ⟨h1, h3, h2⟩
  · exact .inr ⟨h3, h2, h1⟩
/-- A transaction at its place. -/
def ElS (w : World) (g i : Nat) (x : Tx) (s : Value) (lo up qq hh : Nat) : Prop := (∀ t, t < 3 → w.cell? ⟨g, i * 3 + t, none⟩ = (KT.vals x s)[t]?) ∧ LCH KC lo hh up qq w s x.2.2
theorem ElS.set {w : World} {g i k : Nat} {x : Tx} {s : Value} {lo up qq hh : Nat} (h : ElS w g i x s lo up qq hh) (hg : ¬ InS lo up qq hh g) (hk : k < i * 3 ∨ i * 3 + 3 ≤ k) (u : Value) : ElS (w.setCell ⟨g, k, none⟩ u) g i x s lo up qq hh := by
  refine ⟨fun t ht => ?_, h.2.frame (fun c c1 c2 c3 => Below.heap_setCell _ _ _ _ (by dsimp only; intro e; exact hg (e ▸ inS_of c1 c2 c3))) (by simp)⟩
  rw [World.cell?_setCell_other _ _ _ _ (by intro e; injection e; omega)]
  exact h.1 t ht
theorem midh_out {lo up qq hh c : Nat} {w w' : World} (h : MidH lo hh up qq w w') (hc : c < w.heap.size) (hn : ¬ InS lo up qq hh c) : w'.heap[c]? = w.heap[c]? := by
  by_cases h1 : c < lo ∨ hh ≤ c
  · exact mid_blk h.1 hc h1
  · refine h.2 c hc ?_ ?_
    · rcases Nat.lt_or_ge c up with q | q
      · exact absurd (inS_of (by omega) (by omega) (.inl q)) hn
      · exact q
    · rcases Nat.lt_or_ge c qq with q | q
      · exact q
      · exact absurd (inS_of (by omega) (by omega) (.inr q)) hn
theorem midh_in {lo up qq hh base hi p q g : Nat} {w w' : World} (h : MidH lo hh up qq w w') (hc : ∀ c, InS lo up qq hh c → base ≤ c ∧ c < hi ∧ (c < p ∨ q ≤ c) ∧ c ≠ g) : MidH base hi p q w w' :=
  ⟨⟨h.1.1, h.1.2.1, h.1.2.2.1, h.1.2.2.2.1, fun k hk h1 => midh_out h hk (fun e => by have := hc k e; omega)⟩, fun k hk h1 h2 => midh_out h hk (fun e => by have := hc k e; omega)⟩
theorem ElS.mid {w w' : World} {g i : Nat} {x : Tx} {s : Value} {lo up qq hh l u a z : Nat} (h : ElS w g i x s lo up qq hh) (m : MidH l z u a w w') (hg : w'.heap[g]? = w.heap[g]?) (hd : ∀ c, InS lo up qq hh c → ¬ InS l u a z c) : ElS w' g i x s lo up qq hh :=
  ⟨fun t ht => (World.cell?_of_block hg).trans (h.1 t ht), h.2.frame (fun c c1 c2 c3 => midh_out m (by have := h.2.1; omega) (hd c (inS_of c1 c2 c3))) m.1.2.2.2.1⟩
/-- A list of transactions in memory of its own, none of it in the hole from p on below q; each one's changes lie in two pieces, and no two share any. -/
def LTS (base hi p q : Nat) (w : World) (v : Value) (xs : List Tx) : Prop :=
  hi ≤ w.heap.size ∧ ((xs = [] ∧ v = .slice none 0 0) ∨ ∃ (g cap : Nat) (ss : Nat → Value) (lo up qq hh : Nat → Nat), v = .slice (some ⟨g, 0, none⟩) xs.length cap ∧ xs.length ≤ cap ∧ base ≤ g ∧ g < hi ∧ w.there g 0 (xs.length * 3) ∧
  (∀ j (h : j < xs.length), ElS w g j xs[j] (ss j) (lo j) (up j) (qq j) (hh j) ∧ (∀ c, InS (lo j) (up j) (qq j) (hh j) c → base ≤ c ∧ c < hi ∧ (c < p ∨ q ≤ c) ∧ c ≠ g)) ∧ (∀ i j, i ≠ j → i < xs.length → j < xs.length → ∀ c, InS (lo i) (up i) (qq i) (hh i) c → ¬ InS (lo j) (up j) (qq j) (hh j) c) ∧ (g < p ∨ q ≤ g))
set_option maxRecDepth 100000 in
set_option maxHeartbeats 4000000 in
theorem mark_txsS (base hi p q : Nat) (v : Value) (xs : List Tx) (k0 : Int) (w : World) (hs : txS xs) (h0 : 0 ≤ k0) (h1 : k0 ≤ 2000000000000000000) (h : LTS base hi p q w v xs) : Calls Tryz.prog 37 #[v, .int .i64 k0] w fun e w' => e = .returned (.int .i64 (kkt k0 xs xs.length)) ∧ LTS base hi p q w' v (mks k0 xs) ∧ MidH base hi p q w w' := by
  obtain ⟨hih, h⟩ := h
  rcases h with ⟨rfl, rfl⟩ | ⟨g, cap, ss, lo, up, qq, hh, rfl, hcap, hbg, hgh, hth, hel, hd, hgp⟩
  · go_enter Tryz.func37, Tryz.ntmps37
    go_wp2_with fail
    go_loopw [1, 5] (fun tk' ti wr => tk' = .int .i64 k0 ∧ ti = .int .i64 0 ∧ wr = w) (fun _ _ _ => 0)
    case atStart => exact ⟨rfl, rfl, rfl⟩
    case round =>
      obtain ⟨rfl, rfl, rfl⟩ := hrel
      go_wp2_with fail
      go_ret
      exact ⟨by simp [kkt, ktn], ⟨hih, .inl ⟨by simp [mks], rfl⟩⟩, midh_refl _ _ _ _ _⟩
  have HL := hid hs.2
  have hm := hs.1
  have HE := hid (fun j hj => (hel j hj).1)
  have HC := hid (fun j hj => (hel j hj).2)
  have HD := hid hd
  have HK := hid (kkt_bound (k0 := k0) hs.2)
  clear hs hel hd
  obtain ⟨n, hn⟩ : ∃ n, n = xs.length := ⟨_, rfl⟩
  have HN := hid hn.symm
  rw [← hn] at hm hth hcap ⊢
  have HTT := hid hth
  have HF : Hid (∀ (W : World) (q' : Int), q' = kkt k0 xs n → MidH base hi p q w W → W.there g 0 (n * 3) → (∀ i (h : i < xs.length), i < n → ElS W g i (mkt (kkt k0 xs i) xs[i]) (ss i) (lo i) (up i) (qq i) (hh i)) → (Ending.returned (.int .i64 q') = .returned (.int .i64 (kkt k0 xs n)) ∧ LTS base hi p q W (.slice (some ⟨g, 0, none⟩) n cap) (mks k0 xs))) := hid (fun W q' hq hM hT h => ⟨by rw [hq], by
    refine ⟨Nat.le_trans hih hM.1.2.2.2.1, .inr ⟨g, cap, ss, lo, up, qq, hh, by rw [mks_len, ← hn], by rw [mks_len, ← hn]; exact hcap, hbg, hgh, by rw [mks_len, ← hn]; exact hT, fun j hj => ?_, fun i j hne hi' hj => ?_, hgp⟩⟩
    · have hj' := hj
      rw [mks_len] at hj'
      rw [mks_at hj']
      exact ⟨h j hj' (by omega), HC.out j hj'⟩
    · rw [mks_len] at hi' hj
      exact HD.out i j hne hi' hj⟩)
  clear hth hcap hn
  have hmid0 := midh_refl base hi p q w
  have hgw : g < w.heap.size := by omega
  go_enter Tryz.func37, Tryz.ntmps37
  go_wp2_with fail
  go_loopw [1, 5] (fun tk' ti wr => ∃ j : Nat, ∃ k : Int, ti = .int .i64 j ∧ tk' = .int .i64 k ∧ j ≤ n ∧ Hid (k = kkt k0 xs j) ∧ Hid (MidH base hi p q w wr) ∧ Hid (wr.there g 0 (n * 3)) ∧ Hid (∀ i (h : i < xs.length), i < j → ElS wr g i (mkt (kkt k0 xs i) xs[i]) (ss i) (lo i) (up i) (qq i) (hh i)) ∧ Hid (∀ i (h : i < xs.length), j ≤ i → ElS wr g i xs[i] (ss i) (lo i) (up i) (qq i) (hh i))) (fun _ ti _ => n - (intOf ti).toNat)
  case atStart => exact ⟨0, k0, rfl, rfl, Nat.zero_le _, hid (by simp [kkt, ktn]), hid hmid0, HTT, hid (fun i h hh => absurd hh (by omega)), hid (fun i h _ => HE.out i h)⟩
  case round =>
    clear hmid0
    obtain ⟨j, k, rfl, rfl, hj, HKJ, HM, HT, HA, HZ⟩ := hrel
    by_cases hlt : j < n
    · have c1 : (j : Int) < (n : Int) := by omega
      have hjr : j < xs.length := by rw [HN.out]; exact hlt
      obtain ⟨hk0, hk1⟩ := HK.out j (by omega)
      rw [← HKJ.out] at hk0 hk1
      have hk2 : k ≤ 4400000000000000000 := by omega
      have hk3 : 0 ≤ k := by omega
      have HKN := hid (kkt_next (k0 := k0) hjr)
      rw [← HKJ.out] at HKN
      obtain ⟨zc, zs⟩ := HZ.out j hjr (Nat.le_refl _)
      have hcj := HC.out j hjr
      have hgj : ¬ InS (lo j) (up j) (qq j) (hh j) g := fun q => (hcj g q).2.2.2 rfl
      have hws := HM.out.1.2.2.2.1
      have hcs := HL.out j hjr
      have HMK : Hid (∀ W, (∀ t, t < 3 → W.cell? ⟨g, j * 3 + t, none⟩ = ([.int .i64 k, .bool ((k + 1) % 3 == 0), ss j] : List Value)[t]?) → LCH KC (lo j) (hh j) (up j) (qq j) W (ss j) (mkc (k + 2) xs[j].2.2) → ElS W g j (mkt (kkt k0 xs j) xs[j]) (ss j) (lo j) (up j) (qq j) (hh j)) := hid (fun W h1 h2 => by
        rw [← HKJ.out]
        exact ⟨h1, h2⟩)
      have ZS : Hid (LCH KC (lo j) (hh j) (up j) (qq j) wr (ss j) xs[j].2.2) := hid zs
      clear zs
      generalize hps : xs[j].2.2 = cs at *
      clear hps
      obtain ⟨sv, hsv⟩ : ∃ sv, sv = ss j := ⟨_, rfl⟩
      have HSJ := hid hsv
      rw [← hsv] at zc HMK ZS
      clear hsv
      have hut := ZS.out.1
      have q3 := zc 2 (by decide)
      simp only [KT, List.getElem?_cons_succ, List.getElem?_cons_zero] at q3
      have HDJ : Hid (∀ i, i < xs.length → i ≠ j → ∀ c, InS (lo i) (up i) (qq i) (hh i) c → ¬ InS (lo j) (up j) (qq j) (hh j) c) := hid (fun i hi' hne => HD.out i j hne hi' hjr)
      obtain ⟨u0, z0, y0⟩ := there_at HT.out (show j * 3 < n * 3 by omega)
      obtain ⟨u1, z1, y1⟩ := there_at HT.out (show j * 3 + 1 < n * 3 by omega)
      have z1' : ∀ a0, (wr.setCell ⟨g, j * 3, none⟩ a0).cell? ⟨g, j * 3 + 1, none⟩ = some u1 := fun a0 => by rw [World.cell?_setCell_other _ _ _ _ (by simp)]; exact z1
      have y1' : ∀ a0, (wr.setCell ⟨g, j * 3, none⟩ a0).frozen? ⟨g, j * 3 + 1, none⟩ = false := fun a0 => by rw [World.frozen?_setCell]; exact y1
      have zl' : ∀ a0 a1, ((wr.setCell ⟨g, j * 3, none⟩ a0).setCell ⟨g, j * 3 + 1, none⟩ a1).cell? ⟨g, j * 3 + 2, none⟩ = some sv := fun a0 a1 => by rw [World.cell?_setCell_other _ _ _ _ (by simp), World.cell?_setCell_other _ _ _ _ (by simp)]; exact q3
      have HM3 := hid (fun a0 a1 => (midh_set (midh_set (HM.out) hbg hgh hgp a0) hbg hgh hgp a1 : MidH base hi p q w ((wr.setCell ⟨g, j * 3, none⟩ a0).setCell ⟨g, j * 3 + 1, none⟩ a1)))
      have HT3 := hid (fun a0 a1 => (there_set (there_set (HT.out) a0) a1 : ((wr.setCell ⟨g, j * 3, none⟩ a0).setCell ⟨g, j * 3 + 1, none⟩ a1).there g 0 (n * 3)))
      have HA3 : Hid (∀ a0 a1 i (h : i < xs.length), i < j → ElS ((wr.setCell ⟨g, j * 3, none⟩ a0).setCell ⟨g, j * 3 + 1, none⟩ a1) g i (mkt (kkt k0 xs i) xs[i]) (ss i) (lo i) (up i) (qq i) (hh i)) := hid (fun a0 a1 i h h1 => (((HA.out i h h1).set (fun q => (HC.out i h g q).2.2.2 rfl) (by show _ < i * 3 ∨ i * 3 + 3 ≤ _; omega) a0).set (fun q => (HC.out i h g q).2.2.2 rfl) (by show _ < i * 3 ∨ i * 3 + 3 ≤ _; omega) a1))
      have HZ3 : Hid (∀ a0 a1 i (h : i < xs.length), j + 1 ≤ i → ElS ((wr.setCell ⟨g, j * 3, none⟩ a0).setCell ⟨g, j * 3 + 1, none⟩ a1) g i xs[i] (ss i) (lo i) (up i) (qq i) (hh i)) := hid (fun a0 a1 i h h1 => (((HZ.out i h (by omega)).set (fun q => (HC.out i h g q).2.2.2 rfl) (by show _ < i * 3 ∨ i * 3 + 3 ≤ _; omega) a0).set (fun q => (HC.out i h g q).2.2.2 rfl) (by show _ < i * 3 ∨ i * 3 + 3 ≤ _; omega) a1))
      have x0 : ∀ a0 a1, ((wr.setCell ⟨g, j * 3, none⟩ a0).setCell ⟨g, j * 3 + 1, none⟩ a1).cell? ⟨g, j * 3, none⟩ = some a0 := fun a0 a1 => by rw [World.cell?_setCell_other _ _ _ _ (by simp)]; exact World.cell?_setCell_same _ _ _ z0
      have x1 : ∀ a0 a1, ((wr.setCell ⟨g, j * 3, none⟩ a0).setCell ⟨g, j * 3 + 1, none⟩ a1).cell? ⟨g, j * 3 + 1, none⟩ = some a1 := fun a0 a1 => by exact World.cell?_setCell_same _ _ _ (z1' a0)
      have HX := hid (fun a0 a1 => (⟨x0 a0 a1, x1 a0 a1, zl' a0 a1⟩ : ((wr.setCell ⟨g, j * 3, none⟩ a0).setCell ⟨g, j * 3 + 1, none⟩ a1).cell? ⟨g, j * 3, none⟩ = some a0 ∧ ((wr.setCell ⟨g, j * 3, none⟩ a0).setCell ⟨g, j * 3 + 1, none⟩ a1).cell? ⟨g, j * 3 + 1, none⟩ = some a1 ∧ ((wr.setCell ⟨g, j * 3, none⟩ a0).setCell ⟨g, j * 3 + 1, none⟩ a1).cell? ⟨g, j * 3 + 2, none⟩ = some sv))
      have HP3 := hid (fun a0 a1 => (ZS.out.frame (fun q q1 q2 q3 => by have hqg : q ≠ g := fun e => hgj (e ▸ (inS_of q1 q2 q3)); rw [Below.heap_setCell _ _ _ _ (by dsimp only; omega), Below.heap_setCell _ _ _ _ (by dsimp only; omega)]) (by simp) : LCH KC (lo j) (hh j) (up j) (qq j) ((wr.setCell ⟨g, j * 3, none⟩ a0).setCell ⟨g, j * 3 + 1, none⟩ a1) sv cs))
      have HSZ := hid (fun a0 a1 => (by simp only [World.size_setCell] : ((wr.setCell ⟨g, j * 3, none⟩ a0).setCell ⟨g, j * 3 + 1, none⟩ a1).heap.size = wr.heap.size))
      clear ZS zc
      clear HM HT HA HZ q3 z1 y1 x0 x1
      go_wp2_with fail
      refine (mark_chsH (lo j) (hh j) (up j) (qq j) sv cs (k + 1 + 1) _ hcs (by omega) (by omega) (HP3.out _ _)).mono ?_
      rintro e w1 ⟨rfl, hp1, hg⟩
      have hsz1 := hg.1.2.2.2.1
      rw [HSZ.out] at hsz1
      have HM5 := hid (midh_trans (HM3.out (.int .i64 k) (.bool ((k + 1) % 3 == 0))) (midh_in hg hcj))
      have hbg1 := midh_out hg (c := g) (by rw [HSZ.out]; omega) hgj
      have HT5 : Hid (w1.there g 0 (n * 3)) := hid (fun i hi' => by
        obtain ⟨s1, s2⟩ := HT3.out (.int .i64 k) (.bool ((k + 1) % 3 == 0)) i hi'
        simp only [World.cell?, World.frozen?, hbg1]; exact ⟨s1, s2⟩)
      have HA5 : Hid (∀ i (h : i < xs.length), i < j + 1 → ElS w1 g i (mkt (kkt k0 xs i) xs[i]) (ss i) (lo i) (up i) (qq i) (hh i)) := hid (fun i h h1 => by
        by_cases e : i = j
        · subst e
          obtain ⟨s0, s1, s2⟩ := HX.out (.int .i64 k) (.bool ((k + 1) % 3 == 0))
          rw [← HSJ.out]
          refine HMK.out w1 (fun t ht => ?_) (by rw [show k + 2 = k + 1 + 1 by omega]; exact hp1)
          rcases (show t = 0 ∨ t = 1 ∨ t = 2 by omega) with e | e | e <;> subst e
          · exact (World.cell?_of_block hbg1).trans s0
          · exact (World.cell?_of_block hbg1).trans s1
          · exact (World.cell?_of_block hbg1).trans s2
        · exact (HA3.out (.int .i64 k) (.bool ((k + 1) % 3 == 0)) i h (by omega)).mid hg hbg1 (HDJ.out i h e))
      have HZ5 : Hid (∀ i (h : i < xs.length), j + 1 ≤ i → ElS w1 g i xs[i] (ss i) (lo i) (up i) (qq i) (hh i)) := hid (fun i h h1 => (HZ3.out (.int .i64 k) (.bool ((k + 1) % 3 == 0)) i h h1).mid hg hbg1 (HDJ.out i h (by omega)))
      have HK5 : Hid (kkc (k + 1 + 1) cs cs.length = kkt k0 xs (j + 1)) := hid (by rw [HKN.out, show k + 2 = k + 1 + 1 by omega])
      clear hg hp1 HM3 HT3 HA3 HZ3 HX HP3 HSZ zl' z1' y1' hbg1
      obtain ⟨kq0, kq1⟩ := kkc_bound (k0 := k + 1 + 1) hcs.2 cs.length (Nat.le_refl _)
      generalize kkc (k + 1 + 1) cs cs.length = kq at *
      go_wp2_with fail
      go_roundw
      case rel => exact ⟨j + 1, _, by go_num, rfl, by omega, HK5, HM5, HT5, HA5, HZ5⟩
      case measure => simp [intOf]; omega
    · obtain rfl : j = n := by omega
      have c1 : (j : Int) ≤ (j : Int) := by omega
      go_wp2_with fail
      go_ret
      obtain ⟨e1, e2⟩ := HF.out wr k HKJ.out HM.out HT.out HA.out
      exact ⟨e1, e2, HM.out⟩
end Go.Proofs.YtnajddjalagmoaaGreatDoor
namespace Go.Proofs.YtnajddjalagmoaaGreatDoor
open Go.RowKit
set_option linter.unusedSimpArgs false
set_option linter.unusedVariables false
theorem LTS.frame {base hi p q : Nat} {w w' : World} {v : Value} {xs : List Tx} (h : LTS base hi p q w v xs) (hb : ∀ c, base ≤ c → c < hi → (c < p ∨ q ≤ c) → w'.heap[c]? = w.heap[c]?) (hs : w.heap.size ≤ w'.heap.size) : LTS base hi p q w' v xs := by
  obtain ⟨h0, h | ⟨g, cap, ss, lo, up, qq, hh, h1, h2, h3, h4, h5, h6, h7, h8⟩⟩ := h
  · exact ⟨by omega, .inl h⟩
  · have eg := hb g h3 h4 h8
    refine ⟨by omega, .inr ⟨g, cap, ss, lo, up, qq, hh, h1, h2, h3, h4, fun j hj => ?_, fun j hj => ?_, h7, h8⟩⟩
    · obtain ⟨s1, s2⟩ := h5 j hj
      simp only [World.cell?, World.frozen?, eg]; exact ⟨s1, s2⟩
    · obtain ⟨⟨a1, a2⟩, a3⟩ := h6 j hj
      exact ⟨⟨fun t ht => (World.cell?_of_block eg).trans (a1 t ht), a2.frame (fun c c1 c2 c3 => by have := a3 c (inS_of c1 c2 c3); exact hb c this.1 this.2.1 this.2.2.1) hs⟩, a3⟩
theorem LTS.below {base hi p q : Nat} {w w' : World} {v : Value} {xs : List Tx} (h : LTS base hi p q w v xs) (H : Below w.heap.size w w') : LTS base hi p q w' v xs :=
  h.frame (fun c _ c2 _ => H.block c (by have := h.1; omega)) H.size
theorem LTS.txs {base hi p q : Nat} {w : World} {a : Option Addr} {n cap : Nat} {xs : List Tx} (h : LTS base hi p q w (.slice a n cap) xs) (hm : ∀ j (h : j < xs.length), xs[j].2.2.length ≤ 1099511627776) : Txs (fun _ => True) 1099511627776 w a xs := by
  obtain ⟨h0, h⟩ := h
  rcases h with ⟨rfl, _⟩ | ⟨g, cp, ss, lo, up, qq, hh, e, h1, h2, h3, h4, h5, h6, _⟩
  · exact .inl rfl
  · cases e
    refine .inr ⟨g, 0, rfl, by omega, fun j hj => ?_⟩
    obtain ⟨⟨b1, b2'⟩, a2⟩ := h5 j hj
    have b2 := b2'.lc
    obtain ⟨a', cap', e, f1, f2⟩ := LC.form b2
    have k0 := b1 0 (by decide)
    have k1 := b1 1 (by decide)
    have k2 := b1 2 (by decide)
    simp only [KT, e] at k0 k1 k2
    rw [Nat.zero_add]
    rw [e] at b2
    have hc := LC.chs b2
    refine ⟨a', cap', k0, k1, k2, f1, hm j hj, ?_, fun _ _ _ => trivial⟩
    rcases hc with hc | ⟨b, o, e2, hb, hc⟩
    · exact .inl hc
    · refine .inr ⟨b, o, e2, hb, fun i hi' => ?_⟩
      obtain ⟨a4', cap4, q0, q1, q2, q3, q4, q5, q6, q7⟩ := hc i hi'
      exact ⟨a4', cap4, q0, q1, q2, q3, q4, q5, q6, fun _ _ _ => trivial⟩
/-- What lies in one piece each lies in two. -/
theorem LCH.lts {base hi p q : Nat} {w : World} {v : Value} {xs : List Tx} (h : LCH KT base hi p q w v xs) : LTS base hi p q w v xs := by
  obtain ⟨h0, h | ⟨g, cap, ss, lo, up, h1, h2, h3, h4, h5, h6, h7, h8, h9⟩⟩ := h
  · exact ⟨h0, .inl h⟩
  · refine ⟨h0, .inr ⟨g, cap, ss, lo, up, up, up, h1, h2, h3, h4, h5, fun j hj => ?_, fun i j hij hi' hj c c1 c2 => ?_, h8⟩⟩
    · obtain ⟨a1, a2, a3, a4⟩ := h6 j hj
      have a5 := h9 j hj
      refine ⟨⟨a1.1, LC.hole (show LC KC (lo j) (up j) w (ss j) xs[j].2.2 from a1.2) (.inl (Nat.le_refl _))⟩, fun c hc => ?_⟩
      unfold InS at hc
      omega
    · have := h7 i j hij hi' hj
      unfold InS at c1 c2
      omega
set_option maxHeartbeats 4000000 in
set_option maxRecDepth 100000 in
theorem mark_storeS (b1 u1 b2 u2 lo hi : Nat) (now : Int) (a ta : Option Addr) (cap tcap : Nat) (rs : List Rw) (ts : List Tx) (w : World) (hr : rwS rs) (ht : txS ts) (e1 : lo ≤ b1) (e2 : u1 ≤ hi) (e3 : lo ≤ b2) (e4 : u2 ≤ hi) (e6 : hi ≤ w.heap.size) (h1 : LC KR b1 u1 w (.slice a rs.length cap) rs) (h2 : LTS b2 u2 b1 u1 w (.slice ta ts.length tcap) ts) : Calls Tryz.prog 13 #[.agg #[.int .i64 now, .slice a rs.length cap, .slice ta ts.length tcap], .int .i64 1] w fun e w' => e = .returned (.int .i64 (kst rs ts)) ∧ LC KR b1 u1 w' (.slice a rs.length cap) (mkr 1 rs) ∧ LTS b2 u2 b1 u1 w' (.slice ta ts.length tcap) (mks (kkr 1 rs rs.length) ts) ∧ Mid lo hi w w' := by
  have H1 := hid h1
  have H2 := hid h2
  obtain ⟨⟨p1, p2⟩, p3⟩ := kst_pos hr ht
  have HM := hid (fun w' (h : LC KR b1 u1 w' (.slice a rs.length cap) rs) => mark_rwsX b1 u1 (.slice a rs.length cap) rs 1 w' hr (by omega) (by omega) h)
  have HT := hid (fun w' (h : LTS b2 u2 b1 u1 w' (.slice ta ts.length tcap) ts) => mark_txsS b2 u2 b1 u1 (.slice ta ts.length tcap) ts (kkr 1 rs rs.length) w' ht (by omega) (by omega) h)
  have HKS : Hid (kkt (kkr 1 rs rs.length) ts ts.length = kst rs ts) := hid rfl
  rw [HKS.out] at HT
  clear h1 h2 HKS
  generalize kst rs ts = ks at *
  generalize kkr 1 rs rs.length = kr at *
  go_enter Tryz.func13, Tryz.ntmps13
  go_wp2_with fail
  have gS := new_alloc w w.heap.size (.cells #[.int .i64 now, .slice a rs.length cap, .slice ta ts.length tcap] 38) rfl
  have hal : Below w.heap.size w (w.alloc (.cells #[.int .i64 now, .slice a rs.length cap, .slice ta ts.length tcap] 38)) := balloc (Below.refl _ _) _
  have hwz : w.heap.size < (w.alloc (.cells #[.int .i64 now, .slice a rs.length cap, .slice ta ts.length tcap] 38)).heap.size := by simp
  replace H1 := hid (H1.out.below hal)
  replace H2 := hid (H2.out.below hal)
  have HMB := hid (mid_below (lo := lo) (hi := hi) hal)
  clear hal
  generalize w.alloc (.cells #[.int .i64 now, .slice a rs.length cap, .slice ta ts.length tcap] 38) = W at *
  refine (markRowsX_of _ now a cap rs kr b1 u1 (HM.out) H1.out).mono ?_
  rintro e y ⟨rfl, r1, m1⟩
  have g1 : y.heap[w.heap.size]? = _ := (mid_blk m1 hwz (by omega)).trans gS
  have R1 := hid r1
  have HM1 := hid m1
  replace H2 := hid (H2.out.frame (fun c c1 c2 c3 => mid_blk m1 (by have := H2.out.1; omega) c3) m1.2.2.2.1)
  obtain ⟨⟨x0, x1, x2⟩, _⟩ := cellk3 g1
  clear r1 m1 g1 gS
  go_wp2_with fail
  refine (HT.out _ H2.out).mono ?_
  rintro e z ⟨rfl, r2, m2⟩
  have R2 := hid r2
  have R3 := hid (R1.out.frame (fun c c1 c2 => m2.2 c (by have := R1.out.1; omega) c1 c2) m2.1.2.2.2.1)
  have HM3 := hid (mid_trans (mid_trans HMB.out (mid_wide HM1.out e1 e2)) (mid_wide m2.1 e3 e4))
  clear r2 m2
  go_wp2_with fail
  go_ret
  exact ⟨rfl, R3.out, R2.out, HM3.out⟩
end Go.Proofs.YtnajddjalagmoaaGreatDoor
namespace Go.Proofs.YtnajddjalagmoaaGreatDoor
open Go.RowKit
set_option linter.unusedSimpArgs false
set_option linter.unusedVariables false
theorem LX.setH {α : Type} {K : Kd α} {t : TypeId} {base hi b0 c g i p S : Nat} {W w' : World} {xs : List α} {ps : List (α × Value)} {x : α} {sv : Value} (h : LX K t base hi W (.slice (some ⟨g, 0, none⟩) xs.length c) xs ps) (hi' : i < xs.length) (hbh : base ≤ hi) (hS : hi ≤ S) (hp : S ≤ p) (hpw : p < w'.heap.size) (hsub : K.sub p (p + 1) w' sv x) (hown : w'.ownsRow b0 t K.sz (.slice (some ⟨g, 0, none⟩) xs.length c) xs.length ((flatK K ps).take (i * K.sz) ++ K.vals x sv ++ (flatK K ps).drop (i * K.sz + K.sz))) (hfr : ∀ b, base ≤ b → b < hi → b ≠ g → w'.heap[b]? = W.heap[b]?) (hsz : W.heap.size ≤ w'.heap.size) : LCH K base w'.heap.size hi S w' (.slice (some ⟨g, 0, none⟩) xs.length c) (xs.set i x) := by
  have hpl := h.plen
  obtain ⟨h1, h2, h3, h4, lo, up, h5, h6⟩ := h
  have hgb := (h2.lt g rfl).1
  have hgh := h3 g rfl
  have hR := lch_own (K := K) (t := t) (b0 := b0) (base := base) (hi := w'.heap.size) (p := hi) (q := S) (g := g) (c := c) (w := w') (xs := xs.set i x) (ps := ps.set i (x, sv)) (by rw [List.map_set, h1]) (by rw [List.length_set, flatK_set K (x, sv) ps i (by omega)]; exact hown) hgb (by omega) (Nat.le_refl _)
    (fun j => if j = i then p else lo j) (fun j => if j = i then p + 1 else up j)
    (fun j hj => by
      rw [List.length_set] at hj
      by_cases e : j = i
      · subst e
        simp only [if_true, List.getElem_set_self]
        exact ⟨hsub, by omega, by omega, by omega, .inr hp⟩
      · simp only [if_neg e]
        rw [List.getElem_set_ne (by omega)]
        obtain ⟨a1, a2, a3, a4⟩ := h5 j hj
        have a5 := a4 g rfl
        exact ⟨K.frame a1 (fun b b1 b2 => hfr b (by omega) (by omega) (by omega)) hsz, a2, by omega, a5, .inl a3⟩)
    (fun a b hne ha hb => by
      rw [List.length_set] at ha hb
      have hu : ∀ k, k < ps.length → up k ≤ hi := fun k hk => (h5 k hk).2.2.1
      by_cases a1 : a = i
      · simp only [if_pos a1, if_neg (show ¬ b = i by omega)]
        have := hu b hb; omega
      · by_cases b1 : b = i
        · simp only [if_neg a1, if_pos b1]
          have := hu a ha; omega
        · simp only [if_neg a1, if_neg b1]
          rcases Nat.lt_or_gt_of_ne hne with q | q
          · exact .inl (h6 a b q hb)
          · exact .inr (h6 b a q ha))
    (by omega)
  rw [List.length_set] at hR
  exact hR
theorem set3L {α : Type} (L : List α) (k : Nat) (a b c : α) (h : k + 3 ≤ L.length) : ((L.set k a).set (k + 1) b).set (k + 2) c = L.take k ++ [a, b, c] ++ L.drop (k + 3) := by
  obtain ⟨A, o0, o1, o2, R, rfl, hA⟩ : ∃ A o0 o1 o2 R, L = A ++ o0 :: o1 :: o2 :: R ∧ A.length = k := by
    have e := (List.take_append_drop k L).symm
    have hl : (L.drop k).length = L.length - k := by simp
    match hd : L.drop k, hl with
    | [], hl => simp at hl; omega
    | [_], hl => simp at hl; omega
    | [_, _], hl => simp at hl; omega
    | o0 :: o1 :: o2 :: R, _ => exact ⟨L.take k, o0, o1, o2, R, by rw [← hd]; exact e, by simp; omega⟩
  subst hA
  simp [List.set_append, List.take_append, List.drop_append]
theorem own_set3 {w : World} {base g c n i : Nat} {t : TypeId} {xs : List Value} (h : w.ownsRow base t 3 (.slice (some ⟨g, 0, none⟩) n c) n xs) (hi : i < n) (x0 x1 x2 : Value) : (((w.setCell ⟨g, i * 3, none⟩ x0).setCell ⟨g, i * 3 + 1, none⟩ x1).setCell ⟨g, i * 3 + 2, none⟩ x2).ownsRow base t 3 (.slice (some ⟨g, 0, none⟩) n c) n (xs.take (i * 3) ++ [x0, x1, x2] ++ xs.drop (i * 3 + 3)) := by
  have hxl := h.1
  refine ⟨by simp; omega, ?_⟩
  rcases h.2 with ⟨q, _⟩ | ⟨g', c', cur, e, q1, q2, q3, q4, q5, q6⟩
  · cases q
  · cases e
    refine .inr ⟨g, c, _, rfl, q1, set_at (set_at (set_at q2)), q3, q4, by simp; omega, ?_⟩
    have hcl : cur.toList.length = c * 3 := by simpa using q5
    have e1 : (((cur.setIfInBounds (i * 3) x0).setIfInBounds (i * 3 + 1) x1).setIfInBounds (i * 3 + 2) x2).toList = cur.toList.take (i * 3) ++ [x0, x1, x2] ++ cur.toList.drop (i * 3 + 3) := by
      simp only [Array.toList_setIfInBounds]
      exact set3L _ _ _ _ _ (by omega)
    rw [e1]
    obtain ⟨r, hr⟩ : ∃ r, cur.toList = xs ++ r := ⟨cur.toList.drop (n * 3), by rw [← q6]; exact (List.take_append_drop _ _).symm⟩
    have f1 : cur.toList.take (i * 3) = xs.take (i * 3) := by rw [hr, List.take_append_of_le_length (by omega)]
    have f2 : cur.toList.drop (i * 3 + 3) = xs.drop (i * 3 + 3) ++ r := by rw [hr, List.drop_append_of_le_length (by omega)]
    rw [f1, f2, ← List.append_assoc, List.take_append_of_le_length (by simp; omega)]
    exact List.take_of_length_le (by simp; omega)
/-- One transaction's changes in new memory beside the old. -/
theorem LX.putS {t : TypeId} {base hi tg tcc m : Nat} {W : World} {ts : List Tx} {px : List (Tx × Value)} (h : LX KX t base hi W (.slice (some ⟨tg, 0, none⟩) ts.length tcc) ts px) (hm : m < ts.length) : ∃ sv lo up, KX.sub lo up W sv ts[m] ∧ base ≤ lo ∧ up ≤ hi ∧ (tg < lo ∨ up ≤ tg) ∧ base ≤ tg ∧ tg < hi ∧ W.cell? ⟨tg, m * 3, none⟩ = some (.int .i64 ts[m].1) ∧ W.cell? ⟨tg, m * 3 + 1, none⟩ = some (.bool ts[m].2.1) ∧ W.cell? ⟨tg, m * 3 + 2, none⟩ = some sv ∧
    ∀ (w' : World) (st : Int) (op : Bool) (cs : List Ch) (sv' : Value) (S Q : Nat), hi ≤ Q → Q ≤ S → W.heap.size ≤ w'.heap.size → S ≤ w'.heap.size → LCH KC lo w'.heap.size up S w' sv' cs → (∀ b, base ≤ b → b < hi → b ≠ tg → (b < lo ∨ up ≤ b) → w'.heap[b]? = W.heap[b]?) → w'.heap[tg]? = (((W.setCell ⟨tg, m * 3, none⟩ (.int .i64 st)).setCell ⟨tg, m * 3 + 1, none⟩ (.bool op)).setCell ⟨tg, m * 3 + 2, none⟩ sv').heap[tg]? → LTS base w'.heap.size hi Q w' (.slice (some ⟨tg, 0, none⟩) ts.length tcc) (ts.set m (st, op, cs)) := by
  have hpl := h.plen
  obtain ⟨h1, h2, h3, h4, lo, up, h5, h6⟩ := h
  have hgb := (h2.lt tg rfl).1
  have hgh := h3 tg rfl
  have hmp : m < px.length := by omega
  have ex : ∀ j (hj : j < ts.length), ts[j] = (px[j]'(by omega)).1 := fun j hj => by
    have : ts[j]? = (px.map Prod.fst)[j]? := by rw [h1]
    rw [List.getElem?_map, List.getElem?_eq_getElem hj, List.getElem?_eq_getElem (show j < px.length by omega)] at this
    exact Option.some.inj this
  obtain ⟨a1, a2, a3, a4⟩ := h5 m hmp
  have hc : ∀ t, t < 3 → W.cell? ⟨tg, m * 3 + t, none⟩ = (KX.vals px[m].1 px[m].2)[t]? := fun t ht => by
    rw [World.ownsRow.cellAt h2 _ (by show m * 3 + t < ts.length * 3; omega)]
    exact flatX_at KX px m t hmp ht
  have e := ex m hm
  refine ⟨px[m].2, lo m, up m, by rw [e]; exact a1, a2, a3, a4 tg rfl, hgb, hgh, by rw [e]; exact hc 0 (by decide), by rw [e]; exact hc 1 (by decide), hc 2 (by decide), ?_⟩
  intro w' st op cs sv' S Q q1 q2 q3 q4 hL hfr hT
  have hown : w'.ownsRow base t 3 (.slice (some ⟨tg, 0, none⟩) ts.length tcc) ts.length (flatK KX (px.set m ((st, op, cs), sv'))) := by
    rw [flatK_set KX ((st, op, cs), sv') px m hmp]
    exact own_frame (own_set3 h2 hm _ _ _) (fun g e => by simp [Value.ownBlock] at e; subst e; exact hT)
  have hcap : ts.length ≤ tcc := by
    rcases hown.2 with ⟨qq, _⟩ | ⟨_, _, _, e, _, _, hc, _⟩
    · cases qq
    · cases e; exact hc
  have hpl2 : (px.set m ((st, op, cs), sv')).length = px.length := List.length_set
  refine ⟨Nat.le_refl _, .inr ⟨tg, tcc, fun j => if h : j < px.length then ((px.set m ((st, op, cs), sv'))[j]'(by rw [hpl2]; exact h)).2 else .bool false, lo, up, fun j => if j = m then S else up j, fun j => if j = m then w'.heap.size else up j, by rw [List.length_set], by rw [List.length_set]; exact hcap, hgb, by omega, ?_, fun j hj => ?_, fun a b hne ha hb c c1 c2 => ?_, .inl hgh⟩⟩
  · rw [List.length_set]
    intro j hj
    simp only [Nat.zero_add]
    refine ⟨?_, World.ownsRow.frozenAt hown j⟩
    rw [World.ownsRow.cellAt hown j hj, List.getElem?_eq_getElem (by rw [flatK_len, hpl2, hpl]; exact hj)]
    rfl
  · rw [List.length_set] at hj
    have hjp : j < px.length := by omega
    have hcl : ∀ t, t < 3 → w'.cell? ⟨tg, j * 3 + t, none⟩ = (KX.vals ((px.set m ((st, op, cs), sv'))[j]'(by rw [hpl2]; exact hjp)).1 ((px.set m ((st, op, cs), sv'))[j]'(by rw [hpl2]; exact hjp)).2)[t]? := fun t ht => by
      rw [World.ownsRow.cellAt hown _ (by omega)]
      exact flatX_at KX _ j t (by rw [hpl2]; exact hjp) ht
    simp only [dif_pos hjp]
    obtain ⟨b1, b2, b3, b4⟩ := h5 j hjp
    have b5 := b4 tg rfl
    by_cases e : j = m
    · subst e
      simp only [if_true, List.getElem_set_self] at hcl ⊢
      refine ⟨⟨fun t ht => hcl t ht, hL⟩, fun c hc => ?_⟩
      unfold InS at hc
      omega
    · simp only [if_neg e]
      rw [List.getElem_set_ne (by omega)]
      have e3 : (px.set m ((st, op, cs), sv'))[j]'(by rw [hpl2]; exact hjp) = px[j] := List.getElem_set_ne (by omega) _
      rw [e3] at hcl ⊢
      rw [ex j hj]
      have hs : LC KC (lo j) (up j) W px[j].2 px[j].1.2.2 := b1.2.choose_spec.lc
      have hne2 : up j ≤ lo m ∨ up m ≤ lo j := by
        rcases Nat.lt_or_gt_of_ne e with q | q
        · exact .inl (h6 j m q hmp)
        · exact .inr (h6 m j q hjp)
      refine ⟨⟨fun t ht => hcl t ht, LC.hole (hs.frame (fun b c1 c2 => hfr b (by omega) (by omega) (by omega) (by omega)) q3) (.inl (Nat.le_refl _))⟩, fun c hc => ?_⟩
      unfold InS at hc
      omega
  · rw [List.length_set] at ha hb
    have ha' : a < px.length := by omega
    have hb' : b < px.length := by omega
    have u1 := (h5 a ha').2.2.1
    have u2 := (h5 b hb').2.2.1
    have hab : up a ≤ lo b ∨ up b ≤ lo a := by
      rcases Nat.lt_or_gt_of_ne hne with q | q
      · exact .inl (h6 a b q hb')
      · exact .inr (h6 b a q ha')
    unfold InS at c1 c2
    by_cases e1 : a = m
    · have e2 : ¬ b = m := by omega
      simp only [if_pos e1, if_neg e2] at c1 c2
      omega
    · by_cases e2 : b = m
      · simp only [if_neg e1, if_pos e2] at c1 c2
        omega
      · simp only [if_neg e1, if_neg e2] at c1 c2
        omega
end Go.Proofs.YtnajddjalagmoaaGreatDoor
namespace Go.Proofs.YtnajddjalagmoaaGreatDoor
open Go.RowKit
set_option linter.unusedSimpArgs false
set_option linter.unusedVariables false
/-- An append whose two lists are of two named types. -/
theorem run_append_two {P : Program} {t t' e : TypeId} {i : TypeInfo} (ht : P.underlying t = some (.slice e)) (ht' : P.underlying t' = some (.slice e)) (hi : P.info? e = some i) (ty : TypeId) (a b : Option Addr) (n cap m c : Nat) (w : World) : (Builtin.append_ #[t, t'] ty #[.slice a n cap, .slice b m c]).run P w = (Builtin.append_ #[t, t] ty #[.slice a n cap, .slice b m c]).run P w := by
  simp [Builtin.append_, run_underlying ht, run_underlying ht', sizeOf, typeInfo, hi]
set_option maxRecDepth 100000 in
set_option maxHeartbeats 1000000 in
theorem insE_end (base g c n p vc : Nat) (x0 x1 x2 x3 : Value) (xs : List Value) (w : World) (hn : n ≤ 1099511627776) (h : w.ownsRow base 66 4 (.slice (some ⟨g, 0, none⟩) n c) n xs) (hb : base ≤ w.heap.size) (k : ∀ j u, [x0, x1, x2, x3][j]? = some u → w.cell? ((⟨p, 0, none⟩ : Addr).add j) = some u) (h1 : ∀ u ∈ [x0, x1, x2, x3], u.oneCell' = true) : Calls Tryz.prog 96 #[.slice (some ⟨g, 0, none⟩) n c, .int .i64 n, .slice (some ⟨p, 0, none⟩) 1 vc] w fun e w' => ∃ g' c', e = .returned (.slice (some ⟨g', 0, none⟩) (n + 1) c') ∧ w'.ownsRow base 66 4 (.slice (some ⟨g', 0, none⟩) (n + 1) c') (n + 1) (xs ++ [x0, x1, x2, x3]) ∧ w.grownBy w' (some g) ∧ (g = g' ∨ g' = w.heap.size) ∧ g' < w'.heap.size := by
  obtain ⟨i0, hi0, hz0, hz1, hz2⟩ := info_parts Tryz.infoCh
  have hnc : n ≤ c ∧ c ≤ maxLen := by
    rcases h.2 with ⟨q, _⟩ | ⟨_, _, _, e, _, _, h3, h4, _⟩
    · cases q
    · cases e; exact ⟨h3, h4⟩
  have hnc1 := hnc.1
  have hc63 : (c : Int) ≤ 9223372036854775807 := by have := hnc.2; unfold maxLen at this; omega
  have c1 : (n : Int) ≤ (c : Int) := by omega
  obtain ⟨gg, cp, w2, hr, hown2, hgrow, hat, hlt2⟩ := run_append_lies (P := Tryz.prog) w 102 102 base 66 i0 _ 4 _ Tryz.underlying102 hi0 hz0 hz1 hz2 rfl (by decide) (.slice (some ⟨g, 0, none⟩) n c) n xs h ⟨p, 0, none⟩ 1 vc [x0, x1, x2, x3] rfl k h1 (by omega) (by unfold maxLen; omega) (by omega) hb w.heap.size rfl
  have HR := hid ((run_append_two Tryz.underlying102 Tryz.underlying60 hi0 102 (some ⟨g, 0, none⟩) (some ⟨p, 0, none⟩) n c 1 vc w).trans hr)
  have HO := hid hown2
  have HG := hid hgrow
  have hat' : g = gg ∨ gg = w.heap.size := by simpa [Value.ownBlock] using hat
  clear k h1 hnc h hr hown2 hgrow hat
  go_enter Tryz.func96, Tryz.ntmps96
  go_wp2_with (at_builtin; refine Lib.wpList_append_run _ rfl _ _ _ _ rfl _ _ rfl rfl _ _ HR.out ?_)
  all_goals
    go_ret
    exact ⟨gg, cp, rfl, HO.out, HG.out, hat', hlt2⟩
end Go.Proofs.YtnajddjalagmoaaGreatDoor
namespace Go.Proofs.YtnajddjalagmoaaGreatDoor
open Go.RowKit
set_option linter.unusedSimpArgs false
set_option linter.unusedVariables false
theorem sizeCh : (Tryz.prog.info? 66).map (fun i => i.size) = some 4 := by
  obtain ⟨i0, hi0, hz0, hz1, hz2⟩ := info_parts Tryz.infoCh
  rw [hi0]; simp [hz1]
theorem cells_in {w : World} {g k : Nat} {cur : Array Value} {t : TypeId} (hw : w.heap[g]? = some (.cells cur t (0, 0))) : ∀ j v, (cur.toList.drop k)[j]? = some v → w.cell? ((⟨g, k, none⟩ : Addr).add j) = some v := fun j v hv => by
  rw [Addr.add_mid]
  rw [List.getElem?_drop] at hv
  simp only [World.cell?, hw]
  simpa using hv
theorem layMid {ROW xs : List Value} {i n : Nat} {x0 x1 x2 x3 : Value} (hx : xs.length = n * 4) (hi : i < n) (hR : ROW.take (i * 4) = xs.take (i * 4)) (hl : (n + 1) * 4 ≤ ROW.length) :
    (((ROW.take (i * 4) ++ [x0, x1, x2, x3] ++ ROW.drop (i * 4 + 4)).take ((i + 1) * 4) ++ xs.drop (i * 4) ++ (ROW.take (i * 4) ++ [x0, x1, x2, x3] ++ ROW.drop (i * 4 + 4)).drop ((i + 1) * 4 + (xs.drop (i * 4)).length))).take ((n + 1) * 4) = xs.take (i * 4) ++ [x0, x1, x2, x3] ++ xs.drop (i * 4) := by
  have e1 : (ROW.take (i * 4) ++ [x0, x1, x2, x3]).length = (i + 1) * 4 := by simp; omega
  have e2 : (ROW.take (i * 4) ++ [x0, x1, x2, x3] ++ ROW.drop (i * 4 + 4)).take ((i + 1) * 4) = ROW.take (i * 4) ++ [x0, x1, x2, x3] := by rw [← e1, List.take_left]
  rw [e2, hR]
  have e3 : (xs.take (i * 4) ++ [x0, x1, x2, x3] ++ xs.drop (i * 4)).length = (n + 1) * 4 := by simp; omega
  rw [← e3, List.take_left]
set_option maxRecDepth 100000 in
set_option maxHeartbeats 2000000 in
theorem insE_grow (base g n i p vc : Nat) (x0 x1 x2 x3 : Value) (xs : List Value) (w : World) (hn : n ≤ 1099511627776) (hi : i < n) (h : w.ownsRow base 66 4 (.slice (some ⟨g, 0, none⟩) n n) n xs) (hb : base ≤ w.heap.size) (hx : ∀ u ∈ xs, u.oneCell' = true) (k : ∀ j u, [x0, x1, x2, x3][j]? = some u → w.cell? ((⟨p, 0, none⟩ : Addr).add j) = some u) (h1 : ∀ u ∈ [x0, x1, x2, x3], u.oneCell' = true) : Calls Tryz.prog 96 #[.slice (some ⟨g, 0, none⟩) n n, .int .i64 i, .slice (some ⟨p, 0, none⟩) 1 vc] w fun e w' => ∃ c', e = .returned (.slice (some ⟨w.heap.size, 0, none⟩) (n + 1) c') ∧ w'.ownsRow base 66 4 (.slice (some ⟨w.heap.size, 0, none⟩) (n + 1) c') (n + 1) (xs.take (i * 4) ++ [x0, x1, x2, x3] ++ xs.drop (i * 4)) ∧ w.grownBy w' none ∧ w.heap.size < w'.heap.size := by
  obtain ⟨i0, hi0, hz0, hz1, hz2⟩ := info_parts Tryz.infoCh
  have hxl : xs.length = n * 4 := h.1
  obtain ⟨cur, hg, htk⟩ : ∃ cur, w.heap[g]? = some (.cells cur 66 (0, 0)) ∧ cur.toList = xs := by
    rcases h.2 with ⟨q, _⟩ | ⟨g', c', cur, e, q1, q2, q3, q4, q5, q6⟩
    · cases q
    · cases e
      refine ⟨cur, q2, ?_⟩
      rw [← q6, List.take_of_length_le (by simp; omega)]
  have hgw : g < w.heap.size := lt_of_block hg
  have hpw : p < w.heap.size := block_lt_of_cell (k 0 x0 rfl)
  have hold : (Builtin.firstCells i0.size i (.slice (some ⟨g, 0, none⟩) i n)).run Tryz.prog w.drew = .ok (xs.take (i * 4)).toArray w.drew := by
    rw [hz1]
    exact run_firstCells_some w.drew 4 i ⟨g, 0, none⟩ i n (xs.take (i * 4)) (by rw [List.length_take]; omega) (fun j v hj => by
      rw [List.getElem?_take] at hj
      split at hj
      · exact cells_in (w := w.drew) (k := 0) hg j v (by rw [htk]; simpa using hj)
      · cases hj)
  have hkk : (n : Int) + 1 - (i : Int) = ((n + 1 - i : Nat) : Int) := by omega
  have hik : i + (n + 1 - i) = n + 1 := by omega
  have hrz : (Builtin.append_ #[102, 3] 102 #[.slice (some ⟨g, 0, none⟩) i n, .int .i64 ((n : Int) + 1 - (i : Int))]).run Tryz.prog w = .ok (.slice (some ⟨w.heap.size, 0, none⟩) (n + 1) (grownCap w (n + 1) n 66)) (w.drew.alloc (.cells ((xs.take (i * 4)).toArray ++ Builtin.zeroCells (Value.agg #[.int .i64 0, .bool false, .int .i64 0, .slice none 0 0]).cells (n + 1 - i) ++ Builtin.zeroCells (Value.agg #[.int .i64 0, .bool false, .int .i64 0, .slice none 0 0]).cells (grownCap w (n + 1) n 66 - (n + 1))) 66)) := by
    have h := Lib.run_append_grow_zeros w 102 3 102 66 i0 _ .i64 .i64 Tryz.underlying102 Tryz.underlying3 hi0 hz0 (some ⟨g, 0, none⟩) i n (xs.take (i * 4)) hold (n + 1 - i) (by omega) (by omega) (by omega) (by omega) (by rw [hz2]; omega) (by rw [hz2, hik]; exact growslice_fits (by omega) (by omega))
    rw [hik] at h
    rw [hkk]
    exact h
  obtain ⟨G, hG⟩ : ∃ G, G = grownCap w (n + 1) n 66 := ⟨_, rfl⟩
  have hGn : n + 1 ≤ G := by rw [hG]; exact grownCap_ge w _ _ _
  have hGm : G ≤ maxLen := by rw [hG]; exact grownCap_le_maxLen w _ _ _ (by unfold maxLen; omega)
  rw [← hG] at hrz
  obtain ⟨ROW, hROW⟩ : ∃ ROW : Array Value, ROW = (xs.take (i * 4)).toArray ++ Builtin.zeroCells (Value.agg #[.int .i64 0, .bool false, .int .i64 0, .slice none 0 0]).cells (n + 1 - i) ++ Builtin.zeroCells (Value.agg #[.int .i64 0, .bool false, .int .i64 0, .slice none 0 0]).cells (G - (n + 1)) := ⟨_, rfl⟩
  rw [← hROW] at hrz
  have hRs : ROW.size = G * 4 := by
    rw [hROW]
    simp [Builtin.zeroCells, Value.cells]
    omega
  have hRt : ROW.toList.take (i * 4) = xs.take (i * 4) := by
    have e1 : (xs.take (i * 4)).length = i * 4 := by simp; omega
    rw [hROW, Array.toList_append, Array.toList_append, List.append_assoc]
    exact List.take_left' e1
  obtain ⟨W1, hW1⟩ : ∃ W1, W1 = w.drew.alloc (.cells ROW 66) := ⟨_, rfl⟩
  rw [← hW1] at hrz
  obtain ⟨H, hH⟩ : ∃ H, H = w.heap.size := ⟨_, rfl⟩
  have hg1 : W1.heap[H]? = some (.cells ROW 66 (0, 0)) := by rw [hW1, hH]; exact new_alloc w.drew w.heap.size (.cells ROW 66) rfl
  have hgr1 : w.grownBy W1 none := by
    rw [hW1]
    exact ⟨rfl, rfl, rfl, (by show w.heap.size ≤ (w.drew.alloc _).heap.size; have : w.drew.heap.size = w.heap.size := rfl; simp [this]), fun k hk _ => (balloc (w := w.drew) (Below.refl _ _) (.cells ROW 66)).block k hk⟩
  obtain ⟨A, hA⟩ : ∃ A, A = (ROW.toList.take (i * 4) ++ [x0, x1, x2, x3] ++ ROW.toList.drop (i * 4 + 4)).toArray := ⟨_, rfl⟩
  have hAs : A.size = G * 4 := by rw [hA]; simp; omega
  obtain ⟨A2, hA2⟩ : ∃ A2, A2 = (A.toList.take ((i + 1) * 4) ++ xs.drop (i * 4) ++ A.toList.drop ((i + 1) * 4 + (xs.drop (i * 4)).length)).toArray := ⟨_, rfl⟩
  have hA2s : A2.size = G * 4 := by rw [hA2]; simp; omega
  have hA2t : A2.toList.take ((n + 1) * 4) = xs.take (i * 4) ++ [x0, x1, x2, x3] ++ xs.drop (i * 4) := by
    rw [hA2, hA]; exact layMid hxl hi hRt (by simp; omega)
  have hbH : base ≤ H := by omega
  have hdl : (xs.drop (i * 4)).length = (n - i) * 4 := by simp; omega
  have HF : Hid (∀ w' : World, w'.heap[H]? = some (.cells A2 66 (0, 0)) → w'.ownsRow base 66 4 (.slice (some ⟨H, 0, none⟩) (n + 1) G) (n + 1) (xs.take (i * 4) ++ [x0, x1, x2, x3] ++ xs.drop (i * 4))) := hid (fun w' hw => ⟨by simp; omega, .inr ⟨H, G, A2, rfl, hbH, hw, hGn, hGm, hA2s, hA2t⟩⟩)
  have HK : Hid (∀ W : World, w.grownBy W none → ∀ j u, [x0, x1, x2, x3][j]? = some u → W.cell? ((⟨p, 0, none⟩ : Addr).add j) = some u) := hid (fun W hW j u hj => by
    have q := k j u hj
    rw [Addr.add_mid] at q ⊢
    exact (World.cell?_of_block (hW.block p hpw (by simp))).trans q)
  have HS : Hid (∀ W : World, w.grownBy W none → ∀ j v, (xs.drop (i * 4))[j]? = some v → W.cell? ((⟨g, i * 4, none⟩ : Addr).add j) = some v) := hid (fun W hW j v hj => cells_in ((hW.block g hgw (by simp)).trans hg) j v (by rw [htk]; exact hj))
  have HT : Hid (∀ W W' : World, w.grownBy W none → W.grownBy W' (some H) → w.grownBy W' none) := hid (fun W W' q r => ⟨r.os.trans q.os, r.tape.trans q.tape, r.output.trans q.output, by have := q.size; have := r.size; omega, fun b hb _ => (r.block b (by have := q.size; omega) (by simp; omega)).trans (q.block b hb (by simp))⟩)
  have HA := hid hA.symm
  have HA2 := hid hA2.symm
  have HG1 := hid hg1
  have HGR := hid hgr1
  have H1 := hid h1
  have HX : Hid (∀ u ∈ xs.drop (i * 4), u.oneCell' = true) := hid (fun u hu => hx u (List.mem_of_mem_drop hu))
  have HR := hid hrz
  have HL := hid hdl
  rw [← hH] at HR ⊢
  have HH := hid hH
  clear hg1 hgr1 hA hA2 hrz hx h1 k h hold hROW hRt hW1 hG hA2s hA2t hkk hik htk hdl hxl hg hH
  generalize xs.drop (i * 4) = ds at *
  have hc63 : (n : Int) ≤ 1099511627776 := by omega
  have s0 : IntKind.i64.wrap ((i : Int) + 1) = (i : Int) + 1 := by rw [IntKind.wrap_i64]; omega
  have s00 : IntKind.i64.wrap ((n : Int) + 1) = (n : Int) + 1 := by rw [IntKind.wrap_i64]; omega
  have s01 : IntKind.i64.wrap ((n : Int) + 1 - (i : Int)) = (n : Int) + 1 - (i : Int) := by rw [IntKind.wrap_i64]; omega
  have s1 : (0 : Int) ≤ (i : Int) + 1 := by omega
  have s2 : (i : Int) + 1 ≤ (n : Int) + 1 := by omega
  have s3 : ((i : Int) + 1).toNat = i + 1 := by omega
  have s4 : ¬ G = i + 1 := by omega
  have s5 : ¬ G = i := by omega
  have s6 : ¬ n = i := by omega
  have s7 : ¬ ((i : Int) = (n : Int)) := by omega
  have s8 : (i : Int) ≤ (n : Int) := by omega
  have s9 : (n : Int) < (n : Int) + 1 := by omega
  have hin : i ≤ n := by omega
  have s10 : (i : Int) ≤ (n : Int) + 1 := by omega
  have hGi : (n : Int) + 1 ≤ (G : Int) := by omega
  go_enter Tryz.func96, Tryz.ntmps96
  go_wp2_with (first
    | (at_builtin; refine Lib.wpList_append_run _ rfl _ _ _ _ rfl _ _ rfl rfl _ _ HR.out ?_)
    | (refine wpList_copy_row rfl (.tmp 43) (.tmp 44) 102 60 rfl 66 Tryz.underlying102 4 1 sizeCh H (i * 4) _ _ ⟨p, 0, none⟩ 1 vc rfl rfl ROW 66 HG1.out [x0, x1, x2, x3] (by show min 1 _ = 1; omega) rfl (HK.out _ HGR.out) (by show i * 4 + 4 ≤ ROW.size; omega) H1.out A HA.out ?_; intro w1 HG2 HR2))
  refine wp_region_held_drew (S := fun _ => True) (by kernel_rfl) ?_ (fun hHeld => ?_)
  · exact trivial
  refine wpAnyH_take (i := 0) (v := ?_) rfl (by kernel_rfl) (by kernel_rfl) (by kernel_rfl) (fun _ _ _ h => h) (Or.inl ⟨by rfl, ?_⟩) hHeld ?_
  rotate_left
  · intro w hSw; (try dsimp only at hSw); go_simp; try (with_reducible rfl)
  try simp only [sq]
  refine wpAnyH_take (i := 1) (v := ?_) rfl (by kernel_rfl) (by kernel_rfl) (by kernel_rfl) (fun _ _ _ h => h) (Or.inl ⟨by rfl, ?_⟩) hHeld ?_
  rotate_left
  · intro w hSw; (try dsimp only at hSw); go_simp; try (with_reducible rfl)
  try simp only [sq]
  refine wpAnyH_take (i := 2) (v := ?_) rfl (by kernel_rfl) (by kernel_rfl) (by kernel_rfl) (fun _ _ _ h => h) (Or.inl ⟨by rfl, ?_⟩) hHeld ?_
  rotate_left
  · intro w hSw; (try dsimp only at hSw); go_simp; try (with_reducible rfl)
  try simp only [sq]
  refine wpAnyH_take (i := 3) (v := ?_) rfl (by kernel_rfl) (by kernel_rfl) (by kernel_rfl) (fun _ _ _ h => h) (Or.inl ⟨by rfl, ?_⟩) hHeld ?_
  rotate_left
  · intro w hSw; (try dsimp only at hSw); go_simp; try (with_reducible rfl)
  try simp only [sq]
  refine wpAnyH_take (i := 4) (v := ?_) rfl (by kernel_rfl) (by kernel_rfl) (by kernel_rfl) (fun _ _ _ h => h) (Or.inl ⟨by rfl, ?_⟩) hHeld ?_
  rotate_left
  · intro w hSw; (try dsimp only at hSw); go_simp; try (with_reducible rfl)
  try simp only [sq]
  refine wpAnyH_take (i := 5) (v := ?_) rfl (by kernel_rfl) (by kernel_rfl) (by kernel_rfl) (fun _ _ _ h => h) (Or.inl ⟨by rfl, ?_⟩) hHeld ?_
  rotate_left
  · intro w hSw; (try dsimp only at hSw); go_simp; try (with_reducible rfl)
  try simp only [sq]
  refine wpAnyH_take (i := 6) (v := ?_) rfl (by kernel_rfl) (by kernel_rfl) (by kernel_rfl) (fun _ _ _ h => h) (Or.inl ⟨by rfl, ?_⟩) hHeld ?_
  rotate_left
  · intro w hSw; (try dsimp only at hSw); go_simp; try (with_reducible rfl)
  try simp only [sq]
  refine wpAnyH_take (i := 7) (v := ?_) rfl (by kernel_rfl) (by kernel_rfl) (by kernel_rfl) (fun _ _ _ h => h) (Or.inl ⟨by rfl, ?_⟩) hHeld ?_
  rotate_left
  · intro w hSw; (try dsimp only at hSw); go_simp; try (with_reducible rfl)
  try simp only [sq]
  refine wpAnyH_ready (rs := [8]) (by kernel_rfl) (by simp) ?_
  refine AllReadyH.cons rfl (fun K hK => ?_) AllReadyH.nil
  have q := HT.out _ _ HGR.out HR2.out
  have HGR2 : Hid (w.grownBy w1.drew none) := hid ⟨q.os, q.tape, q.output, q.size, q.block⟩
  clear q
  refine step_copy_row rfl (.tmp 50) (.tmp 53) 102 102 rfl 66 Tryz.underlying102 4 (n - i) sizeCh H ((i + 1) * 4) _ _ ⟨g, i * 4, none⟩ _ _ rfl rfl A 66 HG2.out ds (by show min _ _ = n - i; omega) HL.out (HS.out _ HGR2.out) (by have := HL.out; omega) HX.out A2 HA2.out ?_
  intro w2 HG3 HR3
  refine hK.out _ _ ?_ (fun hHeld => ?_)
  · exact trivial
  clear hK K
  refine wpAnyH_done (by kernel_rfl) ?_ _
  go_wp2_with fail
  all_goals
    go_ret
    exact ⟨G, rfl, HF.out _ HG3.out, HT.out _ _ HGR2.out HR3.out, (by have := lt_of_block HG3.out; have := HH.out; omega)⟩
end Go.Proofs.YtnajddjalagmoaaGreatDoor
namespace Go.Proofs.YtnajddjalagmoaaGreatDoor
open Go.RowKit
set_option linter.unusedSimpArgs false
set_option linter.unusedVariables false
theorem layIn {cur xs : List Value} {i n : Nat} {x0 x1 x2 x3 : Value} (hx : xs.length = n * 4) (hi : i < n) (hR : cur.take (n * 4) = xs) (hl : (n + 1) * 4 ≤ cur.length) :
    ((cur.take ((i + 1) * 4) ++ xs.drop (i * 4) ++ cur.drop ((i + 1) * 4 + (xs.drop (i * 4)).length)).take (i * 4) ++ [x0, x1, x2, x3] ++ (cur.take ((i + 1) * 4) ++ xs.drop (i * 4) ++ cur.drop ((i + 1) * 4 + (xs.drop (i * 4)).length)).drop (i * 4 + 4)).take ((n + 1) * 4) = xs.take (i * 4) ++ [x0, x1, x2, x3] ++ xs.drop (i * 4) := by
  have e0 : cur.take (i * 4) = xs.take (i * 4) := by rw [← hR, List.take_take, Nat.min_eq_left (by omega)]
  have e1 : (cur.take ((i + 1) * 4)).length = i * 4 + 4 := by simp; omega
  have e2 : (cur.take ((i + 1) * 4) ++ xs.drop (i * 4) ++ cur.drop ((i + 1) * 4 + (xs.drop (i * 4)).length)).take (i * 4) = xs.take (i * 4) := by
    rw [List.append_assoc, List.take_append_of_le_length (by rw [e1]; omega), List.take_take, Nat.min_eq_left (by omega), e0]
  have e3 : (cur.take ((i + 1) * 4) ++ xs.drop (i * 4) ++ cur.drop ((i + 1) * 4 + (xs.drop (i * 4)).length)).drop (i * 4 + 4) = xs.drop (i * 4) ++ cur.drop ((i + 1) * 4 + (xs.drop (i * 4)).length) := by
    rw [List.append_assoc, ← e1, List.drop_left]
  rw [e2, e3, ← List.append_assoc]
  have e4 : (xs.take (i * 4) ++ [x0, x1, x2, x3] ++ xs.drop (i * 4)).length = (n + 1) * 4 := by simp; omega
  rw [← e4, List.take_left]
set_option maxRecDepth 100000 in
set_option maxHeartbeats 2000000 in
theorem insE_room (base g c n i p vc : Nat) (tp : TypeId) (x0 x1 x2 x3 : Value) (xs : List Value) (w : World) (hn : n ≤ 1099511627776) (hi : i < n) (hc : n + 1 ≤ c) (h : w.ownsRow base 66 4 (.slice (some ⟨g, 0, none⟩) n c) n xs) (hx : ∀ u ∈ xs, u.oneCell' = true) (hp : w.heap[p]? = some (.cells #[x0, x1, x2, x3] tp (0, 0))) (hpg : p ≠ g) (h1 : ∀ u ∈ [x0, x1, x2, x3], u.oneCell' = true) : Calls Tryz.prog 96 #[.slice (some ⟨g, 0, none⟩) n c, .int .i64 i, .slice (some ⟨p, 0, none⟩) 1 vc] w fun e w' => e = .returned (.slice (some ⟨g, 0, none⟩) (n + 1) c) ∧ w'.ownsRow base 66 4 (.slice (some ⟨g, 0, none⟩) (n + 1) c) (n + 1) (xs.take (i * 4) ++ [x0, x1, x2, x3] ++ xs.drop (i * 4)) ∧ w.grownBy w' (some g) := by
  obtain ⟨i0, hi0, hz0, hz1, hz2⟩ := info_parts Tryz.infoCh
  have hxl : xs.length = n * 4 := h.1
  obtain ⟨cur, hb, hg, hcm, hcs, htk⟩ : ∃ cur, base ≤ g ∧ w.heap[g]? = some (.cells cur 66 (0, 0)) ∧ c ≤ maxLen ∧ cur.size = c * 4 ∧ cur.toList.take (n * 4) = xs := by
    rcases h.2 with ⟨q, _⟩ | ⟨g', c', cur, e, q1, q2, q3, q4, q5, q6⟩
    · cases q
    · cases e; exact ⟨cur, q1, q2, q4, q5, q6⟩
  have hszo : ∀ w, (Go.sizeOf 66).run Tryz.prog w = .ok 4 w := fun w => by simp [sizeOf, typeInfo, hi0, hz1]
  have hov : ∀ lb cb, (callFunc 125 #[.slice (some ⟨p, 0, none⟩) 1 vc, .slice (some ⟨g, (i + 1) * 4, none⟩) lb cb]).run Tryz.prog w = .ok (.value (.bool false)) w := fun lb cb => by
    rw [run_callFunc_extern Tryz.func125 (by kernel_rfl) (by kernel_rfl) (by kernel_rfl) (e := Extern.SlicesOverlaps.overlaps #[60, 60] #[4]) (by kernel_rfl),
      Lib.run_overlaps_apart w 60 4 66 Tryz.underlying60 4 hszo ⟨p, 0, none⟩ ⟨g, (i + 1) * 4, none⟩ 1 vc lb cb hpg tp 66 4 (c * 4) (by simp [World.shape?, hp]) (by simp [World.shape?, hg, hcs]) (by omega) (by simp [World.frozen?, hp]) (by simp [World.frozen?, hp])]
    rfl
  obtain ⟨A, hA⟩ : ∃ A, A = (cur.toList.take ((i + 1) * 4) ++ xs.drop (i * 4) ++ cur.toList.drop ((i + 1) * 4 + (xs.drop (i * 4)).length)).toArray := ⟨_, rfl⟩
  have hAs : A.size = c * 4 := by rw [hA]; simp; omega
  obtain ⟨A2, hA2⟩ : ∃ A2, A2 = (A.toList.take (i * 4) ++ [x0, x1, x2, x3] ++ A.toList.drop (i * 4 + 4)).toArray := ⟨_, rfl⟩
  have hA2s : A2.size = c * 4 := by rw [hA2]; simp; omega
  have hA2t : A2.toList.take ((n + 1) * 4) = xs.take (i * 4) ++ [x0, x1, x2, x3] ++ xs.drop (i * 4) := by
    rw [hA2, hA]; exact layIn hxl hi htk (by simp; omega)
  have HF : Hid (∀ w' : World, w'.heap[g]? = some (.cells A2 66 (0, 0)) → w'.ownsRow base 66 4 (.slice (some ⟨g, 0, none⟩) (n + 1) c) (n + 1) (xs.take (i * 4) ++ [x0, x1, x2, x3] ++ xs.drop (i * 4))) := hid (fun w' hw => ⟨by simp; omega, .inr ⟨g, c, A2, rfl, hb, hw, hc, hcm, hA2s, hA2t⟩⟩)
  have HK : Hid (∀ W : World, W.heap[p]? = w.heap[p]? → ∀ j u, [x0, x1, x2, x3][j]? = some u → W.cell? ((⟨p, 0, none⟩ : Addr).add j) = some u) := hid (fun W hW j u hj => cells_in (k := 0) (hW.trans hp) j u (by simpa using hj))
  have HS : Hid (∀ W : World, W.heap[g]? = w.heap[g]? → ∀ j v, (xs.drop (i * 4))[j]? = some v → W.cell? ((⟨g, i * 4, none⟩ : Addr).add j) = some v) := hid (fun W hW j v hj => cells_in (hW.trans hg) j v (by
    rw [List.getElem?_drop] at hj ⊢
    rw [← htk, List.getElem?_take] at hj
    split at hj
    · exact hj
    · cases hj))
  have hpw : p < w.heap.size := lt_of_block hp
  have hdl : (xs.drop (i * 4)).length = (n - i) * 4 := by simp; omega
  have HA := hid hA.symm
  have HA2 := hid hA2.symm
  have HG := hid hg
  have H1 := hid h1
  have HX : Hid (∀ u ∈ xs.drop (i * 4), u.oneCell' = true) := hid (fun u hu => hx u (List.mem_of_mem_drop hu))
  have HL := hid hdl
  clear hA hA2 hx h1 h hA2s hA2t htk hdl hxl hg hp hszo
  generalize xs.drop (i * 4) = ds at *
  have hc63 : (c : Int) ≤ 9223372036854775807 := by unfold maxLen at hcm; omega
  have hn63 : (n : Int) ≤ 1099511627776 := by omega
  have s0 : IntKind.i64.wrap ((i : Int) + 1) = (i : Int) + 1 := by rw [IntKind.wrap_i64]; omega
  have s00 : IntKind.i64.wrap ((n : Int) + 1) = (n : Int) + 1 := by rw [IntKind.wrap_i64]; omega
  have s1 : (0 : Int) ≤ (i : Int) + 1 := by omega
  have s2 : (i : Int) + 1 ≤ (n : Int) + 1 := by omega
  have s3 : ((i : Int) + 1).toNat = i + 1 := by omega
  have s33 : ((n : Int) + 1).toNat = n + 1 := by omega
  have s4 : ¬ c = i + 1 := by omega
  have s5 : ¬ c = i := by omega
  have s7 : ¬ ((i : Int) = (n : Int)) := by omega
  have s8 : (i : Int) ≤ (n : Int) := by omega
  have s9 : ¬ ((c : Int) < (n : Int) + 1) := by omega
  have s11 : (n : Int) + 1 ≤ (c : Int) := by omega
  have s12 : (0 : Int) ≤ (n : Int) + 1 := by omega
  have hin : i ≤ n := by omega
  have s10 : (i : Int) ≤ (n : Int) + 1 := by omega
  have s13 : n ≤ c := by omega
  go_enter Tryz.func96, Tryz.ntmps96
  go_wp2_with (simp only [hov])
  refine wp_region_held_drew (S := fun _ => True) (by kernel_rfl) ?_ (fun hHeld => ?_)
  · exact trivial
  refine wpAnyH_take (i := 0) (v := ?_) rfl (by kernel_rfl) (by kernel_rfl) (by kernel_rfl) (fun _ _ _ h => h) (Or.inl ⟨by rfl, ?_⟩) hHeld ?_
  rotate_left
  · intro w hSw; (try dsimp only at hSw); go_simp; try (with_reducible rfl)
  try simp only [sq]
  refine wpAnyH_take (i := 1) (v := ?_) rfl (by kernel_rfl) (by kernel_rfl) (by kernel_rfl) (fun _ _ _ h => h) (Or.inl ⟨by rfl, ?_⟩) hHeld ?_
  rotate_left
  · intro w hSw; (try dsimp only at hSw); go_simp; try (with_reducible rfl)
  try simp only [sq]
  refine wpAnyH_take (i := 2) (v := ?_) rfl (by kernel_rfl) (by kernel_rfl) (by kernel_rfl) (fun _ _ _ h => h) (Or.inl ⟨by rfl, ?_⟩) hHeld ?_
  rotate_left
  · intro w hSw; (try dsimp only at hSw); go_simp; try (with_reducible rfl)
  try simp only [sq]
  refine wpAnyH_take (i := 3) (v := ?_) rfl (by kernel_rfl) (by kernel_rfl) (by kernel_rfl) (fun _ _ _ h => h) (Or.inl ⟨by rfl, ?_⟩) hHeld ?_
  rotate_left
  · intro w hSw; (try dsimp only at hSw); go_simp; try (with_reducible rfl)
  try simp only [sq]
  refine wpAnyH_take (i := 4) (v := ?_) rfl (by kernel_rfl) (by kernel_rfl) (by kernel_rfl) (fun _ _ _ h => h) (Or.inl ⟨by rfl, ?_⟩) hHeld ?_
  rotate_left
  · intro w hSw; (try dsimp only at hSw); go_simp; try (with_reducible rfl)
  try simp only [sq]
  refine wpAnyH_take (i := 5) (v := ?_) rfl (by kernel_rfl) (by kernel_rfl) (by kernel_rfl) (fun _ _ _ h => h) (Or.inl ⟨by rfl, ?_⟩) hHeld ?_
  rotate_left
  · intro w hSw; (try dsimp only at hSw); go_simp; try (with_reducible rfl)
  try simp only [sq]
  refine wpAnyH_take (i := 6) (v := ?_) rfl (by kernel_rfl) (by kernel_rfl) (by kernel_rfl) (fun _ _ _ h => h) (Or.inl ⟨by rfl, ?_⟩) hHeld ?_
  rotate_left
  · intro w hSw; (try dsimp only at hSw); go_simp; try (with_reducible rfl)
  try simp only [sq]
  refine wpAnyH_take (i := 7) (v := ?_) rfl (by kernel_rfl) (by kernel_rfl) (by kernel_rfl) (fun _ _ _ h => h) (Or.inl ⟨by rfl, ?_⟩) hHeld ?_
  rotate_left
  · intro w hSw; (try dsimp only at hSw); go_simp; try (with_reducible rfl)
  try simp only [sq]
  refine wpAnyH_ready (rs := [8]) (by kernel_rfl) (by simp) ?_
  refine AllReadyH.cons rfl (fun K hK => ?_) AllReadyH.nil
  refine step_copy_row rfl (.tmp 73) (.tmp 76) 102 102 rfl 66 Tryz.underlying102 4 (n - i) sizeCh g ((i + 1) * 4) _ _ ⟨g, i * 4, none⟩ _ _ rfl rfl cur 66 HG.out ds (by show min _ _ = n - i; omega) HL.out (HS.out _ rfl) (by have := HL.out; omega) HX.out A HA.out ?_
  intro w2 HG3 HR3
  refine hK.out _ _ ?_ (fun hHeld => ?_)
  · exact trivial
  clear hK K
  refine wpAnyH_done (by kernel_rfl) ?_ _
  have HP := hid (HR3.out.block p hpw (by simp; omega))
  go_wp2_with (refine wpList_copy_row rfl (.tmp 80) (.tmp 81) 102 60 rfl 66 Tryz.underlying102 4 1 sizeCh g (i * 4) _ _ ⟨p, 0, none⟩ 1 vc rfl rfl A 66 HG3.out [x0, x1, x2, x3] (by show min 1 _ = 1; omega) rfl (HK.out _ HP.out) (by show i * 4 + 4 ≤ A.size; omega) H1.out A2 HA2.out ?_; intro w4 HG4 HR4)
  all_goals
    go_ret
    exact ⟨rfl, HF.out _ HG4.out, grown_trans (grown_trans (show w.grownBy w.drew (some g) from ⟨rfl, rfl, rfl, Nat.le_refl _, fun _ _ _ => rfl⟩) HR3.out) HR4.out⟩
end Go.Proofs.YtnajddjalagmoaaGreatDoor
namespace Go.Proofs.YtnajddjalagmoaaGreatDoor
open Go.RowKit
set_option linter.unusedSimpArgs false
set_option linter.unusedVariables false
theorem insE (base g c n i p vc : Nat) (tp : TypeId) (x0 x1 x2 x3 : Value) (xs : List Value) (w : World) (hn : n ≤ 1099511627776) (hi : i ≤ n) (h : w.ownsRow base 66 4 (.slice (some ⟨g, 0, none⟩) n c) n xs) (hb : base ≤ w.heap.size) (hx : ∀ u ∈ xs, u.oneCell' = true) (hp : w.heap[p]? = some (.cells #[x0, x1, x2, x3] tp (0, 0))) (hpg : p ≠ g) (h1 : ∀ u ∈ [x0, x1, x2, x3], u.oneCell' = true) : Calls Tryz.prog 96 #[.slice (some ⟨g, 0, none⟩) n c, .int .i64 i, .slice (some ⟨p, 0, none⟩) 1 vc] w fun e w' => ∃ g' c', e = .returned (.slice (some ⟨g', 0, none⟩) (n + 1) c') ∧ w'.ownsRow base 66 4 (.slice (some ⟨g', 0, none⟩) (n + 1) c') (n + 1) (xs.take (i * 4) ++ [x0, x1, x2, x3] ++ xs.drop (i * 4)) ∧ w.grownBy w' (some g) ∧ (g = g' ∨ g' = w.heap.size) ∧ g' < w'.heap.size := by
  have hxl : xs.length = n * 4 := h.1
  have k : ∀ j u, [x0, x1, x2, x3][j]? = some u → w.cell? ((⟨p, 0, none⟩ : Addr).add j) = some u := fun j u hj => cells_in (k := 0) hp j u (by simpa using hj)
  have hnc : n ≤ c ∧ g < w.heap.size := by
    rcases h.2 with ⟨q, _⟩ | ⟨_, _, _, e, _, hg, h3, h4, _⟩
    · cases q
    · cases e; exact ⟨h3, lt_of_block hg⟩
  rcases Nat.lt_or_ge i n with hin | hin
  · rcases Nat.lt_or_ge n c with hc | hc
    · refine (insE_room base g c n i p vc tp x0 x1 x2 x3 xs w hn hin hc h hx hp hpg h1).mono ?_
      rintro e w' ⟨rfl, q1, q2⟩
      exact ⟨g, c, rfl, q1, q2, .inl rfl, by have := q2.size; omega⟩
    · obtain rfl : c = n := by omega
      refine (insE_grow base g c i p vc x0 x1 x2 x3 xs w hn hin h hb hx k h1).mono ?_
      rintro e w' ⟨c', rfl, q1, q2, q3⟩
      exact ⟨_, c', rfl, q1, ⟨q2.os, q2.tape, q2.output, q2.size, fun b hb _ => q2.block b hb (by simp)⟩, .inr rfl, q3⟩
  · obtain rfl : i = n := by omega
    refine (insE_end base g c i p vc x0 x1 x2 x3 xs w hn h hb k h1).mono ?_
    rintro e w' ⟨g', c', rfl, q1, q2, q3, q4⟩
    refine ⟨g', c', rfl, ?_, q2, q3, q4⟩
    rw [List.take_of_length_le (by omega), List.drop_of_length_le (by omega), List.append_nil]
    exact q1
end Go.Proofs.YtnajddjalagmoaaGreatDoor
namespace Go.Proofs.YtnajddjalagmoaaGreatDoor
open Go.RowKit
set_option linter.unusedSimpArgs false
set_option linter.unusedVariables false
set_option maxRecDepth 100000 in
set_option maxHeartbeats 4000000 in
theorem set_new (base R g c n i : Nat) (id kd : Int) (gn : Bool) (sa : Option Addr) (sn sc : Nat) (y1 y2 y3 y4 : Value) (xs : List Value) (w : World) (hn : n ≤ 1099511627776) (hi : i ≤ n) (gR : w.heap[R]? = some (.cells #[.slice (some ⟨g, 0, none⟩) n c, y1, y2, y3, y4] 104 (0, 0))) (hRg : R ≠ g) (h : w.ownsRow base 66 4 (.slice (some ⟨g, 0, none⟩) n c) n xs) (hgw : g < w.heap.size) (hb : base ≤ w.heap.size) (hx : ∀ u ∈ xs, u.oneCell' = true) (hpl : ∀ W, Below w.heap.size w W → Calls Tryz.prog 95 #[.slice (some ⟨g, 0, none⟩) n c, .int .i64 id] W fun e w' => e = .returned (.tuple #[.int .i64 i, .bool false]) ∧ Below W.heap.size W w') : Calls Tryz.prog 63 #[.pointer (some ⟨R, 0, none⟩), .agg #[.int .i64 id, .bool gn, .int .i64 kd, .slice sa sn sc]] w fun e w' => e = .returned (.tuple #[]) ∧ ∃ g' c', w'.heap[R]? = some (.cells #[.slice (some ⟨g', 0, none⟩) (n + 1) c', y1, y2, y3, y4] 104 (0, 0)) ∧ w'.ownsRow base 66 4 (.slice (some ⟨g', 0, none⟩) (n + 1) c') (n + 1) (xs.take (i * 4) ++ [.int .i64 id, .bool gn, .int .i64 kd, .slice sa sn sc] ++ xs.drop (i * 4)) ∧ (g' = g ∨ w.heap.size ≤ g') ∧ g' ≠ R ∧ w.heap.size ≤ w'.heap.size ∧ (∀ b, b < w.heap.size → b ≠ R → b ≠ g → w'.heap[b]? = w.heap[b]?) ∧ (w'.os = w.os ∧ w'.tape = w.tape ∧ w'.output = w.output) := by
  have gB := new_alloc w w.heap.size (.cells #[.int .i64 id, .bool gn, .int .i64 kd, .slice sa sn sc] 66) rfl
  have hB : Below w.heap.size w (w.alloc (.cells #[.int .i64 id, .bool gn, .int .i64 kd, .slice sa sn sc] 66)) := balloc (Below.refl _ _) _
  have hRw := lt_of_block gR
  replace gR := keepheapA hB gR
  have HO := hid (own_frame (w' := w.alloc (.cells #[.int .i64 id, .bool gn, .int .i64 kd, .slice sa sn sc] 66)) h (fun k e => hB.block k (by simp [Value.ownBlock] at e; omega)))
  have HX := hid hx
  have HP := hid hpl
  have H1 : Hid (∀ u : Value, u ∈ ([.int .i64 id, .bool gn, .int .i64 kd, .slice sa sn sc] : List Value) → u.oneCell' = true) := hid (by intro u hu; simp at hu; rcases hu with rfl | rfl | rfl | rfl <;> rfl)
  have HF : Hid (∀ (Y : World) (g' c' : Nat), ((Y.os = w.os ∧ Y.tape = w.tape ∧ Y.output = w.output) ∧ w.heap.size ≤ Y.heap.size ∧ (∀ b, b < w.heap.size → b ≠ g → Y.heap[b]? = w.heap[b]?)) → Y.heap[R]? = some (.cells #[.slice (some ⟨g, 0, none⟩) n c, y1, y2, y3, y4] 104 (0, 0)) → Y.ownsRow base 66 4 (.slice (some ⟨g', 0, none⟩) (n + 1) c') (n + 1) (xs.take (i * 4) ++ [.int .i64 id, .bool gn, .int .i64 kd, .slice sa sn sc] ++ xs.drop (i * 4)) → (g' = g ∨ w.heap.size ≤ g') → g' ≠ R → Ending.returned (.tuple #[]) = .returned (.tuple #[]) ∧ ∃ g2 c2, (Y.setCell ⟨R, 0, none⟩ (.slice (some ⟨g', 0, none⟩) (n + 1) c')).heap[R]? = some (.cells #[.slice (some ⟨g2, 0, none⟩) (n + 1) c2, y1, y2, y3, y4] 104 (0, 0)) ∧ (Y.setCell ⟨R, 0, none⟩ (.slice (some ⟨g', 0, none⟩) (n + 1) c')).ownsRow base 66 4 (.slice (some ⟨g2, 0, none⟩) (n + 1) c2) (n + 1) (xs.take (i * 4) ++ [.int .i64 id, .bool gn, .int .i64 kd, .slice sa sn sc] ++ xs.drop (i * 4)) ∧ (g2 = g ∨ w.heap.size ≤ g2) ∧ g2 ≠ R ∧ w.heap.size ≤ (Y.setCell ⟨R, 0, none⟩ (.slice (some ⟨g', 0, none⟩) (n + 1) c')).heap.size ∧ (∀ b, b < w.heap.size → b ≠ R → b ≠ g → (Y.setCell ⟨R, 0, none⟩ (.slice (some ⟨g', 0, none⟩) (n + 1) c')).heap[b]? = w.heap[b]?) ∧ ((Y.setCell ⟨R, 0, none⟩ (.slice (some ⟨g', 0, none⟩) (n + 1) c')).os = w.os ∧ (Y.setCell ⟨R, 0, none⟩ (.slice (some ⟨g', 0, none⟩) (n + 1) c')).tape = w.tape ∧ (Y.setCell ⟨R, 0, none⟩ (.slice (some ⟨g', 0, none⟩) (n + 1) c')).output = w.output)) := hid (fun Y g' c' hB gR hO q1 q2 => ⟨rfl, g', c', set_at (k := 0) gR, own_frame hO (fun k e => Below.heap_setCell _ _ _ _ (by simp [Value.ownBlock] at e; dsimp only; omega)), q1, q2, by simpa using hB.2.1, fun b hb h1 h2 => (Below.heap_setCell _ _ _ _ (by dsimp only; omega)).trans (hB.2.2 b hb h2), hB.1⟩)
  have hWz : (w.alloc (.cells #[.int .i64 id, .bool gn, .int .i64 kd, .slice sa sn sc] 66)).heap.size = w.heap.size + 1 := by simp
  obtain ⟨B, hBe⟩ : ∃ B, B = w.heap.size := ⟨_, rfl⟩
  rw [← hBe] at gB
  clear h hx hpl
  go_enter Tryz.func63, Tryz.ntmps63
  go_upto_region 1 with fail
  rw [← hBe]
  generalize w.alloc (.cells #[.int .i64 id, .bool gn, .int .i64 kd, .slice sa sn sc] 66) = W at *
  have HBE := hid hBe
  clear hBe
  have HS0 : Hid (w.heap.size = B) := hid HBE.out.symm
  refine wp_region_held_drew (S := fun w' => w'.heap[R]? = some (.cells #[.slice (some ⟨g, 0, none⟩) n c, y1, y2, y3, y4] 104 (0, 0)) ∧ w'.heap[B]? = some (.cells #[.int .i64 id, .bool gn, .int .i64 kd, .slice sa sn sc] 66 (0, 0))) (by kernel_rfl) ?_ (fun hHeld => ?_)
  · exact ⟨gR, gB⟩
  refine wpAnyH_take (i := 0) (v := ?_) rfl (by kernel_rfl) (by kernel_rfl) (by kernel_rfl) (fun _ _ _ h => h) (Or.inl ⟨by rfl, ?_⟩) hHeld ?_
  rotate_left
  · intro w' hSw; (try dsimp only at hSw); obtain ⟨hs1, hs2⟩ := hSw; obtain ⟨⟨_, _, _, _, _⟩, _⟩ := cell5g hs1; obtain ⟨⟨_, _, _, _⟩, _⟩ := cellk4 hs2; go_simp; try (with_reducible rfl)
  try simp only [sq]
  refine wpAnyH_take (i := 1) (v := ?_) rfl (by kernel_rfl) (by kernel_rfl) (by kernel_rfl) (fun _ _ _ h => h) (Or.inl ⟨by rfl, ?_⟩) hHeld ?_
  rotate_left
  · intro w' hSw; (try dsimp only at hSw); obtain ⟨hs1, hs2⟩ := hSw; obtain ⟨⟨_, _, _, _, _⟩, _⟩ := cell5g hs1; obtain ⟨⟨_, _, _, _⟩, _⟩ := cellk4 hs2; go_simp; try (with_reducible rfl)
  try simp only [sq]
  refine wpAnyH_take (i := 2) (v := ?_) rfl (by kernel_rfl) (by kernel_rfl) (by kernel_rfl) (fun _ _ _ h => h) (Or.inl ⟨by rfl, ?_⟩) hHeld ?_
  rotate_left
  · intro w' hSw; (try dsimp only at hSw); obtain ⟨hs1, hs2⟩ := hSw; obtain ⟨⟨_, _, _, _, _⟩, _⟩ := cell5g hs1; obtain ⟨⟨_, _, _, _⟩, _⟩ := cellk4 hs2; go_simp; try (with_reducible rfl)
  try simp only [sq]
  refine wpAnyH_take (i := 3) (v := ?_) rfl (by kernel_rfl) (by kernel_rfl) (by kernel_rfl) (fun _ _ _ h => h) (Or.inl ⟨by rfl, ?_⟩) hHeld ?_
  rotate_left
  · intro w' hSw; (try dsimp only at hSw); obtain ⟨hs1, hs2⟩ := hSw; obtain ⟨⟨_, _, _, _, _⟩, _⟩ := cell5g hs1; obtain ⟨⟨_, _, _, _⟩, _⟩ := cellk4 hs2; go_simp; try (with_reducible rfl)
  try simp only [sq]
  refine wpAnyH_take (i := 4) (v := ?_) rfl (by kernel_rfl) (by kernel_rfl) (by kernel_rfl) (fun _ _ _ h => h) (Or.inl ⟨by rfl, ?_⟩) hHeld ?_
  rotate_left
  · intro w' hSw; (try dsimp only at hSw); obtain ⟨hs1, hs2⟩ := hSw; obtain ⟨⟨_, _, _, _, _⟩, _⟩ := cell5g hs1; obtain ⟨⟨_, _, _, _⟩, _⟩ := cellk4 hs2; go_simp; try (with_reducible rfl)
  try simp only [sq]
  refine wpAnyH_ready (rs := [5]) (by kernel_rfl) (by simp) ?_
  refine AllReadyH.cons rfl (fun K hK => ?_) AllReadyH.nil
  try simp only [sq]
  go_simp
  go_at_call 95
  refine (HP.out _ (bdrew hB)).mono ?_
  rintro e z ⟨rfl, hz⟩
  replace gR := keepheapA hz (show W.drew.heap[R]? = _ from gR)
  replace gB := keepheapA hz (show W.drew.heap[B]? = _ from gB)
  replace HO := hid (own_frame (w' := z) HO.out (fun k e => (hz.block k (by simp [Value.ownBlock] at e; show k < W.heap.size; omega)).trans rfl))
  replace hB := btrans (bdrew hB) hz
  have hzs : W.heap.size ≤ z.heap.size := hz.size
  clear hz HP
  go_wp2_with fail
  refine hK.out _ _ ?_ (fun hHeld => ?_)
  · exact ⟨gR, gB⟩
  clear hK K
  try simp only [sq]
  refine wpAnyH_take (i := 6) (v := ?_) rfl (by kernel_rfl) (by kernel_rfl) (by kernel_rfl) (fun _ _ _ h => h) (Or.inl ⟨by rfl, ?_⟩) hHeld ?_
  rotate_left
  · intro w' hSw; (try dsimp only at hSw); go_simp; try (with_reducible rfl)
  try simp only [sq]
  refine wpAnyH_take (i := 7) (v := ?_) rfl (by kernel_rfl) (by kernel_rfl) (by kernel_rfl) (fun _ _ _ h => h) (Or.inl ⟨by rfl, ?_⟩) hHeld ?_
  rotate_left
  · intro w' hSw; (try dsimp only at hSw); go_simp; try (with_reducible rfl)
  try simp only [sq]
  refine wpAnyH_take (i := 8) (v := ?_) rfl (by kernel_rfl) (by kernel_rfl) (by kernel_rfl) (fun _ _ _ h => h) (Or.inl ⟨by rfl, ?_⟩) hHeld ?_
  rotate_left
  · intro w' hSw; (try dsimp only at hSw); go_simp; try (with_reducible rfl)
  try simp only [sq]
  refine wpAnyH_take (i := 9) (v := ?_) rfl (by kernel_rfl) (by kernel_rfl) (by kernel_rfl) (fun _ _ _ h => h) (Or.inl ⟨by rfl, ?_⟩) hHeld ?_
  rotate_left
  · intro w' hSw; (try dsimp only at hSw); go_simp; try (with_reducible rfl)
  try simp only [sq]
  refine wpAnyH_take (i := 10) (v := ?_) rfl (by kernel_rfl) (by kernel_rfl) (by kernel_rfl) (fun _ _ _ h => h) (Or.inl ⟨by rfl, ?_⟩) hHeld ?_
  rotate_left
  · intro w' hSw; (try dsimp only at hSw); go_simp; try (with_reducible rfl)
  try simp only [sq]
  refine wpAnyH_done (by kernel_rfl) ?_ _
  go_upto_region 4 with fail
  refine wp_region_held_drew (S := fun w' => w'.heap[B]? = some (.cells #[.int .i64 id, .bool gn, .int .i64 kd, .slice sa sn sc] 66 (0, 0))) (by kernel_rfl) gB (fun hHeld => ?_)
  replace gR : z.drew.heap[R]? = _ := gR
  replace gB : z.drew.heap[B]? = _ := gB
  replace HO := hid (own_frame (w' := z.drew) HO.out (fun k e => rfl))
  replace hB := bdrew hB
  have hzd : z.heap.size ≤ z.drew.heap.size := Nat.le_refl _
  generalize z.drew = Z0 at *
  refine wpAnyH_take (i := 0) (v := ?_) rfl (by kernel_rfl) (by kernel_rfl) (by kernel_rfl) (fun _ _ _ h => h) (Or.inl ⟨by rfl, ?_⟩) hHeld ?_
  rotate_left
  · intro w' hSw; (try dsimp only at hSw); go_simp; try (with_reducible rfl)
  try simp only [sq]
  refine wpAnyH_take (i := 1) (v := ?_) rfl (by kernel_rfl) (by kernel_rfl) (by kernel_rfl) (fun _ _ _ h => h) (Or.inl ⟨by rfl, ?_⟩) hHeld ?_
  rotate_left
  · intro w' hSw; (try dsimp only at hSw); go_simp; try (with_reducible rfl)
  try simp only [sq]
  refine wpAnyH_take (i := 2) (v := ?_) rfl (by kernel_rfl) (by kernel_rfl) (by kernel_rfl) (fun _ _ _ h => h) (Or.inl ⟨by rfl, ?_⟩) hHeld ?_
  rotate_left
  · intro w' hSw; (try dsimp only at hSw); go_simp; try (with_reducible rfl)
  try simp only [sq]
  refine wpAnyH_take (i := 4) (v := ?_) rfl (by kernel_rfl) (by kernel_rfl) (by kernel_rfl) (fun _ _ _ h => h) (Or.inl ⟨by rfl, ?_⟩) hHeld ?_
  rotate_left
  · intro w' hSw; (try dsimp only at hSw); go_simp; try (with_reducible rfl)
  try simp only [sq]
  refine wpAnyH_take (i := 5) (v := ?_) rfl (by kernel_rfl) (by kernel_rfl) (by kernel_rfl) (fun _ _ _ h => h) (Or.inl ⟨by rfl, ?_⟩) hHeld ?_
  rotate_left
  · intro w' hSw; (try dsimp only at hSw); obtain ⟨⟨_, _, _, _⟩, _⟩ := cellk4 hSw; go_simp; try (with_reducible rfl)
  try simp only [sq]
  have hal : Below Z0.heap.size Z0 (Z0.alloc (.cells #[.int .i64 id, .bool gn, .int .i64 kd, .slice sa sn sc] 66)) := balloc (Below.refl _ _) _
  have gQ := new_alloc Z0 Z0.heap.size (.cells #[.int .i64 id, .bool gn, .int .i64 kd, .slice sa sn sc] 66) rfl
  have gRZ := keepheapA hal gR
  have gBZ := keepheapA hal gB
  have HOZ := hid (own_frame (w' := Z0.alloc (.cells #[.int .i64 id, .bool gn, .int .i64 kd, .slice sa sn sc] 66)) HO.out (fun k e => hal.block k (by simp [Value.ownBlock] at e; have := hB.size; omega)))
  have hBZ := btrans hB hal
  have hQg : Z0.heap.size ≠ g := by have := hB.size; omega
  have hQR : w.heap.size ≤ Z0.heap.size := hB.size
  have hZz : Z0.heap.size < (Z0.alloc (.cells #[.int .i64 id, .bool gn, .int .i64 kd, .slice sa sn sc] 66)).heap.size := by simp
  have hbZ : base ≤ (Z0.alloc (.cells #[.int .i64 id, .bool gn, .int .i64 kd, .slice sa sn sc] 66)).heap.size := by omega
  have hBg : B ≠ g := by have := HBE.out; omega
  have hBR : B ≠ R := by have := HBE.out; omega
  clear HO hal
  refine wpAnyH_ready (rs := [3, 6]) (by kernel_rfl) (by simp) ?_
  refine AllReadyH.cons rfl (fun K hK => ?_) (AllReadyH.cons rfl (fun K hK => ?_) AllReadyH.nil)
  · try simp only [sq]
    obtain ⟨⟨v0, v1, v2, v3, v4⟩, _⟩ := cell5g gR
    go_simp
    refine hK.out _ _ gB (fun hHeld => ?_)
    clear hK K v0 v1 v2 v3 v4 gR gB
    try simp only [sq]
    refine wpAnyH_ready (rs := [6]) (by kernel_rfl) (by simp) ?_
    refine AllReadyH.cons rfl (fun K hK => ?_) AllReadyH.nil
    try simp only [sq]
    go_simp
    refine hK.out _ _ gBZ (fun hHeld => ?_)
    clear hK K
    try simp only [sq]
    generalize Z0.alloc (.cells #[.int .i64 id, .bool gn, .int .i64 kd, .slice sa sn sc] 66) = Z at *
    generalize Z0.heap.size = Q at *
    refine wpAnyH_ready (rs := [7]) (by kernel_rfl) (by simp) ?_
    refine AllReadyH.cons rfl (fun K hK => ?_) AllReadyH.nil
    try simp only [sq]
    go_simp
    go_at_call 96
    refine (insE base g c n i Q 1 66 _ _ _ _ xs Z hn hi HOZ.out hbZ HX.out gQ hQg H1.out).mono ?_
    rintro e Y ⟨g', c', rfl, o1, o2, o3, o4⟩
    have HO2 := hid o1
    have gR2 := (o2.block R (by omega) (by simp; omega)).trans gRZ
    have gB2 := (o2.block B (lt_of_block gBZ) (by simp; omega)).trans gBZ
    have hg' : g' = g ∨ w.heap.size ≤ g' := by rcases o3 with q | q <;> omega
    have hg'R : g' ≠ R := by rcases o3 with q | q <;> omega
    have HB2 : Hid ((Y.os = w.os ∧ Y.tape = w.tape ∧ Y.output = w.output) ∧ w.heap.size ≤ Y.heap.size ∧ (∀ b, b < w.heap.size → b ≠ g → Y.heap[b]? = w.heap[b]?)) := hid ⟨⟨o2.os.trans hBZ.os, o2.tape.trans hBZ.tape, o2.output.trans hBZ.output⟩, by have := o2.size; have := hBZ.size; omega, fun b hb hne => (o2.block b (by have := hBZ.size; omega) (by simp; omega)).trans (hBZ.block b hb)⟩
    clear o1 o2 o3 HOZ gRZ gBZ gQ hBZ
    go_wp2_with fail
    refine hK.out _ _ ?_ (fun hHeld => ?_)
    · exact gB2
    clear hK K
    try simp only [sq]
    refine wpAnyH_take (i := 8) (v := ?_) rfl (by kernel_rfl) (by kernel_rfl) (by kernel_rfl) (fun _ _ _ h => h) (Or.inl ⟨by rfl, ?_⟩) hHeld ?_
    rotate_left
    · intro w' hSw; (try dsimp only at hSw); go_simp; try (with_reducible rfl)
    try simp only [sq]
    obtain ⟨⟨v0, v1, v2, v3, v4⟩, p0, p1, p2, p3, p4⟩ := cell5g gR2
    refine wpAnyH_ready (rs := [9]) (by kernel_rfl) (by simp) ?_
    refine AllReadyH.cons rfl (fun K hK => ?_) AllReadyH.nil
    try simp only [sq]
    go_simp
    refine hK.out _ _ ?_ (fun hHeld => ?_)
    · exact (Below.heap_setCell _ _ _ _ (by dsimp only; omega)).trans gB2
    clear hK K
    refine wpAnyH_done (by kernel_rfl) ?_ _
    go_wp2_with fail
    go_end0
    exact ⟨rfl, (HF.out Y g' c' HB2.out gR2 HO2.out hg' hg'R).2⟩
  · try simp only [sq]
    go_simp
    refine hK.out _ _ gBZ (fun hHeld => ?_)
    clear hK K gR gB
    try simp only [sq]
    generalize Z0.alloc (.cells #[.int .i64 id, .bool gn, .int .i64 kd, .slice sa sn sc] 66) = Z at *
    generalize Z0.heap.size = Q at *
    obtain ⟨⟨v0, v1, v2, v3, v4⟩, _⟩ := cell5g gRZ
    refine wpAnyH_ready (rs := [3]) (by kernel_rfl) (by simp) ?_
    refine AllReadyH.cons rfl (fun K hK => ?_) AllReadyH.nil
    try simp only [sq]
    go_simp
    refine hK.out _ _ gBZ (fun hHeld => ?_)
    clear hK K v0 v1 v2 v3 v4
    try simp only [sq]
    refine wpAnyH_ready (rs := [7]) (by kernel_rfl) (by simp) ?_
    refine AllReadyH.cons rfl (fun K hK => ?_) AllReadyH.nil
    try simp only [sq]
    go_simp
    go_at_call 96
    refine (insE base g c n i Q 1 66 _ _ _ _ xs Z hn hi HOZ.out hbZ HX.out gQ hQg H1.out).mono ?_
    rintro e Y ⟨g', c', rfl, o1, o2, o3, o4⟩
    have HO2 := hid o1
    have gR2 := (o2.block R (by omega) (by simp; omega)).trans gRZ
    have gB2 := (o2.block B (lt_of_block gBZ) (by simp; omega)).trans gBZ
    have hg' : g' = g ∨ w.heap.size ≤ g' := by rcases o3 with q | q <;> omega
    have hg'R : g' ≠ R := by rcases o3 with q | q <;> omega
    have HB2 : Hid ((Y.os = w.os ∧ Y.tape = w.tape ∧ Y.output = w.output) ∧ w.heap.size ≤ Y.heap.size ∧ (∀ b, b < w.heap.size → b ≠ g → Y.heap[b]? = w.heap[b]?)) := hid ⟨⟨o2.os.trans hBZ.os, o2.tape.trans hBZ.tape, o2.output.trans hBZ.output⟩, by have := o2.size; have := hBZ.size; omega, fun b hb hne => (o2.block b (by have := hBZ.size; omega) (by simp; omega)).trans (hBZ.block b hb)⟩
    clear o1 o2 o3 HOZ gRZ gBZ gQ hBZ
    go_wp2_with fail
    refine hK.out _ _ ?_ (fun hHeld => ?_)
    · exact gB2
    clear hK K
    try simp only [sq]
    refine wpAnyH_take (i := 8) (v := ?_) rfl (by kernel_rfl) (by kernel_rfl) (by kernel_rfl) (fun _ _ _ h => h) (Or.inl ⟨by rfl, ?_⟩) hHeld ?_
    rotate_left
    · intro w' hSw; (try dsimp only at hSw); go_simp; try (with_reducible rfl)
    try simp only [sq]
    obtain ⟨⟨v0, v1, v2, v3, v4⟩, p0, p1, p2, p3, p4⟩ := cell5g gR2
    refine wpAnyH_ready (rs := [9]) (by kernel_rfl) (by simp) ?_
    refine AllReadyH.cons rfl (fun K hK => ?_) AllReadyH.nil
    try simp only [sq]
    go_simp
    refine hK.out _ _ ?_ (fun hHeld => ?_)
    · exact (Below.heap_setCell _ _ _ _ (by dsimp only; omega)).trans gB2
    clear hK K
    refine wpAnyH_done (by kernel_rfl) ?_ _
    go_wp2_with fail
    go_end0
    exact ⟨rfl, (HF.out Y g' c' HB2.out gR2 HO2.out hg' hg'R).2⟩
end Go.Proofs.YtnajddjalagmoaaGreatDoor
