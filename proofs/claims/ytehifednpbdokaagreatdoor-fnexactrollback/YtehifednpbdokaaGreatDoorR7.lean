/- Texts of stores, joined: Zg, Zh, Zi, Pe, Xq, Vh, Sg, Sh, Xr, Pf. -/
import Derived.Test.YtehifednpbdokaaGreatDoorR6
import Derived.Test.YtehifednpbdokaaGreatDoorR5
import Derived.Test.YtehifednpbdokaaGreatDoorR1
import Derived.Test.YtehifednpbdokaaGreatDoorR3
namespace Go.Proofs.YtehifednpbdokaaGreatDoor
open Go.RowKit
set_option linter.unusedSimpArgs false
set_option linter.unusedVariables false
/-- Of what was there only blocks from lo on below hi have turned, and none from p on below q. -/
def MidH (lo hi p q : Nat) (w w' : World) : Prop := Mid lo hi w w' ∧ ∀ k, k < w.heap.size → p ≤ k → k < q → w'.heap[k]? = w.heap[k]?
theorem midh_refl (lo hi p q : Nat) (w : World) : MidH lo hi p q w w := ⟨mid_refl _ _ _, fun _ _ _ _ => rfl⟩
theorem midh_trans {lo hi p q : Nat} {a b c : World} (h : MidH lo hi p q a b) (k : MidH lo hi p q b c) : MidH lo hi p q a c :=
  ⟨mid_trans h.1 k.1, fun x hx h1 h2 => (k.2 x (Nat.lt_of_lt_of_le hx h.1.2.2.2.1) h1 h2).trans (h.2 x hx h1 h2)⟩
theorem midh_set {lo hi p q b k : Nat} {w w1 : World} (h : MidH lo hi p q w w1) (h1 : lo ≤ b) (h2 : b < hi) (h3 : b < p ∨ q ≤ b) (u : Value) : MidH lo hi p q w (w1.setCell ⟨b, k, none⟩ u) :=
  ⟨mid_set h.1 h1 h2 u, fun x hx e1 e2 => by rw [Below.heap_setCell _ _ _ _ (by dsimp only; omega)]; exact h.2 x hx e1 e2⟩
theorem midh_wide {lo hi p q l u : Nat} {w w' : World} (h : Mid l u w w') (h1 : lo ≤ l) (h2 : u ≤ hi) (h3 : u ≤ p ∨ q ≤ l) : MidH lo hi p q w w' :=
  ⟨mid_wide h h1 h2, fun x hx e1 e2 => mid_blk h hx (by omega)⟩
/-- A list in memory of its own, cell by cell, none of it in the hole from p on below q. -/
def LCH {α : Type} (K : Kd α) (base hi p q : Nat) (w : World) (v : Value) (xs : List α) : Prop :=
  hi ≤ w.heap.size ∧ ((xs = [] ∧ v = .slice none 0 0) ∨ ∃ (g cap : Nat) (ss : Nat → Value) (lo up : Nat → Nat), v = .slice (some ⟨g, 0, none⟩) xs.length cap ∧ xs.length ≤ cap ∧ base ≤ g ∧ g < hi ∧ w.there g 0 (xs.length * K.sz) ∧
  (∀ j (h : j < xs.length), ElX K w g j xs[j] (ss j) (lo j) (up j) ∧ base ≤ lo j ∧ up j ≤ hi ∧ (g < lo j ∨ up j ≤ g)) ∧ (∀ i j, i ≠ j → i < xs.length → j < xs.length → up i ≤ lo j ∨ up j ≤ lo i) ∧ (g < p ∨ q ≤ g) ∧ (∀ j, j < xs.length → up j ≤ p ∨ q ≤ lo j))
theorem LCH.lc {α : Type} {K : Kd α} {base hi p q : Nat} {w : World} {v : Value} {xs : List α} (h : LCH K base hi p q w v xs) : LC K base hi w v xs := by
  obtain ⟨h0, h | ⟨g, cap, ss, lo, up, h1, h2, h3, h4, h5, h6, h7, _, _⟩⟩ := h
  · exact ⟨h0, .inl h⟩
  · exact ⟨h0, .inr ⟨g, cap, ss, lo, up, h1, h2, h3, h4, h5, h6, h7⟩⟩
theorem LC.hole {α : Type} {K : Kd α} {base hi p q : Nat} {w : World} {v : Value} {xs : List α} (h : LC K base hi w v xs) (hd : hi ≤ p ∨ q ≤ base) : LCH K base hi p q w v xs := by
  obtain ⟨h0, h | ⟨g, cap, ss, lo, up, h1, h2, h3, h4, h5, h6, h7⟩⟩ := h
  · exact ⟨h0, .inl h⟩
  · exact ⟨h0, .inr ⟨g, cap, ss, lo, up, h1, h2, h3, h4, h5, h6, h7, by omega, fun j hj => by have := (h6 j hj).2; omega⟩⟩
/-- It stands where only the hole has turned. -/
theorem LCH.frame {α : Type} {K : Kd α} {base hi p q : Nat} {w w' : World} {v : Value} {xs : List α} (h : LCH K base hi p q w v xs) (hb : ∀ c, base ≤ c → c < hi → (c < p ∨ q ≤ c) → w'.heap[c]? = w.heap[c]?) (hs : w.heap.size ≤ w'.heap.size) : LCH K base hi p q w' v xs := by
  obtain ⟨h0, h | ⟨g, cap, ss, lo, up, h1, h2, h3, h4, h5, h6, h7, h8, h9⟩⟩ := h
  · exact ⟨by omega, .inl h⟩
  · have eg := hb g h3 h4 h8
    refine ⟨by omega, .inr ⟨g, cap, ss, lo, up, h1, h2, h3, h4, fun j hj => ?_, fun j hj => ?_, h7, h8, h9⟩⟩
    · obtain ⟨s1, s2⟩ := h5 j hj
      simp only [World.cell?, World.frozen?, eg]; exact ⟨s1, s2⟩
    · obtain ⟨a1, a2, a3, a4⟩ := h6 j hj
      have a5 := h9 j hj
      exact ⟨a1.blk eg (fun c c1 c2 => hb c (by omega) (by omega) (by omega)) hs, a2, a3, a4⟩
theorem LCH.below {α : Type} {K : Kd α} {base hi p q : Nat} {w w' : World} {v : Value} {xs : List α} (h : LCH K base hi p q w v xs) (H : Below w.heap.size w w') : LCH K base hi p q w' v xs :=
  h.frame (fun c _ h2 _ => H.block c (by have := h.1; omega)) H.size
set_option maxRecDepth 100000 in
set_option maxHeartbeats 4000000 in
theorem mark_txsH (base hi p q : Nat) (v : Value) (xs : List Tx) (k0 : Int) (w : World) (hs : txS xs) (h0 : 0 ≤ k0) (h1 : k0 ≤ 2000000000000000000) (h : LCH KT base hi p q w v xs) : Calls Tryz.prog 44 #[v, .int .i64 k0] w fun e w' => e = .returned (.int .i64 (kkt k0 xs xs.length)) ∧ LCH KT base hi p q w' v (mks k0 xs) ∧ MidH base hi p q w w' := by
  obtain ⟨hih, h⟩ := h
  rcases h with ⟨rfl, rfl⟩ | ⟨g, cap, ss, lo, up, rfl, hcap, hbg, hgh, hth, hel, hd, hgp, hsp⟩
  · go_enter Tryz.func44, Tryz.ntmps44
    go_wp2_with fail
    go_loopw [1, 5] (fun tk' ti wr => tk' = .int .i64 k0 ∧ ti = .int .i64 0 ∧ wr = w) (fun _ _ _ => 0)
    case atStart => exact ⟨rfl, rfl, rfl⟩
    case round =>
      obtain ⟨rfl, rfl, rfl⟩ := hrel
      go_wp2_with fail
      go_ret
      exact ⟨by simp [kkt, ktn], ⟨hih, .inl ⟨by simp [mks], rfl⟩⟩, midh_refl _ _ _ _ _⟩
  have HL := hid hs.2
  have hm := hs.1
  have HE := hid (fun j hj => (hel j hj).1)
  have HC := hid (fun j hj => (hel j hj).2)
  have HD := hid hd
  have HSP := hid hsp
  have HK := hid (kkt_bound (k0 := k0) hs.2)
  clear hs hel hd hsp
  obtain ⟨n, hn⟩ : ∃ n, n = xs.length := ⟨_, rfl⟩
  have HN := hid hn.symm
  rw [← hn] at hm hth hcap ⊢
  have HTT := hid hth
  have HF : Hid (∀ (W : World) (q' : Int), q' = kkt k0 xs n → MidH base hi p q w W → W.there g 0 (n * 3) → (∀ i (h : i < xs.length), i < n → ElX KT W g i (mkt (kkt k0 xs i) xs[i]) (ss i) (lo i) (up i)) → (Ending.returned (.int .i64 q') = .returned (.int .i64 (kkt k0 xs n)) ∧ LCH KT base hi p q W (.slice (some ⟨g, 0, none⟩) n cap) (mks k0 xs))) := hid (fun W q' hq hM hT h => ⟨by rw [hq], by
    refine ⟨Nat.le_trans hih hM.1.2.2.2.1, .inr ⟨g, cap, ss, lo, up, by rw [mks_len, ← hn], by rw [mks_len, ← hn]; exact hcap, hbg, hgh, by rw [mks_len, ← hn]; exact hT, fun j hj => ?_, fun i j hne hi' hj => ?_, hgp, fun j hj => by rw [mks_len] at hj; exact HSP.out j hj⟩⟩
    · have hj' := hj
      rw [mks_len] at hj'
      rw [mks_at hj']
      exact ⟨h j hj' (by omega), HC.out j hj'⟩
    · rw [mks_len] at hi' hj
      exact HD.out i j hne hi' hj⟩)
  clear hth hcap hn
  have hmid0 := midh_refl base hi p q w
  have hgw : g < w.heap.size := by omega
  go_enter Tryz.func44, Tryz.ntmps44
  go_wp2_with fail
  go_loopw [1, 5] (fun tk' ti wr => ∃ j : Nat, ∃ k : Int, ti = .int .i64 j ∧ tk' = .int .i64 k ∧ j ≤ n ∧ Hid (k = kkt k0 xs j) ∧ Hid (MidH base hi p q w wr) ∧ Hid (wr.there g 0 (n * 3)) ∧ Hid (∀ i (h : i < xs.length), i < j → ElX KT wr g i (mkt (kkt k0 xs i) xs[i]) (ss i) (lo i) (up i)) ∧ Hid (∀ i (h : i < xs.length), j ≤ i → ElX KT wr g i xs[i] (ss i) (lo i) (up i))) (fun _ ti _ => n - (intOf ti).toNat)
  case atStart => exact ⟨0, k0, rfl, rfl, Nat.zero_le _, hid (by simp [kkt, ktn]), hid hmid0, HTT, hid (fun i h hh => absurd hh (by omega)), hid (fun i h _ => HE.out i h)⟩
  case round =>
    clear hmid0
    obtain ⟨j, k, rfl, rfl, hj, HKJ, HM, HT, HA, HZ⟩ := hrel
    by_cases hlt : j < n
    · have c1 : (j : Int) < (n : Int) := by omega
      have hjr : j < xs.length := by rw [HN.out]; exact hlt
      obtain ⟨hk0, hk1⟩ := HK.out j (by omega)
      rw [← HKJ.out] at hk0 hk1
      have hk2 : k ≤ 4400000000000000000 := by omega
      have hk3 : 0 ≤ k := by omega
      have HKN := hid (kkt_next (k0 := k0) hjr)
      rw [← HKJ.out] at HKN
      obtain ⟨zc, zs⟩ := HZ.out j hjr (Nat.le_refl _)
      obtain ⟨hcb, hch, hcg⟩ := HC.out j hjr
      have hws := HM.out.1.2.2.2.1
      have hcs := HL.out j hjr
      have HMK : Hid (∀ W, (∀ t, t < 3 → W.cell? ⟨g, j * 3 + t, none⟩ = ([.int .i64 k, .bool ((k + 1) % 3 == 0), ss j] : List Value)[t]?) → LC KC (lo j) (up j) W (ss j) (mkc (k + 2) xs[j].2.2) → ElX KT W g j (mkt (kkt k0 xs j) xs[j]) (ss j) (lo j) (up j)) := hid (fun W h1 h2 => by
        rw [← HKJ.out]
        exact ⟨h1, h2⟩)
      have ZS : Hid (LC KC (lo j) (up j) wr (ss j) xs[j].2.2) := hid zs
      clear zs
      generalize hps : xs[j].2.2 = cs at *
      clear hps
      obtain ⟨sv, hsv⟩ : ∃ sv, sv = ss j := ⟨_, rfl⟩
      have HSJ := hid hsv
      rw [← hsv] at zc HMK ZS
      clear hsv
      have hut := ZS.out.1
      have q3 := zc 2 (by decide)
      simp only [KT, List.getElem?_cons_succ, List.getElem?_cons_zero] at q3
      have HDJ : Hid (∀ i, i < xs.length → i ≠ j → up i ≤ lo j ∨ up j ≤ lo i) := hid (fun i hi' hne => HD.out i j hne hi' hjr)
      obtain ⟨u0, z0, y0⟩ := there_at HT.out (show j * 3 < n * 3 by omega)
      obtain ⟨u1, z1, y1⟩ := there_at HT.out (show j * 3 + 1 < n * 3 by omega)
      have z1' : ∀ a0, (wr.setCell ⟨g, j * 3, none⟩ a0).cell? ⟨g, j * 3 + 1, none⟩ = some u1 := fun a0 => by rw [World.cell?_setCell_other _ _ _ _ (by simp)]; exact z1
      have y1' : ∀ a0, (wr.setCell ⟨g, j * 3, none⟩ a0).frozen? ⟨g, j * 3 + 1, none⟩ = false := fun a0 => by rw [World.frozen?_setCell]; exact y1
      have zl' : ∀ a0 a1, ((wr.setCell ⟨g, j * 3, none⟩ a0).setCell ⟨g, j * 3 + 1, none⟩ a1).cell? ⟨g, j * 3 + 2, none⟩ = some sv := fun a0 a1 => by rw [World.cell?_setCell_other _ _ _ _ (by simp), World.cell?_setCell_other _ _ _ _ (by simp)]; exact q3
      have HM3 := hid (fun a0 a1 => (midh_set (midh_set (HM.out) hbg hgh hgp a0) hbg hgh hgp a1 : MidH base hi p q w ((wr.setCell ⟨g, j * 3, none⟩ a0).setCell ⟨g, j * 3 + 1, none⟩ a1)))
      have HT3 := hid (fun a0 a1 => (there_set (there_set (HT.out) a0) a1 : ((wr.setCell ⟨g, j * 3, none⟩ a0).setCell ⟨g, j * 3 + 1, none⟩ a1).there g 0 (n * 3)))
      have HA3 : Hid (∀ a0 a1 i (h : i < xs.length), i < j → ElX KT ((wr.setCell ⟨g, j * 3, none⟩ a0).setCell ⟨g, j * 3 + 1, none⟩ a1) g i (mkt (kkt k0 xs i) xs[i]) (ss i) (lo i) (up i)) := hid (fun a0 a1 i h h1 => (((HA.out i h h1).set (HC.out i h).2.2 (by show _ < i * 3 ∨ i * 3 + 3 ≤ _; omega) a0).set (HC.out i h).2.2 (by show _ < i * 3 ∨ i * 3 + 3 ≤ _; omega) a1))
      have HZ3 : Hid (∀ a0 a1 i (h : i < xs.length), j + 1 ≤ i → ElX KT ((wr.setCell ⟨g, j * 3, none⟩ a0).setCell ⟨g, j * 3 + 1, none⟩ a1) g i xs[i] (ss i) (lo i) (up i)) := hid (fun a0 a1 i h h1 => (((HZ.out i h (by omega)).set (HC.out i h).2.2 (by show _ < i * 3 ∨ i * 3 + 3 ≤ _; omega) a0).set (HC.out i h).2.2 (by show _ < i * 3 ∨ i * 3 + 3 ≤ _; omega) a1))
      have x0 : ∀ a0 a1, ((wr.setCell ⟨g, j * 3, none⟩ a0).setCell ⟨g, j * 3 + 1, none⟩ a1).cell? ⟨g, j * 3, none⟩ = some a0 := fun a0 a1 => by rw [World.cell?_setCell_other _ _ _ _ (by simp)]; exact World.cell?_setCell_same _ _ _ z0
      have x1 : ∀ a0 a1, ((wr.setCell ⟨g, j * 3, none⟩ a0).setCell ⟨g, j * 3 + 1, none⟩ a1).cell? ⟨g, j * 3 + 1, none⟩ = some a1 := fun a0 a1 => by exact World.cell?_setCell_same _ _ _ (z1' a0)
      have HX := hid (fun a0 a1 => (⟨x0 a0 a1, x1 a0 a1, zl' a0 a1⟩ : ((wr.setCell ⟨g, j * 3, none⟩ a0).setCell ⟨g, j * 3 + 1, none⟩ a1).cell? ⟨g, j * 3, none⟩ = some a0 ∧ ((wr.setCell ⟨g, j * 3, none⟩ a0).setCell ⟨g, j * 3 + 1, none⟩ a1).cell? ⟨g, j * 3 + 1, none⟩ = some a1 ∧ ((wr.setCell ⟨g, j * 3, none⟩ a0).setCell ⟨g, j * 3 + 1, none⟩ a1).cell? ⟨g, j * 3 + 2, none⟩ = some sv))
      have HP3 := hid (fun a0 a1 => (ZS.out.frame (fun q q1 q2 => by rw [Below.heap_setCell _ _ _ _ (by dsimp only; omega), Below.heap_setCell _ _ _ _ (by dsimp only; omega)]) (by simp) : LC KC (lo j) (up j) ((wr.setCell ⟨g, j * 3, none⟩ a0).setCell ⟨g, j * 3 + 1, none⟩ a1) sv cs))
      have HSZ := hid (fun a0 a1 => (by simp only [World.size_setCell] : ((wr.setCell ⟨g, j * 3, none⟩ a0).setCell ⟨g, j * 3 + 1, none⟩ a1).heap.size = wr.heap.size))
      clear ZS zc
      clear HM HT HA HZ q3 z1 y1 x0 x1
      go_wp2_with fail
      refine (mark_chsX (lo j) (up j) sv cs (k + 1 + 1) _ hcs (by omega) (by omega) (HP3.out _ _)).mono ?_
      rintro e w1 ⟨rfl, hp1, hg⟩
      have hsz1 := hg.2.2.2.1
      rw [HSZ.out] at hsz1
      have HM5 := hid (midh_trans (HM3.out (.int .i64 k) (.bool ((k + 1) % 3 == 0))) (midh_wide hg hcb hch (HSP.out j hjr)))
      have hbg1 := mid_blk hg (c := g) (by rw [HSZ.out]; omega) hcg
      have HT5 : Hid (w1.there g 0 (n * 3)) := hid (fun i hi' => by
        obtain ⟨s1, s2⟩ := HT3.out (.int .i64 k) (.bool ((k + 1) % 3 == 0)) i hi'
        simp only [World.cell?, World.frozen?, hbg1]; exact ⟨s1, s2⟩)
      have HA5 : Hid (∀ i (h : i < xs.length), i < j + 1 → ElX KT w1 g i (mkt (kkt k0 xs i) xs[i]) (ss i) (lo i) (up i)) := hid (fun i h h1 => by
        by_cases e : i = j
        · subst e
          obtain ⟨s0, s1, s2⟩ := HX.out (.int .i64 k) (.bool ((k + 1) % 3 == 0))
          rw [← HSJ.out]
          refine HMK.out w1 (fun t ht => ?_) (by rw [show k + 2 = k + 1 + 1 by omega]; exact hp1)
          rcases (show t = 0 ∨ t = 1 ∨ t = 2 by omega) with e | e | e <;> subst e
          · exact mid_cell hg s0 hcg
          · exact mid_cell hg s1 hcg
          · exact mid_cell hg s2 hcg
        · exact (HA3.out (.int .i64 k) (.bool ((k + 1) % 3 == 0)) i h (by omega)).mid hg (by rw [HSZ.out]; omega) hcg (HDJ.out i h e))
      have HZ5 : Hid (∀ i (h : i < xs.length), j + 1 ≤ i → ElX KT w1 g i xs[i] (ss i) (lo i) (up i)) := hid (fun i h h1 => (HZ3.out (.int .i64 k) (.bool ((k + 1) % 3 == 0)) i h h1).mid hg (by rw [HSZ.out]; omega) hcg (HDJ.out i h (by omega)))
      have HK5 : Hid (kkc (k + 1 + 1) cs cs.length = kkt k0 xs (j + 1)) := hid (by rw [HKN.out, show k + 2 = k + 1 + 1 by omega])
      clear hg hp1 HM3 HT3 HA3 HZ3 HX HP3 HSZ zl' z1' y1' hbg1
      obtain ⟨kq0, kq1⟩ := kkc_bound (k0 := k + 1 + 1) hcs.2 cs.length (Nat.le_refl _)
      generalize kkc (k + 1 + 1) cs cs.length = kq at *
      go_wp2_with fail
      go_roundw
      case rel => exact ⟨j + 1, _, by go_num, rfl, by omega, HK5, HM5, HT5, HA5, HZ5⟩
      case measure => simp [intOf]; omega
    · obtain rfl : j = n := by omega
      have c1 : (j : Int) ≤ (j : Int) := by omega
      go_wp2_with fail
      go_ret
      obtain ⟨e1, e2⟩ := HF.out wr k HKJ.out HM.out HT.out HA.out
      exact ⟨e1, e2, HM.out⟩
set_option maxRecDepth 100000 in
set_option maxHeartbeats 1000000 in
theorem mark_storeH (b1 u1 b2 u2 lo hi : Nat) (now : Int) (a ta : Option Addr) (cap tcap : Nat) (rs : List Rw) (ts : List Tx) (w : World) (hr : rwS rs) (ht : txS ts) (e1 : lo ≤ b1) (e2 : u1 ≤ hi) (e3 : lo ≤ b2) (e4 : u2 ≤ hi) (e6 : hi ≤ w.heap.size) (h1 : LC KR b1 u1 w (.slice a rs.length cap) rs) (h2 : LCH KT b2 u2 b1 u1 w (.slice ta ts.length tcap) ts) : Calls Tryz.prog 14 #[.agg #[.int .i64 now, .slice a rs.length cap, .slice ta ts.length tcap], .int .i64 1] w fun e w' => e = .returned (.int .i64 (kst rs ts)) ∧ LC KR b1 u1 w' (.slice a rs.length cap) (mkr 1 rs) ∧ LC KT b2 u2 w' (.slice ta ts.length tcap) (mks (kkr 1 rs rs.length) ts) ∧ Mid lo hi w w' := by
  have H1 := hid h1
  have H2 := hid h2
  obtain ⟨⟨p1, p2⟩, p3⟩ := kst_pos hr ht
  have HM := hid (fun w' (h : LC KR b1 u1 w' (.slice a rs.length cap) rs) => mark_rwsX b1 u1 (.slice a rs.length cap) rs 1 w' hr (by omega) (by omega) h)
  have HT := hid (fun w' (h : LCH KT b2 u2 b1 u1 w' (.slice ta ts.length tcap) ts) => mark_txsH b2 u2 b1 u1 (.slice ta ts.length tcap) ts (kkr 1 rs rs.length) w' ht (by omega) (by omega) h)
  have HKS : Hid (kkt (kkr 1 rs rs.length) ts ts.length = kst rs ts) := hid rfl
  rw [HKS.out] at HT
  clear h1 h2 HKS
  generalize kst rs ts = ks at *
  generalize kkr 1 rs rs.length = kr at *
  go_enter Tryz.func14, Tryz.ntmps14
  go_wp2_with fail
  have gS := new_alloc w w.heap.size (.cells #[.int .i64 now, .slice a rs.length cap, .slice ta ts.length tcap] 39) rfl
  have hal : Below w.heap.size w (w.alloc (.cells #[.int .i64 now, .slice a rs.length cap, .slice ta ts.length tcap] 39)) := balloc (Below.refl _ _) _
  have hwz : w.heap.size < (w.alloc (.cells #[.int .i64 now, .slice a rs.length cap, .slice ta ts.length tcap] 39)).heap.size := by simp
  replace H1 := hid (H1.out.below hal)
  replace H2 := hid (H2.out.below hal)
  have HMB := hid (mid_below (lo := lo) (hi := hi) hal)
  clear hal
  generalize w.alloc (.cells #[.int .i64 now, .slice a rs.length cap, .slice ta ts.length tcap] 39) = W at *
  refine (markRowsX_of _ now a cap rs kr b1 u1 (HM.out) H1.out).mono ?_
  rintro e y ⟨rfl, r1, m1⟩
  have g1 : y.heap[w.heap.size]? = _ := (mid_blk m1 hwz (by omega)).trans gS
  have R1 := hid r1
  have HM1 := hid m1
  replace H2 := hid (H2.out.frame (fun c c1 c2 c3 => mid_blk m1 (by have := H2.out.1; omega) c3) m1.2.2.2.1)
  obtain ⟨⟨x0, x1, x2⟩, _⟩ := cellk3 g1
  clear r1 m1 g1 gS
  go_wp2_with fail
  refine (HT.out _ H2.out).mono ?_
  rintro e z ⟨rfl, r2, m2⟩
  have R2 := hid r2
  have R3 := hid (R1.out.frame (fun c c1 c2 => m2.2 c (by have := R1.out.1; omega) c1 c2) m2.1.2.2.2.1)
  have HM3 := hid (mid_trans (mid_trans HMB.out (mid_wide HM1.out e1 e2)) (mid_wide m2.1 e3 e4))
  clear r2 m2
  go_wp2_with fail
  go_ret
  exact ⟨rfl, R3.out, R2.out.lc, HM3.out⟩
end Go.Proofs.YtehifednpbdokaaGreatDoor
namespace Go.Proofs.YtehifednpbdokaaGreatDoor
open Go.RowKit
set_option linter.unusedSimpArgs false
set_option linter.unusedVariables false
/-- A list as the call makes it; what its elements hold lies below r. -/
def LXr {α : Type} (K : Kd α) (t : TypeId) (base hi r : Nat) (w : World) (v : Value) (xs : List α) (ps : List (α × Value)) : Prop :=
  ps.map Prod.fst = xs ∧ w.ownsRow base t K.sz v xs.length (flatK K ps) ∧ (∀ g, v.ownBlock = some g → g < hi) ∧ hi ≤ w.heap.size ∧ r ≤ hi ∧
  ∃ lo up : Nat → Nat, (∀ j (h : j < ps.length), K.sub (lo j) (up j) w ps[j].2 ps[j].1 ∧ base ≤ lo j ∧ up j ≤ r ∧ (∀ g, v.ownBlock = some g → g < lo j ∨ up j ≤ g)) ∧ (∀ i j, i < j → j < ps.length → up i ≤ lo j)
theorem LXr.lch {α : Type} {K : Kd α} {t : TypeId} {base hi r p q : Nat} {w : World} {v : Value} {xs : List α} {ps : List (α × Value)} (h : LXr K t base hi r w v xs ps) (hrp : r ≤ p) (hgq : ∀ g, v.ownBlock = some g → g < p ∨ q ≤ g) : LCH K base hi p q w v xs := by
  have hpl : ps.length = xs.length := by have := congrArg List.length h.1; simpa using this
  obtain ⟨h1, h2, h3, h4, hrh, lo, up, h5, h6⟩ := h
  refine ⟨h4, ?_⟩
  have h2' := h2
  rcases h2.2 with ⟨qq, hn⟩ | ⟨g, cap, cur, rfl, hb, hg, hc, _⟩
  · left
    exact ⟨List.length_eq_zero_iff.1 hn, qq⟩
  · right
    refine ⟨g, cap, fun j => if h : j < ps.length then (ps[j]'h).2 else .bool false, lo, up, rfl, hc, hb, h3 g rfl, fun j hj => ?_, fun j hj => ?_, fun i j hne hi' hj => (Nat.lt_or_gt_of_ne hne).elim (fun q => .inl (h6 i j q (by omega))) (fun q => .inr (h6 j i q (by omega))), hgq g rfl, fun j hj => .inl (by have := (h5 j (by omega)).2.2.1; omega)⟩
    · simp only [Nat.zero_add]
      refine ⟨?_, World.ownsRow.frozenAt h2' j⟩
      rw [World.ownsRow.cellAt h2' j hj, List.getElem?_eq_getElem (by rw [flatK_len, hpl]; exact hj)]
      rfl
    · have hjp : j < ps.length := by omega
      obtain ⟨a1, a2, a3, a4⟩ := h5 j hjp
      have ex : xs[j] = (ps[j]).1 := by
        have : xs[j]? = (ps.map Prod.fst)[j]? := by rw [h1]
        rw [List.getElem?_map, List.getElem?_eq_getElem hj, List.getElem?_eq_getElem hjp] at this
        exact Option.some.inj this
      simp only [dif_pos hjp, ex]
      refine ⟨⟨fun t ht => ?_, a1⟩, a2, by omega, a4 g rfl⟩
      have hlt : j * K.sz + t < xs.length * K.sz := by
        have : (j + 1) * K.sz ≤ xs.length * K.sz := Nat.mul_le_mul_right _ (by omega)
        rw [Nat.succ_mul] at this
        omega
      rw [World.ownsRow.cellAt h2' _ hlt, flatX_at K ps j t hjp ht]
theorem LX.snocR {α : Type} {K : Kd α} {t : TypeId} {base hi : Nat} {W w' : World} {v : Value} {xs : List α} {ps : List (α × Value)} {x : α} {sv : Value} {l u g cap : Nat} (h : LX K t base hi W v xs ps) (hl : hi ≤ l) (hlu : l ≤ u) (hbl : base ≤ l) (hsub : K.sub l u W sv x)
    (hown : w'.ownsRow base t K.sz (.slice (some ⟨g, 0, none⟩) (xs.length + 1) cap) (xs.length + 1) (flatK K ps ++ K.vals x sv)) (hg : W.grownBy w' v.ownBlock) (hat : v.ownBlock = some g ∨ g = W.heap.size) (hlt : g < w'.heap.size) :
    LXr K t base w'.heap.size u w' (.slice (some ⟨g, 0, none⟩) (xs.length + 1) cap) (xs ++ [x]) (ps ++ [(x, sv)]) := by
  have hpl := h.plen
  obtain ⟨h1, h2, h3, h4, lo, up, h5, h6⟩ := h
  have hu := K.top hsub
  have hsz := hg.size
  have hfr : ∀ c, c < W.heap.size → v.ownBlock ≠ some c → w'.heap[c]? = W.heap[c]? := fun c hc hne => hg.block c hc (fun e => hne e.symm)
  refine ⟨by simp [h1], by rw [flatK_snoc, List.length_append]; exact hown, fun g' e => by simp [Value.ownBlock] at e; omega, Nat.le_refl _, by omega, fun j => if j = ps.length then l else lo j, fun j => if j = ps.length then u else up j, fun j hj => ?_, fun i j hij hj => ?_⟩
  · by_cases e : j = ps.length
    · subst e
      simp only [if_true]
      have er : (ps ++ [(x, sv)])[ps.length]'(by simp) = (x, sv) := by simp
      rw [er]
      refine ⟨K.frame hsub (fun c c1 c2 => hfr c (by omega) (fun e => by have := h3 c e; omega)) hsz, hbl, by omega, fun g' e => ?_⟩
      simp [Value.ownBlock] at e
      rcases hat with q | q
      · have := h3 g q; omega
      · omega
    · have hjl : j < ps.length := by simp at hj; omega
      simp only [if_neg e]
      have er : (ps ++ [(x, sv)])[j]'(by simpa using hj) = ps[j] := by rw [List.getElem_append_left hjl]
      rw [er]
      obtain ⟨a1, a2, a3, a4⟩ := h5 j hjl
      refine ⟨K.frame a1 (fun c c1 c2 => hfr c (by omega) (fun e => by have := a4 c e; omega)) hsz, a2, by omega, fun g' e => ?_⟩
      simp [Value.ownBlock] at e
      rcases hat with q | q
      · have := a4 g q; omega
      · omega
  · have hil : i < ps.length := by simp at hj; omega
    simp only [if_neg (show i ≠ ps.length by omega)]
    by_cases e : j = ps.length
    · simp only [if_pos e]
      obtain ⟨_, _, a3, _⟩ := h5 i hil
      omega
    · simp only [if_neg e]
      exact h6 i j hij (by simp at hj; omega)
theorem LX.setAtR {α : Type} {K : Kd α} {t : TypeId} {base hi : Nat} {W w' : World} {c : Nat} {xs : List α} {ps : List (α × Value)} {x : α} {sv : Value} {i g g' c' : Nat} (h : LX K t base hi W (.slice (some ⟨g, 0, none⟩) xs.length c) xs ps) (hi' : i < xs.length)
    (hsub : ∀ lo up, up ≤ w'.heap.size → K.sub lo up w' sv x)
    (hown : w'.ownsRow base t K.sz (.slice (some ⟨g', 0, none⟩) xs.length c') xs.length ((flatK K ps).take (i * K.sz) ++ K.vals x sv ++ (flatK K ps).drop (i * K.sz + K.sz))) (hg : W.grownBy w' (some g)) (hat : g = g' ∨ g' = W.heap.size) (hlt : g' < w'.heap.size) :
    LXr K t base w'.heap.size hi w' (.slice (some ⟨g', 0, none⟩) xs.length c') (xs.set i x) (ps.set i (x, sv)) := by
  have hpl := h.plen
  obtain ⟨h1, h2, h3, h4, lo, up, h5, h6⟩ := h
  have hgs := hg.size
  refine ⟨by rw [List.map_set, h1], ?_, fun q e => by simp [Value.ownBlock] at e; omega, Nat.le_refl _, by omega, lo, up, fun j hj => ?_, fun a b hab hb => h6 a b hab (by simpa using hb)⟩
  · rw [List.length_set, flatK_set K (x, sv) ps i (by omega)]; exact hown
  · have hj' : j < ps.length := by simpa using hj
    obtain ⟨a1, a2, a3, a4⟩ := h5 j hj'
    have a4' := a4 g rfl
    have hgg := h3 g rfl
    have hfr : ∀ q, lo j ≤ q → q < up j → w'.heap[q]? = W.heap[q]? := fun q q1 q2 => hg.block q (by omega) (fun e => by cases e; omega)
    refine ⟨?_, a2, by omega, fun q e => ?_⟩
    · by_cases e : i = j
      · subst e
        rw [List.getElem_set_self]
        exact hsub _ _ (by omega)
      · rw [List.getElem_set_ne e]
        exact K.frame a1 hfr hgs
    · simp [Value.ownBlock] at e
      subst e
      rcases hat with e | e
      · subst e; exact a4'
      · right; omega
end Go.Proofs.YtehifednpbdokaaGreatDoor
namespace Go.Proofs.YtehifednpbdokaaGreatDoor
open Go.RowKit
set_option linter.unusedSimpArgs false
set_option linter.unusedVariables false
set_option maxRecDepth 100000 in
set_option maxHeartbeats 4000000 in
theorem spec_copyStoreL (now : Int) (B D tc : Nat) (rs : List Rw) (ts : List Tx) (w : World) (hm : rs.length ≤ 1099511627776) (htm : ts.length ≤ 1099511627776) (hr : RwsS w B rs) (ht : TxsS w D ts) : Calls Tryz.prog 52 #[.agg #[.int .i64 now, .slice (some ⟨B, 0, none⟩) rs.length rs.length, .slice (some ⟨D, 0, none⟩) ts.length tc]] w fun e w' => ∃ a c ta tcc b1 u1 b2 u2, e = .returned (.agg #[.int .i64 now, .slice a rs.length c, .slice ta ts.length tcc]) ∧ (LC KR b1 u1 w' (.slice a rs.length c) rs ∧ ∃ px, LX KT 84 b2 u2 w' (.slice ta ts.length tcc) ts px) ∧ u1 ≤ b2 ∧ b2 ≤ u2 ∧ w.heap.size ≤ b1 ∧ w.heap.size ≤ b2 ∧ Below w.heap.size w w' := by
  obtain ⟨i0, hi0, hz0, hz1, hz2⟩ := info_parts Tryz.infoTx
  have HR := hid (fun (W : World) (hb : Below w.heap.size w W) => spec_copyRows now B rs W hm (hr.below hb))
  have HTS := hid ht
  clear hr ht
  unfold VR at HR
  generalize hnr : rs.length = nr at *
  have HNR := hid hnr
  obtain ⟨nt, hnt⟩ : ∃ nt, nt = ts.length := ⟨_, rfl⟩
  have HNT := hid hnt.symm
  rw [← hnt] at htm ⊢
  clear hnr hnt
  have hB : Below w.heap.size w ((w.alloc (.cells #[.int .i64 now, .slice (some ⟨B, 0, none⟩) nr nr, .slice (some ⟨D, 0, none⟩) nt tc] 39)).alloc (.cells #[.int .i64 0, .slice none 0 0, .slice none 0 0] 39)) := balloc (balloc (Below.refl _ _) _) _
  have g0 := old_alloc (o' := .cells #[.int .i64 0, .slice none 0 0, .slice none 0 0] 39) (new_alloc w w.heap.size (.cells #[.int .i64 now, .slice (some ⟨B, 0, none⟩) nr nr, .slice (some ⟨D, 0, none⟩) nt tc] 39) rfl)
  have g1 := new_alloc (w.alloc (.cells #[.int .i64 now, .slice (some ⟨B, 0, none⟩) nr nr, .slice (some ⟨D, 0, none⟩) nt tc] 39)) (w.heap.size + 1) (.cells #[.int .i64 0, .slice none 0 0, .slice none 0 0] 39) (by simp)
  have hWs : w.heap.size + 1 < ((w.alloc (.cells #[.int .i64 now, .slice (some ⟨B, 0, none⟩) nr nr, .slice (some ⟨D, 0, none⟩) nt tc] 39)).alloc (.cells #[.int .i64 0, .slice none 0 0, .slice none 0 0] 39)).heap.size := by simp
  go_enter Tryz.func52, Tryz.ntmps52
  go_upto_region 1 with fail
  generalize (w.alloc (.cells #[.int .i64 now, .slice (some ⟨B, 0, none⟩) nr nr, .slice (some ⟨D, 0, none⟩) nt tc] 39)).alloc (.cells #[.int .i64 0, .slice none 0 0, .slice none 0 0] 39) = W at *
  obtain ⟨⟨d0, d1, d2⟩, _⟩ := cellk3 g0
  go_wp2_with fail
  refine (HR.out _ hB).mono ?_
  rintro e y ⟨a, c, pr, rfl, hX, hy⟩
  replace g0 := keepheap2 hy g0
  replace g1 := keepheap2 hy g1
  replace hB := btrans hB hy
  have hyz := hy.size
  have HX := hid hX.lc
  clear hy hX HR d0 d1 d2
  go_upto_region 2 with fail
  have hal : Below y.heap.size y (y.alloc (.cells #[.int .i64 now, .slice a nr c, .slice none 0 0] 39)) := balloc (Below.refl _ _) _
  have g2 := new_alloc y y.heap.size (.cells #[.int .i64 now, .slice a nr c, .slice none 0 0] 39) rfl
  replace g0 := keepheap2 hal g0
  replace g1 := keepheap2 hal g1
  have HX1 := hid (HX.out.below hal)
  have HB1 := hid (btrans hB hal)
  have hyq : y.heap.size < (y.alloc (.cells #[.int .i64 now, .slice a nr c, .slice none 0 0] 39)).heap.size := by simp
  clear hal hB HX
  generalize y.alloc (.cells #[.int .i64 now, .slice a nr c, .slice none 0 0] 39) = Y0 at *
  generalize W.heap.size = Wz at *
  generalize y.heap.size = Q at *
  have HX0 := hid (LX.nil (K := KT) (t := 84) (base := Q + 1) (hi := Y0.heap.size) (own_nilT (w := Y0)) (fun g e => by cases e) (Nat.le_refl _))
  have hBz := HB1.out.size
  go_wp2_with fail
  go_loopw [4] (fun ti wr => ∃ i : Nat, ∃ v : Value, ∃ ps' : List (Tx × Value), ti = .int .i64 i ∧ i ≤ nt ∧ Hid (LX KT 84 (Q + 1) wr.heap.size wr v (ts.take i) ps') ∧ Hid (wr.heap[w.heap.size]? = some (.cells #[.int .i64 now, .slice (some ⟨B, 0, none⟩) nr nr, .slice (some ⟨D, 0, none⟩) nt tc] 39 (0, 0))) ∧ Hid (wr.heap[w.heap.size + 1]? = some (.cells #[.int .i64 0, .slice none 0 0, .slice none 0 0] 39 (0, 0))) ∧ Hid (wr.heap[Q]? = some (.cells #[.int .i64 now, .slice a nr c, v] 39 (0, 0))) ∧ Hid (LC KR Wz Q wr (.slice a nr c) rs) ∧ Hid (Q < wr.heap.size) ∧ Hid (Below w.heap.size w wr)) (fun ti _ => nt - (intOf ti).toNat)
  case atStart => exact ⟨0, _, [], rfl, Nat.zero_le _, HX0, hid g0, hid g1, hid g2, HX1, hid (by omega), HB1⟩
  case round =>
    clear HX0 g0 g1 g2 HX1 HB1 hBz
    obtain ⟨i, v, ps', rfl, hi, HV, G0, G1, G2, HXR, HS, HBW⟩ := hrel
    obtain ⟨⟨d0, d1, d2⟩, _⟩ := cellk3 G0.out
    have hws := HS.out
    by_cases hlt : i < nt
    · have c1 : (i : Int) < (nt : Int) := by omega
      have hir : i < ts.length := by rw [HNT.out]; exact hlt
      obtain ⟨ci, cpi, k9, ⟨k0, k1, k2⟩, k6, k7⟩ := (HTS.out.below HBW.out).2 i hir
      have HTK : Hid (ts.take (i + 1) = ts.take i ++ [ts[i]]) := hid (by rw [List.take_add_one, List.getElem?_eq_getElem hir]; rfl)
      have HIL : Hid ((ts.take i).length = i) := hid (by rw [List.length_take]; omega)
      obtain ⟨r, hr⟩ : ∃ r, r = ts[i] := ⟨_, rfl⟩
      rw [← hr] at k0 k1 k2 k6 k7 HTK
      clear hr
      obtain ⟨st, op, cs⟩ := r
      simp only at k0 k1 k2 k6 k7
      have hbx : Below wr.heap.size wr (wr.alloc (.cells #[.int .i64 st, .bool op, .slice (some ⟨ci, 0, none⟩) cs.length cpi] 84)) := balloc (Below.refl _ _) _
      have HC1 := hid (spec_copyChs ci cpi cs _ k6 (k7.below hbx))
      clear k7
      go_upto_region 6 with fail
      have gx := new_alloc wr wr.heap.size (.cells #[.int .i64 st, .bool op, .slice (some ⟨ci, 0, none⟩) cs.length cpi] 84) rfl
      have HV1 := hid (HV.out.below hbx)
      have HG0 := hid (keepheap2 hbx G0.out)
      have HG1 := hid (keepheap2 hbx G1.out)
      have HG2 := hid (keepheap2 hbx G2.out)
      have HXR1 := hid (HXR.out.below hbx)
      have HB1 := hid (btrans HBW.out hbx)
      have hs1 : wr.heap.size < (wr.alloc (.cells #[.int .i64 st, .bool op, .slice (some ⟨ci, 0, none⟩) cs.length cpi] 84)).heap.size := by simp
      clear k0 k1 k2 d0 d1 d2 hbx HV G0 G1 G2 HXR
      generalize wr.alloc (.cells #[.int .i64 st, .bool op, .slice (some ⟨ci, 0, none⟩) cs.length cpi] 84) = W1 at *
      generalize wr.heap.size = X at *
      obtain ⟨⟨x0, x1, x2⟩, _⟩ := cellk3 gx
      go_wp2_with fail
      refine HC1.out.mono ?_
      rintro e y ⟨sv, px, rfl, hXc, ⟨g, cp, rfl⟩, hy⟩
      have gy := keepheap2 hy gx
      have hys := hy.size
      have HV2 := hid (HV1.out.below hy)
      have HG0' := hid (keepheap2 hy HG0.out)
      have HG1' := hid (keepheap2 hy HG1.out)
      have HG2' := hid (keepheap2 hy HG2.out)
      have HXR2 := hid (HXR1.out.below hy)
      have HBy := hid (btrans HB1.out hy)
      have hwy := HBy.out.size
      have HO := hid hXc.lc
      clear hy hXc gx HC1 HV1 HG0 HG1 HG2 HXR1 HB1 x0 x1 x2
      obtain ⟨⟨x0, x1, x2⟩, y0, y1, y2⟩ := cellk3 gy
      go_upto_region 7 with fail
      have gq := setk3_2 gy (.slice (some ⟨g, 0, none⟩) cs.length cp)
      have hfar : ∀ b, b ≠ X → (y.setCell ⟨X, 2, none⟩ (.slice (some ⟨g, 0, none⟩) cs.length cp)).heap[b]? = y.heap[b]? := fun b hb => by rw [Below.heap_setCell _ _ _ _ (by dsimp only; omega)]
      have HV3 := hid (HV2.out.frame (w' := y.setCell ⟨X, 2, none⟩ (.slice (some ⟨g, 0, none⟩) cs.length cp)) (fun b h1 h2 => hfar b (by omega)) (by simp))
      have HG0 := hid ((hfar w.heap.size (by omega)).trans HG0'.out)
      have HG1 := hid ((hfar (w.heap.size + 1) (by omega)).trans HG1'.out)
      have g2 := (hfar Q (by omega)).trans HG2'.out
      have HXR3 := hid (HXR2.out.frame (w' := y.setCell ⟨X, 2, none⟩ (.slice (some ⟨g, 0, none⟩) cs.length cp)) (fun b h1 h2 => hfar b (by omega)) (by simp))
      have HB3 := hid (bset HBy.out (q := X) (k := 2) (by omega) (.slice (some ⟨g, 0, none⟩) cs.length cp))
      have HO3 := hid (HO.out.frame (w' := y.setCell ⟨X, 2, none⟩ (.slice (some ⟨g, 0, none⟩) cs.length cp)) (fun b h1 h2 => hfar b (by omega)) (by simp))
      have hs3 : (y.setCell ⟨X, 2, none⟩ (.slice (some ⟨g, 0, none⟩) cs.length cp)).heap.size = y.heap.size := by simp
      have hs3a := Nat.le_of_eq hs3
      have hs3b := Nat.le_of_eq hs3.symm
      clear hs3 hfar HV2 HG0' HG1' HG2' HXR2 HBy HO gy x0 x1 x2 y0 y1 y2
      generalize y.setCell ⟨X, 2, none⟩ (.slice (some ⟨g, 0, none⟩) cs.length cp) = Y at *
      generalize W1.heap.size = W1z at *
      generalize y.heap.size = yz at *
      obtain ⟨⟨x0, x1, x2⟩, _⟩ := cellk3 gq
      obtain ⟨⟨v0, v1, v2⟩, _⟩ := cellk3 g2
      have hownZ : Y.ownsRow (Q + 1) 84 3 v i (flatK KT ps') := by have := HV3.out.2.1; rw [HIL.out] at this; exact this
      have hal2 : Below Y.heap.size Y (Y.alloc (.cells #[.int .i64 st, .bool op, .slice (some ⟨g, 0, none⟩) cs.length cp] 84)) := balloc (Below.refl _ _) _
      have HGE := hid (keepheap2 hal2 g2)
      have hvb : v.ownBlock ≠ some Q := fun e => by have := (hownZ.lt _ e).1; omega
      clear gq g2
      go_wp2_with (at_builtin; (refine wpList_append_lies _ rfl (.tmp 27) (.tmp 29) 37 rfl (Q + 1) 84 i0 _ 3 40 Tryz.underlying37 hi0 hz0 hz1 hz2 rfl (by decide) v i (flatK KT ps') rfl (hownZ.alloc _) ⟨Y.heap.size, 0, none⟩ 1 1 [.int .i64 st, .bool op, .slice (some ⟨g, 0, none⟩) cs.length cp] rfl rfl (World.news_of_block (cs := #[.int .i64 st, .bool op, .slice (some ⟨g, 0, none⟩) cs.length cp]) (t := 84) (fr := (0, 0)) (heap_alloc_new Y _)) (by simp [Value.oneCell']) (by omega) (by unfold maxLen; omega) (by omega) (by simp; omega) (Y.heap.size + 1) (by simp) ?_; intro gg cq w2 hown2 hgrow hat hlt2; have g2 := (hgrow.block Q (lt_of_block HGE.out) (fun e => hvb e.symm)).trans HGE.out; obtain ⟨⟨t0, t1, t2⟩, s0, s1, s2⟩ := cellk3 g2))
      have hsn := LX.snoc (K := KT) (x := (st, op, cs)) (sv := .slice (some ⟨g, 0, none⟩) cs.length cp) (l := W1z) (u := yz) (g := gg) (cap := cq) (HV3.out.below hal2) (by omega) (by omega) (HO3.out.below hal2) (by rw [HIL.out]; exact hown2) hgrow (by simpa using hat) hlt2
      rw [HIL.out] at hsn
      have hb2 : Below w.heap.size w w2 := Below.grown (balloc HB3.out _) hgrow (by simp; omega) (fun k e => by have := (hownZ.lt k e).1; omega)
      have hw2 := hgrow.size
      have hbk : ∀ b, b ≤ Q → w2.heap[b]? = Y.heap[b]? := fun b hb => (hgrow.block b (by simp; omega) (fun e => by have := (hownZ.lt _ e.symm).1; omega)).trans (hal2.block b (by omega))
      have hfar : ∀ b, b ≠ Q → (w2.setCell ⟨Q, 2, none⟩ (.slice (some ⟨gg, 0, none⟩) (i + 1) cq)).heap[b]? = w2.heap[b]? := fun b hb => by rw [Below.heap_setCell _ _ _ _ (by dsimp only; omega)]
      have HF1 := hid ((hsn.frame (w' := w2.setCell ⟨Q, 2, none⟩ (.slice (some ⟨gg, 0, none⟩) (i + 1) cq)) (fun b h1 h2 => hfar b (by omega)) (by simp)).mono (hi' := (w2.setCell ⟨Q, 2, none⟩ (.slice (some ⟨gg, 0, none⟩) (i + 1) cq)).heap.size) (Nat.le_refl _) (by simp) (Nat.le_refl _))
      rw [← HTK.out] at HF1
      have HF2 := hid (((hfar w.heap.size (by omega)).trans (hbk _ (by omega))).trans HG0.out)
      have HF3 := hid (((hfar (w.heap.size + 1) (by omega)).trans (hbk _ (by omega))).trans HG1.out)
      have HF4 : Hid ((w2.setCell ⟨Q, 2, none⟩ (.slice (some ⟨gg, 0, none⟩) (i + 1) cq)).heap[Q]? = some (.cells #[.int .i64 now, .slice a nr c, .slice (some ⟨gg, 0, none⟩) (i + 1) cq] 39 (0, 0))) := hid (setk3_2 g2 _)
      have HF7 := hid (HXR3.out.frame (w' := w2.setCell ⟨Q, 2, none⟩ (.slice (some ⟨gg, 0, none⟩) (i + 1) cq)) (fun b h1 h2 => (hfar b (by omega)).trans (hbk b (by omega))) (by simp at hw2 ⊢; omega))
      have HF5 : Hid (Q < (w2.setCell ⟨Q, 2, none⟩ (.slice (some ⟨gg, 0, none⟩) (i + 1) cq)).heap.size) := hid (by simp at hw2 ⊢; omega)
      have HF6 := hid (bset hb2 (q := Q) (k := 2) (by omega) (.slice (some ⟨gg, 0, none⟩) (i + 1) cq))
      clear hsn hb2 hown2 hgrow hal2 hownZ hfar hbk g2 t0 t1 t2 s0 s1 s2 HGE
      go_roundw
      case rel => exact ⟨i + 1, _, _, by go_num, by omega, HF1, HF2, HF3, HF4, HF7, HF5, HF6⟩
      case measure => simp [intOf]; omega
    · have c1 : (nt : Int) ≤ (i : Int) := by omega
      have hin : i = ts.length := by have := HNT.out; omega
      have hX : LX KT 84 (Q + 1) wr.heap.size wr v ts ps' := by have := HV.out; rw [hin, List.take_length] at this; exact this
      obtain ⟨ta, tcc, rfl⟩ := hX.form
      rw [HNT.out] at hX G2
      have HX := hid hX
      clear hin HV hX
      obtain ⟨⟨v0, v1, v2⟩, s0, s1, s2⟩ := cellk3 G1.out
      obtain ⟨⟨t0, t1, t2⟩, _⟩ := cellk3 G2.out
      go_wp2_with fail
      have gF := setk3 G1.out (.int .i64 now) (.slice a nr c) (.slice ta nt tcc)
      have bF := bset (bset (bset HBW.out (q := w.heap.size + 1) (k := 0) (by omega) (.int .i64 now)) (q := w.heap.size + 1) (k := 1) (by omega) (.slice a nr c)) (q := w.heap.size + 1) (k := 2) (by omega) (.slice ta nt tcc)
      have hfar : ∀ b, b ≠ w.heap.size + 1 → (((wr.setCell ⟨w.heap.size + 1, 0, none⟩ (.int .i64 now)).setCell ⟨w.heap.size + 1, 1, none⟩ (.slice a nr c)).setCell ⟨w.heap.size + 1, 2, none⟩ (.slice ta nt tcc)).heap[b]? = wr.heap[b]? := fun b hb => by rw [Below.heap_setCell _ _ _ _ (by dsimp only; omega), Below.heap_setCell _ _ _ _ (by dsimp only; omega), Below.heap_setCell _ _ _ _ (by dsimp only; omega)]
      have x1 := HXR.out.frame (w' := ((wr.setCell ⟨w.heap.size + 1, 0, none⟩ (.int .i64 now)).setCell ⟨w.heap.size + 1, 1, none⟩ (.slice a nr c)).setCell ⟨w.heap.size + 1, 2, none⟩ (.slice ta nt tcc)) (fun b h1 h2 => hfar b (by omega)) (by simp)
      have x2 := (HX.out.frame (w' := ((wr.setCell ⟨w.heap.size + 1, 0, none⟩ (.int .i64 now)).setCell ⟨w.heap.size + 1, 1, none⟩ (.slice a nr c)).setCell ⟨w.heap.size + 1, 2, none⟩ (.slice ta nt tcc)) (fun b h1 h2 => hfar b (by omega)) (by simp))
      generalize ((wr.setCell ⟨w.heap.size + 1, 0, none⟩ (.int .i64 now)).setCell ⟨w.heap.size + 1, 1, none⟩ (.slice a nr c)).setCell ⟨w.heap.size + 1, 2, none⟩ (.slice ta nt tcc) = wf at *
      obtain ⟨⟨z0, z1, z2⟩, _⟩ := cellk3 gF
      exact bodyPost_ret (v := .agg #[.int .i64 now, .slice a nr c, .slice ta nt tcc]) (by simp [results, Tryz.results52, go_sem, z0, z1, z2]) rfl ⟨a, c, ta, tcc, Wz, Q, Q + 1, wr.heap.size, rfl, ⟨x1, _, x2⟩, by omega, by omega, by omega, by omega, bF⟩
end Go.Proofs.YtehifednpbdokaaGreatDoor
namespace Go.Proofs.YtehifednpbdokaaGreatDoor
open Go.RowKit
set_option linter.unusedSimpArgs false
set_option linter.unusedVariables false
/-- A store and a number that the specification answers. -/
def SSN (w : World) (now : Int) (rs : List Rw) (ts : List Tx) (n : Int) (e : Ending) (w' : World) : Prop :=
  ∃ a c ta tcc, e = .returned (.tuple #[.agg #[.int .i64 now, .slice a rs.length c, .slice ta ts.length tcc], .int .i64 n]) ∧ Rws (fun _ => True) w' a rs ∧ Txs (fun _ => True) 1099511627776 w' ta ts ∧ Below w.heap.size w w'
theorem ssn_mk {w w' : World} {now n n' : Int} {rs : List Rw} {ts ts' : List Tx} {a ta : Option Addr} {c tcc nr nt b1 u1 b2 u2 : Nat} (e1 : ts = ts') (e2 : n = n') (h1 : rs.length = nr) (h2 : ts'.length = nt) (x1 : LC KR b1 u1 w' (.slice a nr c) rs) (x2 : LC KT b2 u2 w' (.slice ta nt tcc) ts') (hl : txL ts') (hb : Below w.heap.size w w') : SSN w now rs ts n (.returned (.tuple #[.agg #[.int .i64 now, .slice a nr c, .slice ta nt tcc], .int .i64 n'])) w' := by
  subst e1 e2 h1 h2
  exact ⟨a, c, ta, tcc, rfl, x1.rws, Txs.any (x2.txs hl), hb⟩
/-- A transaction ended in a list in memory of its own. -/
theorem LC.rb {base hi g cap m : Nat} {w : World} {ts : List Tx} {t : TypeId} (h : LC KT base hi w (.slice (some ⟨g, 0, none⟩) ts.length cap) ts) (hm : m < ts.length) : LC KT base (w.heap.size + 1) (((w.setCell ⟨g, m * 3 + 1, none⟩ (.bool false)).alloc (.cells #[] t)).setCell ⟨g, m * 3 + 2, none⟩ (.slice (some ⟨w.heap.size, 0, none⟩) 0 0)) (.slice (some ⟨g, 0, none⟩) ts.length cap) (ts.set m (ts[m].1, false, [])) := by
  obtain ⟨h0, ⟨_, h⟩ | ⟨g2, cap2, ss, lo, up, h1, h2, h3, h4, h5, h6, h7⟩⟩ := h
  · cases h
  · cases h1
    have ht : ∀ k, k < ts.length * 3 → ∃ u, w.cell? ⟨g, k, none⟩ = some u := fun k hk => by
      obtain ⟨c0, _⟩ := h5 k hk
      obtain ⟨u0, hu0⟩ := Option.isSome_iff_exists.1 c0
      exact ⟨u0, by simpa using hu0⟩
    have hal : Below (w.setCell ⟨g, m * 3 + 1, none⟩ (.bool false)).heap.size (w.setCell ⟨g, m * 3 + 1, none⟩ (.bool false)) ((w.setCell ⟨g, m * 3 + 1, none⟩ (.bool false)).alloc (.cells #[] t)) := balloc (Below.refl _ _) _
    have hs1 : (w.setCell ⟨g, m * 3 + 1, none⟩ (.bool false)).heap.size = w.heap.size := by simp
    have hbk : ∀ c, c < w.heap.size → ((w.setCell ⟨g, m * 3 + 1, none⟩ (.bool false)).alloc (.cells #[] t)).heap[c]? = (w.setCell ⟨g, m * 3 + 1, none⟩ (.bool false)).heap[c]? := fun c hc => hal.block c (by omega)
    have hs2 : ((w.setCell ⟨g, m * 3 + 1, none⟩ (.bool false)).alloc (.cells #[] t)).heap.size = w.heap.size + 1 := by simp
    have gN : ((w.setCell ⟨g, m * 3 + 1, none⟩ (.bool false)).alloc (.cells #[] t)).heap[w.heap.size]? = some (.cells #[] t (0, 0)) := new_alloc _ _ _ hs1.symm
    have hcA : ∀ k, ((w.setCell ⟨g, m * 3 + 1, none⟩ (.bool false)).alloc (.cells #[] t)).cell? ⟨g, k, none⟩ = (w.setCell ⟨g, m * 3 + 1, none⟩ (.bool false)).cell? ⟨g, k, none⟩ := fun k => World.cell?_of_block (hbk g (by omega))
    refine ⟨by simp, .inr ⟨g, cap, fun j => if j = m then .slice (some ⟨w.heap.size, 0, none⟩) 0 0 else ss j, fun j => if j = m then w.heap.size else lo j, fun j => if j = m then w.heap.size + 1 else up j, by rw [List.length_set], by rw [List.length_set]; exact h2, h3, by omega, ?_, fun j hj => ?_, fun i j hij hi' hj => ?_⟩⟩
    · rw [List.length_set]
      refine there_set (w := (w.setCell ⟨g, m * 3 + 1, none⟩ (.bool false)).alloc (.cells #[] t)) ?_ _
      exact there_below (there_set h5 _) (by omega) hal
    · rw [List.length_set] at hj
      obtain ⟨a1, a2, a3, a4⟩ := h6 j hj
      by_cases e : j = m
      · subst e
        simp only [if_true]
        refine ⟨?_, by omega, by omega, by omega⟩
        simp only [List.getElem_set_self]
        obtain ⟨u1, q1⟩ := ht (j * 3 + 1) (by omega)
        obtain ⟨u2, q2⟩ := ht (j * 3 + 2) (by omega)
        have q0 := a1.1 0 (by decide)
        refine ⟨fun t' ht' => ?_, ⟨by simp, .inr ⟨w.heap.size, 0, fun _ => .bool false, fun _ => 0, fun _ => 0, rfl, Nat.le_refl _, Nat.le_refl _, by omega, fun k hk => by simp at hk, fun k hk => by simp at hk, fun i k _ hi' _ => by simp at hi'⟩⟩⟩
        have ht3 : t' < 3 := ht'
        match t', ht3 with
        | 0, _ =>
          rw [World.cell?_setCell_other _ _ _ _ (by intro q; injection q; simp only [KT] at *; omega), hcA, World.cell?_setCell_other _ _ _ _ (by intro q; injection q; simp only [KT] at *; omega)]
          exact q0
        | 1, _ =>
          rw [World.cell?_setCell_other _ _ _ _ (by intro q; injection q; simp only [KT] at *; omega), hcA]
          exact World.cell?_setCell_same _ _ _ q1
        | 2, _ =>
          refine World.cell?_setCell_same (u := u2) _ _ _ ?_
          rw [hcA, World.cell?_setCell_other _ _ _ _ (by intro q; injection q; omega)]
          exact q2
      · simp only [if_neg e]
        rw [List.getElem_set_ne (by omega)]
        have hne : j * 3 + 3 ≤ m * 3 ∨ m * 3 + 3 ≤ j * 3 := by omega
        have b1 := a1.set a4 (k := m * 3 + 1) (by show m * 3 + 1 < j * 3 ∨ j * 3 + 3 ≤ m * 3 + 1; omega) (.bool false)
        have b2 := b1.blk (w' := (w.setCell ⟨g, m * 3 + 1, none⟩ (.bool false)).alloc (.cells #[] t)) (hbk g (by omega)) (fun c _ c2 => hbk c (by omega)) (by omega)
        exact ⟨b2.set a4 (k := m * 3 + 2) (by show m * 3 + 2 < j * 3 ∨ j * 3 + 3 ≤ m * 3 + 2; omega) _, a2, by omega, a4⟩
    · rw [List.length_set] at hi' hj
      have q1 := (h6 i hi').2.2.1
      have q2 := (h6 j hj).2.2.1
      have q3 := h7 i j hij hi' hj
      by_cases e1 : i = m
      · by_cases e2 : j = m
        · omega
        · simp only [if_pos e1, if_neg e2]; omega
      · by_cases e2 : j = m
        · simp only [if_neg e1, if_pos e2]; omega
        · simp only [if_neg e1, if_neg e2]; exact q3
theorem set_L {ts : List Tx} {m : Nat} {x : Int} {b : Bool} (h : txL ts) : txL (ts.set m (x, b, [])) := by
  intro j hj
  rw [List.getElem_set]
  split
  · simp
  · exact h _ _
set_option maxRecDepth 100000 in
set_option maxHeartbeats 4000000 in
theorem spec_Rollback {N1 N2 : Nat → Prop} (now n : Int) (B D : Nat) (rs : List Rw) (ts : List Tx) (w : World) (hm : rs.length ≤ 1099511627776) (htm : ts.length ≤ 1099511627776) (hr : RwsS w B rs) (hrr : Rws N1 w (some ⟨B, 0, none⟩) rs) (ht : TxsS w D ts) (htt : Txs N2 1099511627776 w (some ⟨D, 0, none⟩) ts) : Calls Tryz.prog 29 #[.agg #[.int .i64 now, .slice (some ⟨B, 0, none⟩) rs.length rs.length, .slice (some ⟨D, 0, none⟩) ts.length ts.length], .int .i64 n] w fun e w' => SSN w now rs (rbT now rs ts n) (rbN now rs ts n) e w' := by
  have HCP := hid (fun (W : World) (hb : Below w.heap.size w W) => spec_copyStoreL now B D ts.length rs ts W hm htm (hr.below hb) (ht.below hb))
  have HOK := hid (fun (W : World) (hb : Below w.heap.size w W) => spec_open now (some ⟨B, 0, none⟩) (some ⟨D, 0, none⟩) rs.length ts.length rs ts n W hm htm (hrr.below hb) (htt.below hb))
  have HTL : Hid (txL ts) := hid (fun j (hj : j < ts.length) => (ht.2 j hj).choose_spec.choose_spec.2.2.1)
  have HNO := hid (@rb_no now rs ts n)
  have HYE : Hid (opn now rs ts n = true → ∃ (m : Nat) (hmt : m < ts.length), n = (m : Int) ∧ rbT now rs ts n = ts.set m (ts[m].1, false, []) ∧ rbN now rs ts n = 0) := hid (fun h => by
    obtain ⟨m, rfl, hmt, _, _⟩ := opn_at h
    obtain ⟨e1, e2⟩ := rb_yes hmt h
    exact ⟨m, hmt, rfl, e1, e2⟩)
  clear hr hrr ht htt
  generalize rbT now rs ts n = bt at *
  generalize rbN now rs ts n = bn at *
  generalize opn now rs ts n = op at *
  obtain ⟨nr, hnr⟩ : ∃ x, x = rs.length := ⟨_, rfl⟩
  obtain ⟨nt, hnt⟩ : ∃ x, x = ts.length := ⟨_, rfl⟩
  have HNR := hid hnr.symm
  have HNT := hid hnt.symm
  rw [← hnr, ← hnt] at HCP HOK
  rw [← hnr, ← hnt]
  clear hnr hnt
  have hB : Below w.heap.size w ((w.alloc (.cells #[.int .i64 now, .slice (some ⟨B, 0, none⟩) nr nr, .slice (some ⟨D, 0, none⟩) nt nt] 39)).alloc (.cells #[.int .i64 0, .slice none 0 0, .slice none 0 0] 39)) := balloc (balloc (Below.refl _ _) _) _
  have gP := old_alloc (o' := .cells #[.int .i64 0, .slice none 0 0, .slice none 0 0] 39) (new_alloc w w.heap.size (.cells #[.int .i64 now, .slice (some ⟨B, 0, none⟩) nr nr, .slice (some ⟨D, 0, none⟩) nt nt] 39) rfl)
  have gZ := new_alloc (w.alloc (.cells #[.int .i64 now, .slice (some ⟨B, 0, none⟩) nr nr, .slice (some ⟨D, 0, none⟩) nt nt] 39)) (w.heap.size + 1) (.cells #[.int .i64 0, .slice none 0 0, .slice none 0 0] 39) (by simp)
  have hWs : w.heap.size + 1 < ((w.alloc (.cells #[.int .i64 now, .slice (some ⟨B, 0, none⟩) nr nr, .slice (some ⟨D, 0, none⟩) nt nt] 39)).alloc (.cells #[.int .i64 0, .slice none 0 0, .slice none 0 0] 39)).heap.size := by simp
  go_enter Tryz.func29, Tryz.ntmps29
  go_upto_region 1 with fail
  generalize (w.alloc (.cells #[.int .i64 now, .slice (some ⟨B, 0, none⟩) nr nr, .slice (some ⟨D, 0, none⟩) nt nt] 39)).alloc (.cells #[.int .i64 0, .slice none 0 0, .slice none 0 0] 39) = W at *
  obtain ⟨⟨d0, d1, d2⟩, _⟩ := cellk3 gP
  go_wp2_with fail
  refine (HCP.out _ hB).mono ?_
  rintro e y ⟨a, c, ta, tcc, b1, u1, b2, u2, rfl, ⟨hx1, px, hx2⟩, hu, hu2, e1, e2, hy⟩
  replace gP := keepheapA hy gP
  replace gZ := keepheapA hy gZ
  replace hB := btrans hB hy
  have hyz := hy.size
  have HX1 := hid hx1
  have HX2 := hid hx2.lc
  have hq1 := hx1.1
  have hq2 := hx2.2.2.2.1
  clear hy hx1 hx2 HCP d0 d1 d2
  go_upto_region 2 with fail
  have hal : Below y.heap.size y (y.alloc (.cells #[.int .i64 now, .slice a nr c, .slice ta nt tcc] 39)) := balloc (Below.refl _ _) _
  have gQ := new_alloc y y.heap.size (.cells #[.int .i64 now, .slice a nr c, .slice ta nt tcc] 39) rfl
  replace gP := keepheapA hal gP
  replace gZ := keepheapA hal gZ
  replace hB := btrans hB hal
  replace HX1 := hid (HX1.out.below hal)
  replace HX2 := hid (HX2.out.below hal)
  have hyq : (y.alloc (.cells #[.int .i64 now, .slice a nr c, .slice ta nt tcc] 39)).heap.size = y.heap.size + 1 := by simp
  have hyq1 := Nat.le_of_eq hyq
  have hyq2 := Nat.le_of_eq hyq.symm
  clear hal hyq
  generalize y.alloc (.cells #[.int .i64 now, .slice a nr c, .slice ta nt tcc] 39) = Y at *
  generalize W.heap.size = Wz at *
  generalize y.heap.size = Q at *
  obtain ⟨⟨d0, d1, d2⟩, _⟩ := cellk3 gP
  go_wp2_with fail
  refine (HOK.out _ hB).mono ?_
  rintro e z ⟨rfl, hz⟩
  replace gZ := keepheapA hz gZ
  replace gQ := keepheapA hz gQ
  replace hB := btrans hB hz
  have hzz := hz.size
  replace HX1 := hid (HX1.out.below hz)
  replace HX2 := hid (HX2.out.below hz)
  clear hz d0 d1 d2 HOK gP
  cases op
  · obtain ⟨k1, k2⟩ := HNO.out rfl
    clear HNO HYE
    have HB := hid hB
    clear hB
    obtain ⟨⟨v0, v1, v2⟩, s0, s1, s2⟩ := cellk3 gZ
    obtain ⟨⟨t0, t1, t2⟩, _⟩ := cellk3 gQ
    go_wp2_with fail
    have gF := setk3 gZ (.int .i64 now) (.slice a nr c) (.slice ta nt tcc)
    have bF := (bset (bset (bset HB.out (q := w.heap.size + 1) (k := 0) (by omega) (.int .i64 now)) (q := w.heap.size + 1) (k := 1) (by omega) (.slice a nr c)) (q := w.heap.size + 1) (k := 2) (by omega) (.slice ta nt tcc))
    have hfar : ∀ b, b ≠ w.heap.size + 1 → (((z.setCell ⟨w.heap.size + 1, 0, none⟩ (.int .i64 now)).setCell ⟨w.heap.size + 1, 1, none⟩ (.slice a nr c)).setCell ⟨w.heap.size + 1, 2, none⟩ (.slice ta nt tcc)).heap[b]? = z.heap[b]? := fun b hb => by rw [Below.heap_setCell _ _ _ _ (by dsimp only; omega), Below.heap_setCell _ _ _ _ (by dsimp only; omega), Below.heap_setCell _ _ _ _ (by dsimp only; omega)]
    have x1 := HX1.out.frame (w' := (((z.setCell ⟨w.heap.size + 1, 0, none⟩ (.int .i64 now)).setCell ⟨w.heap.size + 1, 1, none⟩ (.slice a nr c)).setCell ⟨w.heap.size + 1, 2, none⟩ (.slice ta nt tcc))) (fun b h1 h2 => hfar b (by omega)) (by simp)
    have x2 := HX2.out.frame (w' := (((z.setCell ⟨w.heap.size + 1, 0, none⟩ (.int .i64 now)).setCell ⟨w.heap.size + 1, 1, none⟩ (.slice a nr c)).setCell ⟨w.heap.size + 1, 2, none⟩ (.slice ta nt tcc))) (fun b h1 h2 => hfar b (by omega)) (by simp)
    generalize (((z.setCell ⟨w.heap.size + 1, 0, none⟩ (.int .i64 now)).setCell ⟨w.heap.size + 1, 1, none⟩ (.slice a nr c)).setCell ⟨w.heap.size + 1, 2, none⟩ (.slice ta nt tcc)) = wf at *
    obtain ⟨⟨z0, z1, z2⟩, _⟩ := cellk3 gF
    exact bodyPost_ret (v := .tuple #[.agg #[.int .i64 now, .slice a nr c, .slice ta nt tcc], .int .i64 1]) (by simp [results, Tryz.results29, go_sem, z0, z1, z2]) rfl (ssn_mk k1 k2 HNR.out HNT.out x1 x2 HTL.out bF)
  · obtain ⟨m, hmt, rfl, k1, k2⟩ := HYE.out rfl
    clear HNO HYE
    have hL : LC KT b2 u2 z (.slice ta ts.length tcc) ts := by rw [HNT.out]; exact HX2.out
    obtain ⟨g, rfl⟩ := hL.some_form (by omega)
    obtain ⟨⟨w0', w1', w2', q0, q1, q2⟩, p0, p1, p2, hg1, hg2⟩ := hL.cells3 hmt
    have HLR := hid (hL.rb (t := 87) hmt)
    have HSL := hid (set_L (m := m) (x := ts[m].1) (b := false) HTL.out)
    have hsn : (ts.set m (ts[m].1, false, [])).length = nt := by rw [List.length_set]; exact HNT.out
    generalize ts.set m (ts[m].1, false, []) = ts2 at *
    have hmn : m < nt := by have := HNT.out; omega
    have c0 : (m : Int) < (nt : Int) := by omega
    rw [HNT.out] at HLR
    clear hL HX2 HTL hmt HNT
    obtain ⟨⟨t0, t1, t2⟩, _⟩ := cellk3 gQ
    have r2 : ((z.setCell ⟨g, m * 3 + 1, none⟩ (.bool false)).alloc (.cells #[] 87)).cell? ⟨g, m * 3 + 2, none⟩ = some w2' := keepalloc (by rw [World.cell?_setCell_other _ _ _ _ (by intro q; injection q; omega)]; exact q2) _
    have f2 : ((z.setCell ⟨g, m * 3 + 1, none⟩ (.bool false)).alloc (.cells #[] 87)).frozen? ⟨g, m * 3 + 2, none⟩ = false := by rw [World.frozen?_alloc_old _ _ ⟨g, m * 3 + 2, none⟩ (by simp; omega), World.frozen?_setCell]; exact p2
    go_upto_region 6 with fail
    have hfar : ∀ b, b < z.heap.size → b ≠ g → (((z.setCell ⟨g, m * 3 + 1, none⟩ (.bool false)).alloc (.cells #[] 87)).setCell ⟨g, m * 3 + 2, none⟩ (.slice (some ⟨z.heap.size, 0, none⟩) 0 0)).heap[b]? = z.heap[b]? := fun b h1 h2 => by
      rw [Below.heap_setCell _ _ _ _ (by dsimp only; omega), (balloc (Below.refl (z.setCell ⟨g, m * 3 + 1, none⟩ (.bool false)).heap.size _) (.cells #[] 87)).block b (by simp; omega), Below.heap_setCell _ _ _ _ (by dsimp only; omega)]
    have hs3 : (((z.setCell ⟨g, m * 3 + 1, none⟩ (.bool false)).alloc (.cells #[] 87)).setCell ⟨g, m * 3 + 2, none⟩ (.slice (some ⟨z.heap.size, 0, none⟩) 0 0)).heap.size = z.heap.size + 1 := by simp
    replace gZ := (hfar _ (lt_of_block gZ) (by omega)).trans gZ
    replace gQ := (hfar _ (lt_of_block gQ) (by omega)).trans gQ
    replace HX1 := hid (HX1.out.frame (w' := (((z.setCell ⟨g, m * 3 + 1, none⟩ (.bool false)).alloc (.cells #[] 87)).setCell ⟨g, m * 3 + 2, none⟩ (.slice (some ⟨z.heap.size, 0, none⟩) 0 0))) (fun b h1 h2 => hfar b (by have := HX1.out.1; omega) (by omega)) (by omega))
    have HB := hid (bset (balloc (bset hB (q := g) (k := m * 3 + 1) (by omega) (.bool false)) (.cells #[] 87)) (q := g) (k := m * 3 + 2) (by omega) (.slice (some ⟨z.heap.size, 0, none⟩) 0 0))
    have hs3a := Nat.le_of_eq hs3
    have hs3b := Nat.le_of_eq hs3.symm
    clear hfar hs3 hB q0 q1 q2 p0 p1 p2 r2 f2 t0 t1 t2
    generalize (((z.setCell ⟨g, m * 3 + 1, none⟩ (.bool false)).alloc (.cells #[] 87)).setCell ⟨g, m * 3 + 2, none⟩ (.slice (some ⟨z.heap.size, 0, none⟩) 0 0)) = V3 at *
    obtain ⟨⟨v0, v1, v2⟩, s0, s1, s2⟩ := cellk3 gZ
    obtain ⟨⟨t0, t1, t2⟩, _⟩ := cellk3 gQ
    go_wp2_with fail
    have gF := setk3 gZ (.int .i64 now) (.slice a nr c) (.slice (some ⟨g, 0, none⟩) nt tcc)
    have bF := (bset (bset (bset HB.out (q := w.heap.size + 1) (k := 0) (by omega) (.int .i64 now)) (q := w.heap.size + 1) (k := 1) (by omega) (.slice a nr c)) (q := w.heap.size + 1) (k := 2) (by omega) (.slice (some ⟨g, 0, none⟩) nt tcc))
    have hfar : ∀ b, b ≠ w.heap.size + 1 → (((V3.setCell ⟨w.heap.size + 1, 0, none⟩ (.int .i64 now)).setCell ⟨w.heap.size + 1, 1, none⟩ (.slice a nr c)).setCell ⟨w.heap.size + 1, 2, none⟩ (.slice (some ⟨g, 0, none⟩) nt tcc)).heap[b]? = V3.heap[b]? := fun b hb => by rw [Below.heap_setCell _ _ _ _ (by dsimp only; omega), Below.heap_setCell _ _ _ _ (by dsimp only; omega), Below.heap_setCell _ _ _ _ (by dsimp only; omega)]
    have x1 := HX1.out.frame (w' := (((V3.setCell ⟨w.heap.size + 1, 0, none⟩ (.int .i64 now)).setCell ⟨w.heap.size + 1, 1, none⟩ (.slice a nr c)).setCell ⟨w.heap.size + 1, 2, none⟩ (.slice (some ⟨g, 0, none⟩) nt tcc))) (fun b h1 h2 => hfar b (by omega)) (by simp)
    have x2 := HLR.out.frame (w' := (((V3.setCell ⟨w.heap.size + 1, 0, none⟩ (.int .i64 now)).setCell ⟨w.heap.size + 1, 1, none⟩ (.slice a nr c)).setCell ⟨w.heap.size + 1, 2, none⟩ (.slice (some ⟨g, 0, none⟩) nt tcc))) (fun b h1 h2 => hfar b (by omega)) (by simp)
    generalize (((V3.setCell ⟨w.heap.size + 1, 0, none⟩ (.int .i64 now)).setCell ⟨w.heap.size + 1, 1, none⟩ (.slice a nr c)).setCell ⟨w.heap.size + 1, 2, none⟩ (.slice (some ⟨g, 0, none⟩) nt tcc)) = wf at *
    obtain ⟨⟨z0, z1, z2⟩, _⟩ := cellk3 gF
    exact bodyPost_ret (v := .tuple #[.agg #[.int .i64 now, .slice a nr c, .slice (some ⟨g, 0, none⟩) nt tcc], .int .i64 0]) (by simp [results, Tryz.results29, go_sem, z0, z1, z2]) rfl (ssn_mk k1 k2 HNR.out hsn x1 x2 HSL.out bF)
end Go.Proofs.YtehifednpbdokaaGreatDoor
namespace Go.Proofs.YtehifednpbdokaaGreatDoor
open Go.RowKit
set_option linter.unusedSimpArgs false
set_option linter.unusedVariables false
end Go.Proofs.YtehifednpbdokaaGreatDoor
namespace Go.Proofs.YtehifednpbdokaaGreatDoor
open Go.RowKit
set_option linter.unusedVariables false
/-- Rows that may be written into, from block B on, below hi. -/
def Own3 (hi : Nat) (w : World) (B : Nat) (rs : List Rw) : Prop := B < hi ∧ hi ≤ w.heap.size ∧ w.there B 0 (rs.length * 5) ∧ RwsO hi w B rs
theorem Own3.below {hi : Nat} {w w' : World} {B : Nat} {rs : List Rw} (h : Own3 hi w B rs) (H : Below w.heap.size w w') : Own3 hi w' B rs :=
  ⟨h.1, Nat.le_trans h.2.1 H.size, there_below h.2.2.1 (Nat.lt_of_lt_of_le h.1 h.2.1) H, h.2.2.2.below h.2.1 H⟩
def BS (Y w : World) : Prop := Below Y.heap.size Y w
theorem BS.below {Y a b : World} (h : BS Y a) (H : Below a.heap.size a b) : BS Y b := btrans h H
def SizeLe (Y : World) (n : Nat) : Prop := Y.heap.size ≤ n
theorem bs_mid {Y a b : World} {lo hi : Nat} (h : BS Y a) (m : Mid lo hi a b) (hl : SizeLe Y lo) : BS Y b := mid_B h m hl h.size
theorem vacb_len (now : Int) (rs : List Rw) (t : Int) : (vacb now rs t).length ≤ rs.length := by
  unfold vacb
  split
  · exact List.length_filter_le _ _
  · exact Nat.le_refl _
theorem vacb_lens {now : Int} {rs : List Rw} {t : Int} {L : Nat} (h : ∀ m (h : m < rs.length), rs[m].2.2.2.2.length ≤ L) : ∀ m (h : m < (vacb now rs t).length), (vacb now rs t)[m].2.2.2.2.length ≤ L := by
  intro m hm
  have hs : ∀ x ∈ vacb now rs t, x ∈ rs := by
    intro x hx
    unfold vacb at hx
    split at hx
    · exact (List.mem_filter.1 hx).1
    · exact hx
  have h1 : (vacb now rs t)[m] ∈ rs := hs _ (List.getElem_mem hm)
  obtain ⟨j, hj, e⟩ := List.mem_iff_getElem.1 h1
  rw [← e]
  exact h j hj
end Go.Proofs.YtehifednpbdokaaGreatDoor
namespace Go.Proofs.YtehifednpbdokaaGreatDoor
open Go.RowKit
set_option linter.unusedSimpArgs false
set_option linter.unusedVariables false
theorem cellsCh : Tryz.prog.cellsOf 185 = 4 := by kernel_rfl
theorem cellsTx : Tryz.prog.cellsOf 107 = 3 := by kernel_rfl
theorem cellsSt : Tryz.prog.cellsOf 27 = 3 := by kernel_rfl
theorem cellsRws : Tryz.prog.cellsOf 24 = 2 := by kernel_rfl
set_option maxRecDepth 100000 in
theorem open_ch {H : Type} {enc : TypeId × Value → H} {W : World} {base fuel : Nat} {cs : List Value} {x : DataW H × List MemPlace} (h : DataW.trod enc Tryz.prog W base (fun _ => true) true fuel 185 cs = some x) : ∃ (r : Ch) (a : Option Addr) (cap : Nat), cs = [.int .i64 r.1, .bool r.2.1, .int .i64 r.2.2.1, .slice a r.2.2.2.length cap] ∧ PtsIn W a cap r.2.2.2 := by
  obtain ⟨xs, n, _, _, hlen, hxl, hf⟩ := DataW.trod_struct Tryz.underlying185 h
  rw [cellsCh] at hlen
  match xs, hxl, cs, hlen with
  | [y0, y1, y2], _, [v0, v1, v2, v3], _ =>
    have g0 : DataW.trod enc Tryz.prog W base (fun _ => true) true n 3 (([v0, v1, v2, v3].drop 0).take (Tryz.prog.cellsOf 3)) = some y0 := hf 0 _ rfl
    have g1 : DataW.trod enc Tryz.prog W base (fun _ => true) true n 4 (([v0, v1, v2, v3].drop 1).take (Tryz.prog.cellsOf 4)) = some y1 := hf 1 _ rfl
    have g2 : DataW.trod enc Tryz.prog W base (fun _ => true) true n 53 (([v0, v1, v2, v3].drop 2).take (Tryz.prog.cellsOf 53)) = some y2 := hf 2 _ rfl
    rw [show Tryz.prog.cellsOf 3 = 1 by kernel_rfl] at g0
    rw [show Tryz.prog.cellsOf 4 = 1 by kernel_rfl] at g1
    rw [cellsShape] at g2
    simp at g0 g1 g2
    obtain ⟨z0, e0, _, _⟩ := DataW.trod_int Tryz.underlying3 g0
    obtain ⟨z1, e1, _⟩ := DataW.trod_bool Tryz.underlying4 g1
    obtain ⟨xs', n', _, _, _, hxl', hf'⟩ := DataW.trod_struct Tryz.underlying53 g2
    match xs', hxl' with
    | [u0, u1], _ =>
      have q0 : DataW.trod enc Tryz.prog W base (fun _ => true) true n' 3 (([v2, v3].drop 0).take (Tryz.prog.cellsOf 3)) = some u0 := hf' 0 _ rfl
      have q1 : DataW.trod enc Tryz.prog W base (fun _ => true) true n' 51 (([v2, v3].drop 1).take (Tryz.prog.cellsOf 51)) = some u1 := hf' 1 _ rfl
      rw [show Tryz.prog.cellsOf 3 = 1 by kernel_rfl] at q0
      rw [show Tryz.prog.cellsOf 51 = 1 by kernel_rfl] at q1
      simp at q0 q1
      obtain ⟨z3, e3, _, _⟩ := DataW.trod_int Tryz.underlying3 q0
      obtain ⟨a, cap, ps, e4, hp⟩ := open_points q1
      simp at e0 e1 e3
      exact ⟨(z0, z1, z3, ps), a, cap, by simp [e0, e1, e3, e4], hp⟩
theorem open_chs {H : Type} {enc : TypeId × Value → H} {W : World} {base fuel : Nat} {v : Value} {x : DataW H × List MemPlace} (h : DataW.trod enc Tryz.prog W base (fun _ => true) true fuel 105 [v] = some x) : ∃ (a : Option Addr) (cap : Nat) (xs : List Ch), v = .slice a xs.length cap ∧ xs.length ≤ cap ∧ xs.length ≤ 9223372036854775807 ∧ Chs (fun _ => True) 9223372036854775807 W a xs := by
  rcases Go.Deep.open_slice Tryz.underlying105 h with ⟨hcs, _⟩ | ⟨a, len, cap, m, n, D, Pl, hcs, _, hl, hm, hmm, _, hall⟩
  · simp at hcs
    exact ⟨none, 0, [], hcs, by simp, by simp, .inl rfl⟩
  · simp at hcs
    have hlm : len ≤ m := by rw [hmm]; simp; exact hl
    have hM : len ≤ 9223372036854775807 := Nat.le_trans hl hm
    by_cases h0 : len = 0
    · subst h0
      exact ⟨some a, cap, [], hcs, by simp, by simp, .inl rfl⟩
    rw [cellsCh] at hall
    have each : ∀ j : Nat, ∃ r : Ch, j < len → ∃ (a' : Option Addr) (cap' : Nat), W.cells? base (a.add (j * 4)) 4 = some [.int .i64 r.1, .bool r.2.1, .int .i64 r.2.2.1, .slice a' r.2.2.2.length cap'] ∧ PtsIn W a' cap' r.2.2.2 := by
      intro j
      by_cases hj : j < len
      · obtain ⟨cs', h1, h2⟩ := hall j (by omega)
        obtain ⟨r, a', cap', e, hp⟩ := open_ch h2
        subst e
        exact ⟨r, fun _ => ⟨a', cap', h1, hp⟩⟩
      · exact ⟨(0, false, 0, []), fun h' => absurd h' hj⟩
    have ⟨f, hf⟩ := Classical.axiomOfChoice each
    have hspot : a.spot = none := by
      obtain ⟨_, _, h1, _⟩ := hf 0 (by omega)
      have h00 := (World.cells?_some h1).2.2 0 (by omega)
      simp only [Nat.zero_mul, Addr.add, if_true] at h00
      unfold World.cell? at h00
      split at h00
      · split at h00
        · cases h00
        · rename_i q; simpa using q
      · cases h00
    obtain ⟨b, o, s⟩ := a
    simp only at hspot
    subst hspot
    have hblk : b < W.heap.size := by
      obtain ⟨_, _, h1, _⟩ := hf 0 (by omega)
      have h00 := (World.cells?_some h1).2.2 0 (by omega)
      rw [Go.Deep.add_add, Addr.add_mid] at h00
      exact World.block_lt_of_cell? W _ (h00.trans rfl)
    refine ⟨some ⟨b, o, none⟩, cap, (List.range len).map f, by simpa using hcs, by simpa using hl, by simpa using hM, .inr ⟨b, o, rfl, hblk, fun j hj => ?_⟩⟩
    simp only [List.length_map, List.length_range] at hj
    have e : ((List.range len).map f)[j]'(by simpa using hj) = f j := by simp
    rw [e]
    obtain ⟨a', cap', h1, hp⟩ := hf j hj
    have hc := (World.cells?_some h1).2.2
    have c0 := hc 0 (by omega)
    have c1 := hc 1 (by omega)
    have c2 := hc 2 (by omega)
    have c3 := hc 3 (by omega)
    rw [Go.Deep.add_add, Addr.add_mid] at c0 c1 c2 c3
    exact ⟨a', cap', c0, c1, c2, c3, hp.2.1, Nat.le_trans hp.2.1 hp.2.2, hp.1, fun _ _ _ => trivial⟩
set_option maxRecDepth 100000 in
theorem open_tx {H : Type} {enc : TypeId × Value → H} {W : World} {base fuel : Nat} {cs : List Value} {x : DataW H × List MemPlace} (h : DataW.trod enc Tryz.prog W base (fun _ => true) true fuel 107 cs = some x) : ∃ (r : Tx) (a : Option Addr) (cap : Nat), cs = [.int .i64 r.1, .bool r.2.1, .slice a r.2.2.length cap] ∧ (r.2.2.length ≤ cap ∧ r.2.2.length ≤ 9223372036854775807 ∧ Chs (fun _ => True) 9223372036854775807 W a r.2.2) := by
  obtain ⟨xs, n, _, _, hlen, hxl, hf⟩ := DataW.trod_struct Tryz.underlying107 h
  rw [cellsTx] at hlen
  match xs, hxl, cs, hlen with
  | [y0, y1, y2], _, [v0, v1, v2], _ =>
    have g0 : DataW.trod enc Tryz.prog W base (fun _ => true) true n 3 (([v0, v1, v2].drop 0).take (Tryz.prog.cellsOf 3)) = some y0 := hf 0 _ rfl
    have g1 : DataW.trod enc Tryz.prog W base (fun _ => true) true n 4 (([v0, v1, v2].drop 1).take (Tryz.prog.cellsOf 4)) = some y1 := hf 1 _ rfl
    have g2 : DataW.trod enc Tryz.prog W base (fun _ => true) true n 105 (([v0, v1, v2].drop 2).take (Tryz.prog.cellsOf 105)) = some y2 := hf 2 _ rfl
    rw [show Tryz.prog.cellsOf 3 = 1 by kernel_rfl] at g0
    rw [show Tryz.prog.cellsOf 4 = 1 by kernel_rfl] at g1
    rw [show Tryz.prog.cellsOf 105 = 1 by kernel_rfl] at g2
    simp at g0 g1 g2
    obtain ⟨z0, e0, _, _⟩ := DataW.trod_int Tryz.underlying3 g0
    obtain ⟨z1, e1, _⟩ := DataW.trod_bool Tryz.underlying4 g1
    obtain ⟨a, cap, ps, e4, h1, h2, hp⟩ := open_chs g2
    simp at e0 e1
    exact ⟨(z0, z1, ps), a, cap, by simp [e0, e1, e4], h1, h2, hp⟩
theorem open_txs {H : Type} {enc : TypeId × Value → H} {W : World} {base fuel : Nat} {v : Value} {x : DataW H × List MemPlace} (h : DataW.trod enc Tryz.prog W base (fun _ => true) true fuel 25 [v] = some x) : ∃ (a : Option Addr) (cap : Nat) (xs : List Tx), v = .slice a xs.length cap ∧ xs.length ≤ cap ∧ xs.length ≤ 9223372036854775807 ∧ Txs (fun _ => True) 9223372036854775807 W a xs := by
  rcases Go.Deep.open_slice Tryz.underlying25 h with ⟨hcs, _⟩ | ⟨a, len, cap, m, n, D, Pl, hcs, _, hl, hm, hmm, _, hall⟩
  · simp at hcs
    exact ⟨none, 0, [], hcs, by simp, by simp, .inl rfl⟩
  · simp at hcs
    have hlm : len ≤ m := by rw [hmm]; simp; exact hl
    have hM : len ≤ 9223372036854775807 := Nat.le_trans hl hm
    by_cases h0 : len = 0
    · subst h0
      exact ⟨some a, cap, [], hcs, by simp, by simp, .inl rfl⟩
    rw [cellsTx] at hall
    have each : ∀ j : Nat, ∃ r : Tx, j < len → ∃ (a' : Option Addr) (cap' : Nat), W.cells? base (a.add (j * 3)) 3 = some [.int .i64 r.1, .bool r.2.1, .slice a' r.2.2.length cap'] ∧ (r.2.2.length ≤ cap' ∧ r.2.2.length ≤ 9223372036854775807 ∧ Chs (fun _ => True) 9223372036854775807 W a' r.2.2) := by
      intro j
      by_cases hj : j < len
      · obtain ⟨cs', h1, h2⟩ := hall j (by omega)
        obtain ⟨r, a', cap', e, hp⟩ := open_tx h2
        subst e
        exact ⟨r, fun _ => ⟨a', cap', h1, hp⟩⟩
      · exact ⟨(0, false, []), fun h' => absurd h' hj⟩
    have ⟨f, hf⟩ := Classical.axiomOfChoice each
    have hspot : a.spot = none := by
      obtain ⟨_, _, h1, _⟩ := hf 0 (by omega)
      have h00 := (World.cells?_some h1).2.2 0 (by omega)
      simp only [Nat.zero_mul, Addr.add, if_true] at h00
      unfold World.cell? at h00
      split at h00
      · split at h00
        · cases h00
        · rename_i q; simpa using q
      · cases h00
    obtain ⟨b, o, s⟩ := a
    simp only at hspot
    subst hspot
    have hblk : b < W.heap.size := by
      obtain ⟨_, _, h1, _⟩ := hf 0 (by omega)
      have h00 := (World.cells?_some h1).2.2 0 (by omega)
      rw [Go.Deep.add_add, Addr.add_mid] at h00
      exact World.block_lt_of_cell? W _ (h00.trans rfl)
    refine ⟨some ⟨b, o, none⟩, cap, (List.range len).map f, by simpa using hcs, by simpa using hl, by simpa using hM, .inr ⟨b, o, rfl, hblk, fun j hj => ?_⟩⟩
    simp only [List.length_map, List.length_range] at hj
    have e : ((List.range len).map f)[j]'(by simpa using hj) = f j := by simp
    rw [e]
    obtain ⟨a', cap', h1, hp⟩ := hf j hj
    have hc := (World.cells?_some h1).2.2
    have c0 := hc 0 (by omega)
    have c1 := hc 1 (by omega)
    have c2 := hc 2 (by omega)
    rw [Go.Deep.add_add, Addr.add_mid] at c0 c1 c2
    exact ⟨a', cap', c0, c1, c2, hp.1, hp.2.1, hp.2.2, fun _ _ _ => trivial⟩
set_option maxRecDepth 100000 in
theorem open_store {H : Type} {enc : TypeId × Value → H} {W : World} {base fuel : Nat} {cs : List Value} {x : DataW H × List MemPlace} (h : DataW.trod enc Tryz.prog W base (fun _ => true) true fuel 27 cs = some x) : ∃ (now : Int) (a : Option Addr) (cap : Nat) (rs : List Rw) (ta : Option Addr) (tcap : Nat) (ts : List Tx), cs = [.int .i64 now, .slice a rs.length cap, .slice ta ts.length tcap] ∧ rs.length ≤ 9223372036854775807 ∧ RwsL W a rs ∧ ts.length ≤ 9223372036854775807 ∧ Txs (fun _ => True) 9223372036854775807 W ta ts := by
  obtain ⟨xs, n, _, _, hlen, hxl, hf⟩ := DataW.trod_struct Tryz.underlying27 h
  rw [cellsSt] at hlen
  match xs, hxl, cs, hlen with
  | [y0, y1], _, [v0, v1, v2], _ =>
    have g0 : DataW.trod enc Tryz.prog W base (fun _ => true) true n 24 (([v0, v1, v2].drop 0).take (Tryz.prog.cellsOf 24)) = some y0 := hf 0 _ rfl
    have g1 : DataW.trod enc Tryz.prog W base (fun _ => true) true n 25 (([v0, v1, v2].drop 2).take (Tryz.prog.cellsOf 25)) = some y1 := hf 1 _ rfl
    rw [cellsRws] at g0
    rw [show Tryz.prog.cellsOf 25 = 1 by kernel_rfl] at g1
    simp at g0 g1
    obtain ⟨xs', n', _, _, _, hxl', hf'⟩ := DataW.trod_struct Tryz.underlying24 g0
    match xs', hxl' with
    | [u0, u1], _ =>
      have q0 : DataW.trod enc Tryz.prog W base (fun _ => true) true n' 3 (([v0, v1].drop 0).take (Tryz.prog.cellsOf 3)) = some u0 := hf' 0 _ rfl
      have q1 : DataW.trod enc Tryz.prog W base (fun _ => true) true n' 22 (([v0, v1].drop 1).take (Tryz.prog.cellsOf 22)) = some u1 := hf' 1 _ rfl
      rw [show Tryz.prog.cellsOf 3 = 1 by kernel_rfl] at q0
      rw [show Tryz.prog.cellsOf 22 = 1 by kernel_rfl] at q1
      simp at q0 q1
      obtain ⟨z0, e0, _, _⟩ := DataW.trod_int Tryz.underlying3 q0
      obtain ⟨a, cap, rs, e1, hl, hr⟩ := open_rows q1
      obtain ⟨ta, tcap, ts, e2, _, htl, htx⟩ := open_txs g1
      simp at e0
      exact ⟨z0, a, cap, rs, ta, tcap, ts, by simp [e0, e1, e2], hl, hr, htl, htx⟩
theorem setk3a {w : World} {p : Nat} {o0 o1 o2 : Value} {t : TypeId} (h : w.heap[p]? = some (.cells #[o0, o1, o2] t (0, 0))) (a b : Value) : ((w.setCell ⟨p, 0, none⟩ a).setCell ⟨p, 1, none⟩ b).heap[p]? = some (.cells #[a, b, o2] t (0, 0)) := by
  have st : ∀ (W : World) (cs : Array Value) (k : Nat) (u : Value), W.heap[p]? = some (.cells cs t (0, 0)) → (W.setCell ⟨p, k, none⟩ u).heap[p]? = some (.cells (cs.setIfInBounds k u) t (0, 0)) := by
    intro W cs k u h
    have hlt := lt_of_block h
    have h' : W.heap[p] = .cells cs t (0, 0) := by simpa [Array.getElem?_eq_getElem hlt] using h
    show (W.heap.modify p _)[p]? = _
    rw [Array.getElem?_eq_getElem (by simpa using hlt), Array.getElem_modify_self, h']
    rfl
  have e4 := st _ _ 1 b (st _ _ 0 a h)
  simpa using e4
set_option maxRecDepth 100000 in
set_option maxHeartbeats 2000000 in
theorem to_store {N1 N2 : Nat → Prop} (now : Int) (a ta : Option Addr) (cap tcap : Nat) (rs : List Rw) (ts : List Tx) (w : World) (hm : rs.length ≤ 1099511627776) (htm : ts.length ≤ 1099511627776) (hr : Rws N1 w a rs) (ht : Txs N2 1099511627776 w ta ts) : Calls Tryz.prog 10 #[.agg #[.int .i64 now, .slice a rs.length cap, .slice ta ts.length tcap]] w fun e w' => ∃ B T, e = .returned (.agg #[.int .i64 now, .slice (some ⟨B, 0, none⟩) rs.length rs.length, .slice (some ⟨T, 0, none⟩) ts.length ts.length]) ∧ Rws (fun c => B < c) w' (some ⟨B, 0, none⟩) rs ∧ Txs (fun c => T < c) 1099511627776 w' (some ⟨T, 0, none⟩) ts ∧ Below w.heap.size w w' := by
  have HR := hid (fun (W : World) (hb : Below w.heap.size w W) => to_rows now a cap rs W hm (hr.below hb))
  have HT := hid (fun (W : World) (hb : Below w.heap.size w W) => to_txs ta tcap ts W htm (ht.below hb))
  clear hr ht
  obtain ⟨n, hn⟩ : ∃ n, n = rs.length := ⟨_, rfl⟩
  obtain ⟨tn, htn⟩ : ∃ tn, tn = ts.length := ⟨_, rfl⟩
  rw [← hn] at HR ⊢
  rw [← htn] at HT ⊢
  clear hn htn
  have hB0 : Below w.heap.size w (((w.alloc (.cells #[.int .i64 now, .slice a n cap, .slice ta tn tcap] 27)).alloc (.cells #[.int .i64 0, .slice none 0 0, .slice none 0 0] 39)).alloc (.cells #[.int .i64 0, .slice none 0 0, .slice none 0 0] 39)) := balloc (balloc (balloc (Below.refl _ _) _) _) _
  have g0 := old_alloc (o' := .cells #[.int .i64 0, .slice none 0 0, .slice none 0 0] 39) (old_alloc (o' := .cells #[.int .i64 0, .slice none 0 0, .slice none 0 0] 39) (new_alloc w w.heap.size (.cells #[.int .i64 now, .slice a n cap, .slice ta tn tcap] 27) rfl))
  have g1 := old_alloc (o' := .cells #[.int .i64 0, .slice none 0 0, .slice none 0 0] 39) (new_alloc (w.alloc (.cells #[.int .i64 now, .slice a n cap, .slice ta tn tcap] 27)) (w.heap.size + 1) (.cells #[.int .i64 0, .slice none 0 0, .slice none 0 0] 39) (by simp))
  have g2 := new_alloc ((w.alloc (.cells #[.int .i64 now, .slice a n cap, .slice ta tn tcap] 27)).alloc (.cells #[.int .i64 0, .slice none 0 0, .slice none 0 0] 39)) (w.heap.size + 1 + 1) (.cells #[.int .i64 0, .slice none 0 0, .slice none 0 0] 39) (by simp)
  go_enter Tryz.func10, Tryz.ntmps10
  go_upto_region 2 with fail
  generalize ((w.alloc (.cells #[.int .i64 now, .slice a n cap, .slice ta tn tcap] 27)).alloc (.cells #[.int .i64 0, .slice none 0 0, .slice none 0 0] 39)).alloc (.cells #[.int .i64 0, .slice none 0 0, .slice none 0 0] 39) = W at *
  have hlW := lt_of_block g2
  obtain ⟨⟨d0, d1, d2⟩, _⟩ := cellk3 g0
  go_wp2_with fail
  refine (HR.out _ hB0).mono ?_
  rintro e w1 ⟨B, rfl, hbb, hbl, ho, hb1⟩
  replace g0 := keepheap2 hb1 g0
  replace g1 := keepheap2 hb1 g1
  replace g2 := keepheap2 hb1 g2
  have hB1 := btrans hB0 hb1
  have HO := hid ho
  have hs1 := hb1.size
  clear hB0 hb1 ho d0 d1 d2 HR
  obtain ⟨⟨f0, f1, f2⟩, p0, p1, p2⟩ := cellk3 g2
  go_upto_region 3 with fail
  have g2' : ((w1.setCell ⟨w.heap.size + 1 + 1, 0, none⟩ (.int .i64 now)).setCell ⟨w.heap.size + 1 + 1, 1, none⟩ (.slice (some ⟨B, 0, none⟩) n n)).heap[w.heap.size + 1 + 1]? = some (.cells #[.int .i64 now, .slice (some ⟨B, 0, none⟩) n n, .slice none 0 0] 39 (0, 0)) := setk3a g2 _ _
  have hfar : ∀ c, c ≠ w.heap.size + 1 + 1 → ((w1.setCell ⟨w.heap.size + 1 + 1, 0, none⟩ (.int .i64 now)).setCell ⟨w.heap.size + 1 + 1, 1, none⟩ (.slice (some ⟨B, 0, none⟩) n n)).heap[c]? = w1.heap[c]? := fun c hc => by rw [Below.heap_setCell _ _ _ _ (by dsimp only; omega), Below.heap_setCell _ _ _ _ (by dsimp only; omega)]
  have g0' := (hfar w.heap.size (by omega)).trans g0
  have g1' := (hfar (w.heap.size + 1) (by omega)).trans g1
  have HO2 := hid ((HO.out.setR (q := w.heap.size + 1 + 1) (k := 0) (u := .int .i64 now) (by omega) (by omega)).setR (q := w.heap.size + 1 + 1) (k := 1) (u := (.slice (some ⟨B, 0, none⟩) n n)) (by omega) (by omega))
  have hB2 := bset (bset hB1 (q := w.heap.size + 1 + 1) (k := 0) (by omega) (.int .i64 now)) (q := w.heap.size + 1 + 1) (k := 1) (by omega) (.slice (some ⟨B, 0, none⟩) n n)
  have hbl2 : B < ((w1.setCell ⟨w.heap.size + 1 + 1, 0, none⟩ (.int .i64 now)).setCell ⟨w.heap.size + 1 + 1, 1, none⟩ (.slice (some ⟨B, 0, none⟩) n n)).heap.size := by simpa using hbl
  clear hfar g0 g1 g2 HO hB1 f0 f1 f2 p0 p1 p2 hbl
  generalize (w1.setCell ⟨w.heap.size + 1 + 1, 0, none⟩ (.int .i64 now)).setCell ⟨w.heap.size + 1 + 1, 1, none⟩ (.slice (some ⟨B, 0, none⟩) n n) = V at *
  have hlV := lt_of_block g2'
  obtain ⟨⟨d0, d1, d2⟩, _⟩ := cellk3 g0'
  go_wp2_with fail
  refine (HT.out _ hB2).mono ?_
  rintro e w2 ⟨T, rfl, htt, htx, hb2⟩
  replace g1' := keepheap2 hb2 g1'
  replace g2' := keepheap2 hb2 g2'
  have hB3 := btrans hB2 hb2
  have HO3 := hid (fun j (hj : j < rs.length) => (HO2.out j hj).below hb2)
  have HTX := hid htx
  have hs2 := hb2.size
  clear hB2 hb2 htx d0 d1 d2 HT HO2 g0'
  obtain ⟨⟨f0, f1, f2⟩, p0, p1, p2⟩ := cellk3 g2'
  obtain ⟨⟨v0, v1, v2⟩, u0, u1, u2⟩ := cellk3 g1'
  go_wp2_with fail
  have gF := setk3 (set_far (q := w.heap.size + 1 + 1) (k := 2) (u := (.slice (some ⟨T, 0, none⟩) tn tn)) g1' (by omega)) (.int .i64 now) (.slice (some ⟨B, 0, none⟩) n n) (.slice (some ⟨T, 0, none⟩) tn tn)
  have bF := bset (bset (bset (bset hB3 (q := w.heap.size + 1 + 1) (k := 2) (by omega) (.slice (some ⟨T, 0, none⟩) tn tn)) (q := w.heap.size + 1) (k := 0) (by omega) (.int .i64 now)) (q := w.heap.size + 1) (k := 1) (by omega) (.slice (some ⟨B, 0, none⟩) n n)) (q := w.heap.size + 1) (k := 2) (by omega) (.slice (some ⟨T, 0, none⟩) tn tn)
  have hfar : ∀ c, w.heap.size + 1 + 1 < c → ((((w2.setCell ⟨w.heap.size + 1 + 1, 2, none⟩ (.slice (some ⟨T, 0, none⟩) tn tn)).setCell ⟨w.heap.size + 1, 0, none⟩ (.int .i64 now)).setCell ⟨w.heap.size + 1, 1, none⟩ (.slice (some ⟨B, 0, none⟩) n n)).setCell ⟨w.heap.size + 1, 2, none⟩ (.slice (some ⟨T, 0, none⟩) tn tn)).heap[c]? = w2.heap[c]? := fun c hc => by rw [Below.heap_setCell _ _ _ _ (by dsimp only; omega), Below.heap_setCell _ _ _ _ (by dsimp only; omega), Below.heap_setCell _ _ _ _ (by dsimp only; omega), Below.heap_setCell _ _ _ _ (by dsimp only; omega)]
  have hsz : w2.heap.size ≤ ((((w2.setCell ⟨w.heap.size + 1 + 1, 2, none⟩ (.slice (some ⟨T, 0, none⟩) tn tn)).setCell ⟨w.heap.size + 1, 0, none⟩ (.int .i64 now)).setCell ⟨w.heap.size + 1, 1, none⟩ (.slice (some ⟨B, 0, none⟩) n n)).setCell ⟨w.heap.size + 1, 2, none⟩ (.slice (some ⟨T, 0, none⟩) tn tn)).heap.size := by simp
  have oF : RwsAt (fun c => B < c) ((((w2.setCell ⟨w.heap.size + 1 + 1, 2, none⟩ (.slice (some ⟨T, 0, none⟩) tn tn)).setCell ⟨w.heap.size + 1, 0, none⟩ (.int .i64 now)).setCell ⟨w.heap.size + 1, 1, none⟩ (.slice (some ⟨B, 0, none⟩) n n)).setCell ⟨w.heap.size + 1, 2, none⟩ (.slice (some ⟨T, 0, none⟩) tn tn)) B 0 rs := fun j hj => ((((HO3.out j hj).setR (q := w.heap.size + 1 + 1) (k := 2) (u := (.slice (some ⟨T, 0, none⟩) tn tn)) (by omega) (fun c hc => by omega)).setR (q := w.heap.size + 1) (k := 0) (u := .int .i64 now) (by omega) (fun c hc => by omega)).setR (q := w.heap.size + 1) (k := 1) (u := (.slice (some ⟨B, 0, none⟩) n n)) (by omega) (fun c hc => by omega)).setR (q := w.heap.size + 1) (k := 2) (u := (.slice (some ⟨T, 0, none⟩) tn tn)) (by omega) (fun c hc => by omega)
  have tF : TxsAt (fun c => T < c) 1099511627776 ((((w2.setCell ⟨w.heap.size + 1 + 1, 2, none⟩ (.slice (some ⟨T, 0, none⟩) tn tn)).setCell ⟨w.heap.size + 1, 0, none⟩ (.int .i64 now)).setCell ⟨w.heap.size + 1, 1, none⟩ (.slice (some ⟨B, 0, none⟩) n n)).setCell ⟨w.heap.size + 1, 2, none⟩ (.slice (some ⟨T, 0, none⟩) tn tn)) T 0 ts := fun j hj => (HTX.out.2 j hj).blk (fun i _ => by simp only [World.cell?, hfar T (by omega)]) (fun c hc => hfar c (by omega)) hsz
  generalize ((((w2.setCell ⟨w.heap.size + 1 + 1, 2, none⟩ (.slice (some ⟨T, 0, none⟩) tn tn)).setCell ⟨w.heap.size + 1, 0, none⟩ (.int .i64 now)).setCell ⟨w.heap.size + 1, 1, none⟩ (.slice (some ⟨B, 0, none⟩) n n)).setCell ⟨w.heap.size + 1, 2, none⟩ (.slice (some ⟨T, 0, none⟩) tn tn)) = wf at *
  have hTs := HTX.out.1
  obtain ⟨⟨z0, z1, z2⟩, _⟩ := cellk3 gF
  exact bodyPost_ret (v := .agg #[.int .i64 now, .slice (some ⟨B, 0, none⟩) n n, .slice (some ⟨T, 0, none⟩) tn tn]) (by simp [results, Tryz.results10, go_sem, z0, z1, z2]) rfl ⟨B, T, rfl, .inr ⟨B, 0, rfl, by omega, oF⟩, .inr ⟨T, 0, rfl, by omega, tF⟩, bF⟩
end Go.Proofs.YtehifednpbdokaaGreatDoor
namespace Go.Proofs.YtehifednpbdokaaGreatDoor
open Go.RowKit
set_option linter.unusedSimpArgs false
set_option linter.unusedVariables false
theorem putO_ch {hi : Nat} {w : World} {B k n b : Nat} {x : Ch} (ht : w.there B 0 (n * 4)) (hk : k < n) (hb : B < b) (hbh : b < hi) (ho : w.there b 0 (x.2.2.2.length * 2)) (u0 u1 u2 : Value) :
    ChO hi ((((w.setCell ⟨B, k * 4, none⟩ u0).setCell ⟨B, k * 4 + 1, none⟩ u1).setCell ⟨B, k * 4 + 2, none⟩ u2).setCell ⟨B, k * 4 + 3, none⟩ (.slice (some ⟨b, 0, none⟩) x.2.2.2.length x.2.2.2.length)) B (k * 4) x := by
  obtain ⟨v, hv, _⟩ := there_at (there_set (there_set (there_set ht u0 (p := B) (k := k * 4)) u1 (p := B) (k := k * 4 + 1)) u2 (p := B) (k := k * 4 + 2)) (show k * 4 + 3 < n * 4 by omega)
  exact ⟨b, World.cell?_setCell_same _ _ _ hv, hb, hbh, there_set (there_set (there_set (there_set ho _) _) _) _⟩
theorem putO_tx {hi : Nat} {w : World} {B k n b : Nat} {x : Tx} (ht : w.there B 0 (n * 3)) (hk : k < n) (hb : B < b) (hbh : b < hi) (ho : ChsO hi w b x.2.2) (u0 u1 : Value) :
    TxO hi (((w.setCell ⟨B, k * 3, none⟩ u0).setCell ⟨B, k * 3 + 1, none⟩ u1).setCell ⟨B, k * 3 + 2, none⟩ (.slice (some ⟨b, 0, none⟩) x.2.2.length x.2.2.length)) B (k * 3) x b := by
  obtain ⟨v, hv, _⟩ := there_at (there_set (there_set ht u0 (p := B) (k := k * 3)) u1 (p := B) (k := k * 3 + 1)) (show k * 3 + 2 < n * 3 by omega)
  exact ⟨World.cell?_setCell_same _ _ _ hv, hb, hbh, ((ho.set (by omega) _).set (by omega) _).set (by omega) _⟩
set_option maxHeartbeats 2000000 in
theorem to_chsO {N : Nat → Prop} (a : Option Addr) (cap : Nat) (xs : List Ch) (w : World) (hm : xs.length ≤ 1099511627776) (h : Chs N 1099511627776 w a xs) : Calls Tryz.prog 113 #[.slice a xs.length cap] w fun e w' => ∃ B, e = .returned (.slice (some ⟨B, 0, none⟩) xs.length xs.length) ∧ w.heap.size ≤ B ∧ (B < w'.heap.size ∧ ChsAt (fun c => B < c) 1099511627776 w' B 0 xs) ∧ ChsO w'.heap.size w' B xs ∧ Below w.heap.size w w' := by
  have HR := hid h
  clear h
  have hmk := make_chs xs.length hm
  obtain ⟨n, hn⟩ : ∃ n, n = xs.length := ⟨_, rfl⟩
  have HN := hid hn.symm
  rw [← hn] at hmk hm ⊢
  clear hn
  go_enter Tryz.func113, Tryz.ntmps113
  go_wp2_with fail
  have hB : Below w.heap.size w (w.alloc (.cells (madeCells #[.int .i64 0, .bool false, .int .i64 0, .slice none 0 0] (n * 4)) 87)) := balloc (Below.refl _ _) _
  have hT := made_ownch w n
  have hl : w.heap.size < (w.alloc (.cells (madeCells #[.int .i64 0, .bool false, .int .i64 0, .slice none 0 0] (n * 4)) 87)).heap.size := by simp
  generalize w.alloc (.cells (madeCells #[.int .i64 0, .bool false, .int .i64 0, .slice none 0 0] (n * 4)) 87) = W at *
  clear hmk
  go_loopw [4] (fun ti wr => ∃ j : Nat, ti = .int .i64 j ∧ j ≤ n ∧ Hid (w.heap.size < wr.heap.size) ∧ Hid (∀ i (hi : i < xs.length), i < j → ChAt (fun c => w.heap.size < c) 1099511627776 wr w.heap.size (i * 4) xs[i]) ∧ Hid (wr.there w.heap.size 0 (n * 4)) ∧ Hid (∀ i (hi : i < xs.length), i < j → ChO wr.heap.size wr w.heap.size (i * 4) xs[i]) ∧ Hid (Below w.heap.size w wr)) (fun ti _ => n - (intOf ti).toNat)
  case atStart => exact ⟨0, rfl, Nat.zero_le _, hid hl, hid (fun i hi h => absurd h (by omega)), hid hT, hid (fun i hi h => absurd h (by omega)), hid hB⟩
  case round =>
    clear hB hT hl
    obtain ⟨j, rfl, hj, HL, HP, HT, HOW, HBW⟩ := hrel
    by_cases hlt : j < n
    · have c1 : (j : Int) < (n : Int) := by omega
      have hjr : j < xs.length := by rw [HN.out]; exact hlt
      obtain ⟨b, o, rfl, hbs, hr⟩ := (HR.out.below HBW.out).at j hjr
      obtain ⟨a', cap', k0, k1, k2, q1, q2, q3, q4, q5⟩ := hr
      have TR := hid (to_ch (N := N) xs[j] a' cap' wr q3 q2 q4)
      have HPR := hid (fun (W : World) (bb : Nat) => put_ch (w := W) (B := w.heap.size) (k := j) (n := n) (b := bb) (xs := xs) hjr HN.out)
      have HK6 := hid q3
      have HLN : Hid (∀ (X : World) (hX : ∀ i (hi : i < xs.length), i < j → ChO X.heap.size X w.heap.size (i * 4) xs[i]) (hY : ChO X.heap.size X w.heap.size (j * 4) xs[j]), ∀ i (hi : i < xs.length), i < j + 1 → ChO X.heap.size X w.heap.size (i * 4) xs[i]) := hid (fun X hX hY i hi h => by
        by_cases e : i = j
        · subst e; exact hY
        · exact hX i hi (by omega))
      have HPO := hid (fun (W : World) (bb : Nat) (hbb : w.heap.size < bb) (hbh : bb < W.heap.size) (hT : W.there w.heap.size 0 (n * 4)) (ho : W.there bb 0 (xs[j].2.2.2.length * 2)) => putO_ch (hi := W.heap.size) (x := xs[j]) hT hlt hbb hbh ho)
      unfold chv at TR
      clear q2 q3 q4 q5
      generalize xs[j].1 = id at *
      generalize xs[j].2.1 = go at *
      generalize xs[j].2.2.1 = kd at *
      generalize xs[j].2.2.2 = inn at *
      go_wp2_with fail
      refine TR.out.mono ?_
      rintro e w1 ⟨bb, rfl, hbb, ho, hb1⟩
      have hP := fun i (hi : i < xs.length) (h : i < j) => (HP.out i hi h).below hb1
      have hT := there_below HT.out HL.out hb1
      have hB := btrans HBW.out hb1
      have hL : w.heap.size < w1.heap.size := Nat.lt_of_lt_of_le HL.out hb1.size
      have hbl : w.heap.size < bb := Nat.lt_of_lt_of_le HL.out hbb
      have HPUT := hid (HPR.out w1 bb hP hT hbl HK6.out ho)
      have HOLD := hid (fun i (hi : i < xs.length) (h : i < j) => ((HOW.out i hi h).below (Nat.le_refl _) hb1).mono hb1.size)
      have HNEW := hid (HPO.out w1 bb hbl ho.1 hT ho.2.2)
      have q := fun i (hi : i < n * 4) => hT i hi
      obtain ⟨v0, s0, r0⟩ := there_at hT (show j * 4 < n * 4 by omega)
      obtain ⟨v1, s1, r1⟩ := there_at hT (show j * 4 + 1 < n * 4 by omega)
      obtain ⟨v2, s2, r2⟩ := there_at hT (show j * 4 + 2 < n * 4 by omega)
      obtain ⟨v3, s3, r3⟩ := there_at hT (show j * 4 + 3 < n * 4 by omega)
      clear q hP HPR HPO hb1 ho TR
      have HL1 := hid hL
      have HB1 := hid hB
      clear hT
      go_wp2_with fail
      go_roundw
      case rel => exact ⟨j + 1, by go_num, by omega, hid (by simpa using hL), hid HPUT.out.1, hid HPUT.out.2, hid (HLN.out _ (fun i hi h => by simpa using (((((HOLD.out i hi h).set (.inr (by omega)) _).set (.inr (by omega)) _).set (.inr (by omega)) _).set (.inr (by omega)) _)) (by simpa using HNEW.out _ _ _)), hid ((bset (bset (bset (bset hB (by omega) _) (by omega) _) (by omega) _) (by omega) _))⟩
      case measure => simp [intOf]; omega
    · obtain rfl : n = j := by omega
      have c1 : (n : Int) ≤ (n : Int) := by omega
      go_wp2_with fail
      go_ret
      exact ⟨w.heap.size, rfl, Nat.le_refl _, ⟨HL.out, fun i hi => by have := HP.out i hi (by rw [HN.out] at hi; exact hi); simpa using this⟩, ⟨by rw [HN.out]; exact HT.out, fun i hi => HOW.out i hi (by rw [HN.out] at hi; exact hi)⟩, HBW.out⟩
set_option maxHeartbeats 2000000 in
theorem to_txO {N : Nat → Prop} (x : Tx) (a : Option Addr) (cap : Nat) (w : World) (hm : x.2.2.length ≤ 1099511627776) (hc : x.2.2.length ≤ cap) (h : Chs N 1099511627776 w a x.2.2) : Calls Tryz.prog 72 #[txv x a cap] w fun e w' => ∃ b, e = .returned (txv x (some ⟨b, 0, none⟩) x.2.2.length) ∧ w.heap.size ≤ b ∧ (b < w'.heap.size ∧ ChsAt (fun c => b < c) 1099511627776 w' b 0 x.2.2) ∧ ChsO w'.heap.size w' b x.2.2 ∧ Below w.heap.size w w' := by
  obtain ⟨st, op, cs⟩ := x
  unfold txv
  simp only at *
  have TS := hid (fun (W : World) (hb : Below w.heap.size w W) => to_chsO a cap cs W hm (h.below hb))
  clear h
  generalize hn : cs.length = n at *
  have HN := hid hn
  clear hn
  go_enter Tryz.func72, Tryz.ntmps72
  go_wp2_with fail
  have hB0 : Below w.heap.size w (((w.alloc (.cells #[.int .i64 st, .bool op, .slice a n cap] 107)).alloc (.cells #[.int .i64 0, .bool false, .slice none 0 0] 84)).alloc (.cells #[.int .i64 st, .bool op, .slice none 0 0] 84)) := balloc (balloc (balloc (Below.refl _ _) _) _) _
  have g2 := old_alloc (o' := .cells #[.int .i64 st, .bool op, .slice none 0 0] 84) (new_alloc (w.alloc (.cells #[.int .i64 st, .bool op, .slice a n cap] 107)) (w.heap.size + 1) (.cells #[.int .i64 0, .bool false, .slice none 0 0] 84) (by simp))
  have g3 := new_alloc ((w.alloc (.cells #[.int .i64 st, .bool op, .slice a n cap] 107)).alloc (.cells #[.int .i64 0, .bool false, .slice none 0 0] 84)) (w.heap.size + 1 + 1) (.cells #[.int .i64 st, .bool op, .slice none 0 0] 84) (by simp)
  generalize ((w.alloc (.cells #[.int .i64 st, .bool op, .slice a n cap] 107)).alloc (.cells #[.int .i64 0, .bool false, .slice none 0 0] 84)).alloc (.cells #[.int .i64 st, .bool op, .slice none 0 0] 84) = W at *
  have hlW := lt_of_block g3
  refine (TS.out _ hB0).mono ?_
  rintro e w1 ⟨b, rfl, hbb, ho, hoo, hb1⟩
  replace g2 := keepheap2 hb1 g2
  replace g3 := keepheap2 hb1 g3
  have hB := btrans hB0 hb1
  have HO := hid ho
  have HOO := hid hoo
  clear hb1 hB0 ho hoo
  obtain ⟨⟨x0, x1, x2⟩, xf0, xf1, xf2⟩ := cellk3 g2
  obtain ⟨⟨y0, y1, y2⟩, yf0, yf1, yf2⟩ := cellk3 g3
  go_wp2_with fail
  have gF := setk3 (set_far (q := w.heap.size + 1 + 1) (k := 2) (u := .slice (some ⟨b, 0, none⟩) n n) g2 (by omega)) (.int .i64 st) (.bool op) (.slice (some ⟨b, 0, none⟩) n n)
  have bF := (bset (bset (bset (bset hB (q := w.heap.size + 1 + 1) (k := 2) (by omega) (.slice (some ⟨b, 0, none⟩) n n)) (q := w.heap.size + 1) (k := 0) (by omega) (.int .i64 st)) (q := w.heap.size + 1) (k := 1) (by omega) (.bool op)) (q := w.heap.size + 1) (k := 2) (by omega) (.slice (some ⟨b, 0, none⟩) n n))
  have hfar : ∀ c, w.heap.size + 1 + 1 < c → ((((w1.setCell ⟨w.heap.size + 1 + 1, 2, none⟩ (.slice (some ⟨b, 0, none⟩) n n)).setCell ⟨w.heap.size + 1, 0, none⟩ (.int .i64 st)).setCell ⟨w.heap.size + 1, 1, none⟩ (.bool op)).setCell ⟨w.heap.size + 1, 2, none⟩ (.slice (some ⟨b, 0, none⟩) n n)).heap[c]? = w1.heap[c]? := fun c hc => by rw [Below.heap_setCell _ _ _ _ (by dsimp only; omega), Below.heap_setCell _ _ _ _ (by dsimp only; omega), Below.heap_setCell _ _ _ _ (by dsimp only; omega), Below.heap_setCell _ _ _ _ (by dsimp only; omega)]
  have hsz : w1.heap.size ≤ ((((w1.setCell ⟨w.heap.size + 1 + 1, 2, none⟩ (.slice (some ⟨b, 0, none⟩) n n)).setCell ⟨w.heap.size + 1, 0, none⟩ (.int .i64 st)).setCell ⟨w.heap.size + 1, 1, none⟩ (.bool op)).setCell ⟨w.heap.size + 1, 2, none⟩ (.slice (some ⟨b, 0, none⟩) n n)).heap.size := by simp
  have ooF : ChsO ((((w1.setCell ⟨w.heap.size + 1 + 1, 2, none⟩ (.slice (some ⟨b, 0, none⟩) n n)).setCell ⟨w.heap.size + 1, 0, none⟩ (.int .i64 st)).setCell ⟨w.heap.size + 1, 1, none⟩ (.bool op)).setCell ⟨w.heap.size + 1, 2, none⟩ (.slice (some ⟨b, 0, none⟩) n n)).heap.size ((((w1.setCell ⟨w.heap.size + 1 + 1, 2, none⟩ (.slice (some ⟨b, 0, none⟩) n n)).setCell ⟨w.heap.size + 1, 0, none⟩ (.int .i64 st)).setCell ⟨w.heap.size + 1, 1, none⟩ (.bool op)).setCell ⟨w.heap.size + 1, 2, none⟩ (.slice (some ⟨b, 0, none⟩) n n)) b cs := by simpa using ((((HOO.out.set (by omega) _).set (by omega) _).set (by omega) _).set (by omega) _)
  generalize ((((w1.setCell ⟨w.heap.size + 1 + 1, 2, none⟩ (.slice (some ⟨b, 0, none⟩) n n)).setCell ⟨w.heap.size + 1, 0, none⟩ (.int .i64 st)).setCell ⟨w.heap.size + 1, 1, none⟩ (.bool op)).setCell ⟨w.heap.size + 1, 2, none⟩ (.slice (some ⟨b, 0, none⟩) n n)) = wf at *
  have oF : b < wf.heap.size ∧ ChsAt (fun c => b < c) 1099511627776 wf b 0 cs := ⟨Nat.lt_of_lt_of_le HO.out.1 hsz, fun j hj => (HO.out.2 j hj).blk (fun i _ => by simp only [World.cell?, hfar b (by omega)]) (fun c hc => hfar c (by omega)) hsz⟩
  obtain ⟨⟨z0, z1, z2⟩, _⟩ := cellk3 gF
  exact bodyPost_ret (v := .agg #[.int .i64 st, .bool op, .slice (some ⟨b, 0, none⟩) n n]) (by simp [results, Tryz.results72, go_sem, z0, z1, z2]) rfl ⟨b, rfl, by omega, oF, ooF, bF⟩
set_option maxHeartbeats 2000000 in
theorem to_txsO {N : Nat → Prop} (a : Option Addr) (cap : Nat) (xs : List Tx) (w : World) (hm : xs.length ≤ 1099511627776) (h : Txs N 1099511627776 w a xs) : Calls Tryz.prog 36 #[.slice a xs.length cap] w fun e w' => ∃ B, e = .returned (.slice (some ⟨B, 0, none⟩) xs.length xs.length) ∧ w.heap.size ≤ B ∧ (B < w'.heap.size ∧ TxsAt (fun c => B < c) 1099511627776 w' B 0 xs) ∧ TxsO w'.heap.size w' B xs ∧ Below w.heap.size w w' := by
  have HR := hid h
  clear h
  have hmk := make_txs xs.length hm
  obtain ⟨n, hn⟩ : ∃ n, n = xs.length := ⟨_, rfl⟩
  have HN := hid hn.symm
  rw [← hn] at hmk hm ⊢
  clear hn
  go_enter Tryz.func36, Tryz.ntmps36
  go_wp2_with fail
  have hB : Below w.heap.size w (w.alloc (.cells (madeCells #[.int .i64 0, .bool false, .slice none 0 0] (n * 3)) 84)) := balloc (Below.refl _ _) _
  have hT := made_owntx w n
  have hl : w.heap.size < (w.alloc (.cells (madeCells #[.int .i64 0, .bool false, .slice none 0 0] (n * 3)) 84)).heap.size := by simp
  generalize w.alloc (.cells (madeCells #[.int .i64 0, .bool false, .slice none 0 0] (n * 3)) 84) = W at *
  clear hmk
  go_loopw [4] (fun ti wr => ∃ j : Nat, ti = .int .i64 j ∧ j ≤ n ∧ Hid (w.heap.size < wr.heap.size) ∧ Hid (∀ i (hi : i < xs.length), i < j → TxAt (fun c => w.heap.size < c) 1099511627776 wr w.heap.size (i * 3) xs[i]) ∧ Hid (wr.there w.heap.size 0 (n * 3)) ∧ Hid (∃ c h : Nat → Nat, (∀ i (hi : i < xs.length), i < j → TxO (h i) wr w.heap.size (i * 3) xs[i] (c i) ∧ h i ≤ wr.heap.size) ∧ ∀ i k, i < k → k < j → h i ≤ c k) ∧ Hid (Below w.heap.size w wr)) (fun ti _ => n - (intOf ti).toNat)
  case atStart => exact ⟨0, rfl, Nat.zero_le _, hid hl, hid (fun i hi h => absurd h (by omega)), hid hT, hid ⟨fun _ => 0, fun _ => 0, fun i hi h => absurd h (by omega), fun i k _ h => absurd h (by omega)⟩, hid hB⟩
  case round =>
    clear hB hT hl
    obtain ⟨j, rfl, hj, HL, HP, HT, HOW, HBW⟩ := hrel
    by_cases hlt : j < n
    · have c1 : (j : Int) < (n : Int) := by omega
      have hjr : j < xs.length := by rw [HN.out]; exact hlt
      obtain ⟨b, o, rfl, hbs, hr⟩ := (HR.out.below HBW.out).at j hjr
      obtain ⟨a', cap', k0, k1, q1, q2, q3, q4, q5⟩ := hr
      have TR := hid (to_txO (N := N) xs[j] a' cap' wr q3 q2 q4)
      have HPR := hid (fun (W : World) (bb : Nat) => put_tx (w := W) (B := w.heap.size) (k := j) (n := n) (b := bb) (xs := xs) hjr HN.out)
      have HK6 := hid q3
      have HLN : Hid (∀ (X : World) (bb : Nat) (c h : Nat → Nat), (∀ i (hi : i < xs.length), i < j → TxO (h i) X w.heap.size (i * 3) xs[i] (c i) ∧ h i ≤ X.heap.size) → (∀ i k, i < k → k < j → h i ≤ c k) → (∀ i, i < j → h i ≤ bb) → TxO X.heap.size X w.heap.size (j * 3) xs[j] bb → ∃ c h : Nat → Nat, (∀ i (hi : i < xs.length), i < j + 1 → TxO (h i) X w.heap.size (i * 3) xs[i] (c i) ∧ h i ≤ X.heap.size) ∧ ∀ i k, i < k → k < j + 1 → h i ≤ c k) := hid (fun X bb c h a1 a2 a3 a4 => by
        refine ⟨fun i => if i = j then bb else c i, fun i => if i = j then X.heap.size else h i, fun i hi hh => ?_, fun i k hik hk => ?_⟩
        · by_cases e : i = j
          · subst e; simp only [if_true]; exact ⟨a4, Nat.le_refl _⟩
          · simp only [if_neg e]; exact a1 i hi (by omega)
        · simp only [if_neg (show i ≠ j by omega)]
          by_cases e : k = j
          · simp only [if_pos e]; exact a3 i (by omega)
          · simp only [if_neg e]; exact a2 i k hik (by omega))
      have HPO := hid (fun (W : World) (bb : Nat) (hbb : w.heap.size < bb) (hbh : bb < W.heap.size) (hT : W.there w.heap.size 0 (n * 3)) (ho : ChsO W.heap.size W bb xs[j].2.2) => putO_tx (hi := W.heap.size) (x := xs[j]) hT hlt hbb hbh ho)
      unfold txv at TR
      clear q2 q3 q4 q5
      generalize xs[j].1 = st at *
      generalize xs[j].2.1 = op at *
      generalize xs[j].2.2 = inn at *
      go_wp2_with fail
      refine TR.out.mono ?_
      rintro e w1 ⟨bb, rfl, hbb, ho, hoo, hb1⟩
      have hP := fun i (hi : i < xs.length) (h : i < j) => (HP.out i hi h).below hb1
      have hT := there_below HT.out HL.out hb1
      have hB := btrans HBW.out hb1
      have hL : w.heap.size < w1.heap.size := Nat.lt_of_lt_of_le HL.out hb1.size
      have hbl : w.heap.size < bb := Nat.lt_of_lt_of_le HL.out hbb
      have HPUT := hid (HPR.out w1 bb hP hT hbl HK6.out ho)
      obtain ⟨cf, hf, hw1, hw2⟩ := HOW.out
      have HOLD := hid (fun i (hi : i < xs.length) (h : i < j) => (⟨(hw1 i hi h).1.below (hw1 i hi h).2 hb1, Nat.le_trans (hw1 i hi h).2 hb1.size⟩ : TxO (hf i) w1 w.heap.size (i * 3) xs[i] (cf i) ∧ hf i ≤ w1.heap.size))
      have HLE := hid (fun i (h : i < j) => Nat.le_trans (hw1 i (by omega) h).2 hbb)
      have HW2 := hid hw2
      have HNEW := hid (HPO.out w1 bb hbl ho.1 hT hoo)
      clear hw1 hw2 HOW
      have q := fun i (hi : i < n * 3) => hT i hi
      obtain ⟨v0, s0, r0⟩ := there_at hT (show j * 3 < n * 3 by omega)
      obtain ⟨v1, s1, r1⟩ := there_at hT (show j * 3 + 1 < n * 3 by omega)
      obtain ⟨v2, s2, r2⟩ := there_at hT (show j * 3 + 2 < n * 3 by omega)
      clear q hP HPR HPO hb1 ho hoo TR
      have HL1 := hid hL
      have HB1 := hid hB
      clear hT
      go_wp2_with fail
      go_roundw
      case rel => exact ⟨j + 1, by go_num, by omega, hid (by simpa using hL), hid HPUT.out.1, hid HPUT.out.2, hid (HLN.out _ bb cf hf (fun i hi h => ⟨(((HOLD.out i hi h).1.set (.inr ⟨rfl, by omega⟩) _).set (.inr ⟨rfl, by omega⟩) _).set (.inr ⟨rfl, by omega⟩) _, by simpa using (HOLD.out i hi h).2⟩) HW2.out HLE.out (by simpa using HNEW.out _ _)), hid ((bset (bset (bset hB (by omega) _) (by omega) _) (by omega) _))⟩
      case measure => simp [intOf]; omega
    · obtain rfl : n = j := by omega
      have c1 : (n : Int) ≤ (n : Int) := by omega
      go_wp2_with fail
      go_ret
      exact ⟨w.heap.size, rfl, Nat.le_refl _, ⟨HL.out, fun i hi => by have := HP.out i hi (by rw [HN.out] at hi; exact hi); simpa using this⟩, ⟨by rw [HN.out]; exact HT.out, by
        obtain ⟨c, f, h1, h2⟩ := HOW.out
        exact ⟨c, f, fun i hi => h1 i hi (by rw [HN.out] at hi; exact hi), fun i k hik hk => h2 i k hik (by rw [HN.out] at hk; exact hk)⟩⟩, HBW.out⟩
set_option maxRecDepth 100000 in
set_option maxHeartbeats 2000000 in
theorem to_storeO {N1 N2 : Nat → Prop} (now : Int) (a ta : Option Addr) (cap tcap : Nat) (rs : List Rw) (ts : List Tx) (w : World) (hm : rs.length ≤ 1099511627776) (htm : ts.length ≤ 1099511627776) (hr : Rws N1 w a rs) (ht : Txs N2 1099511627776 w ta ts) : Calls Tryz.prog 10 #[.agg #[.int .i64 now, .slice a rs.length cap, .slice ta ts.length tcap]] w fun e w' => ∃ B T hR, e = .returned (.agg #[.int .i64 now, .slice (some ⟨B, 0, none⟩) rs.length rs.length, .slice (some ⟨T, 0, none⟩) ts.length ts.length]) ∧ Rws (fun c => B < c) w' (some ⟨B, 0, none⟩) rs ∧ Txs (fun c => T < c) 1099511627776 w' (some ⟨T, 0, none⟩) ts ∧ (w.heap.size ≤ B ∧ B < hR ∧ hR ≤ T ∧ T < w'.heap.size ∧ w'.there B 0 (rs.length * 5) ∧ RwsO hR w' B rs ∧ TxsO w'.heap.size w' T ts) ∧ Below w.heap.size w w' := by
  have HR := hid (fun (W : World) (hb : Below w.heap.size w W) => to_rowsO now a cap rs W hm (hr.below hb))
  have HT := hid (fun (W : World) (hb : Below w.heap.size w W) => to_txsO ta tcap ts W htm (ht.below hb))
  clear hr ht
  obtain ⟨n, hn⟩ : ∃ n, n = rs.length := ⟨_, rfl⟩
  obtain ⟨tn, htn⟩ : ∃ tn, tn = ts.length := ⟨_, rfl⟩
  rw [← hn] at HR ⊢
  rw [← htn] at HT ⊢
  clear hn htn
  have hB0 : Below w.heap.size w (((w.alloc (.cells #[.int .i64 now, .slice a n cap, .slice ta tn tcap] 27)).alloc (.cells #[.int .i64 0, .slice none 0 0, .slice none 0 0] 39)).alloc (.cells #[.int .i64 0, .slice none 0 0, .slice none 0 0] 39)) := balloc (balloc (balloc (Below.refl _ _) _) _) _
  have g0 := old_alloc (o' := .cells #[.int .i64 0, .slice none 0 0, .slice none 0 0] 39) (old_alloc (o' := .cells #[.int .i64 0, .slice none 0 0, .slice none 0 0] 39) (new_alloc w w.heap.size (.cells #[.int .i64 now, .slice a n cap, .slice ta tn tcap] 27) rfl))
  have g1 := old_alloc (o' := .cells #[.int .i64 0, .slice none 0 0, .slice none 0 0] 39) (new_alloc (w.alloc (.cells #[.int .i64 now, .slice a n cap, .slice ta tn tcap] 27)) (w.heap.size + 1) (.cells #[.int .i64 0, .slice none 0 0, .slice none 0 0] 39) (by simp))
  have g2 := new_alloc ((w.alloc (.cells #[.int .i64 now, .slice a n cap, .slice ta tn tcap] 27)).alloc (.cells #[.int .i64 0, .slice none 0 0, .slice none 0 0] 39)) (w.heap.size + 1 + 1) (.cells #[.int .i64 0, .slice none 0 0, .slice none 0 0] 39) (by simp)
  go_enter Tryz.func10, Tryz.ntmps10
  go_upto_region 2 with fail
  generalize ((w.alloc (.cells #[.int .i64 now, .slice a n cap, .slice ta tn tcap] 27)).alloc (.cells #[.int .i64 0, .slice none 0 0, .slice none 0 0] 39)).alloc (.cells #[.int .i64 0, .slice none 0 0, .slice none 0 0] 39) = W at *
  have hlW := lt_of_block g2
  obtain ⟨⟨d0, d1, d2⟩, _⟩ := cellk3 g0
  go_wp2_with fail
  refine (HR.out _ hB0).mono ?_
  rintro e w1 ⟨B, rfl, hbb, hbl, ho, hth, hro, hb1⟩
  replace g0 := keepheap2 hb1 g0
  replace g1 := keepheap2 hb1 g1
  replace g2 := keepheap2 hb1 g2
  have hB1 := btrans hB0 hb1
  have HO := hid ho
  have HTH := hid hth
  have HRO := hid hro
  have hs1 := hb1.size
  clear hB0 hb1 ho hth hro d0 d1 d2 HR
  obtain ⟨⟨f0, f1, f2⟩, p0, p1, p2⟩ := cellk3 g2
  go_upto_region 3 with fail
  have g2' : ((w1.setCell ⟨w.heap.size + 1 + 1, 0, none⟩ (.int .i64 now)).setCell ⟨w.heap.size + 1 + 1, 1, none⟩ (.slice (some ⟨B, 0, none⟩) n n)).heap[w.heap.size + 1 + 1]? = some (.cells #[.int .i64 now, .slice (some ⟨B, 0, none⟩) n n, .slice none 0 0] 39 (0, 0)) := setk3a g2 _ _
  have hfar : ∀ c, c ≠ w.heap.size + 1 + 1 → ((w1.setCell ⟨w.heap.size + 1 + 1, 0, none⟩ (.int .i64 now)).setCell ⟨w.heap.size + 1 + 1, 1, none⟩ (.slice (some ⟨B, 0, none⟩) n n)).heap[c]? = w1.heap[c]? := fun c hc => by rw [Below.heap_setCell _ _ _ _ (by dsimp only; omega), Below.heap_setCell _ _ _ _ (by dsimp only; omega)]
  have g0' := (hfar w.heap.size (by omega)).trans g0
  have g1' := (hfar (w.heap.size + 1) (by omega)).trans g1
  have HO2 := hid ((HO.out.setR (q := w.heap.size + 1 + 1) (k := 0) (u := .int .i64 now) (by omega) (by omega)).setR (q := w.heap.size + 1 + 1) (k := 1) (u := (.slice (some ⟨B, 0, none⟩) n n)) (by omega) (by omega))
  have hB2 := bset (bset hB1 (q := w.heap.size + 1 + 1) (k := 0) (by omega) (.int .i64 now)) (q := w.heap.size + 1 + 1) (k := 1) (by omega) (.slice (some ⟨B, 0, none⟩) n n)
  have HTH2 := hid (there_set (p := w.heap.size + 1 + 1) (k := 1) (there_set (p := w.heap.size + 1 + 1) (k := 0) HTH.out (.int .i64 now)) (.slice (some ⟨B, 0, none⟩) n n))
  have HRO2 : Hid (RwsO w1.heap.size ((w1.setCell ⟨w.heap.size + 1 + 1, 0, none⟩ (.int .i64 now)).setCell ⟨w.heap.size + 1 + 1, 1, none⟩ (.slice (some ⟨B, 0, none⟩) n n)) B rs) := hid (fun j hj => ((HRO.out j hj).other (by omega) _).other (by omega) _)
  have hVs : ((w1.setCell ⟨w.heap.size + 1 + 1, 0, none⟩ (.int .i64 now)).setCell ⟨w.heap.size + 1 + 1, 1, none⟩ (.slice (some ⟨B, 0, none⟩) n n)).heap.size = w1.heap.size := by simp
  have hVa := Nat.le_of_eq hVs
  have hVb := Nat.le_of_eq hVs.symm
  clear hVs
  have hbl2 : B < ((w1.setCell ⟨w.heap.size + 1 + 1, 0, none⟩ (.int .i64 now)).setCell ⟨w.heap.size + 1 + 1, 1, none⟩ (.slice (some ⟨B, 0, none⟩) n n)).heap.size := by simpa using hbl
  have hblw := hbl
  clear hfar g0 g1 g2 HO HTH HRO hB1 f0 f1 f2 p0 p1 p2 hbl
  generalize (w1.setCell ⟨w.heap.size + 1 + 1, 0, none⟩ (.int .i64 now)).setCell ⟨w.heap.size + 1 + 1, 1, none⟩ (.slice (some ⟨B, 0, none⟩) n n) = V at *
  have hlV := lt_of_block g2'
  obtain ⟨⟨d0, d1, d2⟩, _⟩ := cellk3 g0'
  go_wp2_with fail
  refine (HT.out _ hB2).mono ?_
  rintro e w2 ⟨T, rfl, htt, htx, hto, hb2⟩
  replace g1' := keepheap2 hb2 g1'
  replace g2' := keepheap2 hb2 g2'
  have hB3 := btrans hB2 hb2
  have HO3 := hid (fun j (hj : j < rs.length) => (HO2.out j hj).below hb2)
  have HTX := hid htx
  have HTO := hid hto
  have HTH3 := hid (there_below HTH2.out hbl2 hb2)
  have HRO3 : Hid (RwsO w1.heap.size w2 B rs) := hid (HRO2.out.below hVb hb2)
  have hs2 := hb2.size
  clear hB2 hb2 htx hto d0 d1 d2 HT HO2 g0'
  obtain ⟨⟨f0, f1, f2⟩, p0, p1, p2⟩ := cellk3 g2'
  obtain ⟨⟨v0, v1, v2⟩, u0, u1, u2⟩ := cellk3 g1'
  go_wp2_with fail
  have hTl := HTX.out.1
  have gF := setk3 (set_far (q := w.heap.size + 1 + 1) (k := 2) (u := (.slice (some ⟨T, 0, none⟩) tn tn)) g1' (by omega)) (.int .i64 now) (.slice (some ⟨B, 0, none⟩) n n) (.slice (some ⟨T, 0, none⟩) tn tn)
  have bF := bset (bset (bset (bset hB3 (q := w.heap.size + 1 + 1) (k := 2) (by omega) (.slice (some ⟨T, 0, none⟩) tn tn)) (q := w.heap.size + 1) (k := 0) (by omega) (.int .i64 now)) (q := w.heap.size + 1) (k := 1) (by omega) (.slice (some ⟨B, 0, none⟩) n n)) (q := w.heap.size + 1) (k := 2) (by omega) (.slice (some ⟨T, 0, none⟩) tn tn)
  have hfar : ∀ c, w.heap.size + 1 + 1 < c → ((((w2.setCell ⟨w.heap.size + 1 + 1, 2, none⟩ (.slice (some ⟨T, 0, none⟩) tn tn)).setCell ⟨w.heap.size + 1, 0, none⟩ (.int .i64 now)).setCell ⟨w.heap.size + 1, 1, none⟩ (.slice (some ⟨B, 0, none⟩) n n)).setCell ⟨w.heap.size + 1, 2, none⟩ (.slice (some ⟨T, 0, none⟩) tn tn)).heap[c]? = w2.heap[c]? := fun c hc => by rw [Below.heap_setCell _ _ _ _ (by dsimp only; omega), Below.heap_setCell _ _ _ _ (by dsimp only; omega), Below.heap_setCell _ _ _ _ (by dsimp only; omega), Below.heap_setCell _ _ _ _ (by dsimp only; omega)]
  have hsz : w2.heap.size ≤ ((((w2.setCell ⟨w.heap.size + 1 + 1, 2, none⟩ (.slice (some ⟨T, 0, none⟩) tn tn)).setCell ⟨w.heap.size + 1, 0, none⟩ (.int .i64 now)).setCell ⟨w.heap.size + 1, 1, none⟩ (.slice (some ⟨B, 0, none⟩) n n)).setCell ⟨w.heap.size + 1, 2, none⟩ (.slice (some ⟨T, 0, none⟩) tn tn)).heap.size := by simp
  have thF : ((((w2.setCell ⟨w.heap.size + 1 + 1, 2, none⟩ (.slice (some ⟨T, 0, none⟩) tn tn)).setCell ⟨w.heap.size + 1, 0, none⟩ (.int .i64 now)).setCell ⟨w.heap.size + 1, 1, none⟩ (.slice (some ⟨B, 0, none⟩) n n)).setCell ⟨w.heap.size + 1, 2, none⟩ (.slice (some ⟨T, 0, none⟩) tn tn)).there B 0 (n * 5) := (there_set (there_set (there_set (there_set HTH3.out _) _) _) _)
  have roF : RwsO w1.heap.size ((((w2.setCell ⟨w.heap.size + 1 + 1, 2, none⟩ (.slice (some ⟨T, 0, none⟩) tn tn)).setCell ⟨w.heap.size + 1, 0, none⟩ (.int .i64 now)).setCell ⟨w.heap.size + 1, 1, none⟩ (.slice (some ⟨B, 0, none⟩) n n)).setCell ⟨w.heap.size + 1, 2, none⟩ (.slice (some ⟨T, 0, none⟩) tn tn)) B rs := fun j hj => (((((HRO3.out j hj).other (by omega) _).other (by omega) _).other (by omega) _).other (by omega) _)
  have toF : TxsO ((((w2.setCell ⟨w.heap.size + 1 + 1, 2, none⟩ (.slice (some ⟨T, 0, none⟩) tn tn)).setCell ⟨w.heap.size + 1, 0, none⟩ (.int .i64 now)).setCell ⟨w.heap.size + 1, 1, none⟩ (.slice (some ⟨B, 0, none⟩) n n)).setCell ⟨w.heap.size + 1, 2, none⟩ (.slice (some ⟨T, 0, none⟩) tn tn)).heap.size ((((w2.setCell ⟨w.heap.size + 1 + 1, 2, none⟩ (.slice (some ⟨T, 0, none⟩) tn tn)).setCell ⟨w.heap.size + 1, 0, none⟩ (.int .i64 now)).setCell ⟨w.heap.size + 1, 1, none⟩ (.slice (some ⟨B, 0, none⟩) n n)).setCell ⟨w.heap.size + 1, 2, none⟩ (.slice (some ⟨T, 0, none⟩) tn tn)) T ts := by simpa using ((((HTO.out.set (by omega) _).set (by omega) _).set (by omega) _).set (by omega) _)
  have oF : RwsAt (fun c => B < c) ((((w2.setCell ⟨w.heap.size + 1 + 1, 2, none⟩ (.slice (some ⟨T, 0, none⟩) tn tn)).setCell ⟨w.heap.size + 1, 0, none⟩ (.int .i64 now)).setCell ⟨w.heap.size + 1, 1, none⟩ (.slice (some ⟨B, 0, none⟩) n n)).setCell ⟨w.heap.size + 1, 2, none⟩ (.slice (some ⟨T, 0, none⟩) tn tn)) B 0 rs := fun j hj => ((((HO3.out j hj).setR (q := w.heap.size + 1 + 1) (k := 2) (u := (.slice (some ⟨T, 0, none⟩) tn tn)) (by omega) (fun c hc => by omega)).setR (q := w.heap.size + 1) (k := 0) (u := .int .i64 now) (by omega) (fun c hc => by omega)).setR (q := w.heap.size + 1) (k := 1) (u := (.slice (some ⟨B, 0, none⟩) n n)) (by omega) (fun c hc => by omega)).setR (q := w.heap.size + 1) (k := 2) (u := (.slice (some ⟨T, 0, none⟩) tn tn)) (by omega) (fun c hc => by omega)
  have tF : TxsAt (fun c => T < c) 1099511627776 ((((w2.setCell ⟨w.heap.size + 1 + 1, 2, none⟩ (.slice (some ⟨T, 0, none⟩) tn tn)).setCell ⟨w.heap.size + 1, 0, none⟩ (.int .i64 now)).setCell ⟨w.heap.size + 1, 1, none⟩ (.slice (some ⟨B, 0, none⟩) n n)).setCell ⟨w.heap.size + 1, 2, none⟩ (.slice (some ⟨T, 0, none⟩) tn tn)) T 0 ts := fun j hj => (HTX.out.2 j hj).blk (fun i _ => by simp only [World.cell?, hfar T (by omega)]) (fun c hc => hfar c (by omega)) hsz
  generalize ((((w2.setCell ⟨w.heap.size + 1 + 1, 2, none⟩ (.slice (some ⟨T, 0, none⟩) tn tn)).setCell ⟨w.heap.size + 1, 0, none⟩ (.int .i64 now)).setCell ⟨w.heap.size + 1, 1, none⟩ (.slice (some ⟨B, 0, none⟩) n n)).setCell ⟨w.heap.size + 1, 2, none⟩ (.slice (some ⟨T, 0, none⟩) tn tn)) = wf at *
  have hTs := HTX.out.1
  obtain ⟨⟨z0, z1, z2⟩, _⟩ := cellk3 gF
  exact bodyPost_ret (v := .agg #[.int .i64 now, .slice (some ⟨B, 0, none⟩) n n, .slice (some ⟨T, 0, none⟩) tn tn]) (by simp [results, Tryz.results10, go_sem, z0, z1, z2]) rfl ⟨B, T, w1.heap.size, rfl, .inr ⟨B, 0, rfl, by omega, oF⟩, .inr ⟨T, 0, rfl, by omega, tF⟩, ⟨by omega, by omega, by omega, by omega, thF, roF, toF⟩, bF⟩
end Go.Proofs.YtehifednpbdokaaGreatDoor
namespace Go.Proofs.YtehifednpbdokaaGreatDoor
open Go.RowKit
set_option linter.unusedSimpArgs false
set_option linter.unusedVariables false
theorem rwsS_of2 {N : Nat → Prop} {hi : Nat} {w : World} {B : Nat} {rs : List Rw} (hB : B < w.heap.size) (h : Rws N w (some ⟨B, 0, none⟩) rs) (ho : RwsO hi w B rs) (hh : hi ≤ w.heap.size) : RwsS w B rs := by
  rcases h with h | ⟨b, o, e, hb, h⟩
  · subst h; exact ⟨hB, fun j hj => absurd hj (by simp)⟩
  · cases e
    exact rwsS_of hB h ho hh
theorem chsS_of {N : Nat → Prop} {hi : Nat} {w : World} {B : Nat} {xs : List Ch} (hB : B < w.heap.size) (h : Chs N 1099511627776 w (some ⟨B, 0, none⟩) xs) (ho : ChsO hi w B xs) (hh : hi ≤ w.heap.size) : ChsS w B xs := by
  rcases h with h | ⟨b, o, e, hb, h⟩
  · subst h; exact ⟨hB, fun j hj => absurd hj (by simp)⟩
  · cases e
    refine ⟨hB, fun j hj => ?_⟩
    obtain ⟨a, cap, h0, h1, h2, h3, h4, h5, h6, h7⟩ := h j hj
    obtain ⟨c, q0, q1, q2, q3⟩ := ho.2 j hj
    simp only [Nat.zero_add] at h0 h1 h2 h3
    rw [h3] at q0
    cases q0
    exact ⟨c, _, by omega, ⟨h0, h1, h2, h3⟩, h5, h6⟩
theorem txsS_of {N : Nat → Prop} {hi : Nat} {w : World} {B : Nat} {xs : List Tx} (hB : B < w.heap.size) (h : Txs N 1099511627776 w (some ⟨B, 0, none⟩) xs) (ho : TxsO hi w B xs) (hh : hi ≤ w.heap.size) : TxsS w B xs := by
  rcases h with h | ⟨b, o, e, hb, h⟩
  · subst h; exact ⟨hB, fun j hj => absurd hj (by simp)⟩
  · cases e
    refine ⟨hB, fun j hj => ?_⟩
    obtain ⟨a, cap, h0, h1, h2, h3, h4, h5, h6⟩ := h j hj
    obtain ⟨_, c, f, q, _⟩ := ho
    obtain ⟨⟨q0, q1, q2, q3⟩, q4⟩ := q j hj
    simp only [Nat.zero_add] at h0 h1 h2
    rw [h2] at q0
    cases q0
    exact ⟨c j, _, by omega, ⟨h0, h1, h2⟩, h4, chsS_of (by omega) h5 q3 (by omega)⟩
/-- A store whose lists may be written into. -/
def OwnS2 (hi hR : Nat) (w : World) (B T : Nat) (rs : List Rw) (ts : List Tx) : Prop := B < hR ∧ hR ≤ T ∧ T < hi ∧ hi ≤ w.heap.size ∧ w.there B 0 (rs.length * 5) ∧ RwsO hR w B rs ∧ TxsO hi w T ts
theorem OwnS2.below {hi hR : Nat} {w w' : World} {B T : Nat} {rs : List Rw} {ts : List Tx} (h : OwnS2 hi hR w B T rs ts) (H : Below w.heap.size w w') : OwnS2 hi hR w' B T rs ts := by
  obtain ⟨h1, h2, h3, h4, h5, h6, h7⟩ := h
  have := H.size
  exact ⟨h1, h2, h3, by omega, there_below h5 (by omega) H, h6.below (by omega) H, h7.below (by omega) h4 H⟩
theorem StX.mid {b1 u1 b2 u2 lo hi : Nat} {w w' : World} {a ta : Option Addr} {cap tcap : Nat} {rs : List Rw} {ts : List Tx} (h : StX b1 u1 b2 u2 w a ta cap tcap rs ts) (m : Mid lo hi w w') (h1 : hi ≤ b1) (h2 : hi ≤ b2) : StX b1 u1 b2 u2 w' a ta cap tcap rs ts :=
  ⟨h.1.frame (fun c c1 c2 => mid_blk m (by have := h.1.1; omega) (by omega)) m.2.2.2.1, h.2.frame (fun c c1 c2 => mid_blk m (by have := h.2.1; omega) (by omega)) m.2.2.2.1⟩
theorem mks_L {k0 : Int} {ts : List Tx} (hs : txS ts) : ∀ j (h : j < (mks k0 ts).length), (mks k0 ts)[j].2.2.length ≤ 1099511627776 := by
  intro j hj
  have hj' := hj
  rw [mks_len] at hj'
  rw [mks_at hj']
  simp only [mkt, mkc_len]
  have := (hs.2 j hj').1
  omega
theorem txS_L {ts : List Tx} (hs : txS ts) : txL ts := fun j hj => by have := (hs.2 j hj).1; omega
theorem clS_S {now : Int} {rs : List Rw} {ts : List Tx} (h : rwS rs) : rwS (clS now rs ts) := by
  unfold clS
  split
  · exact ⟨Nat.le_trans (vacb_len _ _ _) h.1, vacb_lens h.2⟩
  · exact h
end Go.Proofs.YtehifednpbdokaaGreatDoor
namespace Go.Proofs.YtehifednpbdokaaGreatDoor
open Go.RowKit
set_option linter.unusedSimpArgs false
set_option linter.unusedVariables false
theorem chS_nilR : chS [] := ⟨by simp, fun m h => by simp at h⟩
theorem rbT_S {now n : Int} {rs : List Rw} {ts : List Tx} (h : txS ts) : txS (rbT now rs ts n) := by
  unfold rbT
  split
  · refine ⟨by rw [List.length_set]; exact h.1, fun m hm => ?_⟩
    rw [List.getElem_set]
    split
    · exact chS_nilR
    · exact h.2 _ _
  · exact h
set_option maxRecDepth 100000 in
set_option maxHeartbeats 8000000 in
theorem rollback_w (now0 : Int) (a0 : Option Addr) (cap0 : Nat) (rs0 : List Rw) (ta0 : Option Addr) (tcap0 : Nat) (ts0 : List Tx) (a1 : Int) (w : World) (hl0 : rs0.length ≤ 9223372036854775807) (w0 : RwsL w a0 rs0) (htl0 : ts0.length ≤ 9223372036854775807) (wt0 : Txs (fun _ => True) 9223372036854775807 w ta0 ts0) (na : Addr) (hL : w.cell? ⟨0, 0, none⟩ = some (.iface 273 (.pointer (some na)))) (hE : w.cell? ⟨3, 0, none⟩ = some (.iface 210 (.agg #[.pointer (some ⟨4, 71, none⟩)]))) : Calls Tryz.prog 7 #[.agg #[.int .i64 now0, .slice a0 rs0.length cap0, .slice ta0 ts0.length tcap0], .int .i64 a1] w fun e w' => e = .returned (.bool true) ∧ Below w.heap.size w w' := by
  have HR0 := hid w0
  have HT0 := hid wt0
  clear w0 wt0
  go_enter Tryz.func7, Tryz.ntmps7
  go_wp2_with fail
  refine (sz_store now0 a0 ta0 cap0 tcap0 rs0 ts0 _ hl0 htl0 (HR0.out.below (by show Below _ _ _; (repeat (first | with_reducible exact Below.refl _ _ | with_reducible assumption | (with_reducible refine btrans ?_ (by with_reducible assumption)) | with_reducible refine bdrew ?_ | with_reducible refine balloc ?_ _)))) (HT0.out.below (by show Below _ _ _; (repeat (first | with_reducible exact Below.refl _ _ | with_reducible assumption | (with_reducible refine btrans ?_ (by with_reducible assumption)) | with_reducible refine bdrew ?_ | with_reducible refine balloc ?_ _))))).mono ?_
  rintro e y0 ⟨⟨v, rfl, hv⟩, hb1⟩
  have c0 : y0.cell? ⟨w.heap.size, 0, none⟩ = some (.int .i64 now0) := by (repeat (first | with_reducible assumption | (refine newcell _ _ _ _ _ _ ?_ rfl; simp; done) | refine keepcell (by with_reducible assumption) ?_ | refine keepdrew ?_ | refine keepalloc ?_ _))
  have c1 : y0.cell? ⟨w.heap.size, 1, none⟩ = some (.slice a0 rs0.length cap0) := by (repeat (first | with_reducible assumption | (refine newcell _ _ _ _ _ _ ?_ rfl; simp; done) | refine keepcell (by with_reducible assumption) ?_ | refine keepdrew ?_ | refine keepalloc ?_ _))
  have c2 : y0.cell? ⟨w.heap.size, 2, none⟩ = some (.slice ta0 ts0.length tcap0) := by (repeat (first | with_reducible assumption | (refine newcell _ _ _ _ _ _ ?_ rfl; simp; done) | refine keepcell (by with_reducible assumption) ?_ | refine keepdrew ?_ | refine keepalloc ?_ _))
  have hB2 : Below w.heap.size w y0 := by (repeat (first | with_reducible exact Below.refl _ _ | with_reducible assumption | (with_reducible refine btrans ?_ (by with_reducible assumption)) | with_reducible refine bdrew ?_ | with_reducible refine balloc ?_ _))
  rcases hv with rfl | ⟨hv0, hv1, HV⟩
  · go_wp2_with fail
    go_ret
    exact ⟨rfl, hB2⟩
  have hv2 : ¬ v < 0 := by omega
  have HP := hid (HR0.out.rws HV.out.1.2)
  have HQ := hid (HT0.out.small HV.out.2)
  have hm' : rs0.length ≤ 1099511627776 := by have := HV.out.1.1; omega
  have hn' : ts0.length ≤ 1099511627776 := by have := HV.out.2.1; omega
  clear hb1 HR0 HT0
  have CS := hid (fun (b t : Nat) w' (hs : RwsS w' b rs0) (hw : Rws (fun c => b < c) w' (some ⟨b, 0, none⟩) rs0) (hts : TxsS w' t ts0) (hx : Txs (fun c => t < c) 1099511627776 w' (some ⟨t, 0, none⟩) ts0) => spec_Rollback now0 a1 b t rs0 ts0 w' hm' hn' hs hw hts hx)
  have CI := hid (fun (b t : Nat) w' (hb : Below w.heap.size w w') (hs : RwsS w' b rs0) (hw : Rws (fun c => b < c) w' (some ⟨b, 0, none⟩) rs0) (hts : TxsS w' t ts0) (hx : Txs (fun c => t < c) 1099511627776 w' (some ⟨t, 0, none⟩) ts0) => impl_Rollback now0 a1 b t rs0 ts0 w' na hm' hn' hs hts (keepcell hb hL) (keepcell hb hE))
  have HQS : Hid (txS (rbT now0 rs0 ts0 a1)) := hid (rbT_S HV.out.2)
  unfold SSN at CS
  unfold SN at CI
  generalize rbT now0 rs0 ts0 a1 = qt at *
  generalize rbN now0 rs0 ts0 a1 = bn at *
  have hqm : qt.length ≤ 1099511627776 := by have := HQS.out.1; omega
  obtain ⟨hkr, hks⟩ := kst_pos HV.out.1 HQS.out
  have hkn : ¬ (kst rs0 qt < 0) := by omega
  clear hkr hks
  obtain ⟨ks, hks⟩ : ∃ ks, ks = kst rs0 qt := ⟨_, rfl⟩
  have MK := hid (fun b1 u1 b2 u2 lo hi a ta cap tcap w' e1 e2 e3 e4 e5 e6 (h : StX b1 u1 b2 u2 w' a ta cap tcap rs0 qt) => mark_storeX b1 u1 b2 u2 lo hi now0 a ta cap tcap rs0 qt w' HV.out.1 HQS.out e1 e2 e3 e4 e5 e6 h.1 h.2)
  have HE := hid (fun a ta cap tcap w' (h1 : Rws (fun _ => True) w' a (mkr 1 rs0)) (h2 : Txs (fun _ => True) 1099511627776 w' ta (mks (kkr 1 rs0 rs0.length) qt)) => held_storeX now0 a ta cap tcap rs0 qt w' HV.out.1 HQS.out h1 h2)
  rw [← hks] at MK HE hkn
  clear hks
  have Q0 := hid (HP.out.below hB2)
  have QT := hid (HQ.out.below hB2)
  have hw0 : w.heap.size < y0.heap.size := World.block_lt_of_cell? y0 _ c0
  go_wp2_with fail
  refine (to_storeO now0 a0 ta0 cap0 tcap0 rs0 ts0 _ hm' hn' Q0.out QT.out).mono ?_
  rintro e y1 ⟨b1, t1, hR1, rfl, ho1, hx1, hss, hc1⟩
  replace Q0 : Hid (Rws (fun _ => True) y1 a0 rs0) := hid (Q0.out.below (show Below y0.heap.size y0 y1 by (repeat (first | with_reducible exact Below.refl _ _ | with_reducible assumption | (with_reducible refine btrans ?_ (by with_reducible assumption)) | with_reducible refine bdrew ?_ | with_reducible refine balloc ?_ _))))
  replace QT : Hid (Txs (fun _ => True) 1099511627776 y1 ta0 ts0) := hid (QT.out.below (show Below y0.heap.size y0 y1 by (repeat (first | with_reducible exact Below.refl _ _ | with_reducible assumption | (with_reducible refine btrans ?_ (by with_reducible assumption)) | with_reducible refine bdrew ?_ | with_reducible refine balloc ?_ _))))
  have n1_0 := keepcell hc1 c0
  have n1_1 := keepcell hc1 c1
  have n1_2 := keepcell hc1 c2
  replace hB2 := btrans hB2 hc1
  clear hc1 c0 c1 c2
  have R1 := hid ho1
  have X1' := hid hx1
  obtain ⟨hg1, hl1, hl1', hl1'', ht1, hr1, hx1'⟩ := hss
  have S1 := hid (rwsS_of2 (by omega) R1.out hr1 (by omega))
  have U1 := hid (txsS_of (by omega) X1'.out hx1' (Nat.le_refl _))
  have hw1 : w.heap.size < y1.heap.size := World.block_lt_of_cell? y1 _ n1_0
  clear ho1 hx1 hg1 hl1 hl1' hl1'' ht1 hr1 hx1'
  go_wp2_with fail
  refine (CS.out b1 t1 _ S1.out R1.out U1.out X1'.out).mono ?_
  rintro e y2 ⟨sa, sc, sta, stc, rfl, hso, hst, hc2⟩
  replace Q0 : Hid (Rws (fun _ => True) y2 a0 rs0) := hid (Q0.out.below (show Below y1.heap.size y1 y2 by (repeat (first | with_reducible exact Below.refl _ _ | with_reducible assumption | (with_reducible refine btrans ?_ (by with_reducible assumption)) | with_reducible refine bdrew ?_ | with_reducible refine balloc ?_ _))))
  replace QT : Hid (Txs (fun _ => True) 1099511627776 y2 ta0 ts0) := hid (QT.out.below (show Below y1.heap.size y1 y2 by (repeat (first | with_reducible exact Below.refl _ _ | with_reducible assumption | (with_reducible refine btrans ?_ (by with_reducible assumption)) | with_reducible refine bdrew ?_ | with_reducible refine balloc ?_ _))))
  have n2_0 := keepcell hc2 n1_0
  have n2_1 := keepcell hc2 n1_1
  have n2_2 := keepcell hc2 n1_2
  replace hB2 := btrans hB2 hc2
  clear hc2 n1_0 n1_1 n1_2
  have S00 := hid hso
  have S0 := hid hso
  have ST00 := hid hst
  have ST0 := hid hst
  have HBS : Hid (BS y2 y2) := hid (Below.refl _ _)
  have hw2 : w.heap.size < y2.heap.size := World.block_lt_of_cell? y2 _ n2_0
  clear hso hst R1 X1' S1 U1
  have r2_0 := keepalloc n2_0 (.cells #[.int .i64 now0, .slice sa rs0.length sc, .slice sta qt.length stc] 39)
  have r2_1 := keepalloc n2_1 (.cells #[.int .i64 now0, .slice sa rs0.length sc, .slice sta qt.length stc] 39)
  have r2_2 := keepalloc n2_2 (.cells #[.int .i64 now0, .slice sa rs0.length sc, .slice sta qt.length stc] 39)
  go_wp2_with fail
  refine (to_storeO now0 a0 ta0 cap0 tcap0 rs0 ts0 _ hm' hn' (Q0.out.below (balloc (Below.refl _ _) _)) (QT.out.below (balloc (Below.refl _ _) _))).mono ?_
  rintro e y3 ⟨b3, t3, hR, rfl, ho3, hx3, hss, hc3⟩
  replace Q0 : Hid (Rws (fun _ => True) y3 a0 rs0) := hid (Q0.out.below (show Below y2.heap.size y2 y3 by (repeat (first | with_reducible exact Below.refl _ _ | with_reducible assumption | (with_reducible refine btrans ?_ (by with_reducible assumption)) | with_reducible refine bdrew ?_ | with_reducible refine balloc ?_ _))))
  replace QT : Hid (Txs (fun _ => True) 1099511627776 y3 ta0 ts0) := hid (QT.out.below (show Below y2.heap.size y2 y3 by (repeat (first | with_reducible exact Below.refl _ _ | with_reducible assumption | (with_reducible refine btrans ?_ (by with_reducible assumption)) | with_reducible refine bdrew ?_ | with_reducible refine balloc ?_ _))))
  replace S0 : Hid (Rws (fun _ => True) y3 sa rs0) := hid (S0.out.below (show Below y2.heap.size y2 y3 by (repeat (first | with_reducible exact Below.refl _ _ | with_reducible assumption | (with_reducible refine btrans ?_ (by with_reducible assumption)) | with_reducible refine bdrew ?_ | with_reducible refine balloc ?_ _))))
  replace ST0 : Hid (Txs (fun _ => True) 1099511627776 y3 sta qt) := hid (ST0.out.below (show Below y2.heap.size y2 y3 by (repeat (first | with_reducible exact Below.refl _ _ | with_reducible assumption | (with_reducible refine btrans ?_ (by with_reducible assumption)) | with_reducible refine bdrew ?_ | with_reducible refine balloc ?_ _))))
  replace HBS : Hid (BS y2 y3) := hid (HBS.out.below (show Below y2.heap.size y2 y3 by (repeat (first | with_reducible exact Below.refl _ _ | with_reducible assumption | (with_reducible refine btrans ?_ (by with_reducible assumption)) | with_reducible refine bdrew ?_ | with_reducible refine balloc ?_ _))))
  have n3_0 : y3.cell? ⟨w.heap.size, 0, none⟩ = some (.int .i64 now0) := by (repeat (first | with_reducible assumption | (refine newcell _ _ _ _ _ _ ?_ rfl; simp; done) | refine keepcell (by with_reducible assumption) ?_ | refine keepdrew ?_ | refine keepalloc ?_ _))
  have n3_1 : y3.cell? ⟨w.heap.size, 1, none⟩ = some (.slice a0 rs0.length cap0) := by (repeat (first | with_reducible assumption | (refine newcell _ _ _ _ _ _ ?_ rfl; simp; done) | refine keepcell (by with_reducible assumption) ?_ | refine keepdrew ?_ | refine keepalloc ?_ _))
  have n3_2 : y3.cell? ⟨w.heap.size, 2, none⟩ = some (.slice ta0 ts0.length tcap0) := by (repeat (first | with_reducible assumption | (refine newcell _ _ _ _ _ _ ?_ rfl; simp; done) | refine keepcell (by with_reducible assumption) ?_ | refine keepdrew ?_ | refine keepalloc ?_ _))
  have n3_3 : y3.cell? ⟨y2.heap.size, 0, none⟩ = some (.int .i64 now0) := by (repeat (first | with_reducible assumption | (refine newcell _ _ _ _ _ _ ?_ rfl; simp; done) | refine keepcell (by with_reducible assumption) ?_ | refine keepdrew ?_ | refine keepalloc ?_ _))
  have n3_4 : y3.cell? ⟨y2.heap.size, 1, none⟩ = some (.slice sa rs0.length sc) := by (repeat (first | with_reducible assumption | (refine newcell _ _ _ _ _ _ ?_ rfl; simp; done) | refine keepcell (by with_reducible assumption) ?_ | refine keepdrew ?_ | refine keepalloc ?_ _))
  have n3_5 : y3.cell? ⟨y2.heap.size, 2, none⟩ = some (.slice sta qt.length stc) := by (repeat (first | with_reducible assumption | (refine newcell _ _ _ _ _ _ ?_ rfl; simp; done) | refine keepcell (by with_reducible assumption) ?_ | refine keepdrew ?_ | refine keepalloc ?_ _))
  replace hB2 : Below w.heap.size w y3 := by (repeat (first | with_reducible exact Below.refl _ _ | with_reducible assumption | (with_reducible refine btrans ?_ (by with_reducible assumption)) | with_reducible refine bdrew ?_ | with_reducible refine balloc ?_ _))
  clear hc3 n2_0 n2_1 n2_2
  have R3 := hid ho3
  have X3' := hid hx3
  obtain ⟨hg3, hl3, hl3', hl3'', ht3, hr3, hx3'⟩ := hss
  have S3 := hid (rwsS_of2 (by omega) R3.out hr3 (by omega))
  have U3 := hid (txsS_of (by omega) X3'.out hx3' (Nat.le_refl _))
  have O3 : Hid (OwnS2 y3.heap.size hR y3 b3 t3 rs0 ts0) := hid ⟨hl3, hl3', hl3'', Nat.le_refl _, ht3, hr3, hx3'⟩
  have hg3' : y2.heap.size < b3 := by simp at hg3; omega
  have hl5 : b3 < y3.heap.size := by omega
  have HSL : Hid (SizeLe y2 b3) := hid (Nat.le_of_lt hg3')
  have HSL2 : Hid (SizeLe y2 (y3.heap.size + 1)) := hid (show y2.heap.size ≤ y3.heap.size + 1 by omega)
  clear ho3 hx3 hg3 ht3 hr3 hx3'
  have r3_0 := keepalloc n3_0 (.cells #[.int .i64 now0, .slice (some ⟨b3, 0, none⟩) rs0.length rs0.length, .slice (some ⟨t3, 0, none⟩) ts0.length ts0.length] 39)
  have r3_1 := keepalloc n3_1 (.cells #[.int .i64 now0, .slice (some ⟨b3, 0, none⟩) rs0.length rs0.length, .slice (some ⟨t3, 0, none⟩) ts0.length ts0.length] 39)
  have r3_2 := keepalloc n3_2 (.cells #[.int .i64 now0, .slice (some ⟨b3, 0, none⟩) rs0.length rs0.length, .slice (some ⟨t3, 0, none⟩) ts0.length ts0.length] 39)
  have r3_3 := keepalloc n3_3 (.cells #[.int .i64 now0, .slice (some ⟨b3, 0, none⟩) rs0.length rs0.length, .slice (some ⟨t3, 0, none⟩) ts0.length ts0.length] 39)
  have r3_4 := keepalloc n3_4 (.cells #[.int .i64 now0, .slice (some ⟨b3, 0, none⟩) rs0.length rs0.length, .slice (some ⟨t3, 0, none⟩) ts0.length ts0.length] 39)
  have r3_5 := keepalloc n3_5 (.cells #[.int .i64 now0, .slice (some ⟨b3, 0, none⟩) rs0.length rs0.length, .slice (some ⟨t3, 0, none⟩) ts0.length ts0.length] 39)
  go_wp2_with fail
  refine (CI.out b3 t3 _ (balloc hB2 _) (S3.out.below (balloc (Below.refl _ _) _)) (R3.out.below (balloc (Below.refl _ _) _)) (U3.out.below (balloc (Below.refl _ _) _)) (X3'.out.below (balloc (Below.refl _ _) _))).mono ?_
  rintro e y4 ⟨ga, gc, gta, gtc, p1, v1, p2, v2, rfl, hgx, hp1, hp2, hp3, hc4⟩
  replace Q0 : Hid (Rws (fun _ => True) y4 a0 rs0) := hid (Q0.out.below (show Below y3.heap.size y3 y4 by (repeat (first | with_reducible exact Below.refl _ _ | with_reducible assumption | (with_reducible refine btrans ?_ (by with_reducible assumption)) | with_reducible refine bdrew ?_ | with_reducible refine balloc ?_ _))))
  replace QT : Hid (Txs (fun _ => True) 1099511627776 y4 ta0 ts0) := hid (QT.out.below (show Below y3.heap.size y3 y4 by (repeat (first | with_reducible exact Below.refl _ _ | with_reducible assumption | (with_reducible refine btrans ?_ (by with_reducible assumption)) | with_reducible refine bdrew ?_ | with_reducible refine balloc ?_ _))))
  replace S0 : Hid (Rws (fun _ => True) y4 sa rs0) := hid (S0.out.below (show Below y3.heap.size y3 y4 by (repeat (first | with_reducible exact Below.refl _ _ | with_reducible assumption | (with_reducible refine btrans ?_ (by with_reducible assumption)) | with_reducible refine bdrew ?_ | with_reducible refine balloc ?_ _))))
  replace ST0 : Hid (Txs (fun _ => True) 1099511627776 y4 sta qt) := hid (ST0.out.below (show Below y3.heap.size y3 y4 by (repeat (first | with_reducible exact Below.refl _ _ | with_reducible assumption | (with_reducible refine btrans ?_ (by with_reducible assumption)) | with_reducible refine bdrew ?_ | with_reducible refine balloc ?_ _))))
  replace HBS : Hid (BS y2 y4) := hid (HBS.out.below (show Below y3.heap.size y3 y4 by (repeat (first | with_reducible exact Below.refl _ _ | with_reducible assumption | (with_reducible refine btrans ?_ (by with_reducible assumption)) | with_reducible refine bdrew ?_ | with_reducible refine balloc ?_ _))))
  replace R3 : Hid (Rws (fun c => b3 < c) y4 (some ⟨b3, 0, none⟩) rs0) := hid (R3.out.below (show Below y3.heap.size y3 y4 by (repeat (first | with_reducible exact Below.refl _ _ | with_reducible assumption | (with_reducible refine btrans ?_ (by with_reducible assumption)) | with_reducible refine bdrew ?_ | with_reducible refine balloc ?_ _))))
  replace X3' : Hid (Txs (fun c => t3 < c) 1099511627776 y4 (some ⟨t3, 0, none⟩) ts0) := hid (X3'.out.below (show Below y3.heap.size y3 y4 by (repeat (first | with_reducible exact Below.refl _ _ | with_reducible assumption | (with_reducible refine btrans ?_ (by with_reducible assumption)) | with_reducible refine bdrew ?_ | with_reducible refine balloc ?_ _))))
  replace S3 : Hid (RwsS y4 b3 rs0) := hid (S3.out.below (show Below y3.heap.size y3 y4 by (repeat (first | with_reducible exact Below.refl _ _ | with_reducible assumption | (with_reducible refine btrans ?_ (by with_reducible assumption)) | with_reducible refine bdrew ?_ | with_reducible refine balloc ?_ _))))
  replace U3 : Hid (TxsS y4 t3 ts0) := hid (U3.out.below (show Below y3.heap.size y3 y4 by (repeat (first | with_reducible exact Below.refl _ _ | with_reducible assumption | (with_reducible refine btrans ?_ (by with_reducible assumption)) | with_reducible refine bdrew ?_ | with_reducible refine balloc ?_ _))))
  replace O3 : Hid (OwnS2 y3.heap.size hR y4 b3 t3 rs0 ts0) := hid (O3.out.below (show Below y3.heap.size y3 y4 by (repeat (first | with_reducible exact Below.refl _ _ | with_reducible assumption | (with_reducible refine btrans ?_ (by with_reducible assumption)) | with_reducible refine bdrew ?_ | with_reducible refine balloc ?_ _))))
  have n4_0 : y4.cell? ⟨w.heap.size, 0, none⟩ = some (.int .i64 now0) := by (repeat (first | with_reducible assumption | (refine newcell _ _ _ _ _ _ ?_ rfl; simp; done) | refine keepcell (by with_reducible assumption) ?_ | refine keepdrew ?_ | refine keepalloc ?_ _))
  have n4_1 : y4.cell? ⟨w.heap.size, 1, none⟩ = some (.slice a0 rs0.length cap0) := by (repeat (first | with_reducible assumption | (refine newcell _ _ _ _ _ _ ?_ rfl; simp; done) | refine keepcell (by with_reducible assumption) ?_ | refine keepdrew ?_ | refine keepalloc ?_ _))
  have n4_2 : y4.cell? ⟨w.heap.size, 2, none⟩ = some (.slice ta0 ts0.length tcap0) := by (repeat (first | with_reducible assumption | (refine newcell _ _ _ _ _ _ ?_ rfl; simp; done) | refine keepcell (by with_reducible assumption) ?_ | refine keepdrew ?_ | refine keepalloc ?_ _))
  have n4_3 : y4.cell? ⟨y2.heap.size, 0, none⟩ = some (.int .i64 now0) := by (repeat (first | with_reducible assumption | (refine newcell _ _ _ _ _ _ ?_ rfl; simp; done) | refine keepcell (by with_reducible assumption) ?_ | refine keepdrew ?_ | refine keepalloc ?_ _))
  have n4_4 : y4.cell? ⟨y2.heap.size, 1, none⟩ = some (.slice sa rs0.length sc) := by (repeat (first | with_reducible assumption | (refine newcell _ _ _ _ _ _ ?_ rfl; simp; done) | refine keepcell (by with_reducible assumption) ?_ | refine keepdrew ?_ | refine keepalloc ?_ _))
  have n4_5 : y4.cell? ⟨y2.heap.size, 2, none⟩ = some (.slice sta qt.length stc) := by (repeat (first | with_reducible assumption | (refine newcell _ _ _ _ _ _ ?_ rfl; simp; done) | refine keepcell (by with_reducible assumption) ?_ | refine keepdrew ?_ | refine keepalloc ?_ _))
  have n4_6 : y4.cell? ⟨y3.heap.size, 0, none⟩ = some (.int .i64 now0) := by (repeat (first | with_reducible assumption | (refine newcell _ _ _ _ _ _ ?_ rfl; simp; done) | refine keepcell (by with_reducible assumption) ?_ | refine keepdrew ?_ | refine keepalloc ?_ _))
  have n4_7 : y4.cell? ⟨y3.heap.size, 1, none⟩ = some (.slice (some ⟨b3, 0, none⟩) rs0.length rs0.length) := by (repeat (first | with_reducible assumption | (refine newcell _ _ _ _ _ _ ?_ rfl; simp; done) | refine keepcell (by with_reducible assumption) ?_ | refine keepdrew ?_ | refine keepalloc ?_ _))
  have n4_8 : y4.cell? ⟨y3.heap.size, 2, none⟩ = some (.slice (some ⟨t3, 0, none⟩) ts0.length ts0.length) := by (repeat (first | with_reducible assumption | (refine newcell _ _ _ _ _ _ ?_ rfl; simp; done) | refine keepcell (by with_reducible assumption) ?_ | refine keepdrew ?_ | refine keepalloc ?_ _))
  replace hB2 : Below w.heap.size w y4 := by (repeat (first | with_reducible exact Below.refl _ _ | with_reducible assumption | (with_reducible refine btrans ?_ (by with_reducible assumption)) | with_reducible refine bdrew ?_ | with_reducible refine balloc ?_ _))
  clear hc4 n3_0 n3_1 n3_2 n3_3 n3_4 n3_5
  have G0 : Hid (StX p1 v1 p2 v2 y4 ga gta gc gtc rs0 qt) := hid hgx
  have hw4 : y3.heap.size < y4.heap.size := World.block_lt_of_cell? y4 _ n4_6
  have hp1' : y3.heap.size + 1 ≤ p1 := by simpa using hp1
  have hp2' : y3.heap.size + 1 ≤ p2 := by simpa using hp2
  have hv1' : v1 ≤ y4.heap.size := hgx.1.1
  have hv2' : v2 ≤ y4.heap.size := hgx.2.1
  clear hgx hp1 hp2
  have r4_0 := keepalloc n4_0 (.cells #[.int .i64 now0, .slice ga rs0.length gc, .slice gta qt.length gtc] 39)
  have r4_1 := keepalloc n4_1 (.cells #[.int .i64 now0, .slice ga rs0.length gc, .slice gta qt.length gtc] 39)
  have r4_2 := keepalloc n4_2 (.cells #[.int .i64 now0, .slice ga rs0.length gc, .slice gta qt.length gtc] 39)
  have r4_3 := keepalloc n4_3 (.cells #[.int .i64 now0, .slice ga rs0.length gc, .slice gta qt.length gtc] 39)
  have r4_4 := keepalloc n4_4 (.cells #[.int .i64 now0, .slice ga rs0.length gc, .slice gta qt.length gtc] 39)
  have r4_5 := keepalloc n4_5 (.cells #[.int .i64 now0, .slice ga rs0.length gc, .slice gta qt.length gtc] 39)
  have r4_6 := keepalloc n4_6 (.cells #[.int .i64 now0, .slice ga rs0.length gc, .slice gta qt.length gtc] 39)
  have r4_7 := keepalloc n4_7 (.cells #[.int .i64 now0, .slice ga rs0.length gc, .slice gta qt.length gtc] 39)
  have r4_8 := keepalloc n4_8 (.cells #[.int .i64 now0, .slice ga rs0.length gc, .slice gta qt.length gtc] 39)
  go_wp2_with fail
  refine (eq_store now0 ga sa gta sta gc sc gtc stc rs0 qt _ hm' hqm (G0.out.below (balloc (Below.refl _ _) _)).1.rws (S0.out.below (balloc (Below.refl _ _) _)) ((G0.out.below (balloc (Below.refl _ _) _)).2.txs (txS_L HQS.out)) (ST0.out.below (balloc (Below.refl _ _) _))).mono ?_
  rintro e y5 ⟨rfl, hc5⟩
  replace Q0 : Hid (Rws (fun _ => True) y5 a0 rs0) := hid (Q0.out.below (show Below y4.heap.size y4 y5 by (repeat (first | with_reducible exact Below.refl _ _ | with_reducible assumption | (with_reducible refine btrans ?_ (by with_reducible assumption)) | with_reducible refine bdrew ?_ | with_reducible refine balloc ?_ _))))
  replace QT : Hid (Txs (fun _ => True) 1099511627776 y5 ta0 ts0) := hid (QT.out.below (show Below y4.heap.size y4 y5 by (repeat (first | with_reducible exact Below.refl _ _ | with_reducible assumption | (with_reducible refine btrans ?_ (by with_reducible assumption)) | with_reducible refine bdrew ?_ | with_reducible refine balloc ?_ _))))
  replace S0 : Hid (Rws (fun _ => True) y5 sa rs0) := hid (S0.out.below (show Below y4.heap.size y4 y5 by (repeat (first | with_reducible exact Below.refl _ _ | with_reducible assumption | (with_reducible refine btrans ?_ (by with_reducible assumption)) | with_reducible refine bdrew ?_ | with_reducible refine balloc ?_ _))))
  replace ST0 : Hid (Txs (fun _ => True) 1099511627776 y5 sta qt) := hid (ST0.out.below (show Below y4.heap.size y4 y5 by (repeat (first | with_reducible exact Below.refl _ _ | with_reducible assumption | (with_reducible refine btrans ?_ (by with_reducible assumption)) | with_reducible refine bdrew ?_ | with_reducible refine balloc ?_ _))))
  replace HBS : Hid (BS y2 y5) := hid (HBS.out.below (show Below y4.heap.size y4 y5 by (repeat (first | with_reducible exact Below.refl _ _ | with_reducible assumption | (with_reducible refine btrans ?_ (by with_reducible assumption)) | with_reducible refine bdrew ?_ | with_reducible refine balloc ?_ _))))
  replace R3 : Hid (Rws (fun c => b3 < c) y5 (some ⟨b3, 0, none⟩) rs0) := hid (R3.out.below (show Below y4.heap.size y4 y5 by (repeat (first | with_reducible exact Below.refl _ _ | with_reducible assumption | (with_reducible refine btrans ?_ (by with_reducible assumption)) | with_reducible refine bdrew ?_ | with_reducible refine balloc ?_ _))))
  replace X3' : Hid (Txs (fun c => t3 < c) 1099511627776 y5 (some ⟨t3, 0, none⟩) ts0) := hid (X3'.out.below (show Below y4.heap.size y4 y5 by (repeat (first | with_reducible exact Below.refl _ _ | with_reducible assumption | (with_reducible refine btrans ?_ (by with_reducible assumption)) | with_reducible refine bdrew ?_ | with_reducible refine balloc ?_ _))))
  replace S3 : Hid (RwsS y5 b3 rs0) := hid (S3.out.below (show Below y4.heap.size y4 y5 by (repeat (first | with_reducible exact Below.refl _ _ | with_reducible assumption | (with_reducible refine btrans ?_ (by with_reducible assumption)) | with_reducible refine bdrew ?_ | with_reducible refine balloc ?_ _))))
  replace U3 : Hid (TxsS y5 t3 ts0) := hid (U3.out.below (show Below y4.heap.size y4 y5 by (repeat (first | with_reducible exact Below.refl _ _ | with_reducible assumption | (with_reducible refine btrans ?_ (by with_reducible assumption)) | with_reducible refine bdrew ?_ | with_reducible refine balloc ?_ _))))
  replace O3 : Hid (OwnS2 y3.heap.size hR y5 b3 t3 rs0 ts0) := hid (O3.out.below (show Below y4.heap.size y4 y5 by (repeat (first | with_reducible exact Below.refl _ _ | with_reducible assumption | (with_reducible refine btrans ?_ (by with_reducible assumption)) | with_reducible refine bdrew ?_ | with_reducible refine balloc ?_ _))))
  replace G0 : Hid (StX p1 v1 p2 v2 y5 ga gta gc gtc rs0 qt) := hid (G0.out.below (show Below y4.heap.size y4 y5 by (repeat (first | with_reducible exact Below.refl _ _ | with_reducible assumption | (with_reducible refine btrans ?_ (by with_reducible assumption)) | with_reducible refine bdrew ?_ | with_reducible refine balloc ?_ _))))
  have n5_0 : y5.cell? ⟨w.heap.size, 0, none⟩ = some (.int .i64 now0) := by (repeat (first | with_reducible assumption | (refine newcell _ _ _ _ _ _ ?_ rfl; simp; done) | refine keepcell (by with_reducible assumption) ?_ | refine keepdrew ?_ | refine keepalloc ?_ _))
  have n5_1 : y5.cell? ⟨w.heap.size, 1, none⟩ = some (.slice a0 rs0.length cap0) := by (repeat (first | with_reducible assumption | (refine newcell _ _ _ _ _ _ ?_ rfl; simp; done) | refine keepcell (by with_reducible assumption) ?_ | refine keepdrew ?_ | refine keepalloc ?_ _))
  have n5_2 : y5.cell? ⟨w.heap.size, 2, none⟩ = some (.slice ta0 ts0.length tcap0) := by (repeat (first | with_reducible assumption | (refine newcell _ _ _ _ _ _ ?_ rfl; simp; done) | refine keepcell (by with_reducible assumption) ?_ | refine keepdrew ?_ | refine keepalloc ?_ _))
  have n5_3 : y5.cell? ⟨y2.heap.size, 0, none⟩ = some (.int .i64 now0) := by (repeat (first | with_reducible assumption | (refine newcell _ _ _ _ _ _ ?_ rfl; simp; done) | refine keepcell (by with_reducible assumption) ?_ | refine keepdrew ?_ | refine keepalloc ?_ _))
  have n5_4 : y5.cell? ⟨y2.heap.size, 1, none⟩ = some (.slice sa rs0.length sc) := by (repeat (first | with_reducible assumption | (refine newcell _ _ _ _ _ _ ?_ rfl; simp; done) | refine keepcell (by with_reducible assumption) ?_ | refine keepdrew ?_ | refine keepalloc ?_ _))
  have n5_5 : y5.cell? ⟨y2.heap.size, 2, none⟩ = some (.slice sta qt.length stc) := by (repeat (first | with_reducible assumption | (refine newcell _ _ _ _ _ _ ?_ rfl; simp; done) | refine keepcell (by with_reducible assumption) ?_ | refine keepdrew ?_ | refine keepalloc ?_ _))
  have n5_6 : y5.cell? ⟨y3.heap.size, 0, none⟩ = some (.int .i64 now0) := by (repeat (first | with_reducible assumption | (refine newcell _ _ _ _ _ _ ?_ rfl; simp; done) | refine keepcell (by with_reducible assumption) ?_ | refine keepdrew ?_ | refine keepalloc ?_ _))
  have n5_7 : y5.cell? ⟨y3.heap.size, 1, none⟩ = some (.slice (some ⟨b3, 0, none⟩) rs0.length rs0.length) := by (repeat (first | with_reducible assumption | (refine newcell _ _ _ _ _ _ ?_ rfl; simp; done) | refine keepcell (by with_reducible assumption) ?_ | refine keepdrew ?_ | refine keepalloc ?_ _))
  have n5_8 : y5.cell? ⟨y3.heap.size, 2, none⟩ = some (.slice (some ⟨t3, 0, none⟩) ts0.length ts0.length) := by (repeat (first | with_reducible assumption | (refine newcell _ _ _ _ _ _ ?_ rfl; simp; done) | refine keepcell (by with_reducible assumption) ?_ | refine keepdrew ?_ | refine keepalloc ?_ _))
  have n5_9 : y5.cell? ⟨y4.heap.size, 0, none⟩ = some (.int .i64 now0) := by (repeat (first | with_reducible assumption | (refine newcell _ _ _ _ _ _ ?_ rfl; simp; done) | refine keepcell (by with_reducible assumption) ?_ | refine keepdrew ?_ | refine keepalloc ?_ _))
  have n5_10 : y5.cell? ⟨y4.heap.size, 1, none⟩ = some (.slice ga rs0.length gc) := by (repeat (first | with_reducible assumption | (refine newcell _ _ _ _ _ _ ?_ rfl; simp; done) | refine keepcell (by with_reducible assumption) ?_ | refine keepdrew ?_ | refine keepalloc ?_ _))
  have n5_11 : y5.cell? ⟨y4.heap.size, 2, none⟩ = some (.slice gta qt.length gtc) := by (repeat (first | with_reducible assumption | (refine newcell _ _ _ _ _ _ ?_ rfl; simp; done) | refine keepcell (by with_reducible assumption) ?_ | refine keepdrew ?_ | refine keepalloc ?_ _))
  replace hB2 : Below w.heap.size w y5 := by (repeat (first | with_reducible exact Below.refl _ _ | with_reducible assumption | (with_reducible refine btrans ?_ (by with_reducible assumption)) | with_reducible refine bdrew ?_ | with_reducible refine balloc ?_ _))
  clear hc5 n4_0 n4_1 n4_2 n4_3 n4_4 n4_5 n4_6 n4_7 n4_8
  go_wp2_with fail
  generalize y2.heap.size = X2 at *
  generalize y3.heap.size = X3 at *
  generalize y4.heap.size = X4 at *
  refine wp_region_held_drew (S := (fun w' => w'.cell? ⟨w.heap.size, 0, none⟩ = some (.int .i64 now0) ∧ w'.cell? ⟨w.heap.size, 1, none⟩ = some (.slice a0 rs0.length cap0) ∧ w'.cell? ⟨w.heap.size, 2, none⟩ = some (.slice ta0 ts0.length tcap0) ∧ w'.cell? ⟨X2, 0, none⟩ = some (.int .i64 now0) ∧ w'.cell? ⟨X2, 1, none⟩ = some (.slice sa rs0.length sc) ∧ w'.cell? ⟨X2, 2, none⟩ = some (.slice sta qt.length stc) ∧ w'.cell? ⟨X3, 0, none⟩ = some (.int .i64 now0) ∧ w'.cell? ⟨X3, 1, none⟩ = some (.slice (some ⟨b3, 0, none⟩) rs0.length rs0.length) ∧ w'.cell? ⟨X3, 2, none⟩ = some (.slice (some ⟨t3, 0, none⟩) ts0.length ts0.length) ∧ w'.cell? ⟨X4, 0, none⟩ = some (.int .i64 now0) ∧ w'.cell? ⟨X4, 1, none⟩ = some (.slice ga rs0.length gc) ∧ w'.cell? ⟨X4, 2, none⟩ = some (.slice gta qt.length gtc))) (by kernel_rfl) ?_ (fun hHeld => ?_)
  · (repeat' apply And.intro) <;> (repeat (first | with_reducible assumption | with_reducible refine keepdrew ?_ | with_reducible refine keepcell (by with_reducible assumption) ?_ | with_reducible refine keepalloc ?_ _))
  refine wpAnyH_take (i := 0) (v := ?_) rfl (by kernel_rfl) (by kernel_rfl) (by kernel_rfl) (fun _ _ _ h => h) (Or.inl ⟨by rfl, ?_⟩) hHeld ?_
  rotate_left
  · intro w hSw; (try dsimp only at hSw); go_simp; try (with_reducible rfl)
  try simp only [sq]
  refine wpAnyH_take (i := 1) (v := ?_) rfl (by kernel_rfl) (by kernel_rfl) (by kernel_rfl) (fun _ _ _ h => h) (Or.inl ⟨by rfl, ?_⟩) hHeld ?_
  rotate_left
  · intro w hSw; (try dsimp only at hSw); go_simp; try (with_reducible rfl)
  try simp only [sq]
  refine wpAnyH_ready (rs := [2]) (by kernel_rfl) (by simp) ?_
  refine AllReadyH.cons rfl (fun K hK => ?_) AllReadyH.nil
  try simp only [sq]
  go_simp
  (first
      | (go_at_call 10; refine (to_store now0 a0 ta0 cap0 tcap0 rs0 ts0 _ hm' hn' (Q0.out.below (by (repeat (first | with_reducible exact Below.refl _ _ | with_reducible assumption | (with_reducible refine btrans ?_ (by with_reducible assumption)) | with_reducible refine bdrew ?_ | with_reducible refine balloc ?_ _)))) (QT.out.below (by (repeat (first | with_reducible exact Below.refl _ _ | with_reducible assumption | (with_reducible refine btrans ?_ (by with_reducible assumption)) | with_reducible refine bdrew ?_ | with_reducible refine balloc ?_ _))))).mono ?_; rintro e m1 ⟨c1', d1', rfl, ho1, hx1, hm1⟩; have T1 := hid ho1; have T2 := hid hx1; clear ho1 hx1; have Z := hid (R3.out.below (show Below y5.heap.size y5 m1 by (repeat (first | with_reducible exact Below.refl _ _ | with_reducible assumption | (with_reducible refine btrans ?_ (by with_reducible assumption)) | with_reducible refine bdrew ?_ | with_reducible refine balloc ?_ _)))); have Z2 := hid (X3'.out.below (show Below y5.heap.size y5 m1 by (repeat (first | with_reducible exact Below.refl _ _ | with_reducible assumption | (with_reducible refine btrans ?_ (by with_reducible assumption)) | with_reducible refine bdrew ?_ | with_reducible refine balloc ?_ _))))))
  go_wp2_with fail
  refine hK.out _ _ ?_ (fun hHeld => ?_)
  · (repeat' apply And.intro) <;> (repeat (first | with_reducible assumption | with_reducible refine keepdrew ?_ | with_reducible refine keepcell (by with_reducible assumption) ?_ | with_reducible refine keepalloc ?_ _))
  clear hK K
  try simp only [sq]
  refine wpAnyH_ready (rs := [3]) (by kernel_rfl) (by simp) ?_
  refine AllReadyH.cons rfl (fun K hK => ?_) AllReadyH.nil
  try simp only [sq]
  go_simp
  (first
      | (go_at_call 13; refine (eq_store now0 _ _ _ _ _ _ _ _ rs0 ts0 _ hm' hn' Z.out T1.out Z2.out T2.out).mono ?_; rintro e m2 ⟨rfl, hm2⟩))
  go_wp2_with fail
  refine hK.out _ _ ?_ (fun hHeld => ?_)
  · (repeat' apply And.intro) <;> (repeat (first | with_reducible assumption | with_reducible refine keepdrew ?_ | with_reducible refine keepcell (by with_reducible assumption) ?_ | with_reducible refine keepalloc ?_ _))
  clear hK K
  try simp only [sq]
  refine wpAnyH_take (i := 4) (v := ?_) rfl (by kernel_rfl) (by kernel_rfl) (by kernel_rfl) (fun _ _ _ h => h) (Or.inl ⟨by rfl, ?_⟩) hHeld ?_
  rotate_left
  · intro w hSw; (try dsimp only at hSw); go_simp; try (with_reducible rfl)
  try simp only [sq]
  refine wpAnyH_done (by kernel_rfl) ?_ _
  have hY : Below y5.heap.size y5 m2 := by (repeat (first | with_reducible exact Below.refl _ _ | with_reducible assumption | (with_reducible refine btrans ?_ (by with_reducible assumption)) | with_reducible refine bdrew ?_ | with_reducible refine balloc ?_ _))
  replace n5_0 := keepcell hY n5_0
  replace n5_1 := keepcell hY n5_1
  replace n5_2 := keepcell hY n5_2
  replace n5_3 := keepcell hY n5_3
  replace n5_4 := keepcell hY n5_4
  replace n5_5 := keepcell hY n5_5
  replace n5_6 := keepcell hY n5_6
  replace n5_7 := keepcell hY n5_7
  replace n5_8 := keepcell hY n5_8
  replace n5_9 := keepcell hY n5_9
  replace n5_10 := keepcell hY n5_10
  replace n5_11 := keepcell hY n5_11
  replace hB2 := btrans hB2 hY
  replace Q0 := hid (Q0.out.below hY)
  replace QT := hid (QT.out.below hY)
  replace S0 := hid (S0.out.below hY)
  replace ST0 := hid (ST0.out.below hY)
  replace HBS := hid (HBS.out.below hY)
  replace R3 := hid (R3.out.below hY)
  replace X3' := hid (X3'.out.below hY)
  replace S3 := hid (S3.out.below hY)
  replace U3 := hid (U3.out.below hY)
  replace O3 := hid (O3.out.below hY)
  replace G0 := hid (G0.out.below hY)
  clear hY hm1 hm2 hHeld T1 T2 Z Z2
  go_wp2_with fail
  obtain ⟨s1, s2, s3, s4, s5, s6, s7⟩ := O3.out
  refine (mark_store b3 X3 hR b3 t3 now0 rs0 ts0 _ (Nat.le_refl _) s1 s2 s3 s4 HV.out.1.1 HV.out.1.2 HV.out.2 s5 s6 s7).mono ?_
  rintro e k1 ⟨⟨kv, rfl, hkv⟩, hmid⟩
  clear s5 s6 s7
  replace n5_0 := mid_cell hmid n5_0 (by omega)
  replace n5_1 := mid_cell hmid n5_1 (by omega)
  replace n5_2 := mid_cell hmid n5_2 (by omega)
  replace n5_3 := mid_cell hmid n5_3 (by omega)
  replace n5_4 := mid_cell hmid n5_4 (by omega)
  replace n5_5 := mid_cell hmid n5_5 (by omega)
  replace n5_6 := mid_cell hmid n5_6 (by omega)
  replace n5_7 := mid_cell hmid n5_7 (by omega)
  replace n5_8 := mid_cell hmid n5_8 (by omega)
  replace n5_9 := mid_cell hmid n5_9 (by omega)
  replace n5_10 := mid_cell hmid n5_10 (by omega)
  replace n5_11 := mid_cell hmid n5_11 (by omega)
  replace hB2 := mid_B hB2 hmid (by omega) hB2.size
  replace HBS := hid (bs_mid HBS.out hmid HSL.out)
  replace Q0 : Hid (Rws (fun _ => True) k1 a0 rs0) := hid (HP.out.below hB2)
  replace QT : Hid (Txs (fun _ => True) 1099511627776 k1 ta0 ts0) := hid (HQ.out.below hB2)
  replace S0 : Hid (Rws (fun _ => True) k1 sa rs0) := hid (S00.out.below HBS.out)
  replace ST0 : Hid (Txs (fun _ => True) 1099511627776 k1 sta qt) := hid (ST00.out.below HBS.out)
  have hk1s := hmid.2.2.2.1
  replace G0 : Hid (StX p1 v1 p2 v2 k1 ga gta gc gtc rs0 qt) := hid (G0.out.mid hmid (by omega) (by omega))
  clear hmid R3 X3' O3 S3 U3
  have hk0 : ¬ (kv < 0) := by omega
  go_wp2_with fail
  refine (eq_store now0 ga sa gta sta gc sc gtc stc rs0 qt _ hm' hqm (G0.out).1.rws (S0.out) ((G0.out).2.txs (txS_L HQS.out)) (ST0.out)).mono ?_
  rintro e y6 ⟨rfl, hc6⟩
  replace Q0 : Hid (Rws (fun _ => True) y6 a0 rs0) := hid (Q0.out.below (show Below k1.heap.size k1 y6 by (repeat (first | with_reducible exact Below.refl _ _ | with_reducible assumption | (with_reducible refine btrans ?_ (by with_reducible assumption)) | with_reducible refine bdrew ?_ | with_reducible refine balloc ?_ _))))
  replace QT : Hid (Txs (fun _ => True) 1099511627776 y6 ta0 ts0) := hid (QT.out.below (show Below k1.heap.size k1 y6 by (repeat (first | with_reducible exact Below.refl _ _ | with_reducible assumption | (with_reducible refine btrans ?_ (by with_reducible assumption)) | with_reducible refine bdrew ?_ | with_reducible refine balloc ?_ _))))
  replace S0 : Hid (Rws (fun _ => True) y6 sa rs0) := hid (S0.out.below (show Below k1.heap.size k1 y6 by (repeat (first | with_reducible exact Below.refl _ _ | with_reducible assumption | (with_reducible refine btrans ?_ (by with_reducible assumption)) | with_reducible refine bdrew ?_ | with_reducible refine balloc ?_ _))))
  replace ST0 : Hid (Txs (fun _ => True) 1099511627776 y6 sta qt) := hid (ST0.out.below (show Below k1.heap.size k1 y6 by (repeat (first | with_reducible exact Below.refl _ _ | with_reducible assumption | (with_reducible refine btrans ?_ (by with_reducible assumption)) | with_reducible refine bdrew ?_ | with_reducible refine balloc ?_ _))))
  replace HBS : Hid (BS y2 y6) := hid (HBS.out.below (show Below k1.heap.size k1 y6 by (repeat (first | with_reducible exact Below.refl _ _ | with_reducible assumption | (with_reducible refine btrans ?_ (by with_reducible assumption)) | with_reducible refine bdrew ?_ | with_reducible refine balloc ?_ _))))
  replace G0 : Hid (StX p1 v1 p2 v2 y6 ga gta gc gtc rs0 qt) := hid (G0.out.below (show Below k1.heap.size k1 y6 by (repeat (first | with_reducible exact Below.refl _ _ | with_reducible assumption | (with_reducible refine btrans ?_ (by with_reducible assumption)) | with_reducible refine bdrew ?_ | with_reducible refine balloc ?_ _))))
  have n6_0 := keepcell hc6 n5_0
  have n6_1 := keepcell hc6 n5_1
  have n6_2 := keepcell hc6 n5_2
  have n6_3 := keepcell hc6 n5_3
  have n6_4 := keepcell hc6 n5_4
  have n6_5 := keepcell hc6 n5_5
  have n6_6 := keepcell hc6 n5_6
  have n6_7 := keepcell hc6 n5_7
  have n6_8 := keepcell hc6 n5_8
  have n6_9 := keepcell hc6 n5_9
  have n6_10 := keepcell hc6 n5_10
  have n6_11 := keepcell hc6 n5_11
  replace hB2 := btrans hB2 hc6
  clear hc6 n5_0 n5_1 n5_2 n5_3 n5_4 n5_5 n5_6 n5_7 n5_8 n5_9 n5_10 n5_11
  go_wp2_with fail
  have hX4 : X4 ≤ y6.heap.size := Nat.le_of_lt (World.block_lt_of_cell? y6 _ n6_9)
  refine (MK.out p1 v1 p2 v2 (X3 + 1) X4 ga gta gc gtc _ (by omega) (by omega) (by omega) (by omega) hp3 hX4 G0.out).mono ?_
  rintro e k2 ⟨rfl, hmo, hmt, hmid⟩
  replace n6_0 := mid_cell hmid n6_0 (by omega)
  replace n6_1 := mid_cell hmid n6_1 (by omega)
  replace n6_2 := mid_cell hmid n6_2 (by omega)
  replace n6_3 := mid_cell hmid n6_3 (by omega)
  replace n6_4 := mid_cell hmid n6_4 (by omega)
  replace n6_5 := mid_cell hmid n6_5 (by omega)
  replace n6_6 := mid_cell hmid n6_6 (by omega)
  replace n6_7 := mid_cell hmid n6_7 (by omega)
  replace n6_8 := mid_cell hmid n6_8 (by omega)
  replace n6_9 := mid_cell hmid n6_9 (by omega)
  replace n6_10 := mid_cell hmid n6_10 (by omega)
  replace n6_11 := mid_cell hmid n6_11 (by omega)
  replace hB2 := mid_B hB2 hmid (by omega) hB2.size
  replace HBS := hid (bs_mid HBS.out hmid HSL2.out)
  replace Q0 : Hid (Rws (fun _ => True) k2 a0 rs0) := hid (HP.out.below hB2)
  replace QT : Hid (Txs (fun _ => True) 1099511627776 k2 ta0 ts0) := hid (HQ.out.below hB2)
  replace S0 : Hid (Rws (fun _ => True) k2 sa rs0) := hid (S00.out.below HBS.out)
  replace ST0 : Hid (Txs (fun _ => True) 1099511627776 k2 sta qt) := hid (ST00.out.below HBS.out)
  clear G0
  have G0 : Hid (Rws (fun _ => True) k2 ga (mkr 1 rs0)) := hid hmo.rws
  have GT : Hid (Txs (fun _ => True) 1099511627776 k2 gta (mks (kkr 1 rs0 rs0.length) qt)) := hid (Txs.any (LC.txs hmt (mks_L HQS.out)))
  clear hmo hmt hmid MK
  go_wp2_with fail
  refine (HE.out ga gta gc gtc _ G0.out GT.out).mono ?_
  rintro e y7 ⟨rfl, hc7⟩
  replace Q0 : Hid (Rws (fun _ => True) y7 a0 rs0) := hid (Q0.out.below (show Below k2.heap.size k2 y7 by (repeat (first | with_reducible exact Below.refl _ _ | with_reducible assumption | (with_reducible refine btrans ?_ (by with_reducible assumption)) | with_reducible refine bdrew ?_ | with_reducible refine balloc ?_ _))))
  replace QT : Hid (Txs (fun _ => True) 1099511627776 y7 ta0 ts0) := hid (QT.out.below (show Below k2.heap.size k2 y7 by (repeat (first | with_reducible exact Below.refl _ _ | with_reducible assumption | (with_reducible refine btrans ?_ (by with_reducible assumption)) | with_reducible refine bdrew ?_ | with_reducible refine balloc ?_ _))))
  replace S0 : Hid (Rws (fun _ => True) y7 sa rs0) := hid (S0.out.below (show Below k2.heap.size k2 y7 by (repeat (first | with_reducible exact Below.refl _ _ | with_reducible assumption | (with_reducible refine btrans ?_ (by with_reducible assumption)) | with_reducible refine bdrew ?_ | with_reducible refine balloc ?_ _))))
  replace ST0 : Hid (Txs (fun _ => True) 1099511627776 y7 sta qt) := hid (ST0.out.below (show Below k2.heap.size k2 y7 by (repeat (first | with_reducible exact Below.refl _ _ | with_reducible assumption | (with_reducible refine btrans ?_ (by with_reducible assumption)) | with_reducible refine bdrew ?_ | with_reducible refine balloc ?_ _))))
  replace G0 : Hid (Rws (fun _ => True) y7 ga (mkr 1 rs0)) := hid (G0.out.below (show Below k2.heap.size k2 y7 by (repeat (first | with_reducible exact Below.refl _ _ | with_reducible assumption | (with_reducible refine btrans ?_ (by with_reducible assumption)) | with_reducible refine bdrew ?_ | with_reducible refine balloc ?_ _))))
  replace GT : Hid (Txs (fun _ => True) 1099511627776 y7 gta (mks (kkr 1 rs0 rs0.length) qt)) := hid (GT.out.below (show Below k2.heap.size k2 y7 by (repeat (first | with_reducible exact Below.refl _ _ | with_reducible assumption | (with_reducible refine btrans ?_ (by with_reducible assumption)) | with_reducible refine bdrew ?_ | with_reducible refine balloc ?_ _))))
  have n7_0 := keepcell hc7 n6_0
  have n7_1 := keepcell hc7 n6_1
  have n7_2 := keepcell hc7 n6_2
  have n7_3 := keepcell hc7 n6_3
  have n7_4 := keepcell hc7 n6_4
  have n7_5 := keepcell hc7 n6_5
  have n7_6 := keepcell hc7 n6_6
  have n7_7 := keepcell hc7 n6_7
  have n7_8 := keepcell hc7 n6_8
  have n7_9 := keepcell hc7 n6_9
  have n7_10 := keepcell hc7 n6_10
  have n7_11 := keepcell hc7 n6_11
  replace hB2 := btrans hB2 hc7
  clear hc7 n6_0 n6_1 n6_2 n6_3 n6_4 n6_5 n6_6 n6_7 n6_8 n6_9 n6_10 n6_11
  go_wp2_with fail
  refine (to_storeO now0 a0 ta0 cap0 tcap0 rs0 ts0 _ hm' hn' Q0.out QT.out).mono ?_
  rintro e y8 ⟨b9, t9, hR9, rfl, ho9, hx9, hss, hc8⟩
  replace Q0 : Hid (Rws (fun _ => True) y8 a0 rs0) := hid (Q0.out.below (show Below y7.heap.size y7 y8 by (repeat (first | with_reducible exact Below.refl _ _ | with_reducible assumption | (with_reducible refine btrans ?_ (by with_reducible assumption)) | with_reducible refine bdrew ?_ | with_reducible refine balloc ?_ _))))
  replace QT : Hid (Txs (fun _ => True) 1099511627776 y8 ta0 ts0) := hid (QT.out.below (show Below y7.heap.size y7 y8 by (repeat (first | with_reducible exact Below.refl _ _ | with_reducible assumption | (with_reducible refine btrans ?_ (by with_reducible assumption)) | with_reducible refine bdrew ?_ | with_reducible refine balloc ?_ _))))
  replace S0 : Hid (Rws (fun _ => True) y8 sa rs0) := hid (S0.out.below (show Below y7.heap.size y7 y8 by (repeat (first | with_reducible exact Below.refl _ _ | with_reducible assumption | (with_reducible refine btrans ?_ (by with_reducible assumption)) | with_reducible refine bdrew ?_ | with_reducible refine balloc ?_ _))))
  replace ST0 : Hid (Txs (fun _ => True) 1099511627776 y8 sta qt) := hid (ST0.out.below (show Below y7.heap.size y7 y8 by (repeat (first | with_reducible exact Below.refl _ _ | with_reducible assumption | (with_reducible refine btrans ?_ (by with_reducible assumption)) | with_reducible refine bdrew ?_ | with_reducible refine balloc ?_ _))))
  replace G0 : Hid (Rws (fun _ => True) y8 ga (mkr 1 rs0)) := hid (G0.out.below (show Below y7.heap.size y7 y8 by (repeat (first | with_reducible exact Below.refl _ _ | with_reducible assumption | (with_reducible refine btrans ?_ (by with_reducible assumption)) | with_reducible refine bdrew ?_ | with_reducible refine balloc ?_ _))))
  replace GT : Hid (Txs (fun _ => True) 1099511627776 y8 gta (mks (kkr 1 rs0 rs0.length) qt)) := hid (GT.out.below (show Below y7.heap.size y7 y8 by (repeat (first | with_reducible exact Below.refl _ _ | with_reducible assumption | (with_reducible refine btrans ?_ (by with_reducible assumption)) | with_reducible refine bdrew ?_ | with_reducible refine balloc ?_ _))))
  have n8_0 := keepcell hc8 n7_0
  have n8_1 := keepcell hc8 n7_1
  have n8_2 := keepcell hc8 n7_2
  have n8_3 := keepcell hc8 n7_3
  have n8_4 := keepcell hc8 n7_4
  have n8_5 := keepcell hc8 n7_5
  have n8_6 := keepcell hc8 n7_6
  have n8_7 := keepcell hc8 n7_7
  have n8_8 := keepcell hc8 n7_8
  have n8_9 := keepcell hc8 n7_9
  have n8_10 := keepcell hc8 n7_10
  have n8_11 := keepcell hc8 n7_11
  replace hB2 := btrans hB2 hc8
  clear hc8 n7_0 n7_1 n7_2 n7_3 n7_4 n7_5 n7_6 n7_7 n7_8 n7_9 n7_10 n7_11
  have R9 := hid ho9
  have X9' := hid hx9
  obtain ⟨hg9, hl9, hl9', hl9'', ht9, hr9, hx9'⟩ := hss
  have S9 := hid (rwsS_of2 (by omega) R9.out hr9 (by omega))
  have U9 := hid (txsS_of (by omega) X9'.out hx9' (Nat.le_refl _))
  clear ho9 hx9 hg9 hl9 hl9' hl9'' ht9 hr9 hx9'
  go_wp2_with fail
  refine (CI.out b9 t9 _ hB2 S9.out R9.out U9.out X9'.out).mono ?_
  rintro e y9 ⟨ha, hcp, hta, htc, r1, r2, r3, r4, rfl, hhx, hhp1, hhp2, hhp3, hc9⟩
  replace Q0 : Hid (Rws (fun _ => True) y9 a0 rs0) := hid (Q0.out.below (show Below y8.heap.size y8 y9 by (repeat (first | with_reducible exact Below.refl _ _ | with_reducible assumption | (with_reducible refine btrans ?_ (by with_reducible assumption)) | with_reducible refine bdrew ?_ | with_reducible refine balloc ?_ _))))
  replace QT : Hid (Txs (fun _ => True) 1099511627776 y9 ta0 ts0) := hid (QT.out.below (show Below y8.heap.size y8 y9 by (repeat (first | with_reducible exact Below.refl _ _ | with_reducible assumption | (with_reducible refine btrans ?_ (by with_reducible assumption)) | with_reducible refine bdrew ?_ | with_reducible refine balloc ?_ _))))
  replace S0 : Hid (Rws (fun _ => True) y9 sa rs0) := hid (S0.out.below (show Below y8.heap.size y8 y9 by (repeat (first | with_reducible exact Below.refl _ _ | with_reducible assumption | (with_reducible refine btrans ?_ (by with_reducible assumption)) | with_reducible refine bdrew ?_ | with_reducible refine balloc ?_ _))))
  replace ST0 : Hid (Txs (fun _ => True) 1099511627776 y9 sta qt) := hid (ST0.out.below (show Below y8.heap.size y8 y9 by (repeat (first | with_reducible exact Below.refl _ _ | with_reducible assumption | (with_reducible refine btrans ?_ (by with_reducible assumption)) | with_reducible refine bdrew ?_ | with_reducible refine balloc ?_ _))))
  replace G0 : Hid (Rws (fun _ => True) y9 ga (mkr 1 rs0)) := hid (G0.out.below (show Below y8.heap.size y8 y9 by (repeat (first | with_reducible exact Below.refl _ _ | with_reducible assumption | (with_reducible refine btrans ?_ (by with_reducible assumption)) | with_reducible refine bdrew ?_ | with_reducible refine balloc ?_ _))))
  replace GT : Hid (Txs (fun _ => True) 1099511627776 y9 gta (mks (kkr 1 rs0 rs0.length) qt)) := hid (GT.out.below (show Below y8.heap.size y8 y9 by (repeat (first | with_reducible exact Below.refl _ _ | with_reducible assumption | (with_reducible refine btrans ?_ (by with_reducible assumption)) | with_reducible refine bdrew ?_ | with_reducible refine balloc ?_ _))))
  have n9_0 := keepcell hc9 n8_0
  have n9_1 := keepcell hc9 n8_1
  have n9_2 := keepcell hc9 n8_2
  have n9_3 := keepcell hc9 n8_3
  have n9_4 := keepcell hc9 n8_4
  have n9_5 := keepcell hc9 n8_5
  have n9_6 := keepcell hc9 n8_6
  have n9_7 := keepcell hc9 n8_7
  have n9_8 := keepcell hc9 n8_8
  have n9_9 := keepcell hc9 n8_9
  have n9_10 := keepcell hc9 n8_10
  have n9_11 := keepcell hc9 n8_11
  replace hB2 := btrans hB2 hc9
  clear hc9 n8_0 n8_1 n8_2 n8_3 n8_4 n8_5 n8_6 n8_7 n8_8 n8_9 n8_10 n8_11
  have H0 : Hid (StX r1 r2 r3 r4 y9 ha hta hcp htc rs0 qt) := hid hhx
  clear hhx hhp1 hhp2 hhp3 R9 X9' S9 U9
  have r9_0 := keepalloc n9_0 (.cells #[.int .i64 now0, .slice ha rs0.length hcp, .slice hta qt.length htc] 39)
  have r9_1 := keepalloc n9_1 (.cells #[.int .i64 now0, .slice ha rs0.length hcp, .slice hta qt.length htc] 39)
  have r9_2 := keepalloc n9_2 (.cells #[.int .i64 now0, .slice ha rs0.length hcp, .slice hta qt.length htc] 39)
  have r9_3 := keepalloc n9_3 (.cells #[.int .i64 now0, .slice ha rs0.length hcp, .slice hta qt.length htc] 39)
  have r9_4 := keepalloc n9_4 (.cells #[.int .i64 now0, .slice ha rs0.length hcp, .slice hta qt.length htc] 39)
  have r9_5 := keepalloc n9_5 (.cells #[.int .i64 now0, .slice ha rs0.length hcp, .slice hta qt.length htc] 39)
  have r9_6 := keepalloc n9_6 (.cells #[.int .i64 now0, .slice ha rs0.length hcp, .slice hta qt.length htc] 39)
  have r9_7 := keepalloc n9_7 (.cells #[.int .i64 now0, .slice ha rs0.length hcp, .slice hta qt.length htc] 39)
  have r9_8 := keepalloc n9_8 (.cells #[.int .i64 now0, .slice ha rs0.length hcp, .slice hta qt.length htc] 39)
  have r9_9 := keepalloc n9_9 (.cells #[.int .i64 now0, .slice ha rs0.length hcp, .slice hta qt.length htc] 39)
  have r9_10 := keepalloc n9_10 (.cells #[.int .i64 now0, .slice ha rs0.length hcp, .slice hta qt.length htc] 39)
  have r9_11 := keepalloc n9_11 (.cells #[.int .i64 now0, .slice ha rs0.length hcp, .slice hta qt.length htc] 39)
  go_wp2_with fail
  refine (eq_store now0 ha sa hta sta hcp sc htc stc rs0 qt _ hm' hqm (H0.out.below (balloc (Below.refl _ _) _)).1.rws (S0.out.below (balloc (Below.refl _ _) _)) ((H0.out.below (balloc (Below.refl _ _) _)).2.txs (txS_L HQS.out)) (ST0.out.below (balloc (Below.refl _ _) _))).mono ?_
  rintro e y10 ⟨rfl, hc10⟩
  replace Q0 : Hid (Rws (fun _ => True) y10 a0 rs0) := hid (Q0.out.below (show Below y9.heap.size y9 y10 by (repeat (first | with_reducible exact Below.refl _ _ | with_reducible assumption | (with_reducible refine btrans ?_ (by with_reducible assumption)) | with_reducible refine bdrew ?_ | with_reducible refine balloc ?_ _))))
  replace QT : Hid (Txs (fun _ => True) 1099511627776 y10 ta0 ts0) := hid (QT.out.below (show Below y9.heap.size y9 y10 by (repeat (first | with_reducible exact Below.refl _ _ | with_reducible assumption | (with_reducible refine btrans ?_ (by with_reducible assumption)) | with_reducible refine bdrew ?_ | with_reducible refine balloc ?_ _))))
  replace S0 : Hid (Rws (fun _ => True) y10 sa rs0) := hid (S0.out.below (show Below y9.heap.size y9 y10 by (repeat (first | with_reducible exact Below.refl _ _ | with_reducible assumption | (with_reducible refine btrans ?_ (by with_reducible assumption)) | with_reducible refine bdrew ?_ | with_reducible refine balloc ?_ _))))
  replace ST0 : Hid (Txs (fun _ => True) 1099511627776 y10 sta qt) := hid (ST0.out.below (show Below y9.heap.size y9 y10 by (repeat (first | with_reducible exact Below.refl _ _ | with_reducible assumption | (with_reducible refine btrans ?_ (by with_reducible assumption)) | with_reducible refine bdrew ?_ | with_reducible refine balloc ?_ _))))
  replace G0 : Hid (Rws (fun _ => True) y10 ga (mkr 1 rs0)) := hid (G0.out.below (show Below y9.heap.size y9 y10 by (repeat (first | with_reducible exact Below.refl _ _ | with_reducible assumption | (with_reducible refine btrans ?_ (by with_reducible assumption)) | with_reducible refine bdrew ?_ | with_reducible refine balloc ?_ _))))
  replace GT : Hid (Txs (fun _ => True) 1099511627776 y10 gta (mks (kkr 1 rs0 rs0.length) qt)) := hid (GT.out.below (show Below y9.heap.size y9 y10 by (repeat (first | with_reducible exact Below.refl _ _ | with_reducible assumption | (with_reducible refine btrans ?_ (by with_reducible assumption)) | with_reducible refine bdrew ?_ | with_reducible refine balloc ?_ _))))
  replace H0 : Hid (StX r1 r2 r3 r4 y10 ha hta hcp htc rs0 qt) := hid (H0.out.below (show Below y9.heap.size y9 y10 by (repeat (first | with_reducible exact Below.refl _ _ | with_reducible assumption | (with_reducible refine btrans ?_ (by with_reducible assumption)) | with_reducible refine bdrew ?_ | with_reducible refine balloc ?_ _))))
  have n10_0 : y10.cell? ⟨w.heap.size, 0, none⟩ = some (.int .i64 now0) := by (repeat (first | with_reducible assumption | (refine newcell _ _ _ _ _ _ ?_ rfl; simp; done) | refine keepcell (by with_reducible assumption) ?_ | refine keepdrew ?_ | refine keepalloc ?_ _))
  have n10_1 : y10.cell? ⟨w.heap.size, 1, none⟩ = some (.slice a0 rs0.length cap0) := by (repeat (first | with_reducible assumption | (refine newcell _ _ _ _ _ _ ?_ rfl; simp; done) | refine keepcell (by with_reducible assumption) ?_ | refine keepdrew ?_ | refine keepalloc ?_ _))
  have n10_2 : y10.cell? ⟨w.heap.size, 2, none⟩ = some (.slice ta0 ts0.length tcap0) := by (repeat (first | with_reducible assumption | (refine newcell _ _ _ _ _ _ ?_ rfl; simp; done) | refine keepcell (by with_reducible assumption) ?_ | refine keepdrew ?_ | refine keepalloc ?_ _))
  have n10_3 : y10.cell? ⟨X2, 0, none⟩ = some (.int .i64 now0) := by (repeat (first | with_reducible assumption | (refine newcell _ _ _ _ _ _ ?_ rfl; simp; done) | refine keepcell (by with_reducible assumption) ?_ | refine keepdrew ?_ | refine keepalloc ?_ _))
  have n10_4 : y10.cell? ⟨X2, 1, none⟩ = some (.slice sa rs0.length sc) := by (repeat (first | with_reducible assumption | (refine newcell _ _ _ _ _ _ ?_ rfl; simp; done) | refine keepcell (by with_reducible assumption) ?_ | refine keepdrew ?_ | refine keepalloc ?_ _))
  have n10_5 : y10.cell? ⟨X2, 2, none⟩ = some (.slice sta qt.length stc) := by (repeat (first | with_reducible assumption | (refine newcell _ _ _ _ _ _ ?_ rfl; simp; done) | refine keepcell (by with_reducible assumption) ?_ | refine keepdrew ?_ | refine keepalloc ?_ _))
  have n10_6 : y10.cell? ⟨X3, 0, none⟩ = some (.int .i64 now0) := by (repeat (first | with_reducible assumption | (refine newcell _ _ _ _ _ _ ?_ rfl; simp; done) | refine keepcell (by with_reducible assumption) ?_ | refine keepdrew ?_ | refine keepalloc ?_ _))
  have n10_7 : y10.cell? ⟨X3, 1, none⟩ = some (.slice (some ⟨b3, 0, none⟩) rs0.length rs0.length) := by (repeat (first | with_reducible assumption | (refine newcell _ _ _ _ _ _ ?_ rfl; simp; done) | refine keepcell (by with_reducible assumption) ?_ | refine keepdrew ?_ | refine keepalloc ?_ _))
  have n10_8 : y10.cell? ⟨X3, 2, none⟩ = some (.slice (some ⟨t3, 0, none⟩) ts0.length ts0.length) := by (repeat (first | with_reducible assumption | (refine newcell _ _ _ _ _ _ ?_ rfl; simp; done) | refine keepcell (by with_reducible assumption) ?_ | refine keepdrew ?_ | refine keepalloc ?_ _))
  have n10_9 : y10.cell? ⟨X4, 0, none⟩ = some (.int .i64 now0) := by (repeat (first | with_reducible assumption | (refine newcell _ _ _ _ _ _ ?_ rfl; simp; done) | refine keepcell (by with_reducible assumption) ?_ | refine keepdrew ?_ | refine keepalloc ?_ _))
  have n10_10 : y10.cell? ⟨X4, 1, none⟩ = some (.slice ga rs0.length gc) := by (repeat (first | with_reducible assumption | (refine newcell _ _ _ _ _ _ ?_ rfl; simp; done) | refine keepcell (by with_reducible assumption) ?_ | refine keepdrew ?_ | refine keepalloc ?_ _))
  have n10_11 : y10.cell? ⟨X4, 2, none⟩ = some (.slice gta qt.length gtc) := by (repeat (first | with_reducible assumption | (refine newcell _ _ _ _ _ _ ?_ rfl; simp; done) | refine keepcell (by with_reducible assumption) ?_ | refine keepdrew ?_ | refine keepalloc ?_ _))
  replace hB2 : Below w.heap.size w y10 := by (repeat (first | with_reducible exact Below.refl _ _ | with_reducible assumption | (with_reducible refine btrans ?_ (by with_reducible assumption)) | with_reducible refine bdrew ?_ | with_reducible refine balloc ?_ _))
  clear hc10 n9_0 n9_1 n9_2 n9_3 n9_4 n9_5 n9_6 n9_7 n9_8 n9_9 n9_10 n9_11
  go_wp2_with fail
  refine (HE.out ga gta gc gtc _ G0.out GT.out).mono ?_
  rintro e y11 ⟨rfl, hc11⟩
  replace Q0 : Hid (Rws (fun _ => True) y11 a0 rs0) := hid (Q0.out.below (show Below y10.heap.size y10 y11 by (repeat (first | with_reducible exact Below.refl _ _ | with_reducible assumption | (with_reducible refine btrans ?_ (by with_reducible assumption)) | with_reducible refine bdrew ?_ | with_reducible refine balloc ?_ _))))
  replace QT : Hid (Txs (fun _ => True) 1099511627776 y11 ta0 ts0) := hid (QT.out.below (show Below y10.heap.size y10 y11 by (repeat (first | with_reducible exact Below.refl _ _ | with_reducible assumption | (with_reducible refine btrans ?_ (by with_reducible assumption)) | with_reducible refine bdrew ?_ | with_reducible refine balloc ?_ _))))
  replace S0 : Hid (Rws (fun _ => True) y11 sa rs0) := hid (S0.out.below (show Below y10.heap.size y10 y11 by (repeat (first | with_reducible exact Below.refl _ _ | with_reducible assumption | (with_reducible refine btrans ?_ (by with_reducible assumption)) | with_reducible refine bdrew ?_ | with_reducible refine balloc ?_ _))))
  replace ST0 : Hid (Txs (fun _ => True) 1099511627776 y11 sta qt) := hid (ST0.out.below (show Below y10.heap.size y10 y11 by (repeat (first | with_reducible exact Below.refl _ _ | with_reducible assumption | (with_reducible refine btrans ?_ (by with_reducible assumption)) | with_reducible refine bdrew ?_ | with_reducible refine balloc ?_ _))))
  replace G0 : Hid (Rws (fun _ => True) y11 ga (mkr 1 rs0)) := hid (G0.out.below (show Below y10.heap.size y10 y11 by (repeat (first | with_reducible exact Below.refl _ _ | with_reducible assumption | (with_reducible refine btrans ?_ (by with_reducible assumption)) | with_reducible refine bdrew ?_ | with_reducible refine balloc ?_ _))))
  replace GT : Hid (Txs (fun _ => True) 1099511627776 y11 gta (mks (kkr 1 rs0 rs0.length) qt)) := hid (GT.out.below (show Below y10.heap.size y10 y11 by (repeat (first | with_reducible exact Below.refl _ _ | with_reducible assumption | (with_reducible refine btrans ?_ (by with_reducible assumption)) | with_reducible refine bdrew ?_ | with_reducible refine balloc ?_ _))))
  replace H0 : Hid (StX r1 r2 r3 r4 y11 ha hta hcp htc rs0 qt) := hid (H0.out.below (show Below y10.heap.size y10 y11 by (repeat (first | with_reducible exact Below.refl _ _ | with_reducible assumption | (with_reducible refine btrans ?_ (by with_reducible assumption)) | with_reducible refine bdrew ?_ | with_reducible refine balloc ?_ _))))
  have n11_0 := keepcell hc11 n10_0
  have n11_1 := keepcell hc11 n10_1
  have n11_2 := keepcell hc11 n10_2
  have n11_3 := keepcell hc11 n10_3
  have n11_4 := keepcell hc11 n10_4
  have n11_5 := keepcell hc11 n10_5
  have n11_6 := keepcell hc11 n10_6
  have n11_7 := keepcell hc11 n10_7
  have n11_8 := keepcell hc11 n10_8
  have n11_9 := keepcell hc11 n10_9
  have n11_10 := keepcell hc11 n10_10
  have n11_11 := keepcell hc11 n10_11
  replace hB2 := btrans hB2 hc11
  clear hc11 n10_0 n10_1 n10_2 n10_3 n10_4 n10_5 n10_6 n10_7 n10_8 n10_9 n10_10 n10_11
  go_wp2_with fail
  go_ret
  exact ⟨rfl, hB2⟩
end Go.Proofs.YtehifednpbdokaaGreatDoor
