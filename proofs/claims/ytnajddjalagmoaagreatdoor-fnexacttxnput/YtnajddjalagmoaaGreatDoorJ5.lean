/- Texts of stores, joined: Xh, Zg, Zi, Pe, Zah, Zw, Zaa. -/
import Derived.Test.YtnajddjalagmoaaGreatDoorJ4
import Derived.Test.YtnajddjalagmoaaGreatDoorJ3
namespace Go.Proofs.YtnajddjalagmoaaGreatDoor
open Go.RowKit
set_option linter.unusedSimpArgs false
set_option linter.unusedVariables false
theorem bnes (b : Bool) : (b != b) = false := by cases b <;> rfl
set_option maxRecDepth 100000 in
set_option maxHeartbeats 2000000 in
theorem held_chsX {N : Nat → Prop} (a : Option Addr) (n cap : Nat) (xs : List Ch) (k0 : Int) (w : World) (hn : xs.length = n) (hs : chS xs) (h0 : 0 ≤ k0) (h1 : k0 ≤ 4500000000000000000) (h : Chs N 1099511627776 w a (mkc k0 xs)) : Calls Tryz.prog 71 #[.slice a n cap, .int .i64 k0] w fun e w' => e = .returned (.int .i64 (kkc k0 xs n)) ∧ w' = w := by
  have hm := hs.1
  rw [hn] at hm
  have HL := hid hs.2
  have HR := hid h
  have HN := hid hn
  have HK := hid (kkc_bound (k0 := k0) hs.2)
  clear hs h hn
  have HF : Hid (∀ k : Int, k = kkc k0 xs n → Ending.returned (.int .i64 k) = .returned (.int .i64 (kkc k0 xs n))) := hid (fun k e => by rw [e])
  go_enter Tryz.func71, Tryz.ntmps71
  go_wp2_with fail
  go_loopw [1, 5] (fun tk' ti wr => ∃ j : Nat, ∃ k : Int, ti = .int .i64 j ∧ tk' = .int .i64 k ∧ j ≤ n ∧ Hid (k = kkc k0 xs j) ∧ wr = w) (fun _ ti _ => n - (intOf ti).toNat)
  case atStart => exact ⟨0, k0, rfl, rfl, Nat.zero_le _, hid (by simp [kkc, kcn]), rfl⟩
  case round =>
    obtain ⟨j, k, rfl, rfl, hj, HKJ, hw⟩ := hrel
    subst hw
    by_cases hlt : j < n
    · have c1 : (j : Int) < (n : Int) := by omega
      have hjr : j < xs.length := by rw [HN.out]; exact hlt
      obtain ⟨hk0, hk1⟩ := HK.out j (by omega)
      rw [← HKJ.out] at hk0 hk1
      have hk2 : k ≤ 4600000000000000000 := by omega
      have hk3 : 0 ≤ k := by omega
      have HKN := hid (kkc_next (k0 := k0) hjr)
      rw [← HKJ.out] at HKN
      have hma := mkc_at (k0 := k0) hjr
      rw [← HKJ.out] at hma
      obtain ⟨b, o, rfl, hbs, a', cap', q0, q1, q2, q4, q5, q6, q7, _⟩ := HR.out.at j (by rw [mkc_len]; exact hjr)
      rw [hma] at q0 q1 q2 q4 q5 q6 q7
      simp only [mke, tkk_len] at q0 q1 q2 q4 q5 q6 q7
      have hnp := HL.out j hjr
      generalize hps : xs[j].2.2.2.length = np at *
      clear hps hma
      rw [show k + 2 = k + 1 + 1 by omega] at q2
      rw [show k + 3 = k + 1 + 1 + 1 by omega] at q7
      have HP := hid (held_ptsK wr a' cap' np (k + 1 + 1 + 1) (by omega) (by omega) hnp q7)
      have HK5 : Hid (k + 1 + 1 + 1 + 2 * (np : Int) = kkc k0 xs (j + 1)) := hid (by rw [HKN.out]; omega)
      have hpos : ¬ (k + 1 + 1 + 1 + 2 * (np : Int) < 0) := by omega
      have hbb := bnes ((k + 1) % 3 == 0)
      clear q5 q6 q7
      go_wp2_with fail
      refine HP.out.mono ?_
      rintro e w1 ⟨rfl, hw1⟩
      replace hw1 := hw1.symm
      subst hw1
      go_wp2_with fail
      go_roundw
      case rel => exact ⟨j + 1, _, by go_num, rfl, by omega, HK5, by first | rfl | trivial⟩
      case measure => simp [intOf]; omega
    · obtain rfl : j = n := by omega
      have c1 : (j : Int) ≤ (j : Int) := by omega
      go_wp2_with fail
      go_ret
      exact ⟨HF.out k HKJ.out, rfl⟩
set_option maxRecDepth 100000 in
set_option maxHeartbeats 2000000 in
theorem held_txsX {N : Nat → Prop} (a : Option Addr) (n cap : Nat) (xs : List Tx) (k0 : Int) (w : World) (hn : xs.length = n) (hs : txS xs) (h0 : 0 ≤ k0) (h1 : k0 ≤ 2000000000000000000) (h : Txs N 1099511627776 w a (mks k0 xs)) : Calls Tryz.prog 40 #[.slice a n cap, .int .i64 k0] w fun e w' => e = .returned (.int .i64 (kkt k0 xs n)) ∧ w' = w := by
  have hm := hs.1
  rw [hn] at hm
  have HL := hid hs.2
  have HR := hid h
  have HN := hid hn
  have HK := hid (kkt_bound (k0 := k0) hs.2)
  clear hs h hn
  have HF : Hid (∀ k : Int, k = kkt k0 xs n → Ending.returned (.int .i64 k) = .returned (.int .i64 (kkt k0 xs n))) := hid (fun k e => by rw [e])
  go_enter Tryz.func40, Tryz.ntmps40
  go_wp2_with fail
  go_loopw [1, 5] (fun tk' ti wr => ∃ j : Nat, ∃ k : Int, ti = .int .i64 j ∧ tk' = .int .i64 k ∧ j ≤ n ∧ Hid (k = kkt k0 xs j) ∧ wr = w) (fun _ ti _ => n - (intOf ti).toNat)
  case atStart => exact ⟨0, k0, rfl, rfl, Nat.zero_le _, hid (by simp [kkt, ktn]), rfl⟩
  case round =>
    obtain ⟨j, k, rfl, rfl, hj, HKJ, hw⟩ := hrel
    subst hw
    by_cases hlt : j < n
    · have c1 : (j : Int) < (n : Int) := by omega
      have hjr : j < xs.length := by rw [HN.out]; exact hlt
      obtain ⟨hk0, hk1⟩ := HK.out j (by omega)
      rw [← HKJ.out] at hk0 hk1
      have hk2 : k ≤ 4400000000000000000 := by omega
      have hk3 : 0 ≤ k := by omega
      have HKN := hid (kkt_next (k0 := k0) hjr)
      rw [← HKJ.out] at HKN
      have hma := mks_at (k0 := k0) hjr
      rw [← HKJ.out] at hma
      obtain ⟨b, o, rfl, hbs, a', cap', q0, q1, q2, q4, q5, q6, _⟩ := HR.out.at j (by rw [mks_len]; exact hjr)
      rw [hma] at q0 q1 q2 q4 q5 q6
      simp only [mkt, mkc_len] at q0 q1 q2 q4 q5 q6
      have hcs := HL.out j hjr
      generalize hps : xs[j].2.2 = cs at *
      clear hps hma
      rw [show k + 2 = k + 1 + 1 by omega] at q6
      rw [show k + 2 = k + 1 + 1 by omega] at HKN
      have HP := hid (held_chsX a' cs.length cap' cs (k + 1 + 1) wr rfl hcs (by omega) (by omega) q6)
      have HK5 : Hid (kkc (k + 1 + 1) cs cs.length = kkt k0 xs (j + 1)) := hid HKN.out.symm
      obtain ⟨kq0, kq1⟩ := kkc_bound (k0 := k + 1 + 1) hcs.2 cs.length (Nat.le_refl _)
      generalize kkc (k + 1 + 1) cs cs.length = kq at *
      have hpos : ¬ (kq < 0) := by omega
      have hbb := bnes ((k + 1) % 3 == 0)
      clear q4 q5 q6
      go_wp2_with fail
      refine HP.out.mono ?_
      rintro e w1 ⟨rfl, hw1⟩
      replace hw1 := hw1.symm
      subst hw1
      go_wp2_with fail
      go_roundw
      case rel => exact ⟨j + 1, _, by go_num, rfl, by omega, HK5, by first | rfl | trivial⟩
      case measure => simp [intOf]; omega
    · obtain rfl : j = n := by omega
      have c1 : (j : Int) ≤ (j : Int) := by omega
      go_wp2_with fail
      go_ret
      exact ⟨HF.out k HKJ.out, rfl⟩
set_option maxRecDepth 100000 in
set_option maxHeartbeats 2000000 in
theorem held_rwsX {N : Nat → Prop} (a : Option Addr) (n cap : Nat) (xs : List Rw) (k0 : Int) (w : World) (hn : xs.length = n) (hs : rwS xs) (h0 : 0 ≤ k0) (h1 : k0 ≤ 2000000000000000000) (h : Rws N w a (mkr k0 xs)) : Calls Tryz.prog 70 #[.slice a n cap, .int .i64 k0] w fun e w' => e = .returned (.int .i64 (kkr k0 xs n)) ∧ w' = w := by
  have hm := hs.1
  rw [hn] at hm
  have HL := hid hs.2
  have HR := hid h
  have HN := hid hn
  have HK := hid (kkr_bound (k0 := k0) hs.2)
  clear hs h hn
  have HF : Hid (∀ k : Int, k = kkr k0 xs n → Ending.returned (.int .i64 k) = .returned (.int .i64 (kkr k0 xs n))) := hid (fun k e => by rw [e])
  go_enter Tryz.func70, Tryz.ntmps70
  go_wp2_with fail
  go_loopw [1, 5] (fun tk' ti wr => ∃ j : Nat, ∃ k : Int, ti = .int .i64 j ∧ tk' = .int .i64 k ∧ j ≤ n ∧ Hid (k = kkr k0 xs j) ∧ wr = w) (fun _ ti _ => n - (intOf ti).toNat)
  case atStart => exact ⟨0, k0, rfl, rfl, Nat.zero_le _, hid (by simp [kkr, krn]), rfl⟩
  case round =>
    obtain ⟨j, k, rfl, rfl, hj, HKJ, hw⟩ := hrel
    subst hw
    by_cases hlt : j < n
    · have c1 : (j : Int) < (n : Int) := by omega
      have hjr : j < xs.length := by rw [HN.out]; exact hlt
      obtain ⟨hk0, hk1⟩ := HK.out j (by omega)
      rw [← HKJ.out] at hk0 hk1
      have hk2 : k ≤ 4400000000000000000 := by omega
      have hk3 : 0 ≤ k := by omega
      have HKN := hid (kkr_next (k0 := k0) hjr)
      rw [← HKJ.out] at HKN
      have hma := mkr_at (k0 := k0) hjr
      rw [← HKJ.out] at hma
      obtain ⟨b, o, rfl, hbs, a', cap', q0, q1, q2, q3, q4, q5, q6, q7, _⟩ := HR.out.at j (by rw [mkr_len]; exact hjr)
      rw [hma] at q0 q1 q2 q3 q4 q5 q6 q7
      simp only [mkr1, tkk_len] at q0 q1 q2 q3 q4 q5 q6 q7
      have hnp := HL.out j hjr
      generalize hps : xs[j].2.2.2.2.length = np at *
      clear hps hma
      rw [show k + 2 = k + 1 + 1 by omega] at q2
      rw [show k + 3 = k + 1 + 1 + 1 by omega] at q3
      rw [show k + 4 = k + 1 + 1 + 1 + 1 by omega] at q7
      have HP := hid (held_ptsK wr a' cap' np (k + 1 + 1 + 1 + 1) (by omega) (by omega) hnp q7)
      have HK5 : Hid (k + 1 + 1 + 1 + 1 + 2 * (np : Int) = kkr k0 xs (j + 1)) := hid (by rw [HKN.out]; omega)
      have hpos : ¬ (k + 1 + 1 + 1 + 1 + 2 * (np : Int) < 0) := by omega
      clear q5 q6 q7
      go_wp2_with fail
      refine HP.out.mono ?_
      rintro e w1 ⟨rfl, hw1⟩
      replace hw1 := hw1.symm
      subst hw1
      go_wp2_with fail
      go_roundw
      case rel => exact ⟨j + 1, _, by go_num, rfl, by omega, HK5, by first | rfl | trivial⟩
      case measure => simp [intOf]; omega
    · obtain rfl : j = n := by omega
      have c1 : (j : Int) ≤ (j : Int) := by omega
      go_wp2_with fail
      go_ret
      exact ⟨HF.out k HKJ.out, rfl⟩
set_option maxHeartbeats 400000 in
theorem markRowsX_of (w : World) (now : Int) (a : Option Addr) (cap : Nat) (rs : List Rw) (kr : Int) (b1 u1 : Nat) (HM : ∀ w', LC KR b1 u1 w' (.slice a rs.length cap) rs → Calls Tryz.prog 68 #[.slice a rs.length cap, .int .i64 1] w' fun e w'' => e = .returned (.int .i64 kr) ∧ LC KR b1 u1 w'' (.slice a rs.length cap) (mkr 1 rs) ∧ Mid b1 u1 w' w'') (h : LC KR b1 u1 w (.slice a rs.length cap) rs) : Calls Tryz.prog 36 #[.agg #[.int .i64 now, .slice a rs.length cap], .int .i64 1] w fun e w' => e = .returned (.int .i64 kr) ∧ LC KR b1 u1 w' (.slice a rs.length cap) (mkr 1 rs) ∧ Mid b1 u1 w w' := by
  have hB : Below w.heap.size w (w.alloc (.cells #[.int .i64 now, .slice a rs.length cap] 35)) := balloc (Below.refl _ _) _
  have H := hid (HM _ (h.below hB))
  clear HM h
  go_enter Tryz.func36, Tryz.ntmps36
  go_wp2_with fail
  refine H.out.mono ?_
  rintro e y ⟨rfl, r1, m1⟩
  have HR := hid r1
  have HB := hid (mid_trans (mid_below (lo := b1) (hi := u1) hB) m1)
  clear r1 m1 hB
  go_wp2_with fail
  go_ret
  exact ⟨rfl, HR.out, HB.out⟩
set_option maxHeartbeats 400000 in
theorem heldRowsX_of (now : Int) (a : Option Addr) (cap : Nat) (rs : List Rw) (kr : Int) (w : World) (hk : ¬ kr < 0) (HM : ∀ w', Below w.heap.size w w' → Calls Tryz.prog 70 #[.slice a rs.length cap, .int .i64 1] w' fun e w'' => e = .returned (.int .i64 kr) ∧ w'' = w') : Calls Tryz.prog 39 #[.agg #[.int .i64 now, .slice a rs.length cap], .int .i64 1] w fun e w' => e = .returned (.int .i64 kr) ∧ Below w.heap.size w w' := by
  have hB : Below w.heap.size w (w.alloc (.cells #[.int .i64 now, .slice a rs.length cap] 35)) := balloc (Below.refl _ _) _
  have H := hid (HM _ hB)
  clear HM
  go_enter Tryz.func39, Tryz.ntmps39
  go_wp2_with fail
  refine H.out.mono ?_
  rintro e y ⟨rfl, hy⟩
  replace hy := hy.symm
  subst hy
  go_wp2_with fail
  go_ret
  exact ⟨rfl, hB⟩
/-- The last number of a store's marks. -/
def kst (rs : List Rw) (ts : List Tx) : Int := kkt (kkr 1 rs rs.length) ts ts.length
theorem kst_pos {rs : List Rw} {ts : List Tx} (hr : rwS rs) (ht : txS ts) : (1 ≤ kkr 1 rs rs.length ∧ kkr 1 rs rs.length ≤ 2199027449858) ∧ 1 ≤ kst rs ts := by
  obtain ⟨a, b⟩ := kkr_bound (k0 := 1) hr.2 rs.length (Nat.le_refl _)
  obtain ⟨c, d⟩ := kkt_bound (k0 := kkr 1 rs rs.length) ht.2 ts.length (Nat.le_refl _)
  have := hr.1
  refine ⟨⟨a, by omega⟩, by unfold kst; omega⟩
set_option maxHeartbeats 1000000 in
theorem held_storeX {N1 N2 : Nat → Prop} (now : Int) (a ta : Option Addr) (cap tcap : Nat) (rs : List Rw) (ts : List Tx) (w : World) (hr : rwS rs) (ht : txS ts) (h1 : Rws N1 w a (mkr 1 rs)) (h2 : Txs N2 1099511627776 w ta (mks (kkr 1 rs rs.length) ts)) : Calls Tryz.prog 15 #[.agg #[.int .i64 now, .slice a rs.length cap, .slice ta ts.length tcap], .int .i64 1] w fun e w' => e = .returned (.int .i64 (kst rs ts)) ∧ Below w.heap.size w w' := by
  obtain ⟨⟨p1, p2⟩, p3⟩ := kst_pos hr ht
  have HM := hid (fun w' (h : Below w.heap.size w w') => held_rwsX a rs.length cap rs 1 w' rfl hr (by omega) (by omega) (h1.below h))
  have HT := hid (fun w' (h : Below w.heap.size w w') => held_txsX ta ts.length tcap ts (kkr 1 rs rs.length) w' rfl ht (by omega) (by omega) (h2.below h))
  have HKS : Hid (kkt (kkr 1 rs rs.length) ts ts.length = kst rs ts) := hid rfl
  rw [HKS.out] at HT
  clear h1 h2 HKS
  generalize kst rs ts = ks at *
  generalize kkr 1 rs rs.length = kr at *
  have n1 : ¬ kr < 0 := by omega
  have n2 : ¬ ks < 0 := by omega
  go_enter Tryz.func15, Tryz.ntmps15
  go_wp2_with fail
  have gS := new_alloc w w.heap.size (.cells #[.int .i64 now, .slice a rs.length cap, .slice ta ts.length tcap] 38) rfl
  have hB : Below w.heap.size w (w.alloc (.cells #[.int .i64 now, .slice a rs.length cap, .slice ta ts.length tcap] 38)) := balloc (Below.refl _ _) _
  generalize w.alloc (.cells #[.int .i64 now, .slice a rs.length cap, .slice ta ts.length tcap] 38) = W at *
  refine (heldRowsX_of now a cap rs kr W (by omega) (fun w' h => HM.out w' (btrans hB h))).mono ?_
  rintro e y ⟨rfl, hy⟩
  have g1 := keepheap2 hy gS
  replace hB := btrans hB hy
  obtain ⟨⟨x0, x1, x2⟩, _⟩ := cellk3 g1
  clear hy gS g1
  go_wp2_with fail
  refine (HT.out _ hB).mono ?_
  rintro e z ⟨rfl, hz⟩
  replace hz := hz.symm
  subst hz
  go_wp2_with fail
  go_ret
  exact ⟨rfl, hB⟩
end Go.Proofs.YtnajddjalagmoaaGreatDoor
namespace Go.Proofs.YtnajddjalagmoaaGreatDoor
open Go.RowKit
set_option linter.unusedSimpArgs false
set_option linter.unusedVariables false
/-- Of what was there only blocks from lo on below hi have turned, and none from p on below q. -/
def MidH (lo hi p q : Nat) (w w' : World) : Prop := Mid lo hi w w' ∧ ∀ k, k < w.heap.size → p ≤ k → k < q → w'.heap[k]? = w.heap[k]?
theorem midh_refl (lo hi p q : Nat) (w : World) : MidH lo hi p q w w := ⟨mid_refl _ _ _, fun _ _ _ _ => rfl⟩
theorem midh_trans {lo hi p q : Nat} {a b c : World} (h : MidH lo hi p q a b) (k : MidH lo hi p q b c) : MidH lo hi p q a c :=
  ⟨mid_trans h.1 k.1, fun x hx h1 h2 => (k.2 x (Nat.lt_of_lt_of_le hx h.1.2.2.2.1) h1 h2).trans (h.2 x hx h1 h2)⟩
theorem midh_set {lo hi p q b k : Nat} {w w1 : World} (h : MidH lo hi p q w w1) (h1 : lo ≤ b) (h2 : b < hi) (h3 : b < p ∨ q ≤ b) (u : Value) : MidH lo hi p q w (w1.setCell ⟨b, k, none⟩ u) :=
  ⟨mid_set h.1 h1 h2 u, fun x hx e1 e2 => by rw [Below.heap_setCell _ _ _ _ (by dsimp only; omega)]; exact h.2 x hx e1 e2⟩
/-- A list in memory of its own, cell by cell, none of it in the hole from p on below q. -/
def LCH {α : Type} (K : Kd α) (base hi p q : Nat) (w : World) (v : Value) (xs : List α) : Prop :=
  hi ≤ w.heap.size ∧ ((xs = [] ∧ v = .slice none 0 0) ∨ ∃ (g cap : Nat) (ss : Nat → Value) (lo up : Nat → Nat), v = .slice (some ⟨g, 0, none⟩) xs.length cap ∧ xs.length ≤ cap ∧ base ≤ g ∧ g < hi ∧ w.there g 0 (xs.length * K.sz) ∧
  (∀ j (h : j < xs.length), ElX K w g j xs[j] (ss j) (lo j) (up j) ∧ base ≤ lo j ∧ up j ≤ hi ∧ (g < lo j ∨ up j ≤ g)) ∧ (∀ i j, i ≠ j → i < xs.length → j < xs.length → up i ≤ lo j ∨ up j ≤ lo i) ∧ (g < p ∨ q ≤ g) ∧ (∀ j, j < xs.length → up j ≤ p ∨ q ≤ lo j))
theorem LCH.lc {α : Type} {K : Kd α} {base hi p q : Nat} {w : World} {v : Value} {xs : List α} (h : LCH K base hi p q w v xs) : LC K base hi w v xs := by
  obtain ⟨h0, h | ⟨g, cap, ss, lo, up, h1, h2, h3, h4, h5, h6, h7, _, _⟩⟩ := h
  · exact ⟨h0, .inl h⟩
  · exact ⟨h0, .inr ⟨g, cap, ss, lo, up, h1, h2, h3, h4, h5, h6, h7⟩⟩
theorem LC.hole {α : Type} {K : Kd α} {base hi p q : Nat} {w : World} {v : Value} {xs : List α} (h : LC K base hi w v xs) (hd : hi ≤ p ∨ q ≤ base) : LCH K base hi p q w v xs := by
  obtain ⟨h0, h | ⟨g, cap, ss, lo, up, h1, h2, h3, h4, h5, h6, h7⟩⟩ := h
  · exact ⟨h0, .inl h⟩
  · exact ⟨h0, .inr ⟨g, cap, ss, lo, up, h1, h2, h3, h4, h5, h6, h7, by omega, fun j hj => by have := (h6 j hj).2; omega⟩⟩
/-- It stands where only the hole has turned. -/
theorem LCH.frame {α : Type} {K : Kd α} {base hi p q : Nat} {w w' : World} {v : Value} {xs : List α} (h : LCH K base hi p q w v xs) (hb : ∀ c, base ≤ c → c < hi → (c < p ∨ q ≤ c) → w'.heap[c]? = w.heap[c]?) (hs : w.heap.size ≤ w'.heap.size) : LCH K base hi p q w' v xs := by
  obtain ⟨h0, h | ⟨g, cap, ss, lo, up, h1, h2, h3, h4, h5, h6, h7, h8, h9⟩⟩ := h
  · exact ⟨by omega, .inl h⟩
  · have eg := hb g h3 h4 h8
    refine ⟨by omega, .inr ⟨g, cap, ss, lo, up, h1, h2, h3, h4, fun j hj => ?_, fun j hj => ?_, h7, h8, h9⟩⟩
    · obtain ⟨s1, s2⟩ := h5 j hj
      simp only [World.cell?, World.frozen?, eg]; exact ⟨s1, s2⟩
    · obtain ⟨a1, a2, a3, a4⟩ := h6 j hj
      have a5 := h9 j hj
      exact ⟨a1.blk eg (fun c c1 c2 => hb c (by omega) (by omega) (by omega)) hs, a2, a3, a4⟩
theorem LCH.below {α : Type} {K : Kd α} {base hi p q : Nat} {w w' : World} {v : Value} {xs : List α} (h : LCH K base hi p q w v xs) (H : Below w.heap.size w w') : LCH K base hi p q w' v xs :=
  h.frame (fun c _ h2 _ => H.block c (by have := h.1; omega)) H.size
end Go.Proofs.YtnajddjalagmoaaGreatDoor
namespace Go.Proofs.YtnajddjalagmoaaGreatDoor
open Go.RowKit
set_option linter.unusedSimpArgs false
set_option linter.unusedVariables false
set_option maxRecDepth 100000 in
set_option maxHeartbeats 4000000 in
theorem spec_copyStoreL (now : Int) (B D tc : Nat) (rs : List Rw) (ts : List Tx) (w : World) (hm : rs.length ≤ 1099511627776) (htm : ts.length ≤ 1099511627776) (hr : RwsS w B rs) (ht : TxsS w D ts) : Calls Tryz.prog 21 #[.agg #[.int .i64 now, .slice (some ⟨B, 0, none⟩) rs.length rs.length, .slice (some ⟨D, 0, none⟩) ts.length tc]] w fun e w' => ∃ a c ta tcc b1 u1 b2 u2, e = .returned (.agg #[.int .i64 now, .slice a rs.length c, .slice ta ts.length tcc]) ∧ (LC KR b1 u1 w' (.slice a rs.length c) rs ∧ ∃ px, LX KT 63 b2 u2 w' (.slice ta ts.length tcc) ts px) ∧ u1 ≤ b2 ∧ b2 ≤ u2 ∧ w.heap.size ≤ b1 ∧ w.heap.size ≤ b2 ∧ Below w.heap.size w w' := by
  obtain ⟨i0, hi0, hz0, hz1, hz2⟩ := info_parts Tryz.infoTx
  have HR := hid (fun (W : World) (hb : Below w.heap.size w W) => spec_copyRows now B rs W hm (hr.below hb))
  have HTS := hid ht
  clear hr ht
  unfold VR at HR
  generalize hnr : rs.length = nr at *
  have HNR := hid hnr
  obtain ⟨nt, hnt⟩ : ∃ nt, nt = ts.length := ⟨_, rfl⟩
  have HNT := hid hnt.symm
  rw [← hnt] at htm ⊢
  clear hnr hnt
  have hB : Below w.heap.size w ((w.alloc (.cells #[.int .i64 now, .slice (some ⟨B, 0, none⟩) nr nr, .slice (some ⟨D, 0, none⟩) nt tc] 38)).alloc (.cells #[.int .i64 0, .slice none 0 0, .slice none 0 0] 38)) := balloc (balloc (Below.refl _ _) _) _
  have g0 := old_alloc (o' := .cells #[.int .i64 0, .slice none 0 0, .slice none 0 0] 38) (new_alloc w w.heap.size (.cells #[.int .i64 now, .slice (some ⟨B, 0, none⟩) nr nr, .slice (some ⟨D, 0, none⟩) nt tc] 38) rfl)
  have g1 := new_alloc (w.alloc (.cells #[.int .i64 now, .slice (some ⟨B, 0, none⟩) nr nr, .slice (some ⟨D, 0, none⟩) nt tc] 38)) (w.heap.size + 1) (.cells #[.int .i64 0, .slice none 0 0, .slice none 0 0] 38) (by simp)
  have hWs : w.heap.size + 1 < ((w.alloc (.cells #[.int .i64 now, .slice (some ⟨B, 0, none⟩) nr nr, .slice (some ⟨D, 0, none⟩) nt tc] 38)).alloc (.cells #[.int .i64 0, .slice none 0 0, .slice none 0 0] 38)).heap.size := by simp
  go_enter Tryz.func21, Tryz.ntmps21
  go_upto_region 1 with fail
  generalize (w.alloc (.cells #[.int .i64 now, .slice (some ⟨B, 0, none⟩) nr nr, .slice (some ⟨D, 0, none⟩) nt tc] 38)).alloc (.cells #[.int .i64 0, .slice none 0 0, .slice none 0 0] 38) = W at *
  obtain ⟨⟨d0, d1, d2⟩, _⟩ := cellk3 g0
  go_wp2_with fail
  refine (HR.out _ hB).mono ?_
  rintro e y ⟨a, c, pr, rfl, hX, hy⟩
  replace g0 := keepheap2 hy g0
  replace g1 := keepheap2 hy g1
  replace hB := btrans hB hy
  have hyz := hy.size
  have HX := hid hX.lc
  clear hy hX HR d0 d1 d2
  go_upto_region 2 with fail
  have hal : Below y.heap.size y (y.alloc (.cells #[.int .i64 now, .slice a nr c, .slice none 0 0] 38)) := balloc (Below.refl _ _) _
  have g2 := new_alloc y y.heap.size (.cells #[.int .i64 now, .slice a nr c, .slice none 0 0] 38) rfl
  replace g0 := keepheap2 hal g0
  replace g1 := keepheap2 hal g1
  have HX1 := hid (HX.out.below hal)
  have HB1 := hid (btrans hB hal)
  have hyq : y.heap.size < (y.alloc (.cells #[.int .i64 now, .slice a nr c, .slice none 0 0] 38)).heap.size := by simp
  clear hal hB HX
  generalize y.alloc (.cells #[.int .i64 now, .slice a nr c, .slice none 0 0] 38) = Y0 at *
  generalize W.heap.size = Wz at *
  generalize y.heap.size = Q at *
  have HX0 := hid (LX.nil (K := KT) (t := 63) (base := Q + 1) (hi := Y0.heap.size) (own_nilT (w := Y0)) (fun g e => by cases e) (Nat.le_refl _))
  have hBz := HB1.out.size
  go_wp2_with fail
  go_loopw [4] (fun ti wr => ∃ i : Nat, ∃ v : Value, ∃ ps' : List (Tx × Value), ti = .int .i64 i ∧ i ≤ nt ∧ Hid (LX KT 63 (Q + 1) wr.heap.size wr v (ts.take i) ps') ∧ Hid (wr.heap[w.heap.size]? = some (.cells #[.int .i64 now, .slice (some ⟨B, 0, none⟩) nr nr, .slice (some ⟨D, 0, none⟩) nt tc] 38 (0, 0))) ∧ Hid (wr.heap[w.heap.size + 1]? = some (.cells #[.int .i64 0, .slice none 0 0, .slice none 0 0] 38 (0, 0))) ∧ Hid (wr.heap[Q]? = some (.cells #[.int .i64 now, .slice a nr c, v] 38 (0, 0))) ∧ Hid (LC KR Wz Q wr (.slice a nr c) rs) ∧ Hid (Q < wr.heap.size) ∧ Hid (Below w.heap.size w wr)) (fun ti _ => nt - (intOf ti).toNat)
  case atStart => exact ⟨0, _, [], rfl, Nat.zero_le _, HX0, hid g0, hid g1, hid g2, HX1, hid (by omega), HB1⟩
  case round =>
    clear HX0 g0 g1 g2 HX1 HB1 hBz
    obtain ⟨i, v, ps', rfl, hi, HV, G0, G1, G2, HXR, HS, HBW⟩ := hrel
    obtain ⟨⟨d0, d1, d2⟩, _⟩ := cellk3 G0.out
    have hws := HS.out
    by_cases hlt : i < nt
    · have c1 : (i : Int) < (nt : Int) := by omega
      have hir : i < ts.length := by rw [HNT.out]; exact hlt
      obtain ⟨ci, cpi, k9, ⟨k0, k1, k2⟩, k6, k7⟩ := (HTS.out.below HBW.out).2 i hir
      have HTK : Hid (ts.take (i + 1) = ts.take i ++ [ts[i]]) := hid (by rw [List.take_add_one, List.getElem?_eq_getElem hir]; rfl)
      have HIL : Hid ((ts.take i).length = i) := hid (by rw [List.length_take]; omega)
      obtain ⟨r, hr⟩ : ∃ r, r = ts[i] := ⟨_, rfl⟩
      rw [← hr] at k0 k1 k2 k6 k7 HTK
      clear hr
      obtain ⟨st, op, cs⟩ := r
      simp only at k0 k1 k2 k6 k7
      have hbx : Below wr.heap.size wr (wr.alloc (.cells #[.int .i64 st, .bool op, .slice (some ⟨ci, 0, none⟩) cs.length cpi] 63)) := balloc (Below.refl _ _) _
      have HC1 := hid (spec_copyChs ci cpi cs _ k6 (k7.below hbx))
      clear k7
      go_upto_region 6 with fail
      have gx := new_alloc wr wr.heap.size (.cells #[.int .i64 st, .bool op, .slice (some ⟨ci, 0, none⟩) cs.length cpi] 63) rfl
      have HV1 := hid (HV.out.below hbx)
      have HG0 := hid (keepheap2 hbx G0.out)
      have HG1 := hid (keepheap2 hbx G1.out)
      have HG2 := hid (keepheap2 hbx G2.out)
      have HXR1 := hid (HXR.out.below hbx)
      have HB1 := hid (btrans HBW.out hbx)
      have hs1 : wr.heap.size < (wr.alloc (.cells #[.int .i64 st, .bool op, .slice (some ⟨ci, 0, none⟩) cs.length cpi] 63)).heap.size := by simp
      clear k0 k1 k2 d0 d1 d2 hbx HV G0 G1 G2 HXR
      generalize wr.alloc (.cells #[.int .i64 st, .bool op, .slice (some ⟨ci, 0, none⟩) cs.length cpi] 63) = W1 at *
      generalize wr.heap.size = X at *
      obtain ⟨⟨x0, x1, x2⟩, _⟩ := cellk3 gx
      go_wp2_with fail
      refine HC1.out.mono ?_
      rintro e y ⟨sv, px, rfl, hXc, ⟨g, cp, rfl⟩, hy⟩
      have gy := keepheap2 hy gx
      have hys := hy.size
      have HV2 := hid (HV1.out.below hy)
      have HG0' := hid (keepheap2 hy HG0.out)
      have HG1' := hid (keepheap2 hy HG1.out)
      have HG2' := hid (keepheap2 hy HG2.out)
      have HXR2 := hid (HXR1.out.below hy)
      have HBy := hid (btrans HB1.out hy)
      have hwy := HBy.out.size
      have HO := hid hXc.lc
      clear hy hXc gx HC1 HV1 HG0 HG1 HG2 HXR1 HB1 x0 x1 x2
      obtain ⟨⟨x0, x1, x2⟩, y0, y1, y2⟩ := cellk3 gy
      go_upto_region 7 with fail
      have gq := setk3_2 gy (.slice (some ⟨g, 0, none⟩) cs.length cp)
      have hfar : ∀ b, b ≠ X → (y.setCell ⟨X, 2, none⟩ (.slice (some ⟨g, 0, none⟩) cs.length cp)).heap[b]? = y.heap[b]? := fun b hb => by rw [Below.heap_setCell _ _ _ _ (by dsimp only; omega)]
      have HV3 := hid (HV2.out.frame (w' := y.setCell ⟨X, 2, none⟩ (.slice (some ⟨g, 0, none⟩) cs.length cp)) (fun b h1 h2 => hfar b (by omega)) (by simp))
      have HG0 := hid ((hfar w.heap.size (by omega)).trans HG0'.out)
      have HG1 := hid ((hfar (w.heap.size + 1) (by omega)).trans HG1'.out)
      have g2 := (hfar Q (by omega)).trans HG2'.out
      have HXR3 := hid (HXR2.out.frame (w' := y.setCell ⟨X, 2, none⟩ (.slice (some ⟨g, 0, none⟩) cs.length cp)) (fun b h1 h2 => hfar b (by omega)) (by simp))
      have HB3 := hid (bset HBy.out (q := X) (k := 2) (by omega) (.slice (some ⟨g, 0, none⟩) cs.length cp))
      have HO3 := hid (HO.out.frame (w' := y.setCell ⟨X, 2, none⟩ (.slice (some ⟨g, 0, none⟩) cs.length cp)) (fun b h1 h2 => hfar b (by omega)) (by simp))
      have hs3 : (y.setCell ⟨X, 2, none⟩ (.slice (some ⟨g, 0, none⟩) cs.length cp)).heap.size = y.heap.size := by simp
      have hs3a := Nat.le_of_eq hs3
      have hs3b := Nat.le_of_eq hs3.symm
      clear hs3 hfar HV2 HG0' HG1' HG2' HXR2 HBy HO gy x0 x1 x2 y0 y1 y2
      generalize y.setCell ⟨X, 2, none⟩ (.slice (some ⟨g, 0, none⟩) cs.length cp) = Y at *
      generalize W1.heap.size = W1z at *
      generalize y.heap.size = yz at *
      obtain ⟨⟨x0, x1, x2⟩, _⟩ := cellk3 gq
      obtain ⟨⟨v0, v1, v2⟩, _⟩ := cellk3 g2
      have hownZ : Y.ownsRow (Q + 1) 63 3 v i (flatK KT ps') := by have := HV3.out.2.1; rw [HIL.out] at this; exact this
      have hal2 : Below Y.heap.size Y (Y.alloc (.cells #[.int .i64 st, .bool op, .slice (some ⟨g, 0, none⟩) cs.length cp] 63)) := balloc (Below.refl _ _) _
      have HGE := hid (keepheap2 hal2 g2)
      have hvb : v.ownBlock ≠ some Q := fun e => by have := (hownZ.lt _ e).1; omega
      clear gq g2
      go_wp2_with (at_builtin; (refine wpList_append_lies _ rfl (.tmp 27) (.tmp 29) 36 rfl (Q + 1) 63 i0 _ 3 40 Tryz.underlying36 hi0 hz0 hz1 hz2 rfl (by decide) v i (flatK KT ps') rfl (hownZ.alloc _) ⟨Y.heap.size, 0, none⟩ 1 1 [.int .i64 st, .bool op, .slice (some ⟨g, 0, none⟩) cs.length cp] rfl rfl (World.news_of_block (cs := #[.int .i64 st, .bool op, .slice (some ⟨g, 0, none⟩) cs.length cp]) (t := 63) (fr := (0, 0)) (heap_alloc_new Y _)) (by simp [Value.oneCell']) (by omega) (by unfold maxLen; omega) (by omega) (by simp; omega) (Y.heap.size + 1) (by simp) ?_; intro gg cq w2 hown2 hgrow hat hlt2; have g2 := (hgrow.block Q (lt_of_block HGE.out) (fun e => hvb e.symm)).trans HGE.out; obtain ⟨⟨t0, t1, t2⟩, s0, s1, s2⟩ := cellk3 g2))
      have hsn := LX.snoc (K := KT) (x := (st, op, cs)) (sv := .slice (some ⟨g, 0, none⟩) cs.length cp) (l := W1z) (u := yz) (g := gg) (cap := cq) (HV3.out.below hal2) (by omega) (by omega) (HO3.out.below hal2) (by rw [HIL.out]; exact hown2) hgrow (by simpa using hat) hlt2
      rw [HIL.out] at hsn
      have hb2 : Below w.heap.size w w2 := Below.grown (balloc HB3.out _) hgrow (by simp; omega) (fun k e => by have := (hownZ.lt k e).1; omega)
      have hw2 := hgrow.size
      have hbk : ∀ b, b ≤ Q → w2.heap[b]? = Y.heap[b]? := fun b hb => (hgrow.block b (by simp; omega) (fun e => by have := (hownZ.lt _ e.symm).1; omega)).trans (hal2.block b (by omega))
      have hfar : ∀ b, b ≠ Q → (w2.setCell ⟨Q, 2, none⟩ (.slice (some ⟨gg, 0, none⟩) (i + 1) cq)).heap[b]? = w2.heap[b]? := fun b hb => by rw [Below.heap_setCell _ _ _ _ (by dsimp only; omega)]
      have HF1 := hid ((hsn.frame (w' := w2.setCell ⟨Q, 2, none⟩ (.slice (some ⟨gg, 0, none⟩) (i + 1) cq)) (fun b h1 h2 => hfar b (by omega)) (by simp)).mono (hi' := (w2.setCell ⟨Q, 2, none⟩ (.slice (some ⟨gg, 0, none⟩) (i + 1) cq)).heap.size) (Nat.le_refl _) (by simp) (Nat.le_refl _))
      rw [← HTK.out] at HF1
      have HF2 := hid (((hfar w.heap.size (by omega)).trans (hbk _ (by omega))).trans HG0.out)
      have HF3 := hid (((hfar (w.heap.size + 1) (by omega)).trans (hbk _ (by omega))).trans HG1.out)
      have HF4 : Hid ((w2.setCell ⟨Q, 2, none⟩ (.slice (some ⟨gg, 0, none⟩) (i + 1) cq)).heap[Q]? = some (.cells #[.int .i64 now, .slice a nr c, .slice (some ⟨gg, 0, none⟩) (i + 1) cq] 38 (0, 0))) := hid (setk3_2 g2 _)
      have HF7 := hid (HXR3.out.frame (w' := w2.setCell ⟨Q, 2, none⟩ (.slice (some ⟨gg, 0, none⟩) (i + 1) cq)) (fun b h1 h2 => (hfar b (by omega)).trans (hbk b (by omega))) (by simp at hw2 ⊢; omega))
      have HF5 : Hid (Q < (w2.setCell ⟨Q, 2, none⟩ (.slice (some ⟨gg, 0, none⟩) (i + 1) cq)).heap.size) := hid (by simp at hw2 ⊢; omega)
      have HF6 := hid (bset hb2 (q := Q) (k := 2) (by omega) (.slice (some ⟨gg, 0, none⟩) (i + 1) cq))
      clear hsn hb2 hown2 hgrow hal2 hownZ hfar hbk g2 t0 t1 t2 s0 s1 s2 HGE
      go_roundw
      case rel => exact ⟨i + 1, _, _, by go_num, by omega, HF1, HF2, HF3, HF4, HF7, HF5, HF6⟩
      case measure => simp [intOf]; omega
    · have c1 : (nt : Int) ≤ (i : Int) := by omega
      have hin : i = ts.length := by have := HNT.out; omega
      have hX : LX KT 63 (Q + 1) wr.heap.size wr v ts ps' := by have := HV.out; rw [hin, List.take_length] at this; exact this
      obtain ⟨ta, tcc, rfl⟩ := hX.form
      rw [HNT.out] at hX G2
      have HX := hid hX
      clear hin HV hX
      obtain ⟨⟨v0, v1, v2⟩, s0, s1, s2⟩ := cellk3 G1.out
      obtain ⟨⟨t0, t1, t2⟩, _⟩ := cellk3 G2.out
      go_wp2_with fail
      have gF := setk3 G1.out (.int .i64 now) (.slice a nr c) (.slice ta nt tcc)
      have bF := bset (bset (bset HBW.out (q := w.heap.size + 1) (k := 0) (by omega) (.int .i64 now)) (q := w.heap.size + 1) (k := 1) (by omega) (.slice a nr c)) (q := w.heap.size + 1) (k := 2) (by omega) (.slice ta nt tcc)
      have hfar : ∀ b, b ≠ w.heap.size + 1 → (((wr.setCell ⟨w.heap.size + 1, 0, none⟩ (.int .i64 now)).setCell ⟨w.heap.size + 1, 1, none⟩ (.slice a nr c)).setCell ⟨w.heap.size + 1, 2, none⟩ (.slice ta nt tcc)).heap[b]? = wr.heap[b]? := fun b hb => by rw [Below.heap_setCell _ _ _ _ (by dsimp only; omega), Below.heap_setCell _ _ _ _ (by dsimp only; omega), Below.heap_setCell _ _ _ _ (by dsimp only; omega)]
      have x1 := HXR.out.frame (w' := ((wr.setCell ⟨w.heap.size + 1, 0, none⟩ (.int .i64 now)).setCell ⟨w.heap.size + 1, 1, none⟩ (.slice a nr c)).setCell ⟨w.heap.size + 1, 2, none⟩ (.slice ta nt tcc)) (fun b h1 h2 => hfar b (by omega)) (by simp)
      have x2 := (HX.out.frame (w' := ((wr.setCell ⟨w.heap.size + 1, 0, none⟩ (.int .i64 now)).setCell ⟨w.heap.size + 1, 1, none⟩ (.slice a nr c)).setCell ⟨w.heap.size + 1, 2, none⟩ (.slice ta nt tcc)) (fun b h1 h2 => hfar b (by omega)) (by simp))
      generalize ((wr.setCell ⟨w.heap.size + 1, 0, none⟩ (.int .i64 now)).setCell ⟨w.heap.size + 1, 1, none⟩ (.slice a nr c)).setCell ⟨w.heap.size + 1, 2, none⟩ (.slice ta nt tcc) = wf at *
      obtain ⟨⟨z0, z1, z2⟩, _⟩ := cellk3 gF
      exact bodyPost_ret (v := .agg #[.int .i64 now, .slice a nr c, .slice ta nt tcc]) (by simp [results, Tryz.results21, go_sem, z0, z1, z2]) rfl ⟨a, c, ta, tcc, Wz, Q, Q + 1, wr.heap.size, rfl, ⟨x1, _, x2⟩, by omega, by omega, by omega, by omega, bF⟩
end Go.Proofs.YtnajddjalagmoaaGreatDoor
namespace Go.Proofs.YtnajddjalagmoaaGreatDoor
open Go.RowKit
set_option linter.unusedSimpArgs false
set_option linter.unusedVariables false
/-- A store and a number that the specification answers. -/
def SSN (w : World) (now : Int) (rs : List Rw) (ts : List Tx) (n : Int) (e : Ending) (w' : World) : Prop :=
  ∃ a c ta tcc, e = .returned (.tuple #[.agg #[.int .i64 now, .slice a rs.length c, .slice ta ts.length tcc], .int .i64 n]) ∧ Rws (fun _ => True) w' a rs ∧ Txs (fun _ => True) 1099511627776 w' ta ts ∧ Below w.heap.size w w'
theorem ssn_mk {w w' : World} {now n n' : Int} {rs : List Rw} {ts ts' : List Tx} {a ta : Option Addr} {c tcc nr nt b1 u1 b2 u2 : Nat} (e1 : ts = ts') (e2 : n = n') (h1 : rs.length = nr) (h2 : ts'.length = nt) (x1 : LC KR b1 u1 w' (.slice a nr c) rs) (x2 : LC KT b2 u2 w' (.slice ta nt tcc) ts') (hl : txL ts') (hb : Below w.heap.size w w') : SSN w now rs ts n (.returned (.tuple #[.agg #[.int .i64 now, .slice a nr c, .slice ta nt tcc], .int .i64 n'])) w' := by
  subst e1 e2 h1 h2
  exact ⟨a, c, ta, tcc, rfl, x1.rws, Txs.any (x2.txs hl), hb⟩
/-- A transaction ended in a list in memory of its own. -/
theorem LC.rb {base hi g cap m : Nat} {w : World} {ts : List Tx} {t : TypeId} (h : LC KT base hi w (.slice (some ⟨g, 0, none⟩) ts.length cap) ts) (hm : m < ts.length) : LC KT base (w.heap.size + 1) (((w.setCell ⟨g, m * 3 + 1, none⟩ (.bool false)).alloc (.cells #[] t)).setCell ⟨g, m * 3 + 2, none⟩ (.slice (some ⟨w.heap.size, 0, none⟩) 0 0)) (.slice (some ⟨g, 0, none⟩) ts.length cap) (ts.set m (ts[m].1, false, [])) := by
  obtain ⟨h0, ⟨_, h⟩ | ⟨g2, cap2, ss, lo, up, h1, h2, h3, h4, h5, h6, h7⟩⟩ := h
  · cases h
  · cases h1
    have ht : ∀ k, k < ts.length * 3 → ∃ u, w.cell? ⟨g, k, none⟩ = some u := fun k hk => by
      obtain ⟨c0, _⟩ := h5 k hk
      obtain ⟨u0, hu0⟩ := Option.isSome_iff_exists.1 c0
      exact ⟨u0, by simpa using hu0⟩
    have hal : Below (w.setCell ⟨g, m * 3 + 1, none⟩ (.bool false)).heap.size (w.setCell ⟨g, m * 3 + 1, none⟩ (.bool false)) ((w.setCell ⟨g, m * 3 + 1, none⟩ (.bool false)).alloc (.cells #[] t)) := balloc (Below.refl _ _) _
    have hs1 : (w.setCell ⟨g, m * 3 + 1, none⟩ (.bool false)).heap.size = w.heap.size := by simp
    have hbk : ∀ c, c < w.heap.size → ((w.setCell ⟨g, m * 3 + 1, none⟩ (.bool false)).alloc (.cells #[] t)).heap[c]? = (w.setCell ⟨g, m * 3 + 1, none⟩ (.bool false)).heap[c]? := fun c hc => hal.block c (by omega)
    have hs2 : ((w.setCell ⟨g, m * 3 + 1, none⟩ (.bool false)).alloc (.cells #[] t)).heap.size = w.heap.size + 1 := by simp
    have gN : ((w.setCell ⟨g, m * 3 + 1, none⟩ (.bool false)).alloc (.cells #[] t)).heap[w.heap.size]? = some (.cells #[] t (0, 0)) := new_alloc _ _ _ hs1.symm
    have hcA : ∀ k, ((w.setCell ⟨g, m * 3 + 1, none⟩ (.bool false)).alloc (.cells #[] t)).cell? ⟨g, k, none⟩ = (w.setCell ⟨g, m * 3 + 1, none⟩ (.bool false)).cell? ⟨g, k, none⟩ := fun k => World.cell?_of_block (hbk g (by omega))
    refine ⟨by simp, .inr ⟨g, cap, fun j => if j = m then .slice (some ⟨w.heap.size, 0, none⟩) 0 0 else ss j, fun j => if j = m then w.heap.size else lo j, fun j => if j = m then w.heap.size + 1 else up j, by rw [List.length_set], by rw [List.length_set]; exact h2, h3, by omega, ?_, fun j hj => ?_, fun i j hij hi' hj => ?_⟩⟩
    · rw [List.length_set]
      refine there_set (w := (w.setCell ⟨g, m * 3 + 1, none⟩ (.bool false)).alloc (.cells #[] t)) ?_ _
      exact there_below (there_set h5 _) (by omega) hal
    · rw [List.length_set] at hj
      obtain ⟨a1, a2, a3, a4⟩ := h6 j hj
      by_cases e : j = m
      · subst e
        simp only [if_true]
        refine ⟨?_, by omega, by omega, by omega⟩
        simp only [List.getElem_set_self]
        obtain ⟨u1, q1⟩ := ht (j * 3 + 1) (by omega)
        obtain ⟨u2, q2⟩ := ht (j * 3 + 2) (by omega)
        have q0 := a1.1 0 (by decide)
        refine ⟨fun t' ht' => ?_, ⟨by simp, .inr ⟨w.heap.size, 0, fun _ => .bool false, fun _ => 0, fun _ => 0, rfl, Nat.le_refl _, Nat.le_refl _, by omega, fun k hk => by simp at hk, fun k hk => by simp at hk, fun i k _ hi' _ => by simp at hi'⟩⟩⟩
        have ht3 : t' < 3 := ht'
        match t', ht3 with
        | 0, _ =>
          rw [World.cell?_setCell_other _ _ _ _ (by intro q; injection q; simp only [KT] at *; omega), hcA, World.cell?_setCell_other _ _ _ _ (by intro q; injection q; simp only [KT] at *; omega)]
          exact q0
        | 1, _ =>
          rw [World.cell?_setCell_other _ _ _ _ (by intro q; injection q; simp only [KT] at *; omega), hcA]
          exact World.cell?_setCell_same _ _ _ q1
        | 2, _ =>
          refine World.cell?_setCell_same (u := u2) _ _ _ ?_
          rw [hcA, World.cell?_setCell_other _ _ _ _ (by intro q; injection q; omega)]
          exact q2
      · simp only [if_neg e]
        rw [List.getElem_set_ne (by omega)]
        have hne : j * 3 + 3 ≤ m * 3 ∨ m * 3 + 3 ≤ j * 3 := by omega
        have b1 := a1.set a4 (k := m * 3 + 1) (by show m * 3 + 1 < j * 3 ∨ j * 3 + 3 ≤ m * 3 + 1; omega) (.bool false)
        have b2 := b1.blk (w' := (w.setCell ⟨g, m * 3 + 1, none⟩ (.bool false)).alloc (.cells #[] t)) (hbk g (by omega)) (fun c _ c2 => hbk c (by omega)) (by omega)
        exact ⟨b2.set a4 (k := m * 3 + 2) (by show m * 3 + 2 < j * 3 ∨ j * 3 + 3 ≤ m * 3 + 2; omega) _, a2, by omega, a4⟩
    · rw [List.length_set] at hi' hj
      have q1 := (h6 i hi').2.2.1
      have q2 := (h6 j hj).2.2.1
      have q3 := h7 i j hij hi' hj
      by_cases e1 : i = m
      · by_cases e2 : j = m
        · omega
        · simp only [if_pos e1, if_neg e2]; omega
      · by_cases e2 : j = m
        · simp only [if_neg e1, if_pos e2]; omega
        · simp only [if_neg e1, if_neg e2]; exact q3
end Go.Proofs.YtnajddjalagmoaaGreatDoor
namespace Go.Proofs.YtnajddjalagmoaaGreatDoor
open Go.RowKit
set_option linter.unusedSimpArgs false
set_option linter.unusedVariables false
theorem cellk2Z {w : World} {p : Nat} {a b : Value} {t : TypeId} (h : w.heap[p]? = some (.cells #[a, b] t (0, 0))) : (w.cell? ⟨p, 0, none⟩ = some a ∧ w.cell? ⟨p, 1, none⟩ = some b) ∧ w.frozen? ⟨p, 0, none⟩ = false ∧ w.frozen? ⟨p, 1, none⟩ = false := by
  refine ⟨⟨?_, ?_⟩, ?_, ?_⟩ <;> simp [World.cell?, World.frozen?, h]
theorem shok_kindS {k : Int} {ps : List (Int × Int)} (h : shok k ps = true) : (k = 0 ∧ ps.length = 1) ∨ (k = 1 ∧ 2 ≤ ps.length ∧ ps.length ≤ 60) ∨ (k = 2 ∧ ps.length = 2) ∨ (k = 3 ∧ 3 ≤ ps.length ∧ ps.length ≤ 60) := by
  unfold shok at h
  split at h
  · rename_i e
    simp only [Bool.and_eq_true, decide_eq_true_eq] at h
    exact .inl ⟨e, h.1⟩
  split at h
  · rename_i e
    simp only [lineb, Bool.and_eq_true, decide_eq_true_eq] at h
    exact .inr (.inl ⟨e, h.1.1.1, h.1.1.2⟩)
  split at h
  · rename_i e
    simp only [rectb, Bool.and_eq_true, decide_eq_true_eq] at h
    exact .inr (.inr (.inl ⟨e, h.1.1⟩))
  split at h
  · rename_i e
    simp only [ringOk, Bool.and_eq_true, decide_eq_true_eq] at h
    exact .inr (.inr (.inr ⟨e, h.1.1.1, h.1.1.2⟩))
  · cases h
theorem ssn_mk2 {w w' : World} {now n n' : Int} {rs : List Rw} {ts ts' : List Tx} {a ta : Option Addr} {c tcc nr nt b1 u1 : Nat} (e1 : ts = ts') (e2 : n = n') (h1 : rs.length = nr) (h2 : ts'.length = nt) (x1 : LC KR b1 u1 w' (.slice a nr c) rs) (x2 : Txs (fun _ => True) 1099511627776 w' ta ts') (hb : Below w.heap.size w w') : SSN w now rs ts n (.returned (.tuple #[.agg #[.int .i64 now, .slice a nr c, .slice ta nt tcc], .int .i64 n'])) w' := by
  subst e1 e2 h1 h2
  exact ⟨a, c, ta, tcc, rfl, x1.rws, x2, hb⟩
theorem Chs.moved {N : Nat → Prop} {M g : Nat} {w w' : World} {xs : List Ch} (h : Chs N M w (some ⟨g, 0, none⟩) xs) (hg : w'.heap[g]? = w.heap[g]?) (hb : ∀ c, N c → w'.heap[c]? = w.heap[c]?) (hs : w.heap.size ≤ w'.heap.size) : Chs N M w' (some ⟨g, 0, none⟩) xs := by
  rcases h with h | ⟨b, o, e, hbs, h⟩
  · exact .inl h
  · cases e
    exact .inr ⟨g, 0, rfl, by omega, fun j hj => (h j hj).blk (fun i hi => World.cell?_of_block hg) hb hs⟩
theorem LC.thr {α : Type} {K : Kd α} {base hi g n cap : Nat} {w : World} {xs : List α} (h : LC K base hi w (.slice (some ⟨g, 0, none⟩) n cap) xs) : w.there g 0 (xs.length * K.sz) ∧ base ≤ g ∧ g < hi := by
  obtain ⟨_, ⟨_, q⟩ | ⟨g2, cp, ss, lo, up, e, h1, h2, h3, h4, h5, h6⟩⟩ := h
  · cases q
  · cases e; exact ⟨h4, h2, h3⟩
/-- A list of transactions in which the changes of one are others. -/
theorem LC.txput {base hi g cap m g' c' : Nat} {w w' : World} {ts : List Tx} {cs2 : List Ch} (h : LC KT base hi w (.slice (some ⟨g, 0, none⟩) ts.length cap) ts) (hm : m < ts.length) (hl : txL ts) (hs : w.heap.size ≤ w'.heap.size) (hfr : ∀ b, base ≤ b → b < hi → b ≠ g → w'.heap[b]? = w.heap[b]?) (hcell : ∀ k, k ≠ m * 3 + 2 → w'.cell? ⟨g, k, none⟩ = w.cell? ⟨g, k, none⟩) (hnew : w'.cell? ⟨g, m * 3 + 2, none⟩ = some (.slice (some ⟨g', 0, none⟩) cs2.length c')) (hc1 : cs2.length ≤ c') (hc2 : cs2.length ≤ 1099511627776) (hch : Chs (fun _ => True) 1099511627776 w' (some ⟨g', 0, none⟩) cs2) : Txs (fun _ => True) 1099511627776 w' (some ⟨g, 0, none⟩) (ts.set m (ts[m].1, ts[m].2.1, cs2)) := by
  obtain ⟨h0, ⟨_, q⟩ | ⟨g2, cp, ss, lo, up, e, h1, h2, h3, h4, h5, h6⟩⟩ := h
  · cases q
  · cases e
    refine .inr ⟨g, 0, rfl, by omega, fun j hj => ?_⟩
    rw [List.length_set] at hj
    obtain ⟨⟨b1, b2⟩, a2, a3, a4⟩ := h5 j hj
    have k0 := b1 0 (by decide)
    have k1 := b1 1 (by decide)
    have k2 := b1 2 (by decide)
    rw [Nat.zero_add]
    by_cases e : j = m
    · subst e
      simp only [List.getElem_set_self]
      simp only [KT] at k0 k1
      exact ⟨some ⟨g', 0, none⟩, c', (hcell (j * 3) (by omega)).trans k0, (hcell (j * 3 + 1) (by omega)).trans k1, hnew, hc1, hc2, hch, fun _ _ _ => trivial⟩
    · rw [List.getElem_set_ne (by omega)]
      have b3 : LC KC (lo j) (up j) w' (ss j) ts[j].2.2 := LC.frame b2 (fun c q1 q2 => hfr c (by omega) (by omega) (by omega)) hs
      obtain ⟨a', cap', e', f1, f2⟩ := LC.form b3
      simp only [KT, e'] at k0 k1 k2
      rw [e'] at b3
      exact ⟨a', cap', (hcell (j * 3) (by omega)).trans k0, (hcell (j * 3 + 1) (by omega)).trans k1, (hcell (j * 3 + 2) (by omega)).trans k2, f1, hl j hj, (LC.chs b3).imp (fun _ _ => trivial), fun _ _ _ => trivial⟩
theorem LC.at3 {base hi g cap m : Nat} {w : World} {ts : List Tx} (h : LC KT base hi w (.slice (some ⟨g, 0, none⟩) ts.length cap) ts) (hm : m < ts.length) : ∃ ca cc lo up, w.cell? ⟨g, m * 3 + 2, none⟩ = some (.slice ca ts[m].2.2.length cc) ∧ Chs (fun c => lo ≤ c ∧ c < up) 1099511627776 w ca ts[m].2.2 ∧ base ≤ lo ∧ up ≤ hi ∧ (g < lo ∨ up ≤ g) := by
  obtain ⟨h0, ⟨_, q⟩ | ⟨g2, cp, ss, lo, up, e, h1, h2, h3, h4, h5, h6⟩⟩ := h
  · cases q
  · cases e
    obtain ⟨⟨b1, b2⟩, a2, a3, a4⟩ := h5 m hm
    have k2 := b1 2 (by decide)
    obtain ⟨a', cap', e', f1, f2⟩ := LC.form b2
    simp only [KT, e'] at k2
    rw [e'] at b2
    exact ⟨a', cap', lo m, up m, k2, LC.chs b2, a2, a3, a4⟩
theorem putC_len (cs : List Ch) (x : Ch) : (putC cs x).length ≤ cs.length + 1 := by
  unfold putC
  split
  · rw [List.length_set]; omega
  · simp; omega
set_option maxRecDepth 100000 in
set_option maxHeartbeats 8000000 in
theorem spec_TxnPut {N1 N2 : Nat → Prop} (now n id kd : Int) (B D : Nat) (sa : Option Addr) (sc : Nat) (ps : List (Int × Int)) (rs : List Rw) (ts : List Tx) (w : World) (hm : rs.length ≤ 1099511627776) (htm : ts.length ≤ 1099511627776) (hcm : ∀ m (h : m < ts.length), ts[m].2.2.length ≤ 1048576) (hr : RwsS w B rs) (hrr : Rws N1 w (some ⟨B, 0, none⟩) rs) (ht : TxsS w D ts) (htt : Txs N2 1099511627776 w (some ⟨D, 0, none⟩) ts) (hpm : ps.length ≤ 1099511627776) (hpc : ps.length ≤ sc) (hp : Pts w sa ps) :
    Calls Tryz.prog 7 #[.agg #[.int .i64 now, .slice (some ⟨B, 0, none⟩) rs.length rs.length, .slice (some ⟨D, 0, none⟩) ts.length ts.length], .int .i64 n, .int .i64 id, .agg #[.int .i64 kd, .slice sa ps.length sc]] w fun e w' => SSN w now rs (ptT now rs ts n id kd ps) (ptN now rs ts n id kd ps) e w' := by
  have HCP := hid (fun (W : World) (hb : Below w.heap.size w W) => spec_copyStoreL now B D ts.length rs ts W hm htm (hr.below hb) (ht.below hb))
  have HOK := hid (fun (W : World) (hb : Below w.heap.size w W) => spec_open now (some ⟨B, 0, none⟩) (some ⟨D, 0, none⟩) rs.length ts.length rs ts n W hm htm (hrr.below hb) (htt.below hb))
  have HSO := hid (fun (W : World) (hb : Below w.heap.size w W) => spec_ShapeOk kd sa sc ps W hpm hpc (hp.below hb))
  unfold shv at HSO
  have HTL : Hid (txL ts) := hid (fun j (hj : j < ts.length) => (ht.2 j hj).choose_spec.choose_spec.2.2.1)
  have HNO : Hid (opn now rs ts n = false → ptT now rs ts n id kd ps = ts ∧ ptN now rs ts n id kd ps = 1) := hid (fun h => by unfold ptT ptN; rw [h]; exact ⟨rfl, rfl⟩)
  have HBD : Hid (opn now rs ts n = true → pob id kd ps = false → ptT now rs ts n id kd ps = ts ∧ ptN now rs ts n id kd ps = 2) := hid (fun h hq => by unfold ptT ptN; rw [h, if_pos rfl, if_pos rfl, ptX_no hq, hq]; exact ⟨rfl, rfl⟩)
  have HYE : Hid (opn now rs ts n = true → pob id kd ps = true → ∃ (m : Nat) (hmt : m < ts.length), n = (m : Int) ∧ ptT now rs ts n id kd ps = ts.set m (ts[m].1, ts[m].2.1, putC ts[m].2.2 (id, false, kd, ps)) ∧ ptN now rs ts n id kd ps = 0 ∧ (∀ i j, i < j → j < ts[m].2.2.length → idc ts[m].2.2 i < idc ts[m].2.2 j)) := hid (fun h hq => by
    obtain ⟨m, rfl, hmt, _, _⟩ := opn_at h
    refine ⟨m, hmt, rfl, ?_, ?_, opn_ed h hmt⟩
    · unfold ptT; rw [h, if_pos rfl, show ((m : Int)).toNat = m by omega, ptX_yes hmt hq]
    · unfold ptN; rw [h, if_pos rfl, hq]; rfl)
  have HCPY0 : Hid (shok kd ps = true → ∀ (W : World), Below w.heap.size w W → Calls Tryz.prog 26 #[.agg #[.int .i64 kd, .slice sa ps.length sc]] W fun e w' => CP W kd ps e w') := hid (fun h W hb => spec_copy kd sa sc ps W (by rcases shok_kindS h with h | h | h | h <;> omega) hpm (hp.below hb))
  have HPB : Hid (pob id kd ps = (idb id && shok kd ps)) := hid rfl
  have HCM := hid hcm
  clear hr hrr ht htt hp hcm
  generalize ptT now rs ts n id kd ps = bt at *
  generalize ptN now rs ts n id kd ps = bn at *
  generalize opn now rs ts n = op at *
  generalize pob id kd ps = pb at *
  generalize shok kd ps = so at *
  obtain ⟨nr, hnr⟩ : ∃ x, x = rs.length := ⟨_, rfl⟩
  obtain ⟨nt, hnt⟩ : ∃ x, x = ts.length := ⟨_, rfl⟩
  obtain ⟨np, hnp⟩ : ∃ x, x = ps.length := ⟨_, rfl⟩
  have HNR := hid hnr.symm
  have HNT := hid hnt.symm
  have HNP := hid hnp.symm
  rw [← hnr, ← hnt] at HCP HOK
  rw [← hnp] at HSO HCPY0
  rw [← hnr, ← hnt, ← hnp]
  clear hnr hnt hnp
  have hB : Below w.heap.size w (((w.alloc (.cells #[.int .i64 now, .slice (some ⟨B, 0, none⟩) nr nr, .slice (some ⟨D, 0, none⟩) nt nt] 38)).alloc (.cells #[.int .i64 kd, .slice sa np sc] 44)).alloc (.cells #[.int .i64 0, .slice none 0 0, .slice none 0 0] 38)) := balloc (balloc (balloc (Below.refl _ _) _) _) _
  have gP := old_alloc (o' := .cells #[.int .i64 0, .slice none 0 0, .slice none 0 0] 38) (old_alloc (o' := .cells #[.int .i64 kd, .slice sa np sc] 44) (new_alloc w w.heap.size (.cells #[.int .i64 now, .slice (some ⟨B, 0, none⟩) nr nr, .slice (some ⟨D, 0, none⟩) nt nt] 38) rfl))
  have gS := old_alloc (o' := .cells #[.int .i64 0, .slice none 0 0, .slice none 0 0] 38) (new_alloc (w.alloc (.cells #[.int .i64 now, .slice (some ⟨B, 0, none⟩) nr nr, .slice (some ⟨D, 0, none⟩) nt nt] 38)) (w.heap.size + 1) (.cells #[.int .i64 kd, .slice sa np sc] 44) (by simp))
  have gZ := new_alloc ((w.alloc (.cells #[.int .i64 now, .slice (some ⟨B, 0, none⟩) nr nr, .slice (some ⟨D, 0, none⟩) nt nt] 38)).alloc (.cells #[.int .i64 kd, .slice sa np sc] 44)) (w.heap.size + 1 + 1) (.cells #[.int .i64 0, .slice none 0 0, .slice none 0 0] 38) (by simp)
  have hWs : w.heap.size + 1 + 1 < (((w.alloc (.cells #[.int .i64 now, .slice (some ⟨B, 0, none⟩) nr nr, .slice (some ⟨D, 0, none⟩) nt nt] 38)).alloc (.cells #[.int .i64 kd, .slice sa np sc] 44)).alloc (.cells #[.int .i64 0, .slice none 0 0, .slice none 0 0] 38)).heap.size := by simp
  go_enter Tryz.func7, Tryz.ntmps7
  go_upto_region 1 with fail
  generalize (((w.alloc (.cells #[.int .i64 now, .slice (some ⟨B, 0, none⟩) nr nr, .slice (some ⟨D, 0, none⟩) nt nt] 38)).alloc (.cells #[.int .i64 kd, .slice sa np sc] 44)).alloc (.cells #[.int .i64 0, .slice none 0 0, .slice none 0 0] 38)) = W at *
  obtain ⟨⟨d0, d1, d2⟩, _⟩ := cellk3 gP
  go_wp2_with fail
  refine (HCP.out _ hB).mono ?_
  rintro e y ⟨a, c, ta, tcc, b1, u1, b2, u2, rfl, ⟨hx1, px, hx2⟩, hu, hu2, e1, e2, hy⟩
  replace gP := keepheapA hy gP
  replace gS := keepheapA hy gS
  replace gZ := keepheapA hy gZ
  replace hB := btrans hB hy
  have hyz := hy.size
  have HX1 := hid hx1
  have HX2 := hid hx2.lc
  have hq1 := hx1.1
  have hq2 := hx2.2.2.2.1
  clear hy hx1 hx2 HCP d0 d1 d2
  go_upto_region 2 with fail
  have hal : Below y.heap.size y (y.alloc (.cells #[.int .i64 now, .slice a nr c, .slice ta nt tcc] 38)) := balloc (Below.refl _ _) _
  have gQ := new_alloc y y.heap.size (.cells #[.int .i64 now, .slice a nr c, .slice ta nt tcc] 38) rfl
  replace gP := keepheapA hal gP
  replace gS := keepheapA hal gS
  replace gZ := keepheapA hal gZ
  replace hB := btrans hB hal
  replace HX1 := hid (HX1.out.below hal)
  replace HX2 := hid (HX2.out.below hal)
  have hyq : (y.alloc (.cells #[.int .i64 now, .slice a nr c, .slice ta nt tcc] 38)).heap.size = y.heap.size + 1 := by simp
  have hyq1 := Nat.le_of_eq hyq
  have hyq2 := Nat.le_of_eq hyq.symm
  clear hal hyq
  generalize y.alloc (.cells #[.int .i64 now, .slice a nr c, .slice ta nt tcc] 38) = Y at *
  generalize W.heap.size = Wz at *
  generalize y.heap.size = Q at *
  obtain ⟨⟨d0, d1, d2⟩, _⟩ := cellk3 gP
  go_wp2_with fail
  refine (HOK.out _ hB).mono ?_
  rintro e z ⟨rfl, hz⟩
  replace gS := keepheapA hz gS
  replace gZ := keepheapA hz gZ
  replace gQ := keepheapA hz gQ
  replace hB := btrans hB hz
  have hzz := hz.size
  replace HX1 := hid (HX1.out.below hz)
  replace HX2 := hid (HX2.out.below hz)
  clear hz d0 d1 d2 HOK gP
  cases op
  · obtain ⟨k1, k2⟩ := HNO.out rfl
    clear HNO HYE HBD HPB HCPY0 HSO
    have HB := hid hB
    clear hB
    obtain ⟨⟨v0, v1, v2⟩, s0, s1, s2⟩ := cellk3 gZ
    obtain ⟨⟨t0, t1, t2⟩, _⟩ := cellk3 gQ
    go_wp2_with fail
    have gF := setk3 gZ (.int .i64 now) (.slice a nr c) (.slice ta nt tcc)
    have bF := (bset (bset (bset HB.out (q := w.heap.size + 1 + 1) (k := 0) (by omega) (.int .i64 now)) (q := w.heap.size + 1 + 1) (k := 1) (by omega) (.slice a nr c)) (q := w.heap.size + 1 + 1) (k := 2) (by omega) (.slice ta nt tcc))
    have hfar : ∀ b, b ≠ w.heap.size + 1 + 1 → (((z.setCell ⟨w.heap.size + 1 + 1, 0, none⟩ (.int .i64 now)).setCell ⟨w.heap.size + 1 + 1, 1, none⟩ (.slice a nr c)).setCell ⟨w.heap.size + 1 + 1, 2, none⟩ (.slice ta nt tcc)).heap[b]? = z.heap[b]? := fun b hb => by rw [Below.heap_setCell _ _ _ _ (by dsimp only; omega), Below.heap_setCell _ _ _ _ (by dsimp only; omega), Below.heap_setCell _ _ _ _ (by dsimp only; omega)]
    have hszF : (((z.setCell ⟨w.heap.size + 1 + 1, 0, none⟩ (.int .i64 now)).setCell ⟨w.heap.size + 1 + 1, 1, none⟩ (.slice a nr c)).setCell ⟨w.heap.size + 1 + 1, 2, none⟩ (.slice ta nt tcc)).heap.size = z.heap.size := by simp
    have x1 := HX1.out.frame (w' := (((z.setCell ⟨w.heap.size + 1 + 1, 0, none⟩ (.int .i64 now)).setCell ⟨w.heap.size + 1 + 1, 1, none⟩ (.slice a nr c)).setCell ⟨w.heap.size + 1 + 1, 2, none⟩ (.slice ta nt tcc))) (fun b h1 h2 => hfar b (by omega)) (by simp)
    have x2 := HX2.out.frame (w' := (((z.setCell ⟨w.heap.size + 1 + 1, 0, none⟩ (.int .i64 now)).setCell ⟨w.heap.size + 1 + 1, 1, none⟩ (.slice a nr c)).setCell ⟨w.heap.size + 1 + 1, 2, none⟩ (.slice ta nt tcc))) (fun b h1 h2 => hfar b (by omega)) (by simp)
    generalize (((z.setCell ⟨w.heap.size + 1 + 1, 0, none⟩ (.int .i64 now)).setCell ⟨w.heap.size + 1 + 1, 1, none⟩ (.slice a nr c)).setCell ⟨w.heap.size + 1 + 1, 2, none⟩ (.slice ta nt tcc)) = wf at *
    obtain ⟨⟨z0, z1, z2⟩, _⟩ := cellk3 gF
    exact bodyPost_ret (v := .tuple #[.agg #[.int .i64 now, .slice a nr c, .slice ta nt tcc], .int .i64 1]) (by simp [results, Tryz.results7, go_sem, z0, z1, z2]) rfl (ssn_mk k1 k2 HNR.out HNT.out x1 x2 HTL.out bF)
  · have HBD2 := hid (HBD.out rfl)
    have HYE2 := hid (HYE.out rfl)
    clear HNO HYE HBD
    obtain ⟨⟨y0, y1⟩, _⟩ := cellk2Z gS
    have HIB := hid (fun W => spec_id id W)
    cases hib : idb id
    · have hpb : pb = false := by rw [HPB.out, hib]; rfl
      obtain ⟨k1, k2⟩ := HBD2.out hpb
      rw [hib] at HIB
      clear HYE2 HBD2 HPB HCPY0 HSO hib
      have HB := hid hB
      clear hB
      obtain ⟨⟨t0, t1, t2⟩, _⟩ := cellk3 gQ
      obtain ⟨⟨v0, v1, v2⟩, s0, s1, s2⟩ := cellk3 gZ
      go_wp2_with fail
      refine (HIB.out _).mono ?_
      rintro e zz ⟨rfl, hzz2⟩
      replace hzz2 := hzz2.symm
      subst hzz2
      go_wp2_with fail
      have gF := setk3 gZ (.int .i64 now) (.slice a nr c) (.slice ta nt tcc)
      have bF := (bset (bset (bset HB.out (q := w.heap.size + 1 + 1) (k := 0) (by omega) (.int .i64 now)) (q := w.heap.size + 1 + 1) (k := 1) (by omega) (.slice a nr c)) (q := w.heap.size + 1 + 1) (k := 2) (by omega) (.slice ta nt tcc))
      have hfar : ∀ b, b ≠ w.heap.size + 1 + 1 → (((z.setCell ⟨w.heap.size + 1 + 1, 0, none⟩ (.int .i64 now)).setCell ⟨w.heap.size + 1 + 1, 1, none⟩ (.slice a nr c)).setCell ⟨w.heap.size + 1 + 1, 2, none⟩ (.slice ta nt tcc)).heap[b]? = z.heap[b]? := fun b hb => by rw [Below.heap_setCell _ _ _ _ (by dsimp only; omega), Below.heap_setCell _ _ _ _ (by dsimp only; omega), Below.heap_setCell _ _ _ _ (by dsimp only; omega)]
      have hszF : (((z.setCell ⟨w.heap.size + 1 + 1, 0, none⟩ (.int .i64 now)).setCell ⟨w.heap.size + 1 + 1, 1, none⟩ (.slice a nr c)).setCell ⟨w.heap.size + 1 + 1, 2, none⟩ (.slice ta nt tcc)).heap.size = z.heap.size := by simp
      have x1 := HX1.out.frame (w' := (((z.setCell ⟨w.heap.size + 1 + 1, 0, none⟩ (.int .i64 now)).setCell ⟨w.heap.size + 1 + 1, 1, none⟩ (.slice a nr c)).setCell ⟨w.heap.size + 1 + 1, 2, none⟩ (.slice ta nt tcc))) (fun b h1 h2 => hfar b (by omega)) (by simp)
      have x2 := HX2.out.frame (w' := (((z.setCell ⟨w.heap.size + 1 + 1, 0, none⟩ (.int .i64 now)).setCell ⟨w.heap.size + 1 + 1, 1, none⟩ (.slice a nr c)).setCell ⟨w.heap.size + 1 + 1, 2, none⟩ (.slice ta nt tcc))) (fun b h1 h2 => hfar b (by omega)) (by simp)
      generalize (((z.setCell ⟨w.heap.size + 1 + 1, 0, none⟩ (.int .i64 now)).setCell ⟨w.heap.size + 1 + 1, 1, none⟩ (.slice a nr c)).setCell ⟨w.heap.size + 1 + 1, 2, none⟩ (.slice ta nt tcc)) = wf at *
      obtain ⟨⟨z0, z1, z2⟩, _⟩ := cellk3 gF
      exact bodyPost_ret (v := .tuple #[.agg #[.int .i64 now, .slice a nr c, .slice ta nt tcc], .int .i64 2]) (by simp [results, Tryz.results7, go_sem, z0, z1, z2]) rfl (ssn_mk k1 k2 HNR.out HNT.out x1 x2 HTL.out bF)
    · rw [hib] at HIB
      have hpb : pb = so := by rw [HPB.out, hib]; simp
      clear hib HPB
      go_wp2_with fail
      refine (HIB.out _).mono ?_
      rintro e zz ⟨rfl, hzz2⟩
      replace hzz2 := hzz2.symm
      subst hzz2
      clear HIB
      go_wp2_with fail
      refine (HSO.out _ hB).mono ?_
      rintro e x ⟨rfl, hx⟩
      replace gS := keepheapA hx gS
      replace gZ := keepheapA hx gZ
      replace gQ := keepheapA hx gQ
      replace hB := btrans hB hx
      have hxz := hx.size
      replace HX1 := hid (HX1.out.below hx)
      replace HX2 := hid (HX2.out.below hx)
      clear hx HSO y0 y1
      cases so
      · obtain ⟨k1, k2⟩ := HBD2.out hpb
        clear HYE2 HBD2 HCPY0 hpb
        have HB := hid hB
        clear hB
        obtain ⟨⟨v0, v1, v2⟩, s0, s1, s2⟩ := cellk3 gZ
        obtain ⟨⟨t0, t1, t2⟩, _⟩ := cellk3 gQ
        go_wp2_with fail
        have gF := setk3 gZ (.int .i64 now) (.slice a nr c) (.slice ta nt tcc)
        have bF := (bset (bset (bset HB.out (q := w.heap.size + 1 + 1) (k := 0) (by omega) (.int .i64 now)) (q := w.heap.size + 1 + 1) (k := 1) (by omega) (.slice a nr c)) (q := w.heap.size + 1 + 1) (k := 2) (by omega) (.slice ta nt tcc))
        have hfar : ∀ b, b ≠ w.heap.size + 1 + 1 → (((x.setCell ⟨w.heap.size + 1 + 1, 0, none⟩ (.int .i64 now)).setCell ⟨w.heap.size + 1 + 1, 1, none⟩ (.slice a nr c)).setCell ⟨w.heap.size + 1 + 1, 2, none⟩ (.slice ta nt tcc)).heap[b]? = x.heap[b]? := fun b hb => by rw [Below.heap_setCell _ _ _ _ (by dsimp only; omega), Below.heap_setCell _ _ _ _ (by dsimp only; omega), Below.heap_setCell _ _ _ _ (by dsimp only; omega)]
        have hszF : (((x.setCell ⟨w.heap.size + 1 + 1, 0, none⟩ (.int .i64 now)).setCell ⟨w.heap.size + 1 + 1, 1, none⟩ (.slice a nr c)).setCell ⟨w.heap.size + 1 + 1, 2, none⟩ (.slice ta nt tcc)).heap.size = x.heap.size := by simp
        have x1 := HX1.out.frame (w' := (((x.setCell ⟨w.heap.size + 1 + 1, 0, none⟩ (.int .i64 now)).setCell ⟨w.heap.size + 1 + 1, 1, none⟩ (.slice a nr c)).setCell ⟨w.heap.size + 1 + 1, 2, none⟩ (.slice ta nt tcc))) (fun b h1 h2 => hfar b (by omega)) (by simp)
        have x2 := HX2.out.frame (w' := (((x.setCell ⟨w.heap.size + 1 + 1, 0, none⟩ (.int .i64 now)).setCell ⟨w.heap.size + 1 + 1, 1, none⟩ (.slice a nr c)).setCell ⟨w.heap.size + 1 + 1, 2, none⟩ (.slice ta nt tcc))) (fun b h1 h2 => hfar b (by omega)) (by simp)
        generalize (((x.setCell ⟨w.heap.size + 1 + 1, 0, none⟩ (.int .i64 now)).setCell ⟨w.heap.size + 1 + 1, 1, none⟩ (.slice a nr c)).setCell ⟨w.heap.size + 1 + 1, 2, none⟩ (.slice ta nt tcc)) = wf at *
        obtain ⟨⟨z0, z1, z2⟩, _⟩ := cellk3 gF
        exact bodyPost_ret (v := .tuple #[.agg #[.int .i64 now, .slice a nr c, .slice ta nt tcc], .int .i64 2]) (by simp [results, Tryz.results7, go_sem, z0, z1, z2]) rfl (ssn_mk k1 k2 HNR.out HNT.out x1 x2 HTL.out bF)
      · obtain ⟨m, hmt, rfl, k1, k2, hasc⟩ := HYE2.out hpb
        have HCPYw := hid (HCPY0.out rfl)
        clear HYE2 HBD2 HCPY0 hpb
        obtain ⟨z, hzx⟩ : ∃ z, z = x := ⟨_, rfl⟩
        subst hzx
        have hL : LC KT b2 u2 z (.slice ta ts.length tcc) ts := by rw [HNT.out]; exact HX2.out
        obtain ⟨g, rfl⟩ := hL.some_form (by omega)
        obtain ⟨hth, hg1', hg2'⟩ := hL.thr
        obtain ⟨ca, cc, lo, up, q2, hchs, hlo, hup, hgl⟩ := hL.at3 hmt
        have hclen := HCM.out m hmt
        have hpl := putC_len ts[m].2.2 (id, false, kd, ps)
        have hsn : (ts.set m (ts[m].1, ts[m].2.1, putC ts[m].2.2 (id, false, kd, ps))).length = nt := by rw [List.length_set]; exact HNT.out
        have hmn : m < nt := by have := HNT.out; omega
        have c0 : (m : Int) < (nt : Int) := by omega
        have hgz : g < z.heap.size := by omega
        have HTH : Hid (z.there g 0 (nt * 3)) := hid (by rw [← HNT.out]; exact hth)
        have HCPY := hid (fun (W : World) (hb : Below z.heap.size z W) => HCPYw.out W (btrans hB hb))
        have hzw := hB.size
        have hlz := hL.1
        have HSET := hid (fun (W : World) (hb : Below z.heap.size z W) (pa pc : Nat) (hpc : ps.length ≤ pc) (hpa : z.heap.size ≤ pa) (hpo : PtsOwn W pa ps) => spec_set (N := fun b => b ≠ g ∧ b ≠ w.heap.size + 1 + 1) ca cc ts[m].2.2 (id, false, kd, ps) (some ⟨pa, 0, none⟩) pc W (by omega) ((hchs.below hb).imp (fun b q => ⟨by omega, by omega⟩)) hasc hpc hpm hpo.pts (fun b off e => by cases e; exact ⟨by omega, by omega⟩))
        have HTXP : Hid (∀ (Y2 : World) (hb : Below z.heap.size z Y2) (g' c' : Nat), z.heap.size ≤ g' → (hg2 : g' < Y2.heap.size) → (putC ts[m].2.2 (id, false, kd, ps)).length ≤ c' → Chs (fun b => b ≠ g ∧ b ≠ w.heap.size + 1 + 1) 1099511627776 Y2 (some ⟨g', 0, none⟩) (putC ts[m].2.2 (id, false, kd, ps)) → ∀ (wf : World), (∀ b, b ≠ w.heap.size + 1 + 1 → wf.heap[b]? = (Y2.setCell ⟨g, m * 3 + 2, none⟩ (.slice (some ⟨g', 0, none⟩) (putC ts[m].2.2 (id, false, kd, ps)).length c')).heap[b]?) → Y2.heap.size ≤ wf.heap.size → Txs (fun _ => True) 1099511627776 wf (some ⟨g, 0, none⟩) (ts.set m (ts[m].1, ts[m].2.1, putC ts[m].2.2 (id, false, kd, ps)))) := hid (fun Y2 hb g' c' r1 r2 r3 r4 wf hwf hsz => by
          have hbs := hb.size
          have hYg : ∀ b, b ≠ g → (Y2.setCell ⟨g, m * 3 + 2, none⟩ (.slice (some ⟨g', 0, none⟩) (putC ts[m].2.2 (id, false, kd, ps)).length c')).heap[b]? = Y2.heap[b]? := fun b q => by rw [Below.heap_setCell _ _ _ _ (by dsimp only; omega)]
          obtain ⟨uu, qq, _⟩ := there_at (there_below hth hgz hb) (show m * 3 + 2 < ts.length * KT.sz by show m * 3 + 2 < ts.length * 3; omega)
          have hgw : wf.heap[g]? = _ := hwf g (by omega)
          refine hL.txput (g' := g') (c' := c') (w' := wf) (cs2 := putC ts[m].2.2 (id, false, kd, ps)) hmt HTL.out (by omega) (fun b h1 h2 h3 => ?_) (fun k hk => ?_) ?_ r3 (by omega) ?_
          · rw [hwf b (by omega), hYg b h3]; exact hb.block b (by omega)
          · rw [World.cell?_of_block hgw, World.cell?_setCell_other _ _ _ _ (by intro q; injection q; omega)]
            exact World.cell?_of_block (hb.block g hgz)
          · rw [World.cell?_of_block hgw]
            exact World.cell?_setCell_same _ _ _ qq
          · refine (r4.moved (w' := wf) ?_ (fun b hb' => ?_) hsz).imp (fun _ _ => trivial)
            · rw [hwf g' (by omega), hYg g' (by omega)]
            · rw [hwf b hb'.2, hYg b hb'.1])
        obtain ⟨F, hF⟩ : ∃ F, F = putC ts[m].2.2 (id, false, kd, ps) := ⟨_, rfl⟩
        rw [← hF] at HTXP HSET k1 hsn
        generalize ts[m].2.2.length = cn at *
        generalize ts.set m (ts[m].1, ts[m].2.1, F) = ts2 at *
        rw [HNP.out] at HSET
        clear hL hchs hasc hclen hpl HCM hmt HX2 HTL hF HNT hth hlo hup hgl
        obtain ⟨⟨t0, t1, t2⟩, _⟩ := cellk3 gQ
        obtain ⟨⟨y0, y1⟩, _⟩ := cellk2Z gS
        go_upto_region 6 with fail
        refine wp_region_held_drew (S := (fun w' => w'.cell? ⟨Q, 2, none⟩ = some (.slice (some ⟨g, 0, none⟩) nt tcc) ∧ w'.cell? ⟨w.heap.size + 1, 0, none⟩ = some (.int .i64 kd) ∧ w'.cell? ⟨w.heap.size + 1, 1, none⟩ = some (.slice sa np sc))) (by kernel_rfl) ?_ (fun hHeld => ?_)
        · (repeat' apply And.intro) <;> (repeat (first | with_reducible assumption | with_reducible refine keepdrew ?_ | with_reducible refine keepcell (by with_reducible assumption) ?_ | with_reducible refine keepalloc ?_ _))
        have HZ0 : Hid (Below z.heap.size z z.drew) := hid (bdrew (Below.refl _ _))
        replace q2 : z.drew.cell? _ = _ := q2
        have hzz0 : z.drew.heap.size = z.heap.size := rfl
        have hzz1 := Nat.le_of_eq hzz0
        clear hzz0 t0 t1 t2 y0 y1
        generalize z.drew = Z0 at *
        refine wpAnyH_take (i := 0) (v := ?_) rfl (by kernel_rfl) (by kernel_rfl) (by kernel_rfl) (fun _ _ _ h => h) (Or.inl ⟨by rfl, ?_⟩) hHeld ?_
        rotate_left
        · intro w hSw; (try dsimp only at hSw); go_simp; try (with_reducible rfl)
        try simp only [sq]
        refine wpAnyH_take (i := 1) (v := ?_) rfl (by kernel_rfl) (by kernel_rfl) (by kernel_rfl) (fun _ _ _ h => h) (Or.inl ⟨by rfl, ?_⟩) hHeld ?_
        rotate_left
        · intro w hSw; (try dsimp only at hSw); go_simp; try (with_reducible rfl)
        try simp only [sq]
        refine wpAnyH_take (i := 2) (v := ?_) rfl (by kernel_rfl) (by kernel_rfl) (by kernel_rfl) (fun _ _ _ h => h) (Or.inl ⟨by rfl, ?_⟩) hHeld ?_
        rotate_left
        · intro w hSw; (try dsimp only at hSw); go_simp; try (with_reducible rfl)
        try simp only [sq]
        refine wpAnyH_take (i := 3) (v := ?_) rfl (by kernel_rfl) (by kernel_rfl) (by kernel_rfl) (fun _ _ _ h => h) (Or.inl ⟨by rfl, ?_⟩) hHeld ?_
        rotate_left
        · intro w hSw; (try dsimp only at hSw); go_simp; try (with_reducible rfl)
        try simp only [sq]
        refine wpAnyH_take (i := 4) (v := ?_) rfl (by kernel_rfl) (by kernel_rfl) (by kernel_rfl) (fun _ _ _ h => h) (Or.inl ⟨by rfl, ?_⟩) hHeld ?_
        rotate_left
        · intro w hSw; (try dsimp only at hSw); go_simp; try (with_reducible rfl)
        try simp only [sq]
        refine wpAnyH_take (i := 5) (v := ?_) rfl (by kernel_rfl) (by kernel_rfl) (by kernel_rfl) (fun _ _ _ h => h) (Or.inl ⟨by rfl, ?_⟩) hHeld ?_
        rotate_left
        · intro w hSw; (try dsimp only at hSw); go_simp; try (with_reducible rfl)
        try simp only [sq]
        refine wpAnyH_take (i := 6) (v := ?_) rfl (by kernel_rfl) (by kernel_rfl) (by kernel_rfl) (fun _ _ _ h => h) (Or.inl ⟨by rfl, ?_⟩) hHeld ?_
        rotate_left
        · intro w hSw; (try dsimp only at hSw); go_simp; try (with_reducible rfl)
        try simp only [sq]
        refine wpAnyH_take (i := 7) (v := ?_) rfl (by kernel_rfl) (by kernel_rfl) (by kernel_rfl) (fun _ _ _ h => h) (Or.inl ⟨by rfl, ?_⟩) hHeld ?_
        rotate_left
        · intro w hSw; (try dsimp only at hSw); go_simp; try (with_reducible rfl)
        try simp only [sq]
        refine wpAnyH_take (i := 9) (v := ?_) rfl (by kernel_rfl) (by kernel_rfl) (by kernel_rfl) (fun _ _ _ h => h) (Or.inl ⟨by rfl, ?_⟩) hHeld ?_
        rotate_left
        · intro w hSw; (try dsimp only at hSw); go_simp; try (with_reducible rfl)
        try simp only [sq]
        refine wpAnyH_take (i := 10) (v := ?_) rfl (by kernel_rfl) (by kernel_rfl) (by kernel_rfl) (fun _ _ _ h => h) (Or.inl ⟨by rfl, ?_⟩) hHeld ?_
        rotate_left
        · intro w hSw; (try dsimp only at hSw); go_simp; try (with_reducible rfl)
        try simp only [sq]
        refine wpAnyH_ready (rs := [8, 11]) (by kernel_rfl) (by simp) ?_
        refine AllReadyH.cons rfl (fun K hK => ?_) (AllReadyH.cons rfl (fun K hK => ?_) AllReadyH.nil)
        · skip
          try simp only [sq]
          go_simp
          refine hK.out _ _ ?_ (fun hHeld => ?_)
          · exact hHeld
          clear hK K
          try simp only [sq]
          refine wpAnyH_ready (rs := [11]) (by kernel_rfl) (by simp) ?_
          refine AllReadyH.cons rfl (fun K hK => ?_) AllReadyH.nil
          try simp only [sq]
          go_simp
          go_at_call 26
          refine (HCPY.out Z0 HZ0.out).mono ?_
          rintro e Y1 hcp
          obtain ⟨pa, pc, he, hpc, hpa, hpo, hY1⟩ := hcp
          rw [HNP.out] at he hpc
          subst he
          have hpa2 : z.heap.size ≤ pa := by have := HZ0.out.size; omega
          have HPO := hid hpo
          replace q2 := keepcell hY1 q2
          clear hpo
          go_wp2_with fail
          refine hK.out _ _ ?_ (fun hHeld => ?_)
          · exact ⟨keepcell hY1 hHeld.1, keepcell hY1 hHeld.2.1, keepcell hY1 hHeld.2.2⟩
          clear hK K
          try simp only [sq]
          refine wpAnyH_take (i := 12) (v := ?_) rfl (by kernel_rfl) (by kernel_rfl) (by kernel_rfl) (fun _ _ _ h => h) (Or.inl ⟨by rfl, ?_⟩) hHeld ?_
          rotate_left
          · intro w hSw; (try dsimp only at hSw); go_simp; try (with_reducible rfl)
          try simp only [sq]
          refine wpAnyH_ready (rs := [13]) (by kernel_rfl) (by simp) ?_
          refine AllReadyH.cons rfl (fun K hK => ?_) AllReadyH.nil
          try simp only [sq]
          go_simp
          go_at_call 25
          refine (HSET.out Y1 (btrans HZ0.out hY1) pa pc hpc hpa2 HPO.out).mono ?_
          rintro e Y2 hsq
          obtain ⟨g', c', he, hg1, hg2, hg3, hch, hY2⟩ := hsq
          subst he
          have HCH := hid hch
          clear hch
          go_wp2_with fail
          refine hK.out _ _ ?_ (fun hHeld => ?_)
          · exact ⟨keepcell hY2 hHeld.1, keepcell hY2 hHeld.2.1, keepcell hY2 hHeld.2.2⟩
          clear hK K
          try simp only [sq]
          refine wpAnyH_take (i := 14) (v := ?_) rfl (by kernel_rfl) (by kernel_rfl) (by kernel_rfl) (fun _ _ _ h => h) (Or.inl ⟨by rfl, ?_⟩) hHeld ?_
          rotate_left
          · intro w hSw; (try dsimp only at hSw); go_simp; try (with_reducible rfl)
          try simp only [sq]
          refine wpAnyH_take (i := 15) (v := ?_) rfl (by kernel_rfl) (by kernel_rfl) (by kernel_rfl) (fun _ _ _ h => h) (Or.inl ⟨by rfl, ?_⟩) hHeld ?_
          rotate_left
          · intro w hSw; (try dsimp only at hSw); go_simp; try (with_reducible rfl)
          try simp only [sq]
          have hZY : Below z.heap.size z Y2 := btrans (btrans HZ0.out hY1) hY2
          obtain ⟨uu, qq, pp⟩ := there_at (there_below HTH.out hgz hZY) (show m * 3 + 2 < nt * 3 by omega)
          refine wpAnyH_ready (rs := [16]) (by kernel_rfl) (by simp) ?_
          refine AllReadyH.cons rfl (fun K hK => ?_) AllReadyH.nil
          try simp only [sq]
          go_simp
          refine hK.out _ _ ?_ (fun hHeld => ?_)
          · exact ⟨keepset hHeld.1 (by dsimp only; omega), keepset hHeld.2.1 (by dsimp only; omega), keepset hHeld.2.2 (by dsimp only; omega)⟩
          clear hK K
          try simp only [sq]
          refine wpAnyH_done (by kernel_rfl) ?_ _
          clear hHeld q2 qq pp
          replace gZ := keepheapA hZY gZ
          replace gQ := keepheapA hZY gQ
          replace gS := keepheapA hZY gS
          have hYs := hZY.size
          have hpr : ps.length = np := HNP.out
          have HTX := hid (HTXP.out Y2 hZY g' c' (by have h1 := HZ0.out.size; have h2 := hY1.size; omega) hg2 hg3 HCH.out)
          have hB2 := btrans hB hZY
          replace HX1 := hid (HX1.out.below hZY)
          have HB := hid (bset hB2 (q := g) (k := m * 3 + 2) (by omega) (.slice (some ⟨g', 0, none⟩) F.length c'))
          have hfr : ∀ b, b ≠ g → (Y2.setCell ⟨g, m * 3 + 2, none⟩ (.slice (some ⟨g', 0, none⟩) F.length c')).heap[b]? = Y2.heap[b]? := fun b hb => by rw [Below.heap_setCell _ _ _ _ (by dsimp only; omega)]
          have hs3 : (Y2.setCell ⟨g, m * 3 + 2, none⟩ (.slice (some ⟨g', 0, none⟩) F.length c')).heap.size = Y2.heap.size := by simp
          replace gZ := (hfr _ (by omega)).trans gZ
          replace gQ := (hfr _ (by omega)).trans gQ
          replace HX1 := hid (HX1.out.frame (w' := (Y2.setCell ⟨g, m * 3 + 2, none⟩ (.slice (some ⟨g', 0, none⟩) F.length c'))) (fun b h1 h2 => hfr b (by omega)) (by omega))
          have hs3a := Nat.le_of_eq hs3
          have hs3b := Nat.le_of_eq hs3.symm
          clear hs3 hfr hB2 hB hZY hY1 hY2 HCPY HSET HTXP HPO HCH HTH
          generalize Y2.setCell ⟨g, m * 3 + 2, none⟩ (.slice (some ⟨g', 0, none⟩) F.length c') = V3 at *
          obtain ⟨⟨v0, v1, v2⟩, s0, s1, s2⟩ := cellk3 gZ
          obtain ⟨⟨t0, t1, t2⟩, _⟩ := cellk3 gQ
          go_wp2_with fail
          have gF := setk3 gZ (.int .i64 now) (.slice a nr c) (.slice (some ⟨g, 0, none⟩) nt tcc)
          have bF := (bset (bset (bset HB.out (q := w.heap.size + 1 + 1) (k := 0) (by omega) (.int .i64 now)) (q := w.heap.size + 1 + 1) (k := 1) (by omega) (.slice a nr c)) (q := w.heap.size + 1 + 1) (k := 2) (by omega) (.slice (some ⟨g, 0, none⟩) nt tcc))
          have hfar : ∀ b, b ≠ w.heap.size + 1 + 1 → (((V3.setCell ⟨w.heap.size + 1 + 1, 0, none⟩ (.int .i64 now)).setCell ⟨w.heap.size + 1 + 1, 1, none⟩ (.slice a nr c)).setCell ⟨w.heap.size + 1 + 1, 2, none⟩ (.slice (some ⟨g, 0, none⟩) nt tcc)).heap[b]? = V3.heap[b]? := fun b hb => by rw [Below.heap_setCell _ _ _ _ (by dsimp only; omega), Below.heap_setCell _ _ _ _ (by dsimp only; omega), Below.heap_setCell _ _ _ _ (by dsimp only; omega)]
          have hszF : (((V3.setCell ⟨w.heap.size + 1 + 1, 0, none⟩ (.int .i64 now)).setCell ⟨w.heap.size + 1 + 1, 1, none⟩ (.slice a nr c)).setCell ⟨w.heap.size + 1 + 1, 2, none⟩ (.slice (some ⟨g, 0, none⟩) nt tcc)).heap.size = V3.heap.size := by simp
          have x1 := HX1.out.frame (w' := (((V3.setCell ⟨w.heap.size + 1 + 1, 0, none⟩ (.int .i64 now)).setCell ⟨w.heap.size + 1 + 1, 1, none⟩ (.slice a nr c)).setCell ⟨w.heap.size + 1 + 1, 2, none⟩ (.slice (some ⟨g, 0, none⟩) nt tcc))) (fun b h1 h2 => hfar b (by omega)) (by simp)
          have x2 := HTX.out (((V3.setCell ⟨w.heap.size + 1 + 1, 0, none⟩ (.int .i64 now)).setCell ⟨w.heap.size + 1 + 1, 1, none⟩ (.slice a nr c)).setCell ⟨w.heap.size + 1 + 1, 2, none⟩ (.slice (some ⟨g, 0, none⟩) nt tcc)) (fun b h => hfar b h) (by omega)
          generalize (((V3.setCell ⟨w.heap.size + 1 + 1, 0, none⟩ (.int .i64 now)).setCell ⟨w.heap.size + 1 + 1, 1, none⟩ (.slice a nr c)).setCell ⟨w.heap.size + 1 + 1, 2, none⟩ (.slice (some ⟨g, 0, none⟩) nt tcc)) = wf at *
          obtain ⟨⟨z0, z1, z2⟩, _⟩ := cellk3 gF
          exact bodyPost_ret (v := .tuple #[.agg #[.int .i64 now, .slice a nr c, .slice (some ⟨g, 0, none⟩) nt tcc], .int .i64 0]) (by simp [results, Tryz.results7, go_sem, z0, z1, z2]) rfl (ssn_mk2 k1 k2 HNR.out hsn x1 x2 bF)
        · skip
          try simp only [sq]
          go_simp
          go_at_call 26
          refine (HCPY.out Z0 HZ0.out).mono ?_
          rintro e Y1 hcp
          obtain ⟨pa, pc, he, hpc, hpa, hpo, hY1⟩ := hcp
          rw [HNP.out] at he hpc
          subst he
          have hpa2 : z.heap.size ≤ pa := by have := HZ0.out.size; omega
          have HPO := hid hpo
          replace q2 := keepcell hY1 q2
          clear hpo
          go_wp2_with fail
          refine hK.out _ _ ?_ (fun hHeld => ?_)
          · exact ⟨keepcell hY1 hHeld.1, keepcell hY1 hHeld.2.1, keepcell hY1 hHeld.2.2⟩
          clear hK K
          try simp only [sq]
          refine wpAnyH_take (i := 12) (v := ?_) rfl (by kernel_rfl) (by kernel_rfl) (by kernel_rfl) (fun _ _ _ h => h) (Or.inl ⟨by rfl, ?_⟩) hHeld ?_
          rotate_left
          · intro w hSw; (try dsimp only at hSw); go_simp; try (with_reducible rfl)
          try simp only [sq]
          refine wpAnyH_ready (rs := [8]) (by kernel_rfl) (by simp) ?_
          refine AllReadyH.cons rfl (fun K hK => ?_) AllReadyH.nil
          try simp only [sq]
          go_simp
          refine hK.out _ _ ?_ (fun hHeld => ?_)
          · exact hHeld
          clear hK K
          try simp only [sq]
          refine wpAnyH_ready (rs := [13]) (by kernel_rfl) (by simp) ?_
          refine AllReadyH.cons rfl (fun K hK => ?_) AllReadyH.nil
          try simp only [sq]
          go_simp
          go_at_call 25
          refine (HSET.out Y1 (btrans HZ0.out hY1) pa pc hpc hpa2 HPO.out).mono ?_
          rintro e Y2 hsq
          obtain ⟨g', c', he, hg1, hg2, hg3, hch, hY2⟩ := hsq
          subst he
          have HCH := hid hch
          clear hch
          go_wp2_with fail
          refine hK.out _ _ ?_ (fun hHeld => ?_)
          · exact ⟨keepcell hY2 hHeld.1, keepcell hY2 hHeld.2.1, keepcell hY2 hHeld.2.2⟩
          clear hK K
          try simp only [sq]
          refine wpAnyH_take (i := 14) (v := ?_) rfl (by kernel_rfl) (by kernel_rfl) (by kernel_rfl) (fun _ _ _ h => h) (Or.inl ⟨by rfl, ?_⟩) hHeld ?_
          rotate_left
          · intro w hSw; (try dsimp only at hSw); go_simp; try (with_reducible rfl)
          try simp only [sq]
          refine wpAnyH_take (i := 15) (v := ?_) rfl (by kernel_rfl) (by kernel_rfl) (by kernel_rfl) (fun _ _ _ h => h) (Or.inl ⟨by rfl, ?_⟩) hHeld ?_
          rotate_left
          · intro w hSw; (try dsimp only at hSw); go_simp; try (with_reducible rfl)
          try simp only [sq]
          have hZY : Below z.heap.size z Y2 := btrans (btrans HZ0.out hY1) hY2
          obtain ⟨uu, qq, pp⟩ := there_at (there_below HTH.out hgz hZY) (show m * 3 + 2 < nt * 3 by omega)
          refine wpAnyH_ready (rs := [16]) (by kernel_rfl) (by simp) ?_
          refine AllReadyH.cons rfl (fun K hK => ?_) AllReadyH.nil
          try simp only [sq]
          go_simp
          refine hK.out _ _ ?_ (fun hHeld => ?_)
          · exact ⟨keepset hHeld.1 (by dsimp only; omega), keepset hHeld.2.1 (by dsimp only; omega), keepset hHeld.2.2 (by dsimp only; omega)⟩
          clear hK K
          try simp only [sq]
          refine wpAnyH_done (by kernel_rfl) ?_ _
          clear hHeld q2 qq pp
          replace gZ := keepheapA hZY gZ
          replace gQ := keepheapA hZY gQ
          replace gS := keepheapA hZY gS
          have hYs := hZY.size
          have hpr : ps.length = np := HNP.out
          have HTX := hid (HTXP.out Y2 hZY g' c' (by have h1 := HZ0.out.size; have h2 := hY1.size; omega) hg2 hg3 HCH.out)
          have hB2 := btrans hB hZY
          replace HX1 := hid (HX1.out.below hZY)
          have HB := hid (bset hB2 (q := g) (k := m * 3 + 2) (by omega) (.slice (some ⟨g', 0, none⟩) F.length c'))
          have hfr : ∀ b, b ≠ g → (Y2.setCell ⟨g, m * 3 + 2, none⟩ (.slice (some ⟨g', 0, none⟩) F.length c')).heap[b]? = Y2.heap[b]? := fun b hb => by rw [Below.heap_setCell _ _ _ _ (by dsimp only; omega)]
          have hs3 : (Y2.setCell ⟨g, m * 3 + 2, none⟩ (.slice (some ⟨g', 0, none⟩) F.length c')).heap.size = Y2.heap.size := by simp
          replace gZ := (hfr _ (by omega)).trans gZ
          replace gQ := (hfr _ (by omega)).trans gQ
          replace HX1 := hid (HX1.out.frame (w' := (Y2.setCell ⟨g, m * 3 + 2, none⟩ (.slice (some ⟨g', 0, none⟩) F.length c'))) (fun b h1 h2 => hfr b (by omega)) (by omega))
          have hs3a := Nat.le_of_eq hs3
          have hs3b := Nat.le_of_eq hs3.symm
          clear hs3 hfr hB2 hB hZY hY1 hY2 HCPY HSET HTXP HPO HCH HTH
          generalize Y2.setCell ⟨g, m * 3 + 2, none⟩ (.slice (some ⟨g', 0, none⟩) F.length c') = V3 at *
          obtain ⟨⟨v0, v1, v2⟩, s0, s1, s2⟩ := cellk3 gZ
          obtain ⟨⟨t0, t1, t2⟩, _⟩ := cellk3 gQ
          go_wp2_with fail
          have gF := setk3 gZ (.int .i64 now) (.slice a nr c) (.slice (some ⟨g, 0, none⟩) nt tcc)
          have bF := (bset (bset (bset HB.out (q := w.heap.size + 1 + 1) (k := 0) (by omega) (.int .i64 now)) (q := w.heap.size + 1 + 1) (k := 1) (by omega) (.slice a nr c)) (q := w.heap.size + 1 + 1) (k := 2) (by omega) (.slice (some ⟨g, 0, none⟩) nt tcc))
          have hfar : ∀ b, b ≠ w.heap.size + 1 + 1 → (((V3.setCell ⟨w.heap.size + 1 + 1, 0, none⟩ (.int .i64 now)).setCell ⟨w.heap.size + 1 + 1, 1, none⟩ (.slice a nr c)).setCell ⟨w.heap.size + 1 + 1, 2, none⟩ (.slice (some ⟨g, 0, none⟩) nt tcc)).heap[b]? = V3.heap[b]? := fun b hb => by rw [Below.heap_setCell _ _ _ _ (by dsimp only; omega), Below.heap_setCell _ _ _ _ (by dsimp only; omega), Below.heap_setCell _ _ _ _ (by dsimp only; omega)]
          have hszF : (((V3.setCell ⟨w.heap.size + 1 + 1, 0, none⟩ (.int .i64 now)).setCell ⟨w.heap.size + 1 + 1, 1, none⟩ (.slice a nr c)).setCell ⟨w.heap.size + 1 + 1, 2, none⟩ (.slice (some ⟨g, 0, none⟩) nt tcc)).heap.size = V3.heap.size := by simp
          have x1 := HX1.out.frame (w' := (((V3.setCell ⟨w.heap.size + 1 + 1, 0, none⟩ (.int .i64 now)).setCell ⟨w.heap.size + 1 + 1, 1, none⟩ (.slice a nr c)).setCell ⟨w.heap.size + 1 + 1, 2, none⟩ (.slice (some ⟨g, 0, none⟩) nt tcc))) (fun b h1 h2 => hfar b (by omega)) (by simp)
          have x2 := HTX.out (((V3.setCell ⟨w.heap.size + 1 + 1, 0, none⟩ (.int .i64 now)).setCell ⟨w.heap.size + 1 + 1, 1, none⟩ (.slice a nr c)).setCell ⟨w.heap.size + 1 + 1, 2, none⟩ (.slice (some ⟨g, 0, none⟩) nt tcc)) (fun b h => hfar b h) (by omega)
          generalize (((V3.setCell ⟨w.heap.size + 1 + 1, 0, none⟩ (.int .i64 now)).setCell ⟨w.heap.size + 1 + 1, 1, none⟩ (.slice a nr c)).setCell ⟨w.heap.size + 1 + 1, 2, none⟩ (.slice (some ⟨g, 0, none⟩) nt tcc)) = wf at *
          obtain ⟨⟨z0, z1, z2⟩, _⟩ := cellk3 gF
          exact bodyPost_ret (v := .tuple #[.agg #[.int .i64 now, .slice a nr c, .slice (some ⟨g, 0, none⟩) nt tcc], .int .i64 0]) (by simp [results, Tryz.results7, go_sem, z0, z1, z2]) rfl (ssn_mk2 k1 k2 HNR.out hsn x1 x2 bF)
end Go.Proofs.YtnajddjalagmoaaGreatDoor
namespace Go.Proofs.YtnajddjalagmoaaGreatDoor
open Go.RowKit
set_option linter.unusedSimpArgs false
set_option linter.unusedVariables false
/-- A transaction whose changes are a list as the call makes it. -/
def KX : Kd Tx where
  sz := 3
  vals := fun x v => [.int .i64 x.1, .bool x.2.1, v]
  sub := fun lo up w v x => (∃ g c, v = .slice (some ⟨g, 0, none⟩) x.2.2.length c) ∧ ∃ ps, LX KC 66 lo up w v x.2.2 ps
  len := fun _ _ => rfl
  one := by
    rintro lo up w v x ⟨⟨g, c, rfl⟩, _⟩ u hu
    simp at hu
    rcases hu with rfl | rfl | rfl <;> rfl
  frame := fun h hb hs => ⟨h.1, h.2.choose, h.2.choose_spec.frame hb hs⟩
  top := fun h => h.2.choose_spec.2.2.2.1
theorem LX.kt {t : TypeId} {base hi : Nat} {w : World} {v : Value} {xs : List Tx} {ps : List (Tx × Value)} (h : LX KX t base hi w v xs ps) : LX KT t base hi w v xs ps := by
  obtain ⟨h1, h2, h3, h4, lo, up, h5, h6⟩ := h
  refine ⟨h1, h2, h3, h4, lo, up, fun j hj => ?_, h6⟩
  obtain ⟨⟨a0, pq, a1⟩, a2, a3, a4⟩ := h5 j hj
  exact ⟨a1.lc, a2, a3, a4⟩
set_option maxRecDepth 100000 in
set_option maxHeartbeats 1000000 in
theorem txY_copied (st : Int) (op : Bool) (cs : List Ch) (b cap : Nat) (w : World) (hm : cs.length ≤ 1099511627776) (hbs : b < w.heap.size) (h : ChsS w b cs) : Calls Tryz.prog 86 #[.agg #[.int .i64 st, .bool op, .slice (some ⟨b, 0, none⟩) cs.length cap]] w fun e w' => ∃ sv lo up, e = .returned (.agg #[.int .i64 st, .bool op, sv]) ∧ KX.sub lo up w' sv (st, op, cs) ∧ w.heap.size ≤ lo ∧ Below w.heap.size w w' := by
  have hB : Below w.heap.size w ((w.alloc (.cells #[.int .i64 st, .bool op, .slice (some ⟨b, 0, none⟩) cs.length cap] 63)).alloc (.cells #[.int .i64 0, .bool false, .slice none 0 0] 63)) := balloc (balloc (Below.refl _ _) _) _
  have HC := hid (kept_ch b cap cs _ hm (h.below hB))
  clear h
  have g0 := old_alloc (o' := .cells #[.int .i64 0, .bool false, .slice none 0 0] 63) (new_alloc w w.heap.size (.cells #[.int .i64 st, .bool op, .slice (some ⟨b, 0, none⟩) cs.length cap] 63) rfl)
  have g1 := new_alloc (w.alloc (.cells #[.int .i64 st, .bool op, .slice (some ⟨b, 0, none⟩) cs.length cap] 63)) (w.heap.size + 1) (.cells #[.int .i64 0, .bool false, .slice none 0 0] 63) (by simp)
  go_enter Tryz.func86, Tryz.ntmps86
  go_upto_region 1 with fail
  have hWz : ((w.alloc (.cells #[.int .i64 st, .bool op, .slice (some ⟨b, 0, none⟩) cs.length cap] 63)).alloc (.cells #[.int .i64 0, .bool false, .slice none 0 0] 63)).heap.size = w.heap.size + 2 := by simp
  generalize (w.alloc (.cells #[.int .i64 st, .bool op, .slice (some ⟨b, 0, none⟩) cs.length cap] 63)).alloc (.cells #[.int .i64 0, .bool false, .slice none 0 0] 63) = W at *
  obtain ⟨⟨x0, x1, x2⟩, _⟩ := cellk3 g0
  go_wp2_with fail
  refine HC.out.mono ?_
  rintro e y ⟨sv, pv, rfl, hX, hsv, hy⟩
  have hlc : KX.sub _ _ y sv (st, op, cs) := ⟨hsv, pv, hX⟩
  have hgs := hB.size
  have hWs := lt_of_block g1
  replace g0 := keepheap2 hy g0
  replace g1 := keepheap2 hy g1
  have HB := hid (btrans hB hy)
  have hyz := hy.size
  have HO := hid hlc
  clear hB hy hX hlc HC x0 x1 x2
  obtain ⟨⟨x0, x1, x2⟩, y0, y1, y2⟩ := cellk3 g0
  obtain ⟨⟨v0, v1, v2⟩, u0, u1, u2⟩ := cellk3 g1
  obtain ⟨ga, gc, hsv2⟩ := hsv
  obtain ⟨sv', hsv3⟩ : ∃ s, s = sv := ⟨_, rfl⟩
  rw [hsv2]
  go_wp2_with fail
  rw [← hsv2]
  have gF := setk3 (set_far (q := w.heap.size) (k := 2) (u := sv) g1 (by omega)) (.int .i64 st) (.bool op) (sv)
  have bF := (bset (bset (bset (bset HB.out (q := w.heap.size) (k := 2) (Nat.le_refl _) (sv)) (q := w.heap.size + 1) (k := 0) (by omega) (.int .i64 st)) (q := w.heap.size + 1) (k := 1) (by omega) (.bool op)) (q := w.heap.size + 1) (k := 2) (by omega) (sv))
  have oF := KX.frame (w' := ((((y.setCell ⟨w.heap.size, 2, none⟩ (sv)).setCell ⟨w.heap.size + 1, 0, none⟩ (.int .i64 st)).setCell ⟨w.heap.size + 1, 1, none⟩ (.bool op)).setCell ⟨w.heap.size + 1, 2, none⟩ (sv))) HO.out (fun c c1 c2 => (by rw [Below.heap_setCell _ _ _ _ (by dsimp only; omega), Below.heap_setCell _ _ _ _ (by dsimp only; omega), Below.heap_setCell _ _ _ _ (by dsimp only; omega), Below.heap_setCell _ _ _ _ (by dsimp only; omega)])) (by simp only [World.size_setCell]; omega)
  have hwz : ((((y.setCell ⟨w.heap.size, 2, none⟩ (sv)).setCell ⟨w.heap.size + 1, 0, none⟩ (.int .i64 st)).setCell ⟨w.heap.size + 1, 1, none⟩ (.bool op)).setCell ⟨w.heap.size + 1, 2, none⟩ (sv)).heap.size = y.heap.size := by simp only [World.size_setCell]
  generalize ((((y.setCell ⟨w.heap.size, 2, none⟩ (sv)).setCell ⟨w.heap.size + 1, 0, none⟩ (.int .i64 st)).setCell ⟨w.heap.size + 1, 1, none⟩ (.bool op)).setCell ⟨w.heap.size + 1, 2, none⟩ (sv)) = wf at *
  obtain ⟨⟨z0, z1, z2⟩, _⟩ := cellk3 gF
  exact bodyPost_ret (v := .agg #[.int .i64 st, .bool op, sv]) (by simp [results, Tryz.results86, go_sem, z0, z1, z2]) rfl ⟨sv, _, _, rfl, oF, by omega, bF⟩
set_option maxRecDepth 100000 in
set_option maxHeartbeats 1000000 in
theorem txY_clo (st : Int) (op : Bool) (cs : List Ch) (b cap : Nat) (w : World) (hm : cs.length ≤ 1099511627776) (hbs : b < w.heap.size) (h : ChsS w b cs) : Calls Tryz.prog 85 #[.agg #[.int .i64 st, .bool op, .slice (some ⟨b, 0, none⟩) cs.length cap]] w fun e w' => ∃ sv lo up, e = .returned (.tuple #[.agg #[.int .i64 st, .bool op, sv], .bool true]) ∧ KX.sub lo up w' sv (st, op, cs) ∧ w.heap.size ≤ lo ∧ Below w.heap.size w w' := by
  have hB : Below w.heap.size w ((w.alloc (.cells #[.int .i64 st, .bool op, .slice (some ⟨b, 0, none⟩) cs.length cap] 63)).alloc (.cells #[.int .i64 0, .bool false, .slice none 0 0] 63)) := balloc (balloc (Below.refl _ _) _) _
  have HC := hid (txY_copied st op cs b cap _ hm (Nat.lt_of_lt_of_le hbs hB.size) (h.below hB))
  clear h
  have g0 := old_alloc (o' := .cells #[.int .i64 0, .bool false, .slice none 0 0] 63) (new_alloc w w.heap.size (.cells #[.int .i64 st, .bool op, .slice (some ⟨b, 0, none⟩) cs.length cap] 63) rfl)
  have g1 := new_alloc (w.alloc (.cells #[.int .i64 st, .bool op, .slice (some ⟨b, 0, none⟩) cs.length cap] 63)) (w.heap.size + 1) (.cells #[.int .i64 0, .bool false, .slice none 0 0] 63) (by simp)
  go_enter Tryz.func85, Tryz.ntmps85
  go_upto_region 1 with fail
  have hWz : ((w.alloc (.cells #[.int .i64 st, .bool op, .slice (some ⟨b, 0, none⟩) cs.length cap] 63)).alloc (.cells #[.int .i64 0, .bool false, .slice none 0 0] 63)).heap.size = w.heap.size + 2 := by simp
  generalize (w.alloc (.cells #[.int .i64 st, .bool op, .slice (some ⟨b, 0, none⟩) cs.length cap] 63)).alloc (.cells #[.int .i64 0, .bool false, .slice none 0 0] 63) = W at *
  obtain ⟨⟨x0, x1, x2⟩, _⟩ := cellk3 g0
  go_wp2_with fail
  refine HC.out.mono ?_
  rintro e y ⟨sv, lo, up, rfl, hsub, hlo, hy⟩
  have hyz := hy.size
  replace g1 := keepheap2 hy g1
  have HB := hid (btrans hB hy)
  have HO := hid hsub
  have hone := KX.one hsub sv (by simp [KX])
  clear hB hy hsub HC g0 x0 x1 x2
  obtain ⟨⟨v0, v1, v2⟩, u0, u1, u2⟩ := cellk3 g1
  obtain ⟨sa, sn, sc, hsv⟩ : ∃ a n c, sv = .slice a n c := by obtain ⟨⟨g, c, e⟩, _⟩ := HO.out; exact ⟨_, _, _, e⟩
  have HSV := hid hsv.symm
  subst hsv
  go_wp2_with fail
  have gF := setk3 g1 (.int .i64 st) (.bool op) (.slice sa sn sc)
  have bF := (bset (bset (bset HB.out (q := w.heap.size + 1) (k := 0) (by omega) (.int .i64 st)) (q := w.heap.size + 1) (k := 1) (by omega) (.bool op)) (q := w.heap.size + 1) (k := 2) (by omega) (.slice sa sn sc))
  have oF := KX.frame (w' := (((y.setCell ⟨w.heap.size + 1, 0, none⟩ (.int .i64 st)).setCell ⟨w.heap.size + 1, 1, none⟩ (.bool op)).setCell ⟨w.heap.size + 1, 2, none⟩ (.slice sa sn sc))) HO.out (fun c c1 c2 => by rw [Below.heap_setCell _ _ _ _ (by dsimp only; omega), Below.heap_setCell _ _ _ _ (by dsimp only; omega), Below.heap_setCell _ _ _ _ (by dsimp only; omega)]) (by simp only [World.size_setCell]; omega)
  generalize (((y.setCell ⟨w.heap.size + 1, 0, none⟩ (.int .i64 st)).setCell ⟨w.heap.size + 1, 1, none⟩ (.bool op)).setCell ⟨w.heap.size + 1, 2, none⟩ (.slice sa sn sc)) = wf at *
  obtain ⟨⟨z0, z1, z2⟩, _⟩ := cellk3 gF
  exact bodyPost_ret (v := .tuple #[.agg #[.int .i64 st, .bool op, .slice sa sn sc], .bool true]) (by simp [results, Tryz.results85, go_sem, z0, z1, z2]) rfl ⟨_, lo, up, rfl, oF, by omega, bF⟩
set_option maxRecDepth 100000 in
set_option maxHeartbeats 2000000 in
theorem kept_txY (B cap : Nat) (xs : List Tx) (w : World) (hm : xs.length ≤ 1099511627776) (h : TxsS w B xs) : Calls Tryz.prog 84 #[.slice (some ⟨B, 0, none⟩) xs.length cap, .func (.func 85) #[] #[]] w fun e w' => ∃ v ps, e = .returned v ∧ LX KX 63 w.heap.size w'.heap.size w' v xs ps ∧ (∃ g c, v = .slice (some ⟨g, 0, none⟩) xs.length c) ∧ Below w.heap.size w w' := by
  obtain ⟨i0, hi0, hz0, hz1, hz2⟩ := info_parts Tryz.infoTx
  have HR := hid h
  clear h
  have hmk := make_txX0 xs.length hm
  obtain ⟨n, hn⟩ : ∃ n, n = xs.length := ⟨_, rfl⟩
  have HN := hid hn.symm
  rw [← hn] at hm hmk ⊢
  clear hn
  have hB0 : Below w.heap.size w (w.alloc (.cells (madeCells #[.int .i64 0, .bool false, .slice none 0 0] (n * 3)) 63)) := balloc (Below.refl _ _) _
  have HI : Hid (LX KX 63 w.heap.size (w.alloc (.cells (madeCells #[.int .i64 0, .bool false, .slice none 0 0] (n * 3)) 63)).heap.size (w.alloc (.cells (madeCells #[.int .i64 0, .bool false, .slice none 0 0] (n * 3)) 63)) (.slice (some ⟨w.heap.size, 0, none⟩) 0 n) [] []) := hid (by
    have := World.ownsRow_made (base := w.heap.size) (e := 63) (size := 3) w (madeCells #[.int .i64 0, .bool false, .slice none 0 0] (n * 3)) n (Nat.le_refl _) (by unfold maxLen; omega) (size_madeCells _ _)
    exact LX.nil this (fun g e => by simp [Value.ownBlock] at e; subst e; simp) (Nat.le_refl _))
  go_enter Tryz.func84, Tryz.ntmps84
  go_upto_region 2 with fail
  generalize w.alloc (.cells (madeCells #[.int .i64 0, .bool false, .slice none 0 0] (n * 3)) 63) = W0 at *
  clear hmk
  go_wp2_with fail
  go_loopw [5, 15] (fun tv ti wr => ∃ i : Nat, ∃ g5 c5 : Nat, ∃ ps' : List (Tx × Value), ti = .int .i64 i ∧ i ≤ n ∧ tv = .slice (some ⟨g5, 0, none⟩) i c5 ∧ Hid (LX KX 63 w.heap.size wr.heap.size wr (.slice (some ⟨g5, 0, none⟩) i c5) (xs.take i) ps') ∧ Hid (Below w.heap.size w wr)) (fun _ ti _ => n - (intOf ti).toNat)
  case atStart => exact ⟨0, w.heap.size, n, [], rfl, Nat.zero_le _, rfl, HI, hid hB0⟩
  case round =>
    clear HI hB0
    obtain ⟨i, g5, c5, ps', rfl, hi, rfl, HV, HBW⟩ := hrel
    have hwX := HBW.out.size
    by_cases hlt : i < n
    · have d1 : (i : Int) < (n : Int) := by omega
      have hir : i < xs.length := by rw [HN.out]; exact hlt
      obtain ⟨ci, cpi, k9, ⟨k0, k1, k2⟩, k6, k7⟩ := (HR.out.below HBW.out).2 i hir
      have HX : Hid (xs.take (i + 1) = xs.take i ++ [xs[i]]) := hid (by rw [List.take_add_one, List.getElem?_eq_getElem hir]; rfl)
      have hil : (xs.take i).length = i := by rw [List.length_take]; omega
      obtain ⟨r, hr⟩ : ∃ r, r = xs[i] := ⟨_, rfl⟩
      rw [← hr] at k0 k1 k2 k6 k7 HX
      clear hr
      obtain ⟨st, op, cs⟩ := r
      simp only at k0 k1 k2 k6 k7
      have hbx : Below wr.heap.size wr (wr.alloc (.cells #[.int .i64 st, .bool op, .slice (some ⟨ci, 0, none⟩) cs.length cpi] 63)) := balloc (Below.refl _ _) _
      have HT1 := hid (txY_clo st op cs ci cpi _ k6 (Nat.lt_of_lt_of_le k9 hbx.size) (k7.below hbx))
      clear k7
      go_upto_region 5 with fail
      have gx := new_alloc wr wr.heap.size (.cells #[.int .i64 st, .bool op, .slice (some ⟨ci, 0, none⟩) cs.length cpi] 63) rfl
      have HI1 := hid (HV.out.below hbx)
      have HB1 := hid (btrans HBW.out hbx)
      have hs1 := hbx.size
      have hs2 : wr.heap.size < (wr.alloc (.cells #[.int .i64 st, .bool op, .slice (some ⟨ci, 0, none⟩) cs.length cpi] 63)).heap.size := by simp
      clear k0 k1 k2 hbx HV
      generalize wr.alloc (.cells #[.int .i64 st, .bool op, .slice (some ⟨ci, 0, none⟩) cs.length cpi] 63) = W1 at *
      generalize wr.heap.size = Xh at *
      obtain ⟨⟨x0, x1, x2⟩, _⟩ := cellk3 gx
      clear gx
      go_wp2_with fail
      refine HT1.out.mono ?_
      rintro e z ⟨sv, lo, up, rfl, hsub, hlo, hz⟩
      have HBz := hid (btrans HB1.out hz)
      have HIz := hid (HI1.out.below hz)
      have HO := hid hsub
      have hzs := hz.size
      have hwz := HBz.out.size
      obtain ⟨sa, sn, sc, hsv⟩ : ∃ a n c, sv = .slice a n c := by obtain ⟨⟨g, c, e⟩, _⟩ := HO.out; exact ⟨_, _, _, e⟩
      clear hz hsub x0 x1 x2 HT1 HI1 HB1
      subst hsv
      go_upto_region 7 with fail
      have hal : Below z.heap.size z (z.alloc (.cells #[.int .i64 st, .bool op, .slice sa sn sc] 63)) := balloc (Below.refl _ _) _
      have gy := new_alloc z z.heap.size (.cells #[.int .i64 st, .bool op, .slice sa sn sc] 63) rfl
      have HIa := hid (HIz.out.below hal)
      have HBa := hid (btrans HBz.out hal)
      have HOa := hid (KX.frame HO.out (fun c _ h2 => hal.block c (by have := KX.top HO.out; omega)) hal.size)
      have has : z.heap.size < (z.alloc (.cells #[.int .i64 st, .bool op, .slice sa sn sc] 63)).heap.size := by simp
      clear hal HO HIz HBz
      generalize z.alloc (.cells #[.int .i64 st, .bool op, .slice sa sn sc] 63) = Z at *
      obtain ⟨⟨x0, x1, x2⟩, _⟩ := cellk3 gy
      clear gy
      have hownZ : Z.ownsRow w.heap.size 63 3 (.slice (some ⟨g5, 0, none⟩) i c5) i (flatK KX ps') := by have := HIa.out.2.1; rw [hil] at this; exact this
      go_wp2_with (at_builtin; (refine wpList_append_lies _ rfl (.tmp 26) (.tmp 28) 36 rfl w.heap.size 63 i0 _ 3 40 Tryz.underlying36 hi0 hz0 hz1 hz2 rfl (by decide) (.slice (some ⟨g5, 0, none⟩) i c5) i (flatK KX ps') rfl (hownZ.alloc _) ⟨Z.heap.size, 0, none⟩ 1 1 [.int .i64 st, .bool op, .slice sa sn sc] rfl rfl (World.news_of_block (cs := #[.int .i64 st, .bool op, .slice sa sn sc]) (t := 63) (fr := (0, 0)) (heap_alloc_new Z _)) (by simp [Value.oneCell']) (by omega) (by unfold maxLen; omega) (by omega) (by simp; omega) (Z.heap.size + 1) (by simp) ?_; intro gg cq w2 hown2 hgrow hat hlt2))
      have hal2 : Below Z.heap.size Z (Z.alloc (.cells #[.int .i64 st, .bool op, .slice sa sn sc] 63)) := balloc (Below.refl _ _) _
      have hsn := LX.snoc (x := (st, op, cs)) (sv := .slice sa sn sc) (l := lo) (u := up) (g := gg) (cap := cq) (HIa.out.below hal2) (by omega) (by omega) (KX.frame HOa.out (fun c _ h2 => hal2.block c (by have := KX.top HOa.out; omega)) hal2.size) (by rw [hil]; exact hown2) hgrow (by simpa using hat) hlt2
      rw [hil] at hsn
      have hb2 : Below w.heap.size w w2 := Below.grown (balloc HBa.out _) hgrow (by simp; omega) (fun k e => (hownZ.lt k e).1)
      have HSN2 : Hid (LX KX 63 w.heap.size w2.heap.size w2 (.slice (some ⟨gg, 0, none⟩) (i + 1) cq) (xs.take (i + 1)) (ps' ++ [((st, op, cs), .slice sa sn sc)])) := hid (by rw [HX.out]; exact hsn)
      have HB2 := hid hb2
      clear hsn hb2 hown2 hgrow hal2 hownZ x0 x1 x2
      go_roundw
      case rel => exact ⟨i + 1, gg, cq, _, by go_num, by omega, rfl, HSN2, HB2⟩
      case measure => simp [intOf]; omega
    · have d1 : (n : Int) ≤ (i : Int) := by omega
      have hin : i = n := by omega
      subst hin
      have HF : Hid (LX KX 63 w.heap.size wr.heap.size wr (.slice (some ⟨g5, 0, none⟩) i c5) xs ps') := hid (by have := HV.out; rw [← HN.out, List.take_length] at this; rw [← HN.out]; exact this)
      clear HV
      go_wp2_with fail
      go_ret
      exact ⟨_, ps', rfl, HF.out, ⟨g5, c5, rfl⟩, HBW.out⟩
end Go.Proofs.YtnajddjalagmoaaGreatDoor
namespace Go.Proofs.YtnajddjalagmoaaGreatDoor
open Go.RowKit
set_option linter.unusedSimpArgs false
set_option linter.unusedVariables false
/-- What a row of one's own and its elements' pieces make. -/
theorem lch_own {α : Type} {K : Kd α} {t : TypeId} {b0 base hi p q g c : Nat} {w : World} {xs : List α} {ps : List (α × Value)} (h1 : ps.map Prod.fst = xs) (h2 : w.ownsRow b0 t K.sz (.slice (some ⟨g, 0, none⟩) xs.length c) xs.length (flatK K ps)) (hb : base ≤ g) (hgh : g < hi) (hhi : hi ≤ w.heap.size) (lo up : Nat → Nat) (h5 : ∀ j (h : j < ps.length), K.sub (lo j) (up j) w ps[j].2 ps[j].1 ∧ base ≤ lo j ∧ up j ≤ hi ∧ (g < lo j ∨ up j ≤ g) ∧ (up j ≤ p ∨ q ≤ lo j)) (h6 : ∀ i j, i ≠ j → i < ps.length → j < ps.length → up i ≤ lo j ∨ up j ≤ lo i) (hgq : g < p ∨ q ≤ g) : LCH K base hi p q w (.slice (some ⟨g, 0, none⟩) xs.length c) xs := by
  have hpl : ps.length = xs.length := by have := congrArg List.length h1; simpa using this
  refine ⟨hhi, ?_⟩
  have h2' := h2
  rcases h2.2 with ⟨qq, hn⟩ | ⟨g2, cap, cur, e, _, hg, hc, _⟩
  · cases qq
  · cases e
    right
    refine ⟨g, c, fun j => if h : j < ps.length then (ps[j]'h).2 else .bool false, lo, up, rfl, hc, hb, hgh, fun j hj => ?_, fun j hj => ?_, fun i j hne hi' hj => h6 i j hne (by omega) (by omega), hgq, fun j hj => (h5 j (by omega)).2.2.2.2⟩
    · simp only [Nat.zero_add]
      refine ⟨?_, World.ownsRow.frozenAt h2' j⟩
      rw [World.ownsRow.cellAt h2' j hj, List.getElem?_eq_getElem (by rw [flatK_len, hpl]; exact hj)]
      rfl
    · have hjp : j < ps.length := by omega
      obtain ⟨a1, a2, a3, a4, _⟩ := h5 j hjp
      have ex : xs[j] = (ps[j]).1 := by
        have : xs[j]? = (ps.map Prod.fst)[j]? := by rw [h1]
        rw [List.getElem?_map, List.getElem?_eq_getElem hj, List.getElem?_eq_getElem hjp] at this
        exact Option.some.inj this
      simp only [dif_pos hjp, ex]
      refine ⟨⟨fun t ht => ?_, a1⟩, a2, by omega, a4⟩
      have hlt : j * K.sz + t < xs.length * K.sz := by
        have : (j + 1) * K.sz ≤ xs.length * K.sz := Nat.mul_le_mul_right _ (by omega)
        rw [Nat.succ_mul] at this
        omega
      rw [World.ownsRow.cellAt h2' _ hlt, flatX_at K ps j t hjp ht]
theorem flatK_app {α : Type} (K : Kd α) (ps qs : List (α × Value)) : flatK K (ps ++ qs) = flatK K ps ++ flatK K qs := by simp [flatK]
theorem flatK_ins {α : Type} (K : Kd α) (ps : List (α × Value)) (q : α × Value) (i : Nat) (hi : i ≤ ps.length) : flatK K (ps.take i ++ [q] ++ ps.drop i) = (flatK K ps).take (i * K.sz) ++ K.vals q.1 q.2 ++ (flatK K ps).drop (i * K.sz) := by
  have e : flatK K ps = flatK K (ps.take i) ++ flatK K (ps.drop i) := by rw [← flatK_app, List.take_append_drop]
  have hl : (flatK K (ps.take i)).length = i * K.sz := by rw [flatK_len, List.length_take, Nat.min_eq_left hi]
  rw [flatK_app, flatK_app, e, ← hl, List.take_left, List.drop_left]
  simp [flatK]
/-- One put in: the list where it lay or in new memory, what the new one holds in new memory. -/
theorem LX.insH {α : Type} {K : Kd α} {t : TypeId} {base hi b0 c g g' c' i p S : Nat} {W w' : World} {xs : List α} {ps : List (α × Value)} {x : α} {sv : Value} (h : LX K t base hi W (.slice (some ⟨g, 0, none⟩) xs.length c) xs ps) (hi' : i ≤ xs.length) (hbh : base ≤ hi) (hS : hi ≤ S) (hp : S ≤ p) (hpw : p < w'.heap.size) (hsub : K.sub p (p + 1) w' sv x) (hown : w'.ownsRow b0 t K.sz (.slice (some ⟨g', 0, none⟩) (xs.length + 1) c') (xs.length + 1) ((flatK K ps).take (i * K.sz) ++ K.vals x sv ++ (flatK K ps).drop (i * K.sz))) (hfr : ∀ b, base ≤ b → b < hi → b ≠ g → w'.heap[b]? = W.heap[b]?) (hsz : W.heap.size ≤ w'.heap.size) (hg' : g' = g ∨ S ≤ g') (hgp : g' ≠ p) (hgw : g' < w'.heap.size) : LCH K base w'.heap.size hi S w' (.slice (some ⟨g', 0, none⟩) (xs.length + 1) c') (xs.take i ++ [x] ++ xs.drop i) := by
  have hpl := h.plen
  obtain ⟨h1, h2, h3, h4, lo, up, h5, h6⟩ := h
  have hgb := (h2.lt g rfl).1
  have hgh := h3 g rfl
  have hlen : (xs.take i ++ [x] ++ xs.drop i).length = xs.length + 1 := by simp; omega
  have hlen2 : (ps.take i ++ [(x, sv)] ++ ps.drop i).length = ps.length + 1 := by simp; omega
  have hR := lch_own (K := K) (t := t) (b0 := b0) (base := base) (hi := w'.heap.size) (p := hi) (q := S) (g := g') (c := c') (w := w') (xs := xs.take i ++ [x] ++ xs.drop i) (ps := ps.take i ++ [(x, sv)] ++ ps.drop i) (by simp [← h1, List.map_take, List.map_drop]) (by rw [hlen, flatK_ins K ps (x, sv) i (by omega)]; exact hown) (by rcases hg' with e | e <;> omega) hgw (Nat.le_refl _)
    (fun j => if j < i then lo j else if j = i then p else lo (j - 1)) (fun j => if j < i then up j else if j = i then p + 1 else up (j - 1))
    (fun j hj => by
      rw [hlen2] at hj
      have old : ∀ k (hk : k < ps.length), K.sub (lo k) (up k) w' ps[k].2 ps[k].1 ∧ base ≤ lo k ∧ up k ≤ w'.heap.size ∧ (g' < lo k ∨ up k ≤ g') ∧ (up k ≤ hi ∨ S ≤ lo k) := fun k hk => by
        obtain ⟨a1, a2, a3, a4⟩ := h5 k hk
        have a5 := a4 g rfl
        exact ⟨K.frame a1 (fun b b1 b2 => hfr b (by omega) (by omega) (by omega)) hsz, a2, by omega, by rcases hg' with e | e <;> omega, .inl a3⟩
      rcases Nat.lt_trichotomy j i with hj1 | rfl | hj1
      · simp only [if_pos hj1]
        have er : (ps.take i ++ [(x, sv)] ++ ps.drop i)[j]'(by rw [hlen2]; omega) = ps[j]'(by omega) := by
          rw [List.getElem_append_left (by simp; omega), List.getElem_append_left (by simp; omega), List.getElem_take]
        rw [er]; exact old j (by omega)
      · simp only [Nat.lt_irrefl, if_false, if_true]
        have er : (ps.take j ++ [(x, sv)] ++ ps.drop j)[j]'(by rw [hlen2]; omega) = (x, sv) := by
          rw [List.getElem_append_left (by simp; omega), List.getElem_append_right (by simp; omega)]
          simp
        rw [er]; exact ⟨hsub, by omega, by omega, by omega, .inr hp⟩
      · simp only [if_neg (show ¬ j < i by omega), if_neg (show ¬ j = i by omega)]
        have er : (ps.take i ++ [(x, sv)] ++ ps.drop i)[j]'(by rw [hlen2]; omega) = ps[j - 1]'(by omega) := by
          rw [List.getElem_append_right (by simp; omega), List.getElem_drop]
          congr 1
          simp; omega
        rw [er]; exact old (j - 1) (by omega))
    (fun a b hne ha hb => by
      rw [hlen2] at ha hb
      have ho : ∀ k l, k < l → l < ps.length → up k ≤ lo l := h6
      have hu : ∀ k, k < ps.length → up k ≤ hi := fun k hk => (h5 k hk).2.2.1
      by_cases a1 : a < i
      · by_cases b1 : b < i
        · simp only [if_pos a1, if_pos b1]
          rcases Nat.lt_or_gt_of_ne hne with q | q
          · exact .inl (ho a b q (by omega))
          · exact .inr (ho b a q (by omega))
        · by_cases b2 : b = i
          · simp only [if_pos a1, if_neg b1, if_pos b2]
            have := hu a (by omega); omega
          · simp only [if_pos a1, if_neg b1, if_neg b2]
            exact .inl (ho a (b - 1) (by omega) (by omega))
      · by_cases a2 : a = i
        · by_cases b1 : b < i
          · simp only [if_neg a1, if_pos a2, if_pos b1]
            have := hu b (by omega); omega
          · simp only [if_neg a1, if_pos a2, if_neg b1, if_neg (show ¬ b = i by omega)]
            have := hu (b - 1) (by omega); omega
        · by_cases b1 : b < i
          · simp only [if_neg a1, if_neg a2, if_pos b1]
            exact .inr (ho b (a - 1) (by omega) (by omega))
          · by_cases b2 : b = i
            · simp only [if_neg a1, if_neg a2, if_neg b1, if_pos b2]
              have := hu (a - 1) (by omega); omega
            · simp only [if_neg a1, if_neg a2, if_neg b1, if_neg b2]
              rcases Nat.lt_or_gt_of_ne hne with q | q
              · exact .inl (ho (a - 1) (b - 1) (by omega) (by omega))
              · exact .inr (ho (b - 1) (a - 1) (by omega) (by omega)))
    (by rcases hg' with e | e <;> omega)
  rw [hlen] at hR
  exact hR
end Go.Proofs.YtnajddjalagmoaaGreatDoor
