/- Texts of stores, joined: Sh, Xr, Zai, Zaj, Zao. -/
import Derived.Test.YtnajddjalagmoaaGreatDoorC8
import Derived.Test.YtnajddjalagmoaaGreatDoorC3
import Derived.Test.YtnajddjalagmoaaGreatDoorC4
import Derived.Test.YtnajddjalagmoaaGreatDoorC5
import Derived.Test.YtnajddjalagmoaaGreatDoorC6
import Derived.Test.YtnajddjalagmoaaGreatDoorC7
namespace Go.Proofs.YtnajddjalagmoaaGreatDoor
open Go.RowKit
set_option linter.unusedSimpArgs false
set_option linter.unusedVariables false
theorem putO_ch {hi : Nat} {w : World} {B k n b : Nat} {x : Ch} (ht : w.there B 0 (n * 4)) (hk : k < n) (hb : B < b) (hbh : b < hi) (ho : w.there b 0 (x.2.2.2.length * 2)) (u0 u1 u2 : Value) :
    ChO hi ((((w.setCell ⟨B, k * 4, none⟩ u0).setCell ⟨B, k * 4 + 1, none⟩ u1).setCell ⟨B, k * 4 + 2, none⟩ u2).setCell ⟨B, k * 4 + 3, none⟩ (.slice (some ⟨b, 0, none⟩) x.2.2.2.length x.2.2.2.length)) B (k * 4) x := by
  obtain ⟨v, hv, _⟩ := there_at (there_set (there_set (there_set ht u0 (p := B) (k := k * 4)) u1 (p := B) (k := k * 4 + 1)) u2 (p := B) (k := k * 4 + 2)) (show k * 4 + 3 < n * 4 by omega)
  exact ⟨b, World.cell?_setCell_same _ _ _ hv, hb, hbh, there_set (there_set (there_set (there_set ho _) _) _) _⟩
theorem putO_tx {hi : Nat} {w : World} {B k n b : Nat} {x : Tx} (ht : w.there B 0 (n * 3)) (hk : k < n) (hb : B < b) (hbh : b < hi) (ho : ChsO hi w b x.2.2) (u0 u1 : Value) :
    TxO hi (((w.setCell ⟨B, k * 3, none⟩ u0).setCell ⟨B, k * 3 + 1, none⟩ u1).setCell ⟨B, k * 3 + 2, none⟩ (.slice (some ⟨b, 0, none⟩) x.2.2.length x.2.2.length)) B (k * 3) x b := by
  obtain ⟨v, hv, _⟩ := there_at (there_set (there_set ht u0 (p := B) (k := k * 3)) u1 (p := B) (k := k * 3 + 1)) (show k * 3 + 2 < n * 3 by omega)
  exact ⟨World.cell?_setCell_same _ _ _ hv, hb, hbh, ((ho.set (by omega) _).set (by omega) _).set (by omega) _⟩
set_option maxHeartbeats 2000000 in
theorem to_chsO {N : Nat → Prop} (a : Option Addr) (cap : Nat) (xs : List Ch) (w : World) (hm : xs.length ≤ 1099511627776) (h : Chs N 1099511627776 w a xs) : Calls Tryz.prog 83 #[.slice a xs.length cap] w fun e w' => ∃ B, e = .returned (.slice (some ⟨B, 0, none⟩) xs.length xs.length) ∧ w.heap.size ≤ B ∧ (B < w'.heap.size ∧ ChsAt (fun c => B < c) 1099511627776 w' B 0 xs) ∧ ChsO w'.heap.size w' B xs ∧ Below w.heap.size w w' := by
  have HR := hid h
  clear h
  have hmk := make_chs xs.length hm
  obtain ⟨n, hn⟩ : ∃ n, n = xs.length := ⟨_, rfl⟩
  have HN := hid hn.symm
  rw [← hn] at hmk hm ⊢
  clear hn
  go_enter Tryz.func83, Tryz.ntmps83
  go_wp2_with fail
  have hB : Below w.heap.size w (w.alloc (.cells (madeCells #[.int .i64 0, .bool false, .int .i64 0, .slice none 0 0] (n * 4)) 66)) := balloc (Below.refl _ _) _
  have hT := made_ownch w n
  have hl : w.heap.size < (w.alloc (.cells (madeCells #[.int .i64 0, .bool false, .int .i64 0, .slice none 0 0] (n * 4)) 66)).heap.size := by simp
  generalize w.alloc (.cells (madeCells #[.int .i64 0, .bool false, .int .i64 0, .slice none 0 0] (n * 4)) 66) = W at *
  clear hmk
  go_loopw [4] (fun ti wr => ∃ j : Nat, ti = .int .i64 j ∧ j ≤ n ∧ Hid (w.heap.size < wr.heap.size) ∧ Hid (∀ i (hi : i < xs.length), i < j → ChAt (fun c => w.heap.size < c) 1099511627776 wr w.heap.size (i * 4) xs[i]) ∧ Hid (wr.there w.heap.size 0 (n * 4)) ∧ Hid (∀ i (hi : i < xs.length), i < j → ChO wr.heap.size wr w.heap.size (i * 4) xs[i]) ∧ Hid (Below w.heap.size w wr)) (fun ti _ => n - (intOf ti).toNat)
  case atStart => exact ⟨0, rfl, Nat.zero_le _, hid hl, hid (fun i hi h => absurd h (by omega)), hid hT, hid (fun i hi h => absurd h (by omega)), hid hB⟩
  case round =>
    clear hB hT hl
    obtain ⟨j, rfl, hj, HL, HP, HT, HOW, HBW⟩ := hrel
    by_cases hlt : j < n
    · have c1 : (j : Int) < (n : Int) := by omega
      have hjr : j < xs.length := by rw [HN.out]; exact hlt
      obtain ⟨b, o, rfl, hbs, hr⟩ := (HR.out.below HBW.out).at j hjr
      obtain ⟨a', cap', k0, k1, k2, q1, q2, q3, q4, q5⟩ := hr
      have TR := hid (to_ch (N := N) xs[j] a' cap' wr q3 q2 q4)
      have HPR := hid (fun (W : World) (bb : Nat) => put_ch (w := W) (B := w.heap.size) (k := j) (n := n) (b := bb) (xs := xs) hjr HN.out)
      have HK6 := hid q3
      have HLN : Hid (∀ (X : World) (hX : ∀ i (hi : i < xs.length), i < j → ChO X.heap.size X w.heap.size (i * 4) xs[i]) (hY : ChO X.heap.size X w.heap.size (j * 4) xs[j]), ∀ i (hi : i < xs.length), i < j + 1 → ChO X.heap.size X w.heap.size (i * 4) xs[i]) := hid (fun X hX hY i hi h => by
        by_cases e : i = j
        · subst e; exact hY
        · exact hX i hi (by omega))
      have HPO := hid (fun (W : World) (bb : Nat) (hbb : w.heap.size < bb) (hbh : bb < W.heap.size) (hT : W.there w.heap.size 0 (n * 4)) (ho : W.there bb 0 (xs[j].2.2.2.length * 2)) => putO_ch (hi := W.heap.size) (x := xs[j]) hT hlt hbb hbh ho)
      unfold chv at TR
      clear q2 q3 q4 q5
      generalize xs[j].1 = id at *
      generalize xs[j].2.1 = go at *
      generalize xs[j].2.2.1 = kd at *
      generalize xs[j].2.2.2 = inn at *
      go_wp2_with fail
      refine TR.out.mono ?_
      rintro e w1 ⟨bb, rfl, hbb, ho, hb1⟩
      have hP := fun i (hi : i < xs.length) (h : i < j) => (HP.out i hi h).below hb1
      have hT := there_below HT.out HL.out hb1
      have hB := btrans HBW.out hb1
      have hL : w.heap.size < w1.heap.size := Nat.lt_of_lt_of_le HL.out hb1.size
      have hbl : w.heap.size < bb := Nat.lt_of_lt_of_le HL.out hbb
      have HPUT := hid (HPR.out w1 bb hP hT hbl HK6.out ho)
      have HOLD := hid (fun i (hi : i < xs.length) (h : i < j) => ((HOW.out i hi h).below (Nat.le_refl _) hb1).mono hb1.size)
      have HNEW := hid (HPO.out w1 bb hbl ho.1 hT ho.2.2)
      have q := fun i (hi : i < n * 4) => hT i hi
      obtain ⟨v0, s0, r0⟩ := there_at hT (show j * 4 < n * 4 by omega)
      obtain ⟨v1, s1, r1⟩ := there_at hT (show j * 4 + 1 < n * 4 by omega)
      obtain ⟨v2, s2, r2⟩ := there_at hT (show j * 4 + 2 < n * 4 by omega)
      obtain ⟨v3, s3, r3⟩ := there_at hT (show j * 4 + 3 < n * 4 by omega)
      clear q hP HPR HPO hb1 ho TR
      have HL1 := hid hL
      have HB1 := hid hB
      clear hT
      go_wp2_with fail
      go_roundw
      case rel => exact ⟨j + 1, by go_num, by omega, hid (by simpa using hL), hid HPUT.out.1, hid HPUT.out.2, hid (HLN.out _ (fun i hi h => by simpa using (((((HOLD.out i hi h).set (.inr (by omega)) _).set (.inr (by omega)) _).set (.inr (by omega)) _).set (.inr (by omega)) _)) (by simpa using HNEW.out _ _ _)), hid ((bset (bset (bset (bset hB (by omega) _) (by omega) _) (by omega) _) (by omega) _))⟩
      case measure => simp [intOf]; omega
    · obtain rfl : n = j := by omega
      have c1 : (n : Int) ≤ (n : Int) := by omega
      go_wp2_with fail
      go_ret
      exact ⟨w.heap.size, rfl, Nat.le_refl _, ⟨HL.out, fun i hi => by have := HP.out i hi (by rw [HN.out] at hi; exact hi); simpa using this⟩, ⟨by rw [HN.out]; exact HT.out, fun i hi => HOW.out i hi (by rw [HN.out] at hi; exact hi)⟩, HBW.out⟩
set_option maxHeartbeats 2000000 in
theorem to_txO {N : Nat → Prop} (x : Tx) (a : Option Addr) (cap : Nat) (w : World) (hm : x.2.2.length ≤ 1099511627776) (hc : x.2.2.length ≤ cap) (h : Chs N 1099511627776 w a x.2.2) : Calls Tryz.prog 54 #[txv x a cap] w fun e w' => ∃ b, e = .returned (txv x (some ⟨b, 0, none⟩) x.2.2.length) ∧ w.heap.size ≤ b ∧ (b < w'.heap.size ∧ ChsAt (fun c => b < c) 1099511627776 w' b 0 x.2.2) ∧ ChsO w'.heap.size w' b x.2.2 ∧ Below w.heap.size w w' := by
  obtain ⟨st, op, cs⟩ := x
  unfold txv
  simp only at *
  have TS := hid (fun (W : World) (hb : Below w.heap.size w W) => to_chsO a cap cs W hm (h.below hb))
  clear h
  generalize hn : cs.length = n at *
  have HN := hid hn
  clear hn
  go_enter Tryz.func54, Tryz.ntmps54
  go_wp2_with fail
  have hB0 : Below w.heap.size w (((w.alloc (.cells #[.int .i64 st, .bool op, .slice a n cap] 89)).alloc (.cells #[.int .i64 0, .bool false, .slice none 0 0] 63)).alloc (.cells #[.int .i64 st, .bool op, .slice none 0 0] 63)) := balloc (balloc (balloc (Below.refl _ _) _) _) _
  have g2 := old_alloc (o' := .cells #[.int .i64 st, .bool op, .slice none 0 0] 63) (new_alloc (w.alloc (.cells #[.int .i64 st, .bool op, .slice a n cap] 89)) (w.heap.size + 1) (.cells #[.int .i64 0, .bool false, .slice none 0 0] 63) (by simp))
  have g3 := new_alloc ((w.alloc (.cells #[.int .i64 st, .bool op, .slice a n cap] 89)).alloc (.cells #[.int .i64 0, .bool false, .slice none 0 0] 63)) (w.heap.size + 1 + 1) (.cells #[.int .i64 st, .bool op, .slice none 0 0] 63) (by simp)
  generalize ((w.alloc (.cells #[.int .i64 st, .bool op, .slice a n cap] 89)).alloc (.cells #[.int .i64 0, .bool false, .slice none 0 0] 63)).alloc (.cells #[.int .i64 st, .bool op, .slice none 0 0] 63) = W at *
  have hlW := lt_of_block g3
  refine (TS.out _ hB0).mono ?_
  rintro e w1 ⟨b, rfl, hbb, ho, hoo, hb1⟩
  replace g2 := keepheap2 hb1 g2
  replace g3 := keepheap2 hb1 g3
  have hB := btrans hB0 hb1
  have HO := hid ho
  have HOO := hid hoo
  clear hb1 hB0 ho hoo
  obtain ⟨⟨x0, x1, x2⟩, xf0, xf1, xf2⟩ := cellk3 g2
  obtain ⟨⟨y0, y1, y2⟩, yf0, yf1, yf2⟩ := cellk3 g3
  go_wp2_with fail
  have gF := setk3 (set_far (q := w.heap.size + 1 + 1) (k := 2) (u := .slice (some ⟨b, 0, none⟩) n n) g2 (by omega)) (.int .i64 st) (.bool op) (.slice (some ⟨b, 0, none⟩) n n)
  have bF := (bset (bset (bset (bset hB (q := w.heap.size + 1 + 1) (k := 2) (by omega) (.slice (some ⟨b, 0, none⟩) n n)) (q := w.heap.size + 1) (k := 0) (by omega) (.int .i64 st)) (q := w.heap.size + 1) (k := 1) (by omega) (.bool op)) (q := w.heap.size + 1) (k := 2) (by omega) (.slice (some ⟨b, 0, none⟩) n n))
  have hfar : ∀ c, w.heap.size + 1 + 1 < c → ((((w1.setCell ⟨w.heap.size + 1 + 1, 2, none⟩ (.slice (some ⟨b, 0, none⟩) n n)).setCell ⟨w.heap.size + 1, 0, none⟩ (.int .i64 st)).setCell ⟨w.heap.size + 1, 1, none⟩ (.bool op)).setCell ⟨w.heap.size + 1, 2, none⟩ (.slice (some ⟨b, 0, none⟩) n n)).heap[c]? = w1.heap[c]? := fun c hc => by rw [Below.heap_setCell _ _ _ _ (by dsimp only; omega), Below.heap_setCell _ _ _ _ (by dsimp only; omega), Below.heap_setCell _ _ _ _ (by dsimp only; omega), Below.heap_setCell _ _ _ _ (by dsimp only; omega)]
  have hsz : w1.heap.size ≤ ((((w1.setCell ⟨w.heap.size + 1 + 1, 2, none⟩ (.slice (some ⟨b, 0, none⟩) n n)).setCell ⟨w.heap.size + 1, 0, none⟩ (.int .i64 st)).setCell ⟨w.heap.size + 1, 1, none⟩ (.bool op)).setCell ⟨w.heap.size + 1, 2, none⟩ (.slice (some ⟨b, 0, none⟩) n n)).heap.size := by simp
  have ooF : ChsO ((((w1.setCell ⟨w.heap.size + 1 + 1, 2, none⟩ (.slice (some ⟨b, 0, none⟩) n n)).setCell ⟨w.heap.size + 1, 0, none⟩ (.int .i64 st)).setCell ⟨w.heap.size + 1, 1, none⟩ (.bool op)).setCell ⟨w.heap.size + 1, 2, none⟩ (.slice (some ⟨b, 0, none⟩) n n)).heap.size ((((w1.setCell ⟨w.heap.size + 1 + 1, 2, none⟩ (.slice (some ⟨b, 0, none⟩) n n)).setCell ⟨w.heap.size + 1, 0, none⟩ (.int .i64 st)).setCell ⟨w.heap.size + 1, 1, none⟩ (.bool op)).setCell ⟨w.heap.size + 1, 2, none⟩ (.slice (some ⟨b, 0, none⟩) n n)) b cs := by simpa using ((((HOO.out.set (by omega) _).set (by omega) _).set (by omega) _).set (by omega) _)
  generalize ((((w1.setCell ⟨w.heap.size + 1 + 1, 2, none⟩ (.slice (some ⟨b, 0, none⟩) n n)).setCell ⟨w.heap.size + 1, 0, none⟩ (.int .i64 st)).setCell ⟨w.heap.size + 1, 1, none⟩ (.bool op)).setCell ⟨w.heap.size + 1, 2, none⟩ (.slice (some ⟨b, 0, none⟩) n n)) = wf at *
  have oF : b < wf.heap.size ∧ ChsAt (fun c => b < c) 1099511627776 wf b 0 cs := ⟨Nat.lt_of_lt_of_le HO.out.1 hsz, fun j hj => (HO.out.2 j hj).blk (fun i _ => by simp only [World.cell?, hfar b (by omega)]) (fun c hc => hfar c (by omega)) hsz⟩
  obtain ⟨⟨z0, z1, z2⟩, _⟩ := cellk3 gF
  exact bodyPost_ret (v := .agg #[.int .i64 st, .bool op, .slice (some ⟨b, 0, none⟩) n n]) (by simp [results, Tryz.results54, go_sem, z0, z1, z2]) rfl ⟨b, rfl, by omega, oF, ooF, bF⟩
set_option maxHeartbeats 2000000 in
theorem to_txsO {N : Nat → Prop} (a : Option Addr) (cap : Nat) (xs : List Tx) (w : World) (hm : xs.length ≤ 1099511627776) (h : Txs N 1099511627776 w a xs) : Calls Tryz.prog 28 #[.slice a xs.length cap] w fun e w' => ∃ B, e = .returned (.slice (some ⟨B, 0, none⟩) xs.length xs.length) ∧ w.heap.size ≤ B ∧ (B < w'.heap.size ∧ TxsAt (fun c => B < c) 1099511627776 w' B 0 xs) ∧ TxsO w'.heap.size w' B xs ∧ Below w.heap.size w w' := by
  have HR := hid h
  clear h
  have hmk := make_txs xs.length hm
  obtain ⟨n, hn⟩ : ∃ n, n = xs.length := ⟨_, rfl⟩
  have HN := hid hn.symm
  rw [← hn] at hmk hm ⊢
  clear hn
  go_enter Tryz.func28, Tryz.ntmps28
  go_wp2_with fail
  have hB : Below w.heap.size w (w.alloc (.cells (madeCells #[.int .i64 0, .bool false, .slice none 0 0] (n * 3)) 63)) := balloc (Below.refl _ _) _
  have hT := made_owntx w n
  have hl : w.heap.size < (w.alloc (.cells (madeCells #[.int .i64 0, .bool false, .slice none 0 0] (n * 3)) 63)).heap.size := by simp
  generalize w.alloc (.cells (madeCells #[.int .i64 0, .bool false, .slice none 0 0] (n * 3)) 63) = W at *
  clear hmk
  go_loopw [4] (fun ti wr => ∃ j : Nat, ti = .int .i64 j ∧ j ≤ n ∧ Hid (w.heap.size < wr.heap.size) ∧ Hid (∀ i (hi : i < xs.length), i < j → TxAt (fun c => w.heap.size < c) 1099511627776 wr w.heap.size (i * 3) xs[i]) ∧ Hid (wr.there w.heap.size 0 (n * 3)) ∧ Hid (∃ c h : Nat → Nat, (∀ i (hi : i < xs.length), i < j → TxO (h i) wr w.heap.size (i * 3) xs[i] (c i) ∧ h i ≤ wr.heap.size) ∧ ∀ i k, i < k → k < j → h i ≤ c k) ∧ Hid (Below w.heap.size w wr)) (fun ti _ => n - (intOf ti).toNat)
  case atStart => exact ⟨0, rfl, Nat.zero_le _, hid hl, hid (fun i hi h => absurd h (by omega)), hid hT, hid ⟨fun _ => 0, fun _ => 0, fun i hi h => absurd h (by omega), fun i k _ h => absurd h (by omega)⟩, hid hB⟩
  case round =>
    clear hB hT hl
    obtain ⟨j, rfl, hj, HL, HP, HT, HOW, HBW⟩ := hrel
    by_cases hlt : j < n
    · have c1 : (j : Int) < (n : Int) := by omega
      have hjr : j < xs.length := by rw [HN.out]; exact hlt
      obtain ⟨b, o, rfl, hbs, hr⟩ := (HR.out.below HBW.out).at j hjr
      obtain ⟨a', cap', k0, k1, q1, q2, q3, q4, q5⟩ := hr
      have TR := hid (to_txO (N := N) xs[j] a' cap' wr q3 q2 q4)
      have HPR := hid (fun (W : World) (bb : Nat) => put_tx (w := W) (B := w.heap.size) (k := j) (n := n) (b := bb) (xs := xs) hjr HN.out)
      have HK6 := hid q3
      have HLN : Hid (∀ (X : World) (bb : Nat) (c h : Nat → Nat), (∀ i (hi : i < xs.length), i < j → TxO (h i) X w.heap.size (i * 3) xs[i] (c i) ∧ h i ≤ X.heap.size) → (∀ i k, i < k → k < j → h i ≤ c k) → (∀ i, i < j → h i ≤ bb) → TxO X.heap.size X w.heap.size (j * 3) xs[j] bb → ∃ c h : Nat → Nat, (∀ i (hi : i < xs.length), i < j + 1 → TxO (h i) X w.heap.size (i * 3) xs[i] (c i) ∧ h i ≤ X.heap.size) ∧ ∀ i k, i < k → k < j + 1 → h i ≤ c k) := hid (fun X bb c h a1 a2 a3 a4 => by
        refine ⟨fun i => if i = j then bb else c i, fun i => if i = j then X.heap.size else h i, fun i hi hh => ?_, fun i k hik hk => ?_⟩
        · by_cases e : i = j
          · subst e; simp only [if_true]; exact ⟨a4, Nat.le_refl _⟩
          · simp only [if_neg e]; exact a1 i hi (by omega)
        · simp only [if_neg (show i ≠ j by omega)]
          by_cases e : k = j
          · simp only [if_pos e]; exact a3 i (by omega)
          · simp only [if_neg e]; exact a2 i k hik (by omega))
      have HPO := hid (fun (W : World) (bb : Nat) (hbb : w.heap.size < bb) (hbh : bb < W.heap.size) (hT : W.there w.heap.size 0 (n * 3)) (ho : ChsO W.heap.size W bb xs[j].2.2) => putO_tx (hi := W.heap.size) (x := xs[j]) hT hlt hbb hbh ho)
      unfold txv at TR
      clear q2 q3 q4 q5
      generalize xs[j].1 = st at *
      generalize xs[j].2.1 = op at *
      generalize xs[j].2.2 = inn at *
      go_wp2_with fail
      refine TR.out.mono ?_
      rintro e w1 ⟨bb, rfl, hbb, ho, hoo, hb1⟩
      have hP := fun i (hi : i < xs.length) (h : i < j) => (HP.out i hi h).below hb1
      have hT := there_below HT.out HL.out hb1
      have hB := btrans HBW.out hb1
      have hL : w.heap.size < w1.heap.size := Nat.lt_of_lt_of_le HL.out hb1.size
      have hbl : w.heap.size < bb := Nat.lt_of_lt_of_le HL.out hbb
      have HPUT := hid (HPR.out w1 bb hP hT hbl HK6.out ho)
      obtain ⟨cf, hf, hw1, hw2⟩ := HOW.out
      have HOLD := hid (fun i (hi : i < xs.length) (h : i < j) => (⟨(hw1 i hi h).1.below (hw1 i hi h).2 hb1, Nat.le_trans (hw1 i hi h).2 hb1.size⟩ : TxO (hf i) w1 w.heap.size (i * 3) xs[i] (cf i) ∧ hf i ≤ w1.heap.size))
      have HLE := hid (fun i (h : i < j) => Nat.le_trans (hw1 i (by omega) h).2 hbb)
      have HW2 := hid hw2
      have HNEW := hid (HPO.out w1 bb hbl ho.1 hT hoo)
      clear hw1 hw2 HOW
      have q := fun i (hi : i < n * 3) => hT i hi
      obtain ⟨v0, s0, r0⟩ := there_at hT (show j * 3 < n * 3 by omega)
      obtain ⟨v1, s1, r1⟩ := there_at hT (show j * 3 + 1 < n * 3 by omega)
      obtain ⟨v2, s2, r2⟩ := there_at hT (show j * 3 + 2 < n * 3 by omega)
      clear q hP HPR HPO hb1 ho hoo TR
      have HL1 := hid hL
      have HB1 := hid hB
      clear hT
      go_wp2_with fail
      go_roundw
      case rel => exact ⟨j + 1, by go_num, by omega, hid (by simpa using hL), hid HPUT.out.1, hid HPUT.out.2, hid (HLN.out _ bb cf hf (fun i hi h => ⟨(((HOLD.out i hi h).1.set (.inr ⟨rfl, by omega⟩) _).set (.inr ⟨rfl, by omega⟩) _).set (.inr ⟨rfl, by omega⟩) _, by simpa using (HOLD.out i hi h).2⟩) HW2.out HLE.out (by simpa using HNEW.out _ _)), hid ((bset (bset (bset hB (by omega) _) (by omega) _) (by omega) _))⟩
      case measure => simp [intOf]; omega
    · obtain rfl : n = j := by omega
      have c1 : (n : Int) ≤ (n : Int) := by omega
      go_wp2_with fail
      go_ret
      exact ⟨w.heap.size, rfl, Nat.le_refl _, ⟨HL.out, fun i hi => by have := HP.out i hi (by rw [HN.out] at hi; exact hi); simpa using this⟩, ⟨by rw [HN.out]; exact HT.out, by
        obtain ⟨c, f, h1, h2⟩ := HOW.out
        exact ⟨c, f, fun i hi => h1 i hi (by rw [HN.out] at hi; exact hi), fun i k hik hk => h2 i k hik (by rw [HN.out] at hk; exact hk)⟩⟩, HBW.out⟩
set_option maxRecDepth 100000 in
set_option maxHeartbeats 2000000 in
theorem to_storeO {N1 N2 : Nat → Prop} (now : Int) (a ta : Option Addr) (cap tcap : Nat) (rs : List Rw) (ts : List Tx) (w : World) (hm : rs.length ≤ 1099511627776) (htm : ts.length ≤ 1099511627776) (hr : Rws N1 w a rs) (ht : Txs N2 1099511627776 w ta ts) : Calls Tryz.prog 8 #[.agg #[.int .i64 now, .slice a rs.length cap, .slice ta ts.length tcap]] w fun e w' => ∃ B T hR, e = .returned (.agg #[.int .i64 now, .slice (some ⟨B, 0, none⟩) rs.length rs.length, .slice (some ⟨T, 0, none⟩) ts.length ts.length]) ∧ Rws (fun c => B < c) w' (some ⟨B, 0, none⟩) rs ∧ Txs (fun c => T < c) 1099511627776 w' (some ⟨T, 0, none⟩) ts ∧ (w.heap.size ≤ B ∧ B < hR ∧ hR ≤ T ∧ T < w'.heap.size ∧ w'.there B 0 (rs.length * 5) ∧ RwsO hR w' B rs ∧ TxsO w'.heap.size w' T ts) ∧ Below w.heap.size w w' := by
  have HR := hid (fun (W : World) (hb : Below w.heap.size w W) => to_rowsO now a cap rs W hm (hr.below hb))
  have HT := hid (fun (W : World) (hb : Below w.heap.size w W) => to_txsO ta tcap ts W htm (ht.below hb))
  clear hr ht
  obtain ⟨n, hn⟩ : ∃ n, n = rs.length := ⟨_, rfl⟩
  obtain ⟨tn, htn⟩ : ∃ tn, tn = ts.length := ⟨_, rfl⟩
  rw [← hn] at HR ⊢
  rw [← htn] at HT ⊢
  clear hn htn
  have hB0 : Below w.heap.size w (((w.alloc (.cells #[.int .i64 now, .slice a n cap, .slice ta tn tcap] 27)).alloc (.cells #[.int .i64 0, .slice none 0 0, .slice none 0 0] 38)).alloc (.cells #[.int .i64 0, .slice none 0 0, .slice none 0 0] 38)) := balloc (balloc (balloc (Below.refl _ _) _) _) _
  have g0 := old_alloc (o' := .cells #[.int .i64 0, .slice none 0 0, .slice none 0 0] 38) (old_alloc (o' := .cells #[.int .i64 0, .slice none 0 0, .slice none 0 0] 38) (new_alloc w w.heap.size (.cells #[.int .i64 now, .slice a n cap, .slice ta tn tcap] 27) rfl))
  have g1 := old_alloc (o' := .cells #[.int .i64 0, .slice none 0 0, .slice none 0 0] 38) (new_alloc (w.alloc (.cells #[.int .i64 now, .slice a n cap, .slice ta tn tcap] 27)) (w.heap.size + 1) (.cells #[.int .i64 0, .slice none 0 0, .slice none 0 0] 38) (by simp))
  have g2 := new_alloc ((w.alloc (.cells #[.int .i64 now, .slice a n cap, .slice ta tn tcap] 27)).alloc (.cells #[.int .i64 0, .slice none 0 0, .slice none 0 0] 38)) (w.heap.size + 1 + 1) (.cells #[.int .i64 0, .slice none 0 0, .slice none 0 0] 38) (by simp)
  go_enter Tryz.func8, Tryz.ntmps8
  go_upto_region 2 with fail
  generalize ((w.alloc (.cells #[.int .i64 now, .slice a n cap, .slice ta tn tcap] 27)).alloc (.cells #[.int .i64 0, .slice none 0 0, .slice none 0 0] 38)).alloc (.cells #[.int .i64 0, .slice none 0 0, .slice none 0 0] 38) = W at *
  have hlW := lt_of_block g2
  obtain ⟨⟨d0, d1, d2⟩, _⟩ := cellk3 g0
  go_wp2_with fail
  refine (HR.out _ hB0).mono ?_
  rintro e w1 ⟨B, rfl, hbb, hbl, ho, hth, hro, hb1⟩
  replace g0 := keepheap2 hb1 g0
  replace g1 := keepheap2 hb1 g1
  replace g2 := keepheap2 hb1 g2
  have hB1 := btrans hB0 hb1
  have HO := hid ho
  have HTH := hid hth
  have HRO := hid hro
  have hs1 := hb1.size
  clear hB0 hb1 ho hth hro d0 d1 d2 HR
  obtain ⟨⟨f0, f1, f2⟩, p0, p1, p2⟩ := cellk3 g2
  go_upto_region 3 with fail
  have g2' : ((w1.setCell ⟨w.heap.size + 1 + 1, 0, none⟩ (.int .i64 now)).setCell ⟨w.heap.size + 1 + 1, 1, none⟩ (.slice (some ⟨B, 0, none⟩) n n)).heap[w.heap.size + 1 + 1]? = some (.cells #[.int .i64 now, .slice (some ⟨B, 0, none⟩) n n, .slice none 0 0] 38 (0, 0)) := setk3a g2 _ _
  have hfar : ∀ c, c ≠ w.heap.size + 1 + 1 → ((w1.setCell ⟨w.heap.size + 1 + 1, 0, none⟩ (.int .i64 now)).setCell ⟨w.heap.size + 1 + 1, 1, none⟩ (.slice (some ⟨B, 0, none⟩) n n)).heap[c]? = w1.heap[c]? := fun c hc => by rw [Below.heap_setCell _ _ _ _ (by dsimp only; omega), Below.heap_setCell _ _ _ _ (by dsimp only; omega)]
  have g0' := (hfar w.heap.size (by omega)).trans g0
  have g1' := (hfar (w.heap.size + 1) (by omega)).trans g1
  have HO2 := hid ((HO.out.setR (q := w.heap.size + 1 + 1) (k := 0) (u := .int .i64 now) (by omega) (by omega)).setR (q := w.heap.size + 1 + 1) (k := 1) (u := (.slice (some ⟨B, 0, none⟩) n n)) (by omega) (by omega))
  have hB2 := bset (bset hB1 (q := w.heap.size + 1 + 1) (k := 0) (by omega) (.int .i64 now)) (q := w.heap.size + 1 + 1) (k := 1) (by omega) (.slice (some ⟨B, 0, none⟩) n n)
  have HTH2 := hid (there_set (p := w.heap.size + 1 + 1) (k := 1) (there_set (p := w.heap.size + 1 + 1) (k := 0) HTH.out (.int .i64 now)) (.slice (some ⟨B, 0, none⟩) n n))
  have HRO2 : Hid (RwsO w1.heap.size ((w1.setCell ⟨w.heap.size + 1 + 1, 0, none⟩ (.int .i64 now)).setCell ⟨w.heap.size + 1 + 1, 1, none⟩ (.slice (some ⟨B, 0, none⟩) n n)) B rs) := hid (fun j hj => ((HRO.out j hj).other (by omega) _).other (by omega) _)
  have hVs : ((w1.setCell ⟨w.heap.size + 1 + 1, 0, none⟩ (.int .i64 now)).setCell ⟨w.heap.size + 1 + 1, 1, none⟩ (.slice (some ⟨B, 0, none⟩) n n)).heap.size = w1.heap.size := by simp
  have hVa := Nat.le_of_eq hVs
  have hVb := Nat.le_of_eq hVs.symm
  clear hVs
  have hbl2 : B < ((w1.setCell ⟨w.heap.size + 1 + 1, 0, none⟩ (.int .i64 now)).setCell ⟨w.heap.size + 1 + 1, 1, none⟩ (.slice (some ⟨B, 0, none⟩) n n)).heap.size := by simpa using hbl
  have hblw := hbl
  clear hfar g0 g1 g2 HO HTH HRO hB1 f0 f1 f2 p0 p1 p2 hbl
  generalize (w1.setCell ⟨w.heap.size + 1 + 1, 0, none⟩ (.int .i64 now)).setCell ⟨w.heap.size + 1 + 1, 1, none⟩ (.slice (some ⟨B, 0, none⟩) n n) = V at *
  have hlV := lt_of_block g2'
  obtain ⟨⟨d0, d1, d2⟩, _⟩ := cellk3 g0'
  go_wp2_with fail
  refine (HT.out _ hB2).mono ?_
  rintro e w2 ⟨T, rfl, htt, htx, hto, hb2⟩
  replace g1' := keepheap2 hb2 g1'
  replace g2' := keepheap2 hb2 g2'
  have hB3 := btrans hB2 hb2
  have HO3 := hid (fun j (hj : j < rs.length) => (HO2.out j hj).below hb2)
  have HTX := hid htx
  have HTO := hid hto
  have HTH3 := hid (there_below HTH2.out hbl2 hb2)
  have HRO3 : Hid (RwsO w1.heap.size w2 B rs) := hid (HRO2.out.below hVb hb2)
  have hs2 := hb2.size
  clear hB2 hb2 htx hto d0 d1 d2 HT HO2 g0'
  obtain ⟨⟨f0, f1, f2⟩, p0, p1, p2⟩ := cellk3 g2'
  obtain ⟨⟨v0, v1, v2⟩, u0, u1, u2⟩ := cellk3 g1'
  go_wp2_with fail
  have hTl := HTX.out.1
  have gF := setk3 (set_far (q := w.heap.size + 1 + 1) (k := 2) (u := (.slice (some ⟨T, 0, none⟩) tn tn)) g1' (by omega)) (.int .i64 now) (.slice (some ⟨B, 0, none⟩) n n) (.slice (some ⟨T, 0, none⟩) tn tn)
  have bF := bset (bset (bset (bset hB3 (q := w.heap.size + 1 + 1) (k := 2) (by omega) (.slice (some ⟨T, 0, none⟩) tn tn)) (q := w.heap.size + 1) (k := 0) (by omega) (.int .i64 now)) (q := w.heap.size + 1) (k := 1) (by omega) (.slice (some ⟨B, 0, none⟩) n n)) (q := w.heap.size + 1) (k := 2) (by omega) (.slice (some ⟨T, 0, none⟩) tn tn)
  have hfar : ∀ c, w.heap.size + 1 + 1 < c → ((((w2.setCell ⟨w.heap.size + 1 + 1, 2, none⟩ (.slice (some ⟨T, 0, none⟩) tn tn)).setCell ⟨w.heap.size + 1, 0, none⟩ (.int .i64 now)).setCell ⟨w.heap.size + 1, 1, none⟩ (.slice (some ⟨B, 0, none⟩) n n)).setCell ⟨w.heap.size + 1, 2, none⟩ (.slice (some ⟨T, 0, none⟩) tn tn)).heap[c]? = w2.heap[c]? := fun c hc => by rw [Below.heap_setCell _ _ _ _ (by dsimp only; omega), Below.heap_setCell _ _ _ _ (by dsimp only; omega), Below.heap_setCell _ _ _ _ (by dsimp only; omega), Below.heap_setCell _ _ _ _ (by dsimp only; omega)]
  have hsz : w2.heap.size ≤ ((((w2.setCell ⟨w.heap.size + 1 + 1, 2, none⟩ (.slice (some ⟨T, 0, none⟩) tn tn)).setCell ⟨w.heap.size + 1, 0, none⟩ (.int .i64 now)).setCell ⟨w.heap.size + 1, 1, none⟩ (.slice (some ⟨B, 0, none⟩) n n)).setCell ⟨w.heap.size + 1, 2, none⟩ (.slice (some ⟨T, 0, none⟩) tn tn)).heap.size := by simp
  have thF : ((((w2.setCell ⟨w.heap.size + 1 + 1, 2, none⟩ (.slice (some ⟨T, 0, none⟩) tn tn)).setCell ⟨w.heap.size + 1, 0, none⟩ (.int .i64 now)).setCell ⟨w.heap.size + 1, 1, none⟩ (.slice (some ⟨B, 0, none⟩) n n)).setCell ⟨w.heap.size + 1, 2, none⟩ (.slice (some ⟨T, 0, none⟩) tn tn)).there B 0 (n * 5) := (there_set (there_set (there_set (there_set HTH3.out _) _) _) _)
  have roF : RwsO w1.heap.size ((((w2.setCell ⟨w.heap.size + 1 + 1, 2, none⟩ (.slice (some ⟨T, 0, none⟩) tn tn)).setCell ⟨w.heap.size + 1, 0, none⟩ (.int .i64 now)).setCell ⟨w.heap.size + 1, 1, none⟩ (.slice (some ⟨B, 0, none⟩) n n)).setCell ⟨w.heap.size + 1, 2, none⟩ (.slice (some ⟨T, 0, none⟩) tn tn)) B rs := fun j hj => (((((HRO3.out j hj).other (by omega) _).other (by omega) _).other (by omega) _).other (by omega) _)
  have toF : TxsO ((((w2.setCell ⟨w.heap.size + 1 + 1, 2, none⟩ (.slice (some ⟨T, 0, none⟩) tn tn)).setCell ⟨w.heap.size + 1, 0, none⟩ (.int .i64 now)).setCell ⟨w.heap.size + 1, 1, none⟩ (.slice (some ⟨B, 0, none⟩) n n)).setCell ⟨w.heap.size + 1, 2, none⟩ (.slice (some ⟨T, 0, none⟩) tn tn)).heap.size ((((w2.setCell ⟨w.heap.size + 1 + 1, 2, none⟩ (.slice (some ⟨T, 0, none⟩) tn tn)).setCell ⟨w.heap.size + 1, 0, none⟩ (.int .i64 now)).setCell ⟨w.heap.size + 1, 1, none⟩ (.slice (some ⟨B, 0, none⟩) n n)).setCell ⟨w.heap.size + 1, 2, none⟩ (.slice (some ⟨T, 0, none⟩) tn tn)) T ts := by simpa using ((((HTO.out.set (by omega) _).set (by omega) _).set (by omega) _).set (by omega) _)
  have oF : RwsAt (fun c => B < c) ((((w2.setCell ⟨w.heap.size + 1 + 1, 2, none⟩ (.slice (some ⟨T, 0, none⟩) tn tn)).setCell ⟨w.heap.size + 1, 0, none⟩ (.int .i64 now)).setCell ⟨w.heap.size + 1, 1, none⟩ (.slice (some ⟨B, 0, none⟩) n n)).setCell ⟨w.heap.size + 1, 2, none⟩ (.slice (some ⟨T, 0, none⟩) tn tn)) B 0 rs := fun j hj => ((((HO3.out j hj).setR (q := w.heap.size + 1 + 1) (k := 2) (u := (.slice (some ⟨T, 0, none⟩) tn tn)) (by omega) (fun c hc => by omega)).setR (q := w.heap.size + 1) (k := 0) (u := .int .i64 now) (by omega) (fun c hc => by omega)).setR (q := w.heap.size + 1) (k := 1) (u := (.slice (some ⟨B, 0, none⟩) n n)) (by omega) (fun c hc => by omega)).setR (q := w.heap.size + 1) (k := 2) (u := (.slice (some ⟨T, 0, none⟩) tn tn)) (by omega) (fun c hc => by omega)
  have tF : TxsAt (fun c => T < c) 1099511627776 ((((w2.setCell ⟨w.heap.size + 1 + 1, 2, none⟩ (.slice (some ⟨T, 0, none⟩) tn tn)).setCell ⟨w.heap.size + 1, 0, none⟩ (.int .i64 now)).setCell ⟨w.heap.size + 1, 1, none⟩ (.slice (some ⟨B, 0, none⟩) n n)).setCell ⟨w.heap.size + 1, 2, none⟩ (.slice (some ⟨T, 0, none⟩) tn tn)) T 0 ts := fun j hj => (HTX.out.2 j hj).blk (fun i _ => by simp only [World.cell?, hfar T (by omega)]) (fun c hc => hfar c (by omega)) hsz
  generalize ((((w2.setCell ⟨w.heap.size + 1 + 1, 2, none⟩ (.slice (some ⟨T, 0, none⟩) tn tn)).setCell ⟨w.heap.size + 1, 0, none⟩ (.int .i64 now)).setCell ⟨w.heap.size + 1, 1, none⟩ (.slice (some ⟨B, 0, none⟩) n n)).setCell ⟨w.heap.size + 1, 2, none⟩ (.slice (some ⟨T, 0, none⟩) tn tn)) = wf at *
  have hTs := HTX.out.1
  obtain ⟨⟨z0, z1, z2⟩, _⟩ := cellk3 gF
  exact bodyPost_ret (v := .agg #[.int .i64 now, .slice (some ⟨B, 0, none⟩) n n, .slice (some ⟨T, 0, none⟩) tn tn]) (by simp [results, Tryz.results8, go_sem, z0, z1, z2]) rfl ⟨B, T, w1.heap.size, rfl, .inr ⟨B, 0, rfl, by omega, oF⟩, .inr ⟨T, 0, rfl, by omega, tF⟩, ⟨by omega, by omega, by omega, by omega, thF, roF, toF⟩, bF⟩
end Go.Proofs.YtnajddjalagmoaaGreatDoor
namespace Go.Proofs.YtnajddjalagmoaaGreatDoor
open Go.RowKit
set_option linter.unusedSimpArgs false
set_option linter.unusedVariables false
theorem rwsS_of2 {N : Nat → Prop} {hi : Nat} {w : World} {B : Nat} {rs : List Rw} (hB : B < w.heap.size) (h : Rws N w (some ⟨B, 0, none⟩) rs) (ho : RwsO hi w B rs) (hh : hi ≤ w.heap.size) : RwsS w B rs := by
  rcases h with h | ⟨b, o, e, hb, h⟩
  · subst h; exact ⟨hB, fun j hj => absurd hj (by simp)⟩
  · cases e
    exact rwsS_of hB h ho hh
theorem chsS_of {N : Nat → Prop} {hi : Nat} {w : World} {B : Nat} {xs : List Ch} (hB : B < w.heap.size) (h : Chs N 1099511627776 w (some ⟨B, 0, none⟩) xs) (ho : ChsO hi w B xs) (hh : hi ≤ w.heap.size) : ChsS w B xs := by
  rcases h with h | ⟨b, o, e, hb, h⟩
  · subst h; exact ⟨hB, fun j hj => absurd hj (by simp)⟩
  · cases e
    refine ⟨hB, fun j hj => ?_⟩
    obtain ⟨a, cap, h0, h1, h2, h3, h4, h5, h6, h7⟩ := h j hj
    obtain ⟨c, q0, q1, q2, q3⟩ := ho.2 j hj
    simp only [Nat.zero_add] at h0 h1 h2 h3
    rw [h3] at q0
    cases q0
    exact ⟨c, _, by omega, ⟨h0, h1, h2, h3⟩, h5, h6⟩
theorem txsS_of {N : Nat → Prop} {hi : Nat} {w : World} {B : Nat} {xs : List Tx} (hB : B < w.heap.size) (h : Txs N 1099511627776 w (some ⟨B, 0, none⟩) xs) (ho : TxsO hi w B xs) (hh : hi ≤ w.heap.size) : TxsS w B xs := by
  rcases h with h | ⟨b, o, e, hb, h⟩
  · subst h; exact ⟨hB, fun j hj => absurd hj (by simp)⟩
  · cases e
    refine ⟨hB, fun j hj => ?_⟩
    obtain ⟨a, cap, h0, h1, h2, h3, h4, h5, h6⟩ := h j hj
    obtain ⟨_, c, f, q, _⟩ := ho
    obtain ⟨⟨q0, q1, q2, q3⟩, q4⟩ := q j hj
    simp only [Nat.zero_add] at h0 h1 h2
    rw [h2] at q0
    cases q0
    exact ⟨c j, _, by omega, ⟨h0, h1, h2⟩, h4, chsS_of (by omega) h5 q3 (by omega)⟩
/-- A store whose lists may be written into. -/
def OwnS2 (hi hR : Nat) (w : World) (B T : Nat) (rs : List Rw) (ts : List Tx) : Prop := B < hR ∧ hR ≤ T ∧ T < hi ∧ hi ≤ w.heap.size ∧ w.there B 0 (rs.length * 5) ∧ RwsO hR w B rs ∧ TxsO hi w T ts
theorem OwnS2.below {hi hR : Nat} {w w' : World} {B T : Nat} {rs : List Rw} {ts : List Tx} (h : OwnS2 hi hR w B T rs ts) (H : Below w.heap.size w w') : OwnS2 hi hR w' B T rs ts := by
  obtain ⟨h1, h2, h3, h4, h5, h6, h7⟩ := h
  have := H.size
  exact ⟨h1, h2, h3, by omega, there_below h5 (by omega) H, h6.below (by omega) H, h7.below (by omega) h4 H⟩
theorem StX.mid {b1 u1 b2 u2 lo hi : Nat} {w w' : World} {a ta : Option Addr} {cap tcap : Nat} {rs : List Rw} {ts : List Tx} (h : StX b1 u1 b2 u2 w a ta cap tcap rs ts) (m : Mid lo hi w w') (h1 : hi ≤ b1) (h2 : hi ≤ b2) : StX b1 u1 b2 u2 w' a ta cap tcap rs ts :=
  ⟨h.1.frame (fun c c1 c2 => mid_blk m (by have := h.1.1; omega) (by omega)) m.2.2.2.1, h.2.frame (fun c c1 c2 => mid_blk m (by have := h.2.1; omega) (by omega)) m.2.2.2.1⟩
theorem mks_L {k0 : Int} {ts : List Tx} (hs : txS ts) : ∀ j (h : j < (mks k0 ts).length), (mks k0 ts)[j].2.2.length ≤ 1099511627776 := by
  intro j hj
  have hj' := hj
  rw [mks_len] at hj'
  rw [mks_at hj']
  simp only [mkt, mkc_len]
  have := (hs.2 j hj').1
  omega
theorem txS_L {ts : List Tx} (hs : txS ts) : txL ts := fun j hj => by have := (hs.2 j hj).1; omega
end Go.Proofs.YtnajddjalagmoaaGreatDoor
namespace Go.Proofs.YtnajddjalagmoaaGreatDoor
open Go.RowKit
set_option linter.unusedSimpArgs false
set_option linter.unusedVariables false
theorem Pts.off {w w' : World} {a : Option Addr} {ps : List (Int × Int)} {Q : Nat} {x y z : Value} {t : TypeId} (h : Pts w a ps) (hq : w.heap[Q]? = some (.cells #[x, y, z] t (0, 0))) (hy : ∀ i, y ≠ .int .i64 i) (hf : ∀ b, b ≠ Q → w'.heap[b]? = w.heap[b]?) (hs : w.heap.size ≤ w'.heap.size) : Pts w' a ps := by
  have c1 : w.cell? ⟨Q, 1, none⟩ = some y := by simp [World.cell?, hq]
  have c3 : ∀ k, w.cell? ⟨Q, k + 3, none⟩ = none := fun k => by simp [World.cell?, hq]
  rcases h with k7 | ⟨c, off, e2, hc2, k7⟩
  · exact .inl k7
  · cases ps with
    | nil => exact .inl rfl
    | cons p0 pr =>
    have hcQ : c ≠ Q := by
      intro e3
      subst e3
      obtain ⟨m0, m1⟩ := k7 0 (by simp)
      have hlt : off + 0 * 2 + 1 < 3 := by
        rcases Nat.lt_or_ge (off + 0 * 2 + 1) 3 with q | q
        · exact q
        · have := c3 (off + 0 * 2 + 1 - 3)
          rw [show off + 0 * 2 + 1 - 3 + 3 = off + 0 * 2 + 1 by omega] at this
          rw [this] at m1
          cases m1
      rcases (show off = 0 ∨ off = 1 by omega) with q | q
      · subst q
        have m1' : w.cell? ⟨c, 1, none⟩ = _ := m1
        rw [c1] at m1'
        exact hy _ (Option.some.inj m1')
      · subst q
        have m0' : w.cell? ⟨c, 1, none⟩ = _ := m0
        rw [c1] at m0'
        exact hy _ (Option.some.inj m0')
    refine .inr ⟨c, off, e2, by omega, fun k hk => ?_⟩
    obtain ⟨m0, m1⟩ := k7 k hk
    have hcc : ∀ k, w'.cell? ⟨c, k, none⟩ = w.cell? ⟨c, k, none⟩ := fun k => World.cell?_of_block (w := w) (hf c hcQ)
    exact ⟨by rw [hcc]; exact m0, by rw [hcc]; exact m1⟩
theorem Chs.off {N : Nat → Prop} {M : Nat} {w w' : World} {a : Option Addr} {xs : List Ch} {Q : Nat} {x y z : Value} {t : TypeId} (h : Chs N M w a xs) (hq : w.heap[Q]? = some (.cells #[x, y, z] t (0, 0))) (hy : ∀ i, y ≠ .int .i64 i) (hf : ∀ b, b ≠ Q → w'.heap[b]? = w.heap[b]?) (hs : w.heap.size ≤ w'.heap.size) : Chs N M w' a xs := by
  have c3 : ∀ k, w.cell? ⟨Q, k + 3, none⟩ = none := fun k => by simp [World.cell?, hq]
  rcases h with h | ⟨b, o, e, hb, h⟩
  · exact .inl h
  · cases xs with
    | nil => exact .inl rfl
    | cons x0 xr =>
    have hbQ : b ≠ Q := by
      intro e
      subst e
      obtain ⟨_, _, _, _, _, h4, _⟩ := h 0 (by simp)
      have := c3 (o + 0 * 4)
      rw [this] at h4
      cases h4
    refine .inr ⟨b, o, e, by omega, fun j hj => ?_⟩
    obtain ⟨a', cap', k0, k1, k2, k3, k4, k5, k6, k7⟩ := h j hj
    have hc : ∀ k, w'.cell? ⟨b, k, none⟩ = w.cell? ⟨b, k, none⟩ := fun k => World.cell?_of_block (w := w) (hf b hbQ)
    exact ⟨a', cap', by rw [hc]; exact k0, by rw [hc]; exact k1, by rw [hc]; exact k2, by rw [hc]; exact k3, k4, k5, k6.off hq hy hf hs, k7⟩
theorem Txs.off {N : Nat → Prop} {M : Nat} {w w' : World} {a : Option Addr} {xs : List Tx} {Q : Nat} {x y z : Value} {t : TypeId} (h : Txs N M w a xs) (hq : w.heap[Q]? = some (.cells #[x, y, z] t (0, 0))) (hy : ∀ i, y ≠ .int .i64 i) (hyb : ∀ i, y ≠ .bool i) (hf : ∀ b, b ≠ Q → w'.heap[b]? = w.heap[b]?) (hs : w.heap.size ≤ w'.heap.size) : Txs N M w' a xs := by
  have c1 : w.cell? ⟨Q, 1, none⟩ = some y := by simp [World.cell?, hq]
  have c3 : ∀ k, w.cell? ⟨Q, k + 3, none⟩ = none := fun k => by simp [World.cell?, hq]
  rcases h with h | ⟨b, o, e, hb, h⟩
  · exact .inl h
  · cases xs with
    | nil => exact .inl rfl
    | cons x0 xr =>
    have hbQ : b ≠ Q := by
      intro e
      subst e
      obtain ⟨_, _, _, h1, h2, _⟩ := h 0 (by simp)
      rcases Nat.eq_zero_or_pos o with q | q
      · subst q
        have m1' : w.cell? ⟨b, 1, none⟩ = _ := h1
        rw [c1] at m1'
        exact hyb _ (Option.some.inj m1')
      · have := c3 (o - 1)
        rw [show o - 1 + 3 = o + 0 * 3 + 2 by omega] at this
        rw [this] at h2
        cases h2
    refine .inr ⟨b, o, e, by omega, fun j hj => ?_⟩
    obtain ⟨a', cap', k0, k1, k2, k3, k4, k5, k6⟩ := h j hj
    have hc : ∀ k, w'.cell? ⟨b, k, none⟩ = w.cell? ⟨b, k, none⟩ := fun k => World.cell?_of_block (w := w) (hf b hbQ)
    exact ⟨a', cap', by rw [hc]; exact k0, by rw [hc]; exact k1, by rw [hc]; exact k2, k3, k4, k5.off hq hy hf hs, k6⟩
set_option maxRecDepth 100000 in
set_option maxHeartbeats 2000000 in
theorem mark_txs2 (lo hi B : Nat) (xs : List Tx) (k0 : Int) (w : World) (hlo : lo ≤ B) (hBh : B < hi) (hih : hi ≤ w.heap.size) (hs : txS xs) (h0 : 0 ≤ k0) (h1 : k0 ≤ 1000000000000000000) (ho : TxsO hi w B xs) : Calls Tryz.prog 37 #[.slice (some ⟨B, 0, none⟩) xs.length xs.length, .int .i64 k0] w fun e w' => (∃ v : Int, e = .returned (.int .i64 v) ∧ 0 ≤ v ∧ v ≤ 3400000000000000000) ∧ Mid lo hi w w' ∧ (∀ d m, d < w.heap.size → w.there d 0 m → w'.there d 0 m) := by
  have HL := hid hs.2
  have hm := hs.1
  have HTT := hid ho.1
  obtain ⟨cf, hf, hw1, hw2⟩ := ho.2
  have HW1 := hid hw1
  have HW2 := hid hw2
  clear hs ho hw1 hw2
  obtain ⟨n, hn⟩ : ∃ n, n = xs.length := ⟨_, rfl⟩
  have HN := hid hn.symm
  rw [← hn] at hm HTT ⊢
  clear hn
  go_enter Tryz.func37, Tryz.ntmps37
  go_wp2_with fail
  go_loopw [1, 5] (fun tk' ti wr => ∃ j : Nat, ∃ k : Int, ti = .int .i64 j ∧ tk' = .int .i64 k ∧ j ≤ n ∧ 0 ≤ k ∧ k ≤ k0 + (j : Int) * 2199026401282 ∧ Hid (Mid lo hi w wr) ∧ Hid (∀ d m, d < w.heap.size → w.there d 0 m → wr.there d 0 m) ∧ Hid (∀ i (hi : i < xs.length), j ≤ i → TxO (hf i) wr B (i * 3) xs[i] (cf i))) (fun _ ti _ => n - (intOf ti).toNat)
  case atStart => exact ⟨0, k0, rfl, rfl, Nat.zero_le _, by omega, by omega, hid (mid_refl _ _ _), hid (fun _ _ _ h => h), hid (fun i hi _ => (HW1.out i hi).1)⟩
  case round =>
    obtain ⟨j, k, rfl, rfl, hj, hk0, hk1, HM, HT, HX⟩ := hrel
    by_cases hlt : j < n
    · have c1 : (j : Int) < (n : Int) := by omega
      have hjr : j < xs.length := by rw [HN.out]; exact hlt
      obtain ⟨q0, q1, q2, q3⟩ := HX.out j hjr (Nat.le_refl _)
      have hle := (HW1.out j hjr).2
      have HLJ := hid (HL.out j hjr)
      have HW3 : Hid (∀ i (h : i < xs.length), j + 1 ≤ i → hf i ≤ hi ∧ hf j ≤ cf i) := hid (fun i h h' => ⟨(HW1.out i h).2, HW2.out j i (by omega) h⟩)
      generalize hxc : xs[j].2.2 = xc at *
      generalize cf j = cj at *
      generalize hf j = hj' at *
      have hk2 : k ≤ 3400000000000000000 := by omega
      have hT := HT.out _ _ (by omega) HTT.out
      obtain ⟨u0, z0, y0⟩ := there_at hT (show j * 3 < n * 3 by omega)
      obtain ⟨u1, z1, y1⟩ := there_at hT (show j * 3 + 1 < n * 3 by omega)
      have z1' : ∀ a0, (wr.setCell ⟨B, j * 3, none⟩ a0).cell? ⟨B, j * 3 + 1, none⟩ = some u1 := fun a0 => by rw [World.cell?_setCell_other _ _ _ _ (by simp)]; exact z1
      have z2' : ∀ a0 a1, ((wr.setCell ⟨B, j * 3, none⟩ a0).setCell ⟨B, j * 3 + 1, none⟩ a1).cell? ⟨B, j * 3 + 2, none⟩ = some (.slice (some ⟨cj, 0, none⟩) xc.length xc.length) := fun a0 a1 => by rw [World.cell?_setCell_other _ _ _ _ (by simp), World.cell?_setCell_other _ _ _ _ (by simp)]; exact q0
      have y1' : ∀ a0, (wr.setCell ⟨B, j * 3, none⟩ a0).frozen? ⟨B, j * 3 + 1, none⟩ = false := fun a0 => by rw [World.frozen?_setCell]; exact y1
      have HM3 := hid (fun a0 a1 => (mid_set (mid_set HM.out hlo hBh a0) hlo hBh a1 : Mid lo hi w ((wr.setCell ⟨B, j * 3, none⟩ a0).setCell ⟨B, j * 3 + 1, none⟩ a1)))
      have HT3 := hid (fun a0 a1 d m (h' : d < w.heap.size) (h : w.there d 0 m) => (there_set (there_set (HT.out d m h' h) a0) a1 : ((wr.setCell ⟨B, j * 3, none⟩ a0).setCell ⟨B, j * 3 + 1, none⟩ a1).there d 0 m))
      have HQ3 := hid (fun a0 a1 => ((q3.set (by omega) a0).set (by omega) a1 : ChsO hj' ((wr.setCell ⟨B, j * 3, none⟩ a0).setCell ⟨B, j * 3 + 1, none⟩ a1) cj xc))
      have HX3 := hid (fun a0 a1 i (h : i < xs.length) (h' : j + 1 ≤ i) => (((HX.out i h (by omega)).set (.inr ⟨rfl, by omega⟩) a0).set (.inr ⟨rfl, by omega⟩) a1 : TxO (hf i) ((wr.setCell ⟨B, j * 3, none⟩ a0).setCell ⟨B, j * 3 + 1, none⟩ a1) B (i * 3) xs[i] (cf i)))
      have hws := HM.out.2.2.2.1
      clear hT z1 y1 HM HT HX q3 q0
      go_wp2_with fail
      refine (mark_chs cj hj' cj xc (k + 1 + 1) _ (Nat.le_refl _) q2 (by simp only [World.size_setCell]; omega) HLJ.out (by omega) (by omega) (HQ3.out _ _)).mono ?_
      rintro e w1 ⟨⟨v, rfl, hv0, hv1⟩, hg, hth⟩
      have HM5 := hid (mid_trans (HM3.out _ _) (mid_wide hg (by omega) hle))
      have HT5 := hid (fun d m (h' : d < w.heap.size) (h : w.there d 0 m) => hth d m (by simp only [World.size_setCell]; omega) (HT3.out _ _ d m h' h))
      have HX5 : Hid (∀ i (h : i < xs.length), j + 1 ≤ i → TxO (hf i) w1 B (i * 3) xs[i] (cf i)) := hid (fun i h h' => by
        have e1 := HW3.out i h h'
        exact (HX3.out _ _ i h h').mid hg hth (by simp only [World.size_setCell]; omega) (.inl q1) e1.2)
      clear hg hth HM3 HT3 HX3 HQ3 z0 z1' z2' y0 y1'
      go_wp2_with fail
      go_roundw
      case rel => exact ⟨j + 1, _, by go_num, rfl, by omega, by omega, by omega, HM5, HT5, HX5⟩
      case measure => simp [intOf]; omega
    · have c1 : (n : Int) ≤ (j : Int) := by omega
      go_wp2_with fail
      go_ret
      exact ⟨⟨_, rfl, hk0, by omega⟩, HM.out, HT.out⟩
set_option maxRecDepth 100000 in
set_option maxHeartbeats 2000000 in
theorem mark_store2 (lo hi hR B T : Nat) (now : Int) (rs : List Rw) (ts : List Tx) (w : World) (hlo : lo ≤ B) (hB1 : B < hR) (hB2 : hR ≤ T) (hTh : T < hi) (hih : hi ≤ w.heap.size) (hm : rs.length ≤ 1048576) (hl : ∀ m (h : m < rs.length), rs[m].2.2.2.2.length ≤ 1048576) (hs : txS ts) (hth : w.there B 0 (rs.length * 5)) (hro : RwsO hR w B rs) (hto : TxsO hi w T ts) : Calls Tryz.prog 13 #[.agg #[.int .i64 now, .slice (some ⟨B, 0, none⟩) rs.length rs.length, .slice (some ⟨T, 0, none⟩) ts.length ts.length], .int .i64 1] w fun e w' => (∃ v : Int, e = .returned (.int .i64 v) ∧ 0 ≤ v ∧ v ≤ 3400000000000000000) ∧ Mid lo hi w w' := by
  have HR := hid (fun (W : World) (hb : Below w.heap.size w W) => mark_rowsB lo hR B now rs W hlo hB1 (by have := hb.size; omega) hm hl (there_below hth (by omega) hb) (hro.below (by omega) hb))
  have HT := hid (fun (W W' : World) (v : Int) (hb : Below w.heap.size w W) (hd : Mid lo hR W W') (ht : ∀ d m, d < W.heap.size → W.there d 0 m → W'.there d 0 m) (hv0 : 0 ≤ v) (hv1 : v ≤ 2199027449858) => mark_txs2 lo hi T ts v W' (by omega) hTh (by have := hb.size; have := hd.2.2.2.1; omega) hs hv0 (by omega) ((hto.below (by omega) hih hb).mid hd ht (by have := hb.size; omega) (by have := hb.size; omega) hB2))
  clear hth hro hto hl hs
  generalize rs.length = n at *
  generalize ts.length = tn at *
  have hB0 : Below w.heap.size w (w.alloc (.cells #[.int .i64 now, .slice (some ⟨B, 0, none⟩) n n, .slice (some ⟨T, 0, none⟩) tn tn] 38)) := balloc (Below.refl _ _) _
  have g0 := new_alloc w w.heap.size (.cells #[.int .i64 now, .slice (some ⟨B, 0, none⟩) n n, .slice (some ⟨T, 0, none⟩) tn tn] 38) rfl
  have hsz : w.heap.size < (w.alloc (.cells #[.int .i64 now, .slice (some ⟨B, 0, none⟩) n n, .slice (some ⟨T, 0, none⟩) tn tn] 38)).heap.size := by simp
  go_enter Tryz.func13, Tryz.ntmps13
  go_upto_region 1 with fail
  generalize w.alloc (.cells #[.int .i64 now, .slice (some ⟨B, 0, none⟩) n n, .slice (some ⟨T, 0, none⟩) tn tn] 38) = W0 at *
  obtain ⟨⟨d0, d1, d2⟩, _⟩ := cellk3 g0
  have HR0 := hid (HR.out W0 hB0)
  clear g0 HR
  go_wp2_with fail
  refine HR0.out.mono ?_
  rintro e w1 ⟨⟨v, rfl, hv0, hv1⟩, hmid, hth⟩
  have d2' := mid_cell hmid d2 (.inr (by omega))
  have HT0 := hid (HT.out W0 w1 v hB0 hmid hth hv0 hv1)
  have HM1 := hid (mid_trans (mid_below hB0 : Mid lo hi w W0) (mid_wide hmid (Nat.le_refl _) (by omega)))
  clear d0 d1 d2 HT HR0 hmid hth hB0
  go_wp2_with fail
  refine HT0.out.mono ?_
  rintro e w2 ⟨⟨v2, rfl, hv2⟩, hmid2, _⟩
  have HM2 := hid (mid_trans HM1.out hmid2)
  clear hmid2 HM1 HT0 d2'
  go_wp2_with fail
  go_ret
  exact ⟨⟨_, rfl, hv2⟩, HM2.out⟩
/-- A store as the law makes it for a call. -/
def SF (w : World) (now : Int) (rs : List Rw) (ts : List Tx) (e : Ending) (w' : World) : Prop :=
  ∃ b t hR, e = .returned (.agg #[.int .i64 now, .slice (some ⟨b, 0, none⟩) rs.length rs.length, .slice (some ⟨t, 0, none⟩) ts.length ts.length]) ∧ RwsS w' b rs ∧ Rws (fun c => b < c) w' (some ⟨b, 0, none⟩) rs ∧ TxsS w' t ts ∧ Txs (fun c => t < c) 1099511627776 w' (some ⟨t, 0, none⟩) ts ∧ OwnS2 w'.heap.size hR w' b t rs ts ∧ w.heap.size ≤ b ∧ Below w.heap.size w w'
theorem to_storeF {N1 N2 : Nat → Prop} (now : Int) (a ta : Option Addr) (cap tcap : Nat) (rs : List Rw) (ts : List Tx) (w : World) (hm : rs.length ≤ 1099511627776) (htm : ts.length ≤ 1099511627776) (hr : Rws N1 w a rs) (ht : Txs N2 1099511627776 w ta ts) : Calls Tryz.prog 8 #[.agg #[.int .i64 now, .slice a rs.length cap, .slice ta ts.length tcap]] w fun e w' => SF w now rs ts e w' := by
  refine (to_storeO now a ta cap tcap rs ts w hm htm hr ht).mono ?_
  rintro e w' ⟨B, T, hR, rfl, ho, hx, ⟨h1, h2, h3, h4, h5, h6, h7⟩, hb⟩
  exact ⟨B, T, hR, rfl, rwsS_of2 (by omega) ho h6 (by omega), ho, txsS_of (by omega) hx h7 (Nat.le_refl _), hx, ⟨h2, h3, h4, Nat.le_refl _, h5, h6, h7⟩, h1, hb⟩
end Go.Proofs.YtnajddjalagmoaaGreatDoor
namespace Go.Proofs.YtnajddjalagmoaaGreatDoor
open Go.RowKit
set_option linter.unusedSimpArgs false
set_option linter.unusedVariables false
set_option maxHeartbeats 1000000 in
theorem sz_ch2 {N : Nat → Prop} (x : Ch) (a : Option Addr) (cap : Nat) (left : Int) (w : World) (hm : x.2.2.2.length ≤ 9223372036854775807) (h0 : 0 ≤ left) (h1 : left ≤ 1048576) : Calls Tryz.prog 102 #[chv x a cap, .int .i64 left] w fun e w' => (∃ v : Int, e = .returned (.int .i64 v) ∧ (v = -1 ∨ (0 ≤ v ∧ v ≤ left ∧ Hid (x.2.2.2.length ≤ 1048576)))) ∧ Below w.heap.size w w' := by
  obtain ⟨id, go, kd, ps⟩ := x
  unfold chv
  simp only at *
  by_cases h : left < (ps.length : Int)
  · go_enter Tryz.func102, Tryz.ntmps102
    go_wp2_with fail
    refine (szs_big kd a ps.length cap left _ (by omega) h0 h1 h).mono ?_
    rintro e w1 ⟨rfl, hb⟩
    go_wp2_with fail
    go_ret
    exact ⟨⟨_, rfl, .inl rfl⟩, btrans (balloc (Below.refl _ _) _) hb⟩
  · have h2 : ¬ (left - (ps.length : Int) < 0) := by omega
    go_enter Tryz.func102, Tryz.ntmps102
    go_wp2_with fail
    refine (szs_ok kd a ps.length cap left _ h0 h1 (by omega)).mono ?_
    rintro e w1 ⟨rfl, hb⟩
    go_wp2_with fail
    go_ret
    exact ⟨⟨_, rfl, .inr ⟨by omega, by omega, hid (by omega)⟩⟩, btrans (balloc (Below.refl _ _) _) hb⟩
set_option maxHeartbeats 1000000 in
theorem sz_chs2 {N : Nat → Prop} (a : Option Addr) (cap : Nat) (xs : List Ch) (left : Int) (w : World) (hm : xs.length ≤ 9223372036854775807) (h0 : 0 ≤ left) (h1 : left ≤ 1048576) (h : Chs N 9223372036854775807 w a xs) : Calls Tryz.prog 75 #[.slice a xs.length cap, .int .i64 left] w fun e w' => (∃ v : Int, e = .returned (.int .i64 v) ∧ (v = -1 ∨ (0 ≤ v ∧ v ≤ left ∧ Hid (chS xs ∧ (xs.length : Int) ≤ left)))) ∧ Below w.heap.size w w' := by
  have HR := hid h
  clear h
  by_cases hb : left < (xs.length : Int)
  · have h2 : left - (xs.length : Int) < 0 := by omega
    go_enter Tryz.func75, Tryz.ntmps75
    go_wp2_with fail
    go_ret
    exact ⟨⟨_, rfl, .inl rfl⟩, Below.refl _ _⟩
  · have h2 : ¬ (left - (xs.length : Int) < 0) := by omega
    have HF : Hid ((∀ m (h : m < xs.length), xs[m].2.2.2.length ≤ 1048576) → chS xs ∧ (xs.length : Int) ≤ left) := hid (fun h => ⟨⟨by omega, h⟩, by omega⟩)
    go_enter Tryz.func75, Tryz.ntmps75
    go_wp2_with fail
    go_loopw [5, 1] (fun ti tl wr => ∃ j : Nat, ∃ l : Int, ti = .int .i64 j ∧ tl = .int .i64 l ∧ j ≤ xs.length ∧ 0 ≤ l ∧ l ≤ left - (xs.length : Int) ∧ Hid (∀ m (h : m < xs.length), m < j → xs[m].2.2.2.length ≤ 1048576) ∧ Hid (Below w.heap.size w wr)) (fun ti _ _ => xs.length - (intOf ti).toNat)
    case atStart => exact ⟨0, _, rfl, rfl, Nat.zero_le _, by omega, by omega, hid (fun m h hh => absurd hh (by omega)), hid (Below.refl _ _)⟩
    case round =>
      obtain ⟨j, l, rfl, rfl, hj, hl0, hl1, HM, HB⟩ := hrel
      by_cases hlt : j < xs.length
      · have c1 : (j : Int) < (xs.length : Int) := by omega
        obtain ⟨b, o, rfl, hbs, hr⟩ := (HR.out.below HB.out).at j hlt
        obtain ⟨a', cap', k0, k1, k2, q1, q2, q3, q4, q5⟩ := hr
        have HX : Hid ((xs[j].2.2.2.length ≤ 1048576) → ∀ m (h : m < xs.length), m < j + 1 → xs[m].2.2.2.length ≤ 1048576) := hid (fun hx m h hm => by
          by_cases e : m = j
          · subst e; exact hx
          · exact HM.out m h (by omega))
        have S := hid (fun w' => sz_ch2 (N := N) xs[j] a' cap' l w' q3 hl0 (by omega))
        unfold chv at S
        obtain ⟨Q, hQ⟩ : ∃ Q : Prop, Q = (xs[j].2.2.2.length ≤ 1048576) := ⟨_, rfl⟩
        rw [← hQ] at HX S
        clear hQ q2 q3 q4 q5
        generalize xs[j].1 = id at *
        generalize xs[j].2.1 = go at *
        generalize xs[j].2.2.1 = kd at *
        generalize xs[j].2.2.2.length = np at *
        go_wp2_with fail
        refine (S.out _).mono ?_
        rintro e w1 ⟨⟨v, rfl, hv⟩, hb1⟩
        have hB := btrans HB.out hb1
        rcases hv with rfl | ⟨hv0, hv1, hv3⟩
        · go_wp2_with fail
          go_ret
          exact ⟨⟨_, rfl, .inl rfl⟩, hB⟩
        · have hv2 : ¬ v < 0 := by omega
          have HX2 := hid (HX.out hv3.out)
          clear hv3
          go_wp2_with fail
          go_roundw
          case rel => exact ⟨j + 1, v, by go_num, rfl, by omega, hv0, by omega, HX2, hid hB⟩
          case measure => simp [intOf]; omega
      · have c1 : (xs.length : Int) ≤ (j : Int) := by omega
        have HF2 := hid (HF.out (fun m h => HM.out m h (by omega)))
        go_wp2_with fail
        go_ret
        exact ⟨⟨_, rfl, .inr ⟨hl0, by omega, HF2⟩⟩, HB.out⟩
set_option maxHeartbeats 1000000 in
theorem sz_tx2 {N : Nat → Prop} (x : Tx) (a : Option Addr) (cap : Nat) (left : Int) (w : World) (hm : x.2.2.length ≤ 9223372036854775807) (h0 : 0 ≤ left) (h1 : left ≤ 1048576) (h : Chs N 9223372036854775807 w a x.2.2) : Calls Tryz.prog 45 #[txv x a cap, .int .i64 left] w fun e w' => (∃ v : Int, e = .returned (.int .i64 v) ∧ (v = -1 ∨ (0 ≤ v ∧ v ≤ left ∧ Hid (chS x.2.2 ∧ (x.2.2.length : Int) ≤ left)))) ∧ Below w.heap.size w w' := by
  obtain ⟨st, op, cs⟩ := x
  unfold txv
  simp only at *
  have SZ := hid (fun (W : World) (hb : Below w.heap.size w W) => sz_chs2 a cap cs left W hm h0 h1 (h.below hb))
  clear h
  obtain ⟨B, hB⟩ : ∃ B : Prop, B = (chS cs ∧ (cs.length : Int) ≤ left) := ⟨_, rfl⟩
  rw [← hB] at SZ ⊢
  clear hB
  generalize cs.length = n at *
  go_enter Tryz.func45, Tryz.ntmps45
  go_wp2_with fail
  refine (SZ.out _ (balloc (Below.refl _ _) _)).mono ?_
  rintro e w1 ⟨⟨v, rfl, hv⟩, hb⟩
  have hB := btrans (balloc (Below.refl _ w) _) hb
  rcases hv with rfl | ⟨hv0, hv1, HV⟩
  · go_wp2_with fail
    go_ret
    exact ⟨⟨_, rfl, .inl rfl⟩, hB⟩
  · have hv2 : ¬ v < 0 := by omega
    go_wp2_with fail
    go_ret
    exact ⟨⟨_, rfl, .inr ⟨hv0, hv1, HV⟩⟩, hB⟩
set_option maxHeartbeats 1000000 in
theorem sz_txs2 {N : Nat → Prop} (a : Option Addr) (cap : Nat) (xs : List Tx) (left : Int) (w : World) (hm : xs.length ≤ 9223372036854775807) (h0 : 0 ≤ left) (h1 : left ≤ 1048576) (h : Txs N 9223372036854775807 w a xs) : Calls Tryz.prog 19 #[.slice a xs.length cap, .int .i64 left] w fun e w' => (∃ v : Int, e = .returned (.int .i64 v) ∧ (v = -1 ∨ (0 ≤ v ∧ v ≤ 1048576 ∧ Hid (txS xs ∧ ∀ m (h : m < xs.length), (xs[m].2.2.length : Int) + 1 ≤ 1048576)))) ∧ Below w.heap.size w w' := by
  have HR := hid h
  clear h
  by_cases hb : left < (xs.length : Int)
  · have h2 : left - (xs.length : Int) < 0 := by omega
    go_enter Tryz.func19, Tryz.ntmps19
    go_wp2_with fail
    go_ret
    exact ⟨⟨_, rfl, .inl rfl⟩, Below.refl _ _⟩
  · have h2 : ¬ (left - (xs.length : Int) < 0) := by omega
    have HF : Hid ((∀ m (h : m < xs.length), chS xs[m].2.2 ∧ (xs[m].2.2.length : Int) + (xs.length : Int) ≤ 1048576) → txS xs ∧ ∀ m (h : m < xs.length), (xs[m].2.2.length : Int) + 1 ≤ 1048576) := hid (fun h => ⟨⟨by omega, fun m hm => (h m hm).1⟩, fun m hm => by have := (h m hm).2; omega⟩)
    go_enter Tryz.func19, Tryz.ntmps19
    go_wp2_with fail
    go_loopw [5, 1] (fun ti tl wr => ∃ j : Nat, ∃ l : Int, ti = .int .i64 j ∧ tl = .int .i64 l ∧ j ≤ xs.length ∧ 0 ≤ l ∧ l ≤ left - (xs.length : Int) ∧ Hid (∀ m (h : m < xs.length), m < j → chS xs[m].2.2 ∧ (xs[m].2.2.length : Int) + (xs.length : Int) ≤ 1048576) ∧ Hid (Below w.heap.size w wr)) (fun ti _ _ => xs.length - (intOf ti).toNat)
    case atStart => exact ⟨0, _, rfl, rfl, Nat.zero_le _, by omega, by omega, hid (fun m h hh => absurd hh (by omega)), hid (Below.refl _ _)⟩
    case round =>
      obtain ⟨j, l, rfl, rfl, hj, hl0, hl1, HM, HB⟩ := hrel
      by_cases hlt : j < xs.length
      · have c1 : (j : Int) < (xs.length : Int) := by omega
        obtain ⟨b, o, rfl, hbs, hr⟩ := (HR.out.below HB.out).at j hlt
        obtain ⟨a', cap', k0, k1, q1, q2, q3, q4, q5⟩ := hr
        have HX : Hid ((chS xs[j].2.2 ∧ (xs[j].2.2.length : Int) ≤ l) → ∀ m (h : m < xs.length), m < j + 1 → chS xs[m].2.2 ∧ (xs[m].2.2.length : Int) + (xs.length : Int) ≤ 1048576) := hid (fun hx m h hm => by
          by_cases e : m = j
          · subst e; exact ⟨hx.1, by have := hx.2; omega⟩
          · exact HM.out m h (by omega))
        have S := hid (sz_tx2 (N := N) xs[j] a' cap' l wr q3 hl0 (by omega) q4)
        unfold txv at S
        obtain ⟨Q, hQ⟩ : ∃ Q : Prop, Q = (chS xs[j].2.2 ∧ (xs[j].2.2.length : Int) ≤ l) := ⟨_, rfl⟩
        rw [← hQ] at HX S
        clear hQ q2 q3 q4 q5
        generalize xs[j].1 = st at *
        generalize xs[j].2.1 = op at *
        generalize xs[j].2.2.length = np at *
        go_wp2_with fail
        refine (S.out).mono ?_
        rintro e w1 ⟨⟨v, rfl, hv⟩, hb1⟩
        have hB := btrans HB.out hb1
        rcases hv with rfl | ⟨hv0, hv1, hv3⟩
        · go_wp2_with fail
          go_ret
          exact ⟨⟨_, rfl, .inl rfl⟩, hB⟩
        · have hv2 : ¬ v < 0 := by omega
          have HX2 := hid (HX.out hv3.out)
          clear hv3
          go_wp2_with fail
          go_roundw
          case rel => exact ⟨j + 1, v, by go_num, rfl, by omega, hv0, by omega, HX2, hid hB⟩
          case measure => simp [intOf]; omega
      · have c1 : (xs.length : Int) ≤ (j : Int) := by omega
        have HF2 := hid (HF.out (fun m h => HM.out m h (by omega)))
        go_wp2_with fail
        go_ret
        exact ⟨⟨_, rfl, .inr ⟨hl0, by omega, HF2⟩⟩, HB.out⟩
set_option maxHeartbeats 1000000 in
theorem sz_store2 {N : Nat → Prop} (now : Int) (a ta : Option Addr) (cap tcap : Nat) (rs : List Rw) (ts : List Tx) (w : World) (hm : rs.length ≤ 9223372036854775807) (htm : ts.length ≤ 9223372036854775807) (hr : RwsL w a rs) (ht : Txs N 9223372036854775807 w ta ts) : Calls Tryz.prog 5 #[.agg #[.int .i64 now, .slice a rs.length cap, .slice ta ts.length tcap], .int .i64 1048576] w fun e w' => (∃ v : Int, e = .returned (.int .i64 v) ∧ (v = -1 ∨ (0 ≤ v ∧ v ≤ 1048576 ∧ Hid ((rs.length ≤ 1048576 ∧ ∀ m (h : m < rs.length), rs[m].2.2.2.2.length ≤ 1048576) ∧ (txS ts ∧ ∀ m (h : m < ts.length), (ts[m].2.2.length : Int) + 1 ≤ 1048576))))) ∧ Below w.heap.size w w' := by
  have HR := hid (fun (W : World) (hb : Below w.heap.size w W) => sz_allL now a cap rs W hm (hr.below hb))
  have HT := hid (fun (W : World) (hb : Below w.heap.size w W) (l : Int) (h0 : 0 ≤ l) (h1 : l ≤ 1048576) => sz_txs2 ta tcap ts l W htm h0 h1 (ht.below hb))
  clear hr ht
  obtain ⟨G, hG⟩ : ∃ G : Prop, G = (rs.length ≤ 1048576 ∧ ∀ m (h : m < rs.length), rs[m].2.2.2.2.length ≤ 1048576) := ⟨_, rfl⟩
  obtain ⟨K, hK⟩ : ∃ K : Prop, K = (txS ts ∧ ∀ m (h : m < ts.length), (ts[m].2.2.length : Int) + 1 ≤ 1048576) := ⟨_, rfl⟩
  rw [← hG] at HR ⊢
  rw [← hK] at HT ⊢
  clear hG hK
  generalize rs.length = n at *
  generalize ts.length = tn at *
  have hB0 : Below w.heap.size w (w.alloc (.cells #[.int .i64 now, .slice a n cap, .slice ta tn tcap] 27)) := balloc (Below.refl _ _) _
  have g0 := new_alloc w w.heap.size (.cells #[.int .i64 now, .slice a n cap, .slice ta tn tcap] 27) rfl
  go_enter Tryz.func5, Tryz.ntmps5
  go_upto_region 1 with fail
  generalize w.alloc (.cells #[.int .i64 now, .slice a n cap, .slice ta tn tcap] 27) = W0 at *
  obtain ⟨⟨d0, d1, d2⟩, _⟩ := cellk3 g0
  go_wp2_with fail
  refine (HR.out _ hB0).mono ?_
  rintro e w1 ⟨⟨v, rfl, hv⟩, hb⟩
  have g1 := keepheap2 hb g0
  have hB := btrans hB0 hb
  clear g0 hB0 hb d0 d1 d2
  obtain ⟨⟨d0, d1, d2⟩, _⟩ := cellk3 g1
  rcases hv with rfl | ⟨hv0, hv1, HV⟩
  · go_wp2_with fail
    go_ret
    exact ⟨⟨_, rfl, .inl rfl⟩, hB⟩
  have hv2 : ¬ v < 0 := by omega
  go_wp2_with fail
  refine (HT.out _ hB v hv0 hv1).mono ?_
  rintro e w2 ⟨⟨u, rfl, hu⟩, hb⟩
  have hB2 := btrans hB hb
  clear hb d0 d1 d2
  rcases hu with rfl | ⟨hu0, hu1, HU⟩
  · go_wp2_with fail
    go_ret
    exact ⟨⟨_, rfl, .inl rfl⟩, hB2⟩
  · have hu2 : ¬ u < 0 := by omega
    go_wp2_with fail
    go_ret
    exact ⟨⟨_, rfl, .inr ⟨hu0, hu1, hid ⟨HV.out, HU.out⟩⟩⟩, hB2⟩
end Go.Proofs.YtnajddjalagmoaaGreatDoor
namespace Go.Proofs.YtnajddjalagmoaaGreatDoor
open Go.RowKit
set_option linter.unusedSimpArgs false
set_option linter.unusedVariables false
theorem midhC {lo hi b : Nat} {w w' : World} {o : Obj} (m : Mid lo hi w w') (g : w.heap[b]? = some o) (h : b < lo ∨ hi ≤ b) : w'.heap[b]? = some o := (m.2.2.2.2 b (lt_of_block g) h).trans g
set_option maxRecDepth 100000 in
set_option maxHeartbeats 16000000 in
theorem txncut_w (now0 : Int) (a0 : Option Addr) (cap0 : Nat) (rs0 : List Rw) (ta0 : Option Addr) (tcap0 : Nat) (ts0 : List Tx) (a1 a2 : Int) (w : World) (hl0 : rs0.length ≤ 9223372036854775807) (w0 : RwsL w a0 rs0) (htl0 : ts0.length ≤ 9223372036854775807) (wt0 : Txs (fun _ => True) 9223372036854775807 w ta0 ts0) (na nb : Addr) (hL : w.cell? ⟨0, 0, none⟩ = some (.iface 247 (.pointer (some na)))) (hLb : w.cell? ⟨2, 0, none⟩ = some (.iface 247 (.pointer (some nb)))) (hE : w.cell? ⟨3, 0, none⟩ = some (.iface 173 (.agg #[.pointer (some ⟨4, 73, none⟩)]))) : Calls Tryz.prog 4 #[.agg #[.int .i64 now0, .slice a0 rs0.length cap0, .slice ta0 ts0.length tcap0], .int .i64 a1, .int .i64 a2] w fun e w' => e = .returned (.bool true) ∧ Below w.heap.size w w' := by
  have HR0 := hid w0
  have HT0 := hid wt0
  clear w0 wt0
  obtain ⟨nr, hnr⟩ : ∃ x, x = rs0.length := ⟨_, rfl⟩
  obtain ⟨nt, hnt⟩ : ∃ x, x = ts0.length := ⟨_, rfl⟩
  have HNR := hid hnr.symm
  have HNT := hid hnt.symm
  have SZ := hid (fun (W : World) (hb : Below w.heap.size w W) => sz_store2 now0 a0 ta0 cap0 tcap0 rs0 ts0 W hl0 htl0 (HR0.out.below hb) (HT0.out.below hb))
  obtain ⟨GV, hGV⟩ : ∃ GV : Prop, GV = ((rs0.length ≤ 1048576 ∧ ∀ m (h : m < rs0.length), rs0[m].2.2.2.2.length ≤ 1048576) ∧ (txS ts0 ∧ ∀ m (h : m < ts0.length), (ts0[m].2.2.length : Int) + 1 ≤ 1048576)) := ⟨_, rfl⟩
  rw [← hGV] at SZ
  have HGV := hid hGV
  clear hGV
  rw [← hnr, ← hnt] at SZ
  rw [← hnr, ← hnt]
  clear hnr hnt
  have gT := new_alloc w w.heap.size (.cells #[.int .i64 now0, .slice a0 nr cap0, .slice ta0 nt tcap0] 27) rfl
  have hB : Below w.heap.size w (w.alloc (.cells #[.int .i64 now0, .slice a0 nr cap0, .slice ta0 nt tcap0] 27)) := balloc (Below.refl _ _) _
  go_enter Tryz.func4, Tryz.ntmps4
  go_upto_region 1 with fail
  generalize w.alloc (.cells #[.int .i64 now0, .slice a0 nr cap0, .slice ta0 nt tcap0] 27) = W0 at *
  obtain ⟨⟨d0, d1, d2⟩, _⟩ := cellk3 gT
  go_wp2_with fail
  refine (SZ.out _ hB).mono ?_
  rintro e y0 ⟨⟨v, rfl, hv⟩, hc⟩
  replace gT := keepheapA hc gT
  replace hB := btrans hB hc
  clear hc SZ d0 d1 d2
  rcases hv with rfl | ⟨hv0, hv1, HV⟩
  · go_wp2_with fail
    go_ret
    exact ⟨rfl, hB⟩
  have hv2 : ¬ v < 0 := by omega
  go_upto_region 5 with fail
  replace HV : Hid ((rs0.length ≤ 1048576 ∧ ∀ m (h : m < rs0.length), rs0[m].2.2.2.2.length ≤ 1048576) ∧ (txS ts0 ∧ ∀ m (h : m < ts0.length), (ts0[m].2.2.length : Int) + 1 ≤ 1048576)) := hid (by rw [← HGV.out]; exact HV.out)
  clear HGV
  have HVR := hid HV.out.1
  have HVT := hid HV.out.2.1
  have HP := hid (HR0.out.rws HV.out.1.2)
  have HQ := hid (HT0.out.small HV.out.2.1)
  have hm' : rs0.length ≤ 1099511627776 := by have := HV.out.1.1; omega
  have hn' : ts0.length ≤ 1099511627776 := by have := HV.out.2.1.1; omega
  have HQS : Hid (txS (ctT now0 rs0 ts0 a1 a2)) := hid (by
    unfold ctT
    split
    · exact ctX_S HV.out.2.1 (fun hm => by have := HV.out.2.2 _ hm; omega)
    · exact HV.out.2.1)
  clear HR0 HT0 HV hv0 hv1 hv2
  have CT0 := hid (fun (W : World) (hb : Below w.heap.size w W) => to_storeF now0 a0 ta0 cap0 tcap0 rs0 ts0 W hm' hn' (HP.out.below hb) (HQ.out.below hb))
  have CS0 := hid (fun (b t : Nat) (W : World) (hb : Below w.heap.size w W) (f1 : RwsS W b rs0) (f2 : Rws (fun c => b < c) W (some ⟨b, 0, none⟩) rs0) (f3 : TxsS W t ts0) (f4 : Txs (fun c => t < c) 1099511627776 W (some ⟨t, 0, none⟩) ts0) => spec_TxnCut now0 a1 a2 b t rs0 ts0 W hm' hn' (fun m hm => by have := (HVT.out.2 m hm).1; omega) f1 f2 f3 f4)
  have CJ0 := hid (fun (b t : Nat) (W : World) (hb : Below w.heap.size w W) (f1 : RwsS W b rs0) (f3 : TxsS W t ts0) => impl_TxnCut now0 a1 a2 b t rs0 ts0 W na nb hm' hn' f1 f3 (keepcell hb hL) (keepcell hb hLb) (keepcell hb hE))
  generalize ctT now0 rs0 ts0 a1 a2 = qt at *
  generalize ctN now0 rs0 ts0 a1 a2 = bn at *
  have hqm : qt.length ≤ 1099511627776 := by have := HQS.out.1; omega
  obtain ⟨nq, hnq⟩ : ∃ x, x = qt.length := ⟨_, rfl⟩
  have HNQ := hid hnq.symm
  obtain ⟨hkr, hks⟩ := kst_pos HVR.out HQS.out
  have hkn : ¬ (kst rs0 qt < 0) := by omega
  clear hkr hks
  obtain ⟨ks, hks⟩ : ∃ ks, ks = kst rs0 qt := ⟨_, rfl⟩
  have MK := hid (fun b1 u1 b2 u2 lo hi a ta cap tcap w' e1 e2 e3 e4 e6 h1 h2 => mark_storeS b1 u1 b2 u2 lo hi now0 a ta cap tcap rs0 qt w' HVR.out HQS.out e1 e2 e3 e4 e6 h1 h2)
  have HE := hid (fun a ta cap tcap w' (h1 : Rws (fun _ => True) w' a (mkr 1 rs0)) (h2 : Txs (fun _ => True) 1099511627776 w' ta (mks (kkr 1 rs0 rs0.length) qt)) => held_storeX now0 a ta cap tcap rs0 qt w' HVR.out HQS.out h1 h2)
  have EQ := hid (fun a b ta tb c d tc td w' (h1 : Rws (fun _ => True) w' a rs0) (h2 : Rws (fun _ => True) w' b rs0) (h3 : Txs (fun _ => True) 1099511627776 w' ta qt) (h4 : Txs (fun _ => True) 1099511627776 w' tb qt) => eq_store now0 a b ta tb c d tc td rs0 qt w' hm' hqm h1 h2 h3 h4)
  rw [← hks] at MK HE hkn
  rw [← hnq] at MK HE EQ
  clear hnq hks
  rw [HNR.out] at MK HE EQ CS0 CJ0
  rw [HNT.out] at CS0 CJ0
  obtain ⟨⟨d0, d1, d2⟩, _⟩ := cellk3 gT
  go_wp2_with fail
  have CTx := CT0.out _ hB
  rw [HNR.out, HNT.out] at CTx
  refine CTx.mono ?_
  rintro e yA hsf
  obtain ⟨b1, t1, hR1, he, f1, f2, f3, f4, f5, f6yA, hc⟩ := hsf
  rw [HNR.out, HNT.out] at he
  subst he
  clear CTx
  have A1 := hid f1
  have A2 := hid f2
  have A3 := hid f3
  have A4 := hid f4
  have A5 := hid f5
  replace gT := keepheapA hc gT
  replace hB := btrans hB hc
  have hzyA := hc.size
  clear hc f1 f2 f3 f4 f5 d0 d1 d2
  go_wp2_with fail
  refine (CS0.out b1 t1 _ hB A1.out A2.out A3.out A4.out).mono ?_
  rintro e yB hss
  obtain ⟨sa, sc, sta, stc, he, hso, hst, hc⟩ := hss
  rw [HNR.out, HNQ.out] at he
  subst he
  have S0' := hid hso
  have S1' := hid hst
  replace gT := keepheapA hc gT
  replace A1 := hid (A1.out.below hc)
  replace A2 := hid (A2.out.below hc)
  replace A3 := hid (A3.out.below hc)
  replace A4 := hid (A4.out.below hc)
  replace A5 := hid (A5.out.below hc)
  replace hB := btrans hB hc
  have hzyB := hc.size
  clear hc hso hst A1 A2 A3 A4 A5
  go_upto_region 6 with fail
  have hal : Below yB.heap.size yB (yB.alloc (.cells #[.int .i64 now0, .slice sa nr sc, .slice sta nq stc] 38)) := balloc (Below.refl _ _) _
  have gNew := new_alloc yB yB.heap.size (.cells #[.int .i64 now0, .slice sa nr sc, .slice sta nq stc] 38) rfl
  have hsa : (yB.alloc (.cells #[.int .i64 now0, .slice sa nr sc, .slice sta nq stc] 38)).heap.size = yB.heap.size + 1 := by simp
  have hsa1 := Nat.le_of_eq hsa
  have hsa2 := Nat.le_of_eq hsa.symm
  clear hsa
  replace gT := keepheapA hal gT
  replace S0' := hid (S0'.out.below hal)
  replace S1' := hid (S1'.out.below hal)
  replace hB := btrans hB hal
  clear hal
  generalize yB.alloc (.cells #[.int .i64 now0, .slice sa nr sc, .slice sta nq stc] 38) = z at *
  generalize yB.heap.size = xb at *
  have gA := gNew
  have hxba := hsa1
  have hxbb := hsa2
  clear gNew hsa1 hsa2
  have S00 := hid S0'.out
  have ST00 := hid S1'.out
  have HBS : Hid (BS z z) := hid (Below.refl _ _)
  clear S0' S1'
  have hAl := lt_of_block gA
  have hTl := lt_of_block gT
  obtain ⟨⟨d0, d1, d2⟩, _⟩ := cellk3 gT
  go_wp2_with fail
  have CTx := CT0.out _ hB
  rw [HNR.out, HNT.out] at CTx
  refine CTx.mono ?_
  rintro e y3 hsf
  obtain ⟨b3, t3, hR3, he, f1, f2, f3, f4, f5, f6y3, hc⟩ := hsf
  rw [HNR.out, HNT.out] at he
  subst he
  clear CTx
  have R1 := hid f1
  have R2 := hid f2
  have R3 := hid f3
  have R4 := hid f4
  have R5 := hid f5
  replace gT := keepheapA hc gT
  replace gA := keepheapA hc gA
  replace hB := btrans hB hc
  replace HBS := hid (btrans HBS.out hc)
  have hzy3 := hc.size
  clear hc f1 f2 f3 f4 f5 d0 d1 d2
  have hi3 := R5.out.2.2.1
  have hi3b := R5.out.1
  have hi3c := R5.out.2.1
  go_upto_region 7 with fail
  have hal : Below y3.heap.size y3 (y3.alloc (.cells #[.int .i64 now0, .slice (some ⟨b3, 0, none⟩) nr nr, .slice (some ⟨t3, 0, none⟩) nt nt] 38)) := balloc (Below.refl _ _) _
  have gNew := new_alloc y3 y3.heap.size (.cells #[.int .i64 now0, .slice (some ⟨b3, 0, none⟩) nr nr, .slice (some ⟨t3, 0, none⟩) nt nt] 38) rfl
  have hsa : (y3.alloc (.cells #[.int .i64 now0, .slice (some ⟨b3, 0, none⟩) nr nr, .slice (some ⟨t3, 0, none⟩) nt nt] 38)).heap.size = y3.heap.size + 1 := by simp
  have hsa1 := Nat.le_of_eq hsa
  have hsa2 := Nat.le_of_eq hsa.symm
  clear hsa
  replace gT := keepheapA hal gT
  replace gA := keepheapA hal gA
  replace R1 := hid (R1.out.below hal)
  replace R2 := hid (R2.out.below hal)
  replace R3 := hid (R3.out.below hal)
  replace R4 := hid (R4.out.below hal)
  replace R5 := hid (R5.out.below hal)
  replace hB := btrans hB hal
  replace HBS := hid (btrans HBS.out hal)
  clear hal
  generalize y3.alloc (.cells #[.int .i64 now0, .slice (some ⟨b3, 0, none⟩) nr nr, .slice (some ⟨t3, 0, none⟩) nt nt] 38) = z3 at *
  generalize y3.heap.size = x3 at *
  have gX := gNew
  have hx3a := hsa1
  have hx3b := hsa2
  clear gNew hsa1 hsa2
  obtain ⟨⟨d0, d1, d2⟩, _⟩ := cellk3 gX
  go_wp2_with fail
  refine (CJ0.out b3 t3 _ hB R1.out R3.out).mono ?_
  rintro e y5 hsb
  obtain ⟨ga, gc, gta, gtc, p1, v1, p2, v2, he, g1x, g2x, hp1, hp2, hc⟩ := hsb
  rw [HNR.out, HNQ.out] at he
  subst he
  rw [HNR.out] at g1x
  rw [HNQ.out] at g2x
  have G1 := hid g1x
  have G2 := hid g2x
  replace gT := keepheapA hc gT
  replace gA := keepheapA hc gA
  replace gX := keepheapA hc gX
  replace R1 := hid (R1.out.below hc)
  replace R2 := hid (R2.out.below hc)
  replace R3 := hid (R3.out.below hc)
  replace R4 := hid (R4.out.below hc)
  replace R5 := hid (R5.out.below hc)
  replace hB := btrans hB hc
  replace HBS := hid (btrans HBS.out hc)
  have hzy5 := hc.size
  have hv1 := g1x.1
  have hv2 := g2x.1
  clear hc g1x g2x d0 d1 d2
  go_upto_region 8 with fail
  have hal : Below y5.heap.size y5 (y5.alloc (.cells #[.int .i64 now0, .slice ga nr gc, .slice gta nq gtc] 38)) := balloc (Below.refl _ _) _
  have gNew := new_alloc y5 y5.heap.size (.cells #[.int .i64 now0, .slice ga nr gc, .slice gta nq gtc] 38) rfl
  have hsa : (y5.alloc (.cells #[.int .i64 now0, .slice ga nr gc, .slice gta nq gtc] 38)).heap.size = y5.heap.size + 1 := by simp
  have hsa1 := Nat.le_of_eq hsa
  have hsa2 := Nat.le_of_eq hsa.symm
  clear hsa
  replace gT := keepheapA hal gT
  replace gA := keepheapA hal gA
  replace gX := keepheapA hal gX
  replace R1 := hid (R1.out.below hal)
  replace R2 := hid (R2.out.below hal)
  replace R3 := hid (R3.out.below hal)
  replace R4 := hid (R4.out.below hal)
  replace R5 := hid (R5.out.below hal)
  replace G1 := hid (G1.out.below hal)
  replace G2 := hid (G2.out.below hal)
  replace hB := btrans hB hal
  replace HBS := hid (btrans HBS.out hal)
  clear hal
  generalize y5.alloc (.cells #[.int .i64 now0, .slice ga nr gc, .slice gta nq gtc] 38) = z5 at *
  generalize y5.heap.size = x5 at *
  have gG := gNew
  have hx5a := hsa1
  have hx5b := hsa2
  clear gNew hsa1 hsa2
  obtain ⟨⟨d0, d1, d2⟩, _⟩ := cellk3 gG
  obtain ⟨⟨e0, e1, e2⟩, _⟩ := cellk3 gA
  go_wp2_with fail
  refine (EQ.out ga sa gta sta gc sc gtc stc _ (by have := G1.out.rws; exact this) (S00.out.below HBS.out) (by have := Txs.any (G2.out.txs (txS_L HQS.out)); exact this) (ST00.out.below HBS.out)).mono ?_
  rintro e y6 ⟨rfl, hc⟩
  replace gT := keepheapA hc gT
  replace gA := keepheapA hc gA
  replace gX := keepheapA hc gX
  replace gG := keepheapA hc gG
  replace R1 := hid (R1.out.below hc)
  replace R2 := hid (R2.out.below hc)
  replace R3 := hid (R3.out.below hc)
  replace R4 := hid (R4.out.below hc)
  replace R5 := hid (R5.out.below hc)
  replace G1 := hid (G1.out.below hc)
  replace G2 := hid (G2.out.below hc)
  replace hB := btrans hB hc
  replace HBS := hid (btrans HBS.out hc)
  have hzy6 := hc.size
  clear hc d0 d1 d2 e0 e1 e2
  go_upto_region 10 with fail
  refine wp_region_held_drew (S := fun w' => w'.heap[x3]? = some (.cells #[.int .i64 now0, .slice (some ⟨b3, 0, none⟩) nr nr, .slice (some ⟨t3, 0, none⟩) nt nt] 38 (0, 0)) ∧ w'.heap[w.heap.size]? = some (.cells #[.int .i64 now0, .slice a0 nr cap0, .slice ta0 nt tcap0] 27 (0, 0))) (by kernel_rfl) ⟨gX, gT⟩ (fun hHeld => ?_)
  have hc : Below y6.heap.size y6 y6.drew := bdrew (Below.refl _ _)
  replace gT := keepheapA hc gT
  replace gA := keepheapA hc gA
  replace gX := keepheapA hc gX
  replace gG := keepheapA hc gG
  replace R1 := hid (R1.out.below hc)
  replace R2 := hid (R2.out.below hc)
  replace R3 := hid (R3.out.below hc)
  replace R4 := hid (R4.out.below hc)
  replace R5 := hid (R5.out.below hc)
  replace G1 := hid (G1.out.below hc)
  replace G2 := hid (G2.out.below hc)
  replace hB := btrans hB hc
  replace HBS := hid (btrans HBS.out hc)
  clear hc
  generalize y6.drew = XX at *
  refine wpAnyH_take (i := 0) (v := ?_) rfl (by kernel_rfl) (by kernel_rfl) (by kernel_rfl) (fun _ _ _ h => h) (Or.inl ⟨by rfl, ?_⟩) hHeld ?_
  rotate_left
  · intro w' hSw; (try dsimp only at hSw); obtain ⟨⟨_, _, _⟩, _⟩ := cellk3 hSw.1; go_simp; try (with_reducible rfl)
  try simp only [sq]
  refine wpAnyH_take (i := 1) (v := ?_) rfl (by kernel_rfl) (by kernel_rfl) (by kernel_rfl) (fun _ _ _ h => h) (Or.inl ⟨by rfl, ?_⟩) hHeld ?_
  rotate_left
  · intro w' hSw; (try dsimp only at hSw); obtain ⟨⟨_, _, _⟩, _⟩ := cellk3 hSw.2; go_simp; try (with_reducible rfl)
  try simp only [sq]
  refine wpAnyH_ready (rs := [2]) (by kernel_rfl) (by simp) ?_
  refine AllReadyH.cons rfl (fun K hK => ?_) AllReadyH.nil
  try simp only [sq]
  go_simp
  go_at_call 8
  have CTx := CT0.out _ hB
  rw [HNR.out, HNT.out] at CTx
  refine CTx.mono ?_
  rintro e m1 hsf
  obtain ⟨b', t', hR', he, f1, f2, f3, f4, f5, f6, hc⟩ := hsf
  rw [HNR.out, HNT.out] at he
  subst he
  have T1 := hid f2
  have T2 := hid f4
  clear CTx f1 f2 f3 f4 f5
  replace gT := keepheapA hc gT
  replace gA := keepheapA hc gA
  replace gX := keepheapA hc gX
  replace gG := keepheapA hc gG
  replace R1 := hid (R1.out.below hc)
  replace R2 := hid (R2.out.below hc)
  replace R3 := hid (R3.out.below hc)
  replace R4 := hid (R4.out.below hc)
  replace R5 := hid (R5.out.below hc)
  replace G1 := hid (G1.out.below hc)
  replace G2 := hid (G2.out.below hc)
  replace hB := btrans hB hc
  replace HBS := hid (btrans HBS.out hc)
  go_wp2_with fail
  refine hK.out _ _ ?_ (fun hHeld => ?_)
  · exact ⟨keepheapA hc hHeld.1, keepheapA hc hHeld.2⟩
  clear hK K hc
  try simp only [sq]
  refine wpAnyH_ready (rs := [3]) (by kernel_rfl) (by simp) ?_
  refine AllReadyH.cons rfl (fun K hK => ?_) AllReadyH.nil
  try simp only [sq]
  go_simp
  go_at_call 11
  have EQx := eq_store now0 _ _ _ _ nr nr nt nt rs0 ts0 _ hm' hn' R2.out T1.out R4.out T2.out
  rw [HNR.out, HNT.out] at EQx
  refine EQx.mono ?_
  rintro e m2 ⟨rfl, hc⟩
  clear EQx T1 T2
  replace gT := keepheapA hc gT
  replace gA := keepheapA hc gA
  replace gX := keepheapA hc gX
  replace gG := keepheapA hc gG
  replace R1 := hid (R1.out.below hc)
  replace R2 := hid (R2.out.below hc)
  replace R3 := hid (R3.out.below hc)
  replace R4 := hid (R4.out.below hc)
  replace R5 := hid (R5.out.below hc)
  replace G1 := hid (G1.out.below hc)
  replace G2 := hid (G2.out.below hc)
  replace hB := btrans hB hc
  replace HBS := hid (btrans HBS.out hc)
  go_wp2_with fail
  refine hK.out _ _ ?_ (fun hHeld => ?_)
  · exact ⟨keepheapA hc hHeld.1, keepheapA hc hHeld.2⟩
  clear hK K hc
  try simp only [sq]
  refine wpAnyH_take (i := 4) (v := ?_) rfl (by kernel_rfl) (by kernel_rfl) (by kernel_rfl) (fun _ _ _ h => h) (Or.inl ⟨by rfl, ?_⟩) hHeld ?_
  rotate_left
  · intro w' hSw; (try dsimp only at hSw); go_simp; try (with_reducible rfl)
  try simp only [sq]
  refine wpAnyH_done (by kernel_rfl) ?_ _
  clear hHeld
  go_upto_region 13 with fail
  obtain ⟨⟨d0, d1, d2⟩, _⟩ := cellk3 gX
  go_wp2_with fail
  obtain ⟨s1, s2, s3, s4, s5, s6, s7⟩ := R5.out
  have MS := mark_store2 b3 x3 hR3 b3 t3 now0 rs0 ts0 m2 (Nat.le_refl _) s1 s2 s3 s4 HVR.out.1 HVR.out.2 HVT.out s5 s6 s7
  rw [HNR.out, HNT.out] at MS
  refine MS.mono ?_
  rintro e k1 ⟨⟨kv, rfl, hkv0, hkv1⟩, hmid⟩
  clear s5 s6 s7 MS d0 d1 d2
  have hG1 := G1.out.1
  have hG2 := G2.out.1
  have hk0 : ¬ kv < 0 := by omega
  replace gT := midhC hmid gT (by omega)
  replace gA := midhC hmid gA (by omega)
  replace gG := midhC hmid gG (by omega)
  replace hB := mid_B hB hmid (by omega) hB.size
  replace HBS := hid (bs_mid HBS.out hmid (show z.heap.size ≤ b3 by omega))
  replace G1 := hid (G1.out.frame (fun b q1 q2 => hmid.2.2.2.2 b (by omega) (by omega)) hmid.2.2.2.1)
  replace G2 := hid (G2.out.frame (fun b q1 q2 q3 => hmid.2.2.2.2 b (by omega) (by omega)) hmid.2.2.2.1)
  have hzk1 := hmid.2.2.2.1
  clear hmid gX R1 R2 R3 R4 R5 hG1 hG2
  obtain ⟨⟨d0, d1, d2⟩, _⟩ := cellk3 gG
  obtain ⟨⟨e0, e1, e2⟩, _⟩ := cellk3 gA
  go_wp2_with fail
  refine (EQ.out ga sa gta sta gc sc gtc stc _ (by have := G1.out.rws; exact this) (S00.out.below HBS.out) (by have := Txs.any (G2.out.txs (txS_L HQS.out)); exact this) (ST00.out.below HBS.out)).mono ?_
  rintro e y7 ⟨rfl, hc⟩
  replace gT := keepheapA hc gT
  replace gA := keepheapA hc gA
  replace gG := keepheapA hc gG
  replace G1 := hid (G1.out.below hc)
  replace G2 := hid (G2.out.below hc)
  replace hB := btrans hB hc
  replace HBS := hid (btrans HBS.out hc)
  have hzy7 := hc.size
  clear hc d0 d1 d2 e0 e1 e2
  go_upto_region 17 with fail
  obtain ⟨⟨d0, d1, d2⟩, _⟩ := cellk3 gG
  go_wp2_with fail
  refine (MK.out p1 v1 p2 v2 (x3 + 1) x5 ga gta gc gtc _ (by omega) (by omega) (by omega) (by omega) (by have := lt_of_block gG; omega) G1.out G2.out).mono ?_
  rintro e k3 ⟨rfl, hmo, hmt, hmid⟩
  clear d0 d1 d2 G1 G2
  replace gT := midhC hmid gT (by omega)
  replace gA := midhC hmid gA (by omega)
  replace gG := midhC hmid gG (by omega)
  replace hB := mid_B hB hmid (by omega) hB.size
  replace HBS := hid (bs_mid HBS.out hmid (show z.heap.size ≤ x3 + 1 by omega))
  have hzk3 := hmid.2.2.2.1
  have G1 : Hid (Rws (fun _ => True) k3 ga (mkr 1 rs0)) := hid (by have := hmo.rws; exact this)
  have G2 : Hid (Txs (fun _ => True) 1099511627776 k3 gta (mks (kkr 1 rs0 nr) qt)) := hid (Txs.any (LTS.txs hmt (mks_L HQS.out)))
  clear hmid hmo hmt MK
  go_upto_region 19 with fail
  obtain ⟨⟨d0, d1, d2⟩, _⟩ := cellk3 gG
  go_wp2_with fail
  refine (HE.out ga gta gc gtc _ G1.out G2.out).mono ?_
  rintro e y8 ⟨rfl, hc⟩
  replace gT := keepheapA hc gT
  replace gA := keepheapA hc gA
  replace gG := keepheapA hc gG
  replace G1 := hid (G1.out.below hc)
  replace G2 := hid (G2.out.below hc)
  replace hB := btrans hB hc
  replace HBS := hid (btrans HBS.out hc)
  have hzy8 := hc.size
  clear hc d0 d1 d2
  go_upto_region 24 with fail
  obtain ⟨⟨d0, d1, d2⟩, _⟩ := cellk3 gT
  go_wp2_with fail
  have CTx := CT0.out _ hB
  rw [HNR.out, HNT.out] at CTx
  refine CTx.mono ?_
  rintro e y9 hsf
  obtain ⟨b9, t9, hR9, he, f1, f2, f3, f4, f5, f6y9, hc⟩ := hsf
  rw [HNR.out, HNT.out] at he
  subst he
  clear CTx
  have B1 := hid f1
  have B2 := hid f2
  have B3 := hid f3
  have B4 := hid f4
  have B5 := hid f5
  replace gT := keepheapA hc gT
  replace gA := keepheapA hc gA
  replace gG := keepheapA hc gG
  replace G1 := hid (G1.out.below hc)
  replace G2 := hid (G2.out.below hc)
  replace hB := btrans hB hc
  replace HBS := hid (btrans HBS.out hc)
  have hzy9 := hc.size
  clear hc f1 f2 f3 f4 f5 d0 d1 d2
  go_wp2_with fail
  refine (CJ0.out b9 t9 _ hB B1.out B3.out).mono ?_
  rintro e yC hsb
  obtain ⟨ha, hcp, hta, htc, p1', v1', p2', v2', he, g1x, g2x, hp1', hp2', hc⟩ := hsb
  rw [HNR.out, HNQ.out] at he
  subst he
  have H0 : Hid (Rws (fun _ => True) yC ha rs0) := hid (by have := g1x.rws; exact this)
  have H1 : Hid (Txs (fun _ => True) 1099511627776 yC hta qt) := hid (by have := Txs.any (g2x.txs (txS_L HQS.out)); exact this)
  replace gT := keepheapA hc gT
  replace gA := keepheapA hc gA
  replace gG := keepheapA hc gG
  replace G1 := hid (G1.out.below hc)
  replace G2 := hid (G2.out.below hc)
  replace B1 := hid (B1.out.below hc)
  replace B2 := hid (B2.out.below hc)
  replace B3 := hid (B3.out.below hc)
  replace B4 := hid (B4.out.below hc)
  replace B5 := hid (B5.out.below hc)
  replace hB := btrans hB hc
  replace HBS := hid (btrans HBS.out hc)
  clear hc g1x g2x B1 B2 B3 B4 B5
  go_upto_region 25 with fail
  have hal : Below yC.heap.size yC (yC.alloc (.cells #[.int .i64 now0, .slice ha nr hcp, .slice hta nq htc] 38)) := balloc (Below.refl _ _) _
  have gNew := new_alloc yC yC.heap.size (.cells #[.int .i64 now0, .slice ha nr hcp, .slice hta nq htc] 38) rfl
  have hsa : (yC.alloc (.cells #[.int .i64 now0, .slice ha nr hcp, .slice hta nq htc] 38)).heap.size = yC.heap.size + 1 := by simp
  have hsa1 := Nat.le_of_eq hsa
  have hsa2 := Nat.le_of_eq hsa.symm
  clear hsa
  replace gT := keepheapA hal gT
  replace gA := keepheapA hal gA
  replace gG := keepheapA hal gG
  replace G1 := hid (G1.out.below hal)
  replace G2 := hid (G2.out.below hal)
  replace H0 := hid (H0.out.below hal)
  replace H1 := hid (H1.out.below hal)
  replace hB := btrans hB hal
  replace HBS := hid (btrans HBS.out hal)
  clear hal
  generalize yC.alloc (.cells #[.int .i64 now0, .slice ha nr hcp, .slice hta nq htc] 38) = z9 at *
  generalize yC.heap.size = x9 at *
  have gH := gNew
  have hx9a := hsa1
  have hx9b := hsa2
  clear gNew hsa1 hsa2
  obtain ⟨⟨d0, d1, d2⟩, _⟩ := cellk3 gH
  obtain ⟨⟨e0, e1, e2⟩, _⟩ := cellk3 gA
  go_wp2_with fail
  refine (EQ.out ha sa hta sta hcp sc htc stc _ H0.out (S00.out.below HBS.out) H1.out (ST00.out.below HBS.out)).mono ?_
  rintro e yD ⟨rfl, hc⟩
  replace gT := keepheapA hc gT
  replace gA := keepheapA hc gA
  replace gG := keepheapA hc gG
  replace gH := keepheapA hc gH
  replace G1 := hid (G1.out.below hc)
  replace G2 := hid (G2.out.below hc)
  replace H0 := hid (H0.out.below hc)
  replace H1 := hid (H1.out.below hc)
  replace hB := btrans hB hc
  replace HBS := hid (btrans HBS.out hc)
  clear hc d0 d1 d2 e0 e1 e2
  go_upto_region 28 with fail
  obtain ⟨⟨d0, d1, d2⟩, _⟩ := cellk3 gG
  go_wp2_with fail
  refine (HE.out ga gta gc gtc _ G1.out G2.out).mono ?_
  rintro e yE ⟨rfl, hc⟩
  replace hB := btrans hB hc
  clear hc d0 d1 d2
  go_wp2_with fail
  go_ret
  exact ⟨rfl, hB⟩
end Go.Proofs.YtnajddjalagmoaaGreatDoor
