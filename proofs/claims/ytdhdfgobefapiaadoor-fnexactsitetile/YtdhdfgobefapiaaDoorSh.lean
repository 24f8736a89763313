/- A store whose lists may be written into. -/
import Derived.Test.YtdhdfgobefapiaaDoorSg
import Derived.Test.YtdhdfgobefapiaaDoorSh0
namespace Go.Proofs.YtdhdfgobefapiaaDoor
open Go.RowKit
set_option linter.unusedSimpArgs false
set_option linter.unusedVariables false
theorem putO_ch {hi : Nat} {w : World} {B k n b : Nat} {x : Ch} (ht : w.there B 0 (n * 4)) (hk : k < n) (hb : B < b) (hbh : b < hi) (ho : w.there b 0 (x.2.2.2.length * 2)) (u0 u1 u2 : Value) :
    ChO hi ((((w.setCell ⟨B, k * 4, none⟩ u0).setCell ⟨B, k * 4 + 1, none⟩ u1).setCell ⟨B, k * 4 + 2, none⟩ u2).setCell ⟨B, k * 4 + 3, none⟩ (.slice (some ⟨b, 0, none⟩) x.2.2.2.length x.2.2.2.length)) B (k * 4) x := by
  obtain ⟨v, hv, _⟩ := there_at (there_set (there_set (there_set ht u0 (p := B) (k := k * 4)) u1 (p := B) (k := k * 4 + 1)) u2 (p := B) (k := k * 4 + 2)) (show k * 4 + 3 < n * 4 by omega)
  exact ⟨b, World.cell?_setCell_same _ _ _ hv, hb, hbh, there_set (there_set (there_set (there_set ho _) _) _) _⟩
theorem putO_tx {hi : Nat} {w : World} {B k n b : Nat} {x : Tx} (ht : w.there B 0 (n * 3)) (hk : k < n) (hb : B < b) (hbh : b < hi) (ho : ChsO hi w b x.2.2) (u0 u1 : Value) :
    TxO hi (((w.setCell ⟨B, k * 3, none⟩ u0).setCell ⟨B, k * 3 + 1, none⟩ u1).setCell ⟨B, k * 3 + 2, none⟩ (.slice (some ⟨b, 0, none⟩) x.2.2.length x.2.2.length)) B (k * 3) x b := by
  obtain ⟨v, hv, _⟩ := there_at (there_set (there_set ht u0 (p := B) (k := k * 3)) u1 (p := B) (k := k * 3 + 1)) (show k * 3 + 2 < n * 3 by omega)
  exact ⟨World.cell?_setCell_same _ _ _ hv, hb, hbh, ((ho.set (by omega) _).set (by omega) _).set (by omega) _⟩
set_option maxHeartbeats 2000000 in
theorem to_chsO {N : Nat → Prop} (a : Option Addr) (cap : Nat) (xs : List Ch) (w : World) (hm : xs.length ≤ 1099511627776) (h : Chs N 1099511627776 w a xs) : Calls Tryd.prog 54 #[.slice a xs.length cap] w fun e w' => ∃ B, e = .returned (.slice (some ⟨B, 0, none⟩) xs.length xs.length) ∧ w.heap.size ≤ B ∧ (B < w'.heap.size ∧ ChsAt (fun c => B < c) 1099511627776 w' B 0 xs) ∧ ChsO w'.heap.size w' B xs ∧ Below w.heap.size w w' := by
  have HR := hid h
  clear h
  have hmk := make_chs xs.length hm
  obtain ⟨n, hn⟩ : ∃ n, n = xs.length := ⟨_, rfl⟩
  have HN := hid hn.symm
  rw [← hn] at hmk hm ⊢
  clear hn
  go_enter Tryd.func54, Tryd.ntmps54
  go_wp2_with fail
  have hB : Below w.heap.size w (w.alloc (.cells (madeCells #[.int .i64 0, .bool false, .int .i64 0, .slice none 0 0] (n * 4)) 128)) := balloc (Below.refl _ _) _
  have hT := made_ownch w n
  have hl : w.heap.size < (w.alloc (.cells (madeCells #[.int .i64 0, .bool false, .int .i64 0, .slice none 0 0] (n * 4)) 128)).heap.size := by simp
  generalize w.alloc (.cells (madeCells #[.int .i64 0, .bool false, .int .i64 0, .slice none 0 0] (n * 4)) 128) = W at *
  clear hmk
  go_loopw [4] (fun ti wr => ∃ j : Nat, ti = .int .i64 j ∧ j ≤ n ∧ Hid (w.heap.size < wr.heap.size) ∧ Hid (∀ i (hi : i < xs.length), i < j → ChAt (fun c => w.heap.size < c) 1099511627776 wr w.heap.size (i * 4) xs[i]) ∧ Hid (wr.there w.heap.size 0 (n * 4)) ∧ Hid (∀ i (hi : i < xs.length), i < j → ChO wr.heap.size wr w.heap.size (i * 4) xs[i]) ∧ Hid (Below w.heap.size w wr)) (fun ti _ => n - (intOf ti).toNat)
  case atStart => exact ⟨0, rfl, Nat.zero_le _, hid hl, hid (fun i hi h => absurd h (by omega)), hid hT, hid (fun i hi h => absurd h (by omega)), hid hB⟩
  case round =>
    clear hB hT hl
    obtain ⟨j, rfl, hj, HL, HP, HT, HOW, HBW⟩ := hrel
    by_cases hlt : j < n
    · have c1 : (j : Int) < (n : Int) := by omega
      have hjr : j < xs.length := by rw [HN.out]; exact hlt
      obtain ⟨b, o, rfl, hbs, hr⟩ := (HR.out.below HBW.out).at j hjr
      obtain ⟨a', cap', k0, k1, k2, q1, q2, q3, q4, q5⟩ := hr
      have TR := hid (to_ch (N := N) xs[j] a' cap' wr q3 q2 q4)
      have HPR := hid (fun (W : World) (bb : Nat) => put_ch (w := W) (B := w.heap.size) (k := j) (n := n) (b := bb) (xs := xs) hjr HN.out)
      have HK6 := hid q3
      have HLN : Hid (∀ (X : World) (hX : ∀ i (hi : i < xs.length), i < j → ChO X.heap.size X w.heap.size (i * 4) xs[i]) (hY : ChO X.heap.size X w.heap.size (j * 4) xs[j]), ∀ i (hi : i < xs.length), i < j + 1 → ChO X.heap.size X w.heap.size (i * 4) xs[i]) := hid (fun X hX hY i hi h => by
        by_cases e : i = j
        · subst e; exact hY
        · exact hX i hi (by omega))
      have HPO := hid (fun (W : World) (bb : Nat) (hbb : w.heap.size < bb) (hbh : bb < W.heap.size) (hT : W.there w.heap.size 0 (n * 4)) (ho : W.there bb 0 (xs[j].2.2.2.length * 2)) => putO_ch (hi := W.heap.size) (x := xs[j]) hT hlt hbb hbh ho)
      unfold chv at TR
      clear q2 q3 q4 q5
      generalize xs[j].1 = id at *
      generalize xs[j].2.1 = go at *
      generalize xs[j].2.2.1 = kd at *
      generalize xs[j].2.2.2 = inn at *
      go_wp2_with fail
      refine TR.out.mono ?_
      rintro e w1 ⟨bb, rfl, hbb, ho, hb1⟩
      have hP := fun i (hi : i < xs.length) (h : i < j) => (HP.out i hi h).below hb1
      have hT := there_below HT.out HL.out hb1
      have hB := btrans HBW.out hb1
      have hL : w.heap.size < w1.heap.size := Nat.lt_of_lt_of_le HL.out hb1.size
      have hbl : w.heap.size < bb := Nat.lt_of_lt_of_le HL.out hbb
      have HPUT := hid (HPR.out w1 bb hP hT hbl HK6.out ho)
      have HOLD := hid (fun i (hi : i < xs.length) (h : i < j) => ((HOW.out i hi h).below (Nat.le_refl _) hb1).mono hb1.size)
      have HNEW := hid (HPO.out w1 bb hbl ho.1 hT ho.2.2)
      have q := fun i (hi : i < n * 4) => hT i hi
      obtain ⟨v0, s0, r0⟩ := there_at hT (show j * 4 < n * 4 by omega)
      obtain ⟨v1, s1, r1⟩ := there_at hT (show j * 4 + 1 < n * 4 by omega)
      obtain ⟨v2, s2, r2⟩ := there_at hT (show j * 4 + 2 < n * 4 by omega)
      obtain ⟨v3, s3, r3⟩ := there_at hT (show j * 4 + 3 < n * 4 by omega)
      clear q hP HPR HPO hb1 ho TR
      have HL1 := hid hL
      have HB1 := hid hB
      clear hT
      go_wp2_with fail
      go_roundw
      case rel => exact ⟨j + 1, by go_num, by omega, hid (by simpa using hL), hid HPUT.out.1, hid HPUT.out.2, hid (HLN.out _ (fun i hi h => by simpa using (((((HOLD.out i hi h).set (.inr (by omega)) _).set (.inr (by omega)) _).set (.inr (by omega)) _).set (.inr (by omega)) _)) (by simpa using HNEW.out _ _ _)), hid ((bset (bset (bset (bset hB (by omega) _) (by omega) _) (by omega) _) (by omega) _))⟩
      case measure => simp [intOf]; omega
    · obtain rfl : n = j := by omega
      have c1 : (n : Int) ≤ (n : Int) := by omega
      go_wp2_with fail
      go_ret
      exact ⟨w.heap.size, rfl, Nat.le_refl _, ⟨HL.out, fun i hi => by have := HP.out i hi (by rw [HN.out] at hi; exact hi); simpa using this⟩, ⟨by rw [HN.out]; exact HT.out, fun i hi => HOW.out i hi (by rw [HN.out] at hi; exact hi)⟩, HBW.out⟩
set_option maxHeartbeats 2000000 in
theorem to_txO {N : Nat → Prop} (x : Tx) (a : Option Addr) (cap : Nat) (w : World) (hm : x.2.2.length ≤ 1099511627776) (hc : x.2.2.length ≤ cap) (h : Chs N 1099511627776 w a x.2.2) : Calls Tryd.prog 47 #[txv x a cap] w fun e w' => ∃ b, e = .returned (txv x (some ⟨b, 0, none⟩) x.2.2.length) ∧ w.heap.size ≤ b ∧ (b < w'.heap.size ∧ ChsAt (fun c => b < c) 1099511627776 w' b 0 x.2.2) ∧ ChsO w'.heap.size w' b x.2.2 ∧ Below w.heap.size w w' := by
  obtain ⟨st, op, cs⟩ := x
  unfold txv
  simp only at *
  have TS := hid (fun (W : World) (hb : Below w.heap.size w W) => to_chsO a cap cs W hm (h.below hb))
  clear h
  generalize hn : cs.length = n at *
  have HN := hid hn
  clear hn
  go_enter Tryd.func47, Tryd.ntmps47
  go_wp2_with fail
  have hB0 : Below w.heap.size w (((w.alloc (.cells #[.int .i64 st, .bool op, .slice a n cap] 94)).alloc (.cells #[.int .i64 0, .bool false, .slice none 0 0] 98)).alloc (.cells #[.int .i64 st, .bool op, .slice none 0 0] 98)) := balloc (balloc (balloc (Below.refl _ _) _) _) _
  have g2 := old_alloc (o' := .cells #[.int .i64 st, .bool op, .slice none 0 0] 98) (new_alloc (w.alloc (.cells #[.int .i64 st, .bool op, .slice a n cap] 94)) (w.heap.size + 1) (.cells #[.int .i64 0, .bool false, .slice none 0 0] 98) (by simp))
  have g3 := new_alloc ((w.alloc (.cells #[.int .i64 st, .bool op, .slice a n cap] 94)).alloc (.cells #[.int .i64 0, .bool false, .slice none 0 0] 98)) (w.heap.size + 1 + 1) (.cells #[.int .i64 st, .bool op, .slice none 0 0] 98) (by simp)
  generalize ((w.alloc (.cells #[.int .i64 st, .bool op, .slice a n cap] 94)).alloc (.cells #[.int .i64 0, .bool false, .slice none 0 0] 98)).alloc (.cells #[.int .i64 st, .bool op, .slice none 0 0] 98) = W at *
  have hlW := lt_of_block g3
  refine (TS.out _ hB0).mono ?_
  rintro e w1 ⟨b, rfl, hbb, ho, hoo, hb1⟩
  replace g2 := keepheap2 hb1 g2
  replace g3 := keepheap2 hb1 g3
  have hB := btrans hB0 hb1
  have HO := hid ho
  have HOO := hid hoo
  clear hb1 hB0 ho hoo
  obtain ⟨⟨x0, x1, x2⟩, xf0, xf1, xf2⟩ := cellk3 g2
  obtain ⟨⟨y0, y1, y2⟩, yf0, yf1, yf2⟩ := cellk3 g3
  go_wp2_with fail
  have gF := setk3 (set_far (q := w.heap.size + 1 + 1) (k := 2) (u := .slice (some ⟨b, 0, none⟩) n n) g2 (by omega)) (.int .i64 st) (.bool op) (.slice (some ⟨b, 0, none⟩) n n)
  have bF := (bset (bset (bset (bset hB (q := w.heap.size + 1 + 1) (k := 2) (by omega) (.slice (some ⟨b, 0, none⟩) n n)) (q := w.heap.size + 1) (k := 0) (by omega) (.int .i64 st)) (q := w.heap.size + 1) (k := 1) (by omega) (.bool op)) (q := w.heap.size + 1) (k := 2) (by omega) (.slice (some ⟨b, 0, none⟩) n n))
  have hfar : ∀ c, w.heap.size + 1 + 1 < c → ((((w1.setCell ⟨w.heap.size + 1 + 1, 2, none⟩ (.slice (some ⟨b, 0, none⟩) n n)).setCell ⟨w.heap.size + 1, 0, none⟩ (.int .i64 st)).setCell ⟨w.heap.size + 1, 1, none⟩ (.bool op)).setCell ⟨w.heap.size + 1, 2, none⟩ (.slice (some ⟨b, 0, none⟩) n n)).heap[c]? = w1.heap[c]? := fun c hc => by rw [Below.heap_setCell _ _ _ _ (by dsimp only; omega), Below.heap_setCell _ _ _ _ (by dsimp only; omega), Below.heap_setCell _ _ _ _ (by dsimp only; omega), Below.heap_setCell _ _ _ _ (by dsimp only; omega)]
  have hsz : w1.heap.size ≤ ((((w1.setCell ⟨w.heap.size + 1 + 1, 2, none⟩ (.slice (some ⟨b, 0, none⟩) n n)).setCell ⟨w.heap.size + 1, 0, none⟩ (.int .i64 st)).setCell ⟨w.heap.size + 1, 1, none⟩ (.bool op)).setCell ⟨w.heap.size + 1, 2, none⟩ (.slice (some ⟨b, 0, none⟩) n n)).heap.size := by simp
  have ooF : ChsO ((((w1.setCell ⟨w.heap.size + 1 + 1, 2, none⟩ (.slice (some ⟨b, 0, none⟩) n n)).setCell ⟨w.heap.size + 1, 0, none⟩ (.int .i64 st)).setCell ⟨w.heap.size + 1, 1, none⟩ (.bool op)).setCell ⟨w.heap.size + 1, 2, none⟩ (.slice (some ⟨b, 0, none⟩) n n)).heap.size ((((w1.setCell ⟨w.heap.size + 1 + 1, 2, none⟩ (.slice (some ⟨b, 0, none⟩) n n)).setCell ⟨w.heap.size + 1, 0, none⟩ (.int .i64 st)).setCell ⟨w.heap.size + 1, 1, none⟩ (.bool op)).setCell ⟨w.heap.size + 1, 2, none⟩ (.slice (some ⟨b, 0, none⟩) n n)) b cs := by simpa using ((((HOO.out.set (by omega) _).set (by omega) _).set (by omega) _).set (by omega) _)
  generalize ((((w1.setCell ⟨w.heap.size + 1 + 1, 2, none⟩ (.slice (some ⟨b, 0, none⟩) n n)).setCell ⟨w.heap.size + 1, 0, none⟩ (.int .i64 st)).setCell ⟨w.heap.size + 1, 1, none⟩ (.bool op)).setCell ⟨w.heap.size + 1, 2, none⟩ (.slice (some ⟨b, 0, none⟩) n n)) = wf at *
  have oF : b < wf.heap.size ∧ ChsAt (fun c => b < c) 1099511627776 wf b 0 cs := ⟨Nat.lt_of_lt_of_le HO.out.1 hsz, fun j hj => (HO.out.2 j hj).blk (fun i _ => by simp only [World.cell?, hfar b (by omega)]) (fun c hc => hfar c (by omega)) hsz⟩
  obtain ⟨⟨z0, z1, z2⟩, _⟩ := cellk3 gF
  exact bodyPost_ret (v := .agg #[.int .i64 st, .bool op, .slice (some ⟨b, 0, none⟩) n n]) (by simp [results, Tryd.results47, go_sem, z0, z1, z2]) rfl ⟨b, rfl, by omega, oF, ooF, bF⟩
set_option maxHeartbeats 2000000 in
theorem to_txsO {N : Nat → Prop} (a : Option Addr) (cap : Nat) (xs : List Tx) (w : World) (hm : xs.length ≤ 1099511627776) (h : Txs N 1099511627776 w a xs) : Calls Tryd.prog 38 #[.slice a xs.length cap] w fun e w' => ∃ B, e = .returned (.slice (some ⟨B, 0, none⟩) xs.length xs.length) ∧ w.heap.size ≤ B ∧ (B < w'.heap.size ∧ TxsAt (fun c => B < c) 1099511627776 w' B 0 xs) ∧ TxsO w'.heap.size w' B xs ∧ Below w.heap.size w w' := by
  have HR := hid h
  clear h
  have hmk := make_txs xs.length hm
  obtain ⟨n, hn⟩ : ∃ n, n = xs.length := ⟨_, rfl⟩
  have HN := hid hn.symm
  rw [← hn] at hmk hm ⊢
  clear hn
  go_enter Tryd.func38, Tryd.ntmps38
  go_wp2_with fail
  have hB : Below w.heap.size w (w.alloc (.cells (madeCells #[.int .i64 0, .bool false, .slice none 0 0] (n * 3)) 98)) := balloc (Below.refl _ _) _
  have hT := made_owntx w n
  have hl : w.heap.size < (w.alloc (.cells (madeCells #[.int .i64 0, .bool false, .slice none 0 0] (n * 3)) 98)).heap.size := by simp
  generalize w.alloc (.cells (madeCells #[.int .i64 0, .bool false, .slice none 0 0] (n * 3)) 98) = W at *
  clear hmk
  go_loopw [4] (fun ti wr => ∃ j : Nat, ti = .int .i64 j ∧ j ≤ n ∧ Hid (w.heap.size < wr.heap.size) ∧ Hid (∀ i (hi : i < xs.length), i < j → TxAt (fun c => w.heap.size < c) 1099511627776 wr w.heap.size (i * 3) xs[i]) ∧ Hid (wr.there w.heap.size 0 (n * 3)) ∧ Hid (∃ c h : Nat → Nat, (∀ i (hi : i < xs.length), i < j → TxO (h i) wr w.heap.size (i * 3) xs[i] (c i) ∧ h i ≤ wr.heap.size) ∧ ∀ i k, i < k → k < j → h i ≤ c k) ∧ Hid (Below w.heap.size w wr)) (fun ti _ => n - (intOf ti).toNat)
  case atStart => exact ⟨0, rfl, Nat.zero_le _, hid hl, hid (fun i hi h => absurd h (by omega)), hid hT, hid ⟨fun _ => 0, fun _ => 0, fun i hi h => absurd h (by omega), fun i k _ h => absurd h (by omega)⟩, hid hB⟩
  case round =>
    clear hB hT hl
    obtain ⟨j, rfl, hj, HL, HP, HT, HOW, HBW⟩ := hrel
    by_cases hlt : j < n
    · have c1 : (j : Int) < (n : Int) := by omega
      have hjr : j < xs.length := by rw [HN.out]; exact hlt
      obtain ⟨b, o, rfl, hbs, hr⟩ := (HR.out.below HBW.out).at j hjr
      obtain ⟨a', cap', k0, k1, q1, q2, q3, q4, q5⟩ := hr
      have TR := hid (to_txO (N := N) xs[j] a' cap' wr q3 q2 q4)
      have HPR := hid (fun (W : World) (bb : Nat) => put_tx (w := W) (B := w.heap.size) (k := j) (n := n) (b := bb) (xs := xs) hjr HN.out)
      have HK6 := hid q3
      have HLN : Hid (∀ (X : World) (bb : Nat) (c h : Nat → Nat), (∀ i (hi : i < xs.length), i < j → TxO (h i) X w.heap.size (i * 3) xs[i] (c i) ∧ h i ≤ X.heap.size) → (∀ i k, i < k → k < j → h i ≤ c k) → (∀ i, i < j → h i ≤ bb) → TxO X.heap.size X w.heap.size (j * 3) xs[j] bb → ∃ c h : Nat → Nat, (∀ i (hi : i < xs.length), i < j + 1 → TxO (h i) X w.heap.size (i * 3) xs[i] (c i) ∧ h i ≤ X.heap.size) ∧ ∀ i k, i < k → k < j + 1 → h i ≤ c k) := hid (fun X bb c h a1 a2 a3 a4 => by
        refine ⟨fun i => if i = j then bb else c i, fun i => if i = j then X.heap.size else h i, fun i hi hh => ?_, fun i k hik hk => ?_⟩
        · by_cases e : i = j
          · subst e; simp only [if_true]; exact ⟨a4, Nat.le_refl _⟩
          · simp only [if_neg e]; exact a1 i hi (by omega)
        · simp only [if_neg (show i ≠ j by omega)]
          by_cases e : k = j
          · simp only [if_pos e]; exact a3 i (by omega)
          · simp only [if_neg e]; exact a2 i k hik (by omega))
      have HPO := hid (fun (W : World) (bb : Nat) (hbb : w.heap.size < bb) (hbh : bb < W.heap.size) (hT : W.there w.heap.size 0 (n * 3)) (ho : ChsO W.heap.size W bb xs[j].2.2) => putO_tx (hi := W.heap.size) (x := xs[j]) hT hlt hbb hbh ho)
      unfold txv at TR
      clear q2 q3 q4 q5
      generalize xs[j].1 = st at *
      generalize xs[j].2.1 = op at *
      generalize xs[j].2.2 = inn at *
      go_wp2_with fail
      refine TR.out.mono ?_
      rintro e w1 ⟨bb, rfl, hbb, ho, hoo, hb1⟩
      have hP := fun i (hi : i < xs.length) (h : i < j) => (HP.out i hi h).below hb1
      have hT := there_below HT.out HL.out hb1
      have hB := btrans HBW.out hb1
      have hL : w.heap.size < w1.heap.size := Nat.lt_of_lt_of_le HL.out hb1.size
      have hbl : w.heap.size < bb := Nat.lt_of_lt_of_le HL.out hbb
      have HPUT := hid (HPR.out w1 bb hP hT hbl HK6.out ho)
      obtain ⟨cf, hf, hw1, hw2⟩ := HOW.out
      have HOLD := hid (fun i (hi : i < xs.length) (h : i < j) => (⟨(hw1 i hi h).1.below (hw1 i hi h).2 hb1, Nat.le_trans (hw1 i hi h).2 hb1.size⟩ : TxO (hf i) w1 w.heap.size (i * 3) xs[i] (cf i) ∧ hf i ≤ w1.heap.size))
      have HLE := hid (fun i (h : i < j) => Nat.le_trans (hw1 i (by omega) h).2 hbb)
      have HW2 := hid hw2
      have HNEW := hid (HPO.out w1 bb hbl ho.1 hT hoo)
      clear hw1 hw2 HOW
      have q := fun i (hi : i < n * 3) => hT i hi
      obtain ⟨v0, s0, r0⟩ := there_at hT (show j * 3 < n * 3 by omega)
      obtain ⟨v1, s1, r1⟩ := there_at hT (show j * 3 + 1 < n * 3 by omega)
      obtain ⟨v2, s2, r2⟩ := there_at hT (show j * 3 + 2 < n * 3 by omega)
      clear q hP HPR HPO hb1 ho hoo TR
      have HL1 := hid hL
      have HB1 := hid hB
      clear hT
      go_wp2_with fail
      go_roundw
      case rel => exact ⟨j + 1, by go_num, by omega, hid (by simpa using hL), hid HPUT.out.1, hid HPUT.out.2, hid (HLN.out _ bb cf hf (fun i hi h => ⟨(((HOLD.out i hi h).1.set (.inr ⟨rfl, by omega⟩) _).set (.inr ⟨rfl, by omega⟩) _).set (.inr ⟨rfl, by omega⟩) _, by simpa using (HOLD.out i hi h).2⟩) HW2.out HLE.out (by simpa using HNEW.out _ _)), hid ((bset (bset (bset hB (by omega) _) (by omega) _) (by omega) _))⟩
      case measure => simp [intOf]; omega
    · obtain rfl : n = j := by omega
      have c1 : (n : Int) ≤ (n : Int) := by omega
      go_wp2_with fail
      go_ret
      exact ⟨w.heap.size, rfl, Nat.le_refl _, ⟨HL.out, fun i hi => by have := HP.out i hi (by rw [HN.out] at hi; exact hi); simpa using this⟩, ⟨by rw [HN.out]; exact HT.out, by
        obtain ⟨c, f, h1, h2⟩ := HOW.out
        exact ⟨c, f, fun i hi => h1 i hi (by rw [HN.out] at hi; exact hi), fun i k hik hk => h2 i k hik (by rw [HN.out] at hk; exact hk)⟩⟩, HBW.out⟩
set_option maxRecDepth 100000 in
set_option maxHeartbeats 2000000 in
theorem to_storeO {N1 N2 : Nat → Prop} (now : Int) (a ta : Option Addr) (cap tcap : Nat) (rs : List Rw) (ts : List Tx) (w : World) (hm : rs.length ≤ 1099511627776) (htm : ts.length ≤ 1099511627776) (hr : Rws N1 w a rs) (ht : Txs N2 1099511627776 w ta ts) : Calls Tryd.prog 22 #[.agg #[.int .i64 now, .slice a rs.length cap, .slice ta ts.length tcap]] w fun e w' => ∃ B T hR, e = .returned (.agg #[.int .i64 now, .slice (some ⟨B, 0, none⟩) rs.length rs.length, .slice (some ⟨T, 0, none⟩) ts.length ts.length]) ∧ Rws (fun c => B < c) w' (some ⟨B, 0, none⟩) rs ∧ Txs (fun c => T < c) 1099511627776 w' (some ⟨T, 0, none⟩) ts ∧ (w.heap.size ≤ B ∧ B < hR ∧ hR ≤ T ∧ T < w'.heap.size ∧ w'.there B 0 (rs.length * 5) ∧ RwsO hR w' B rs ∧ TxsO w'.heap.size w' T ts) ∧ Below w.heap.size w w' := by
  have HR := hid (fun (W : World) (hb : Below w.heap.size w W) => to_rowsO now a cap rs W hm (hr.below hb))
  have HT := hid (fun (W : World) (hb : Below w.heap.size w W) => to_txsO ta tcap ts W htm (ht.below hb))
  clear hr ht
  obtain ⟨n, hn⟩ : ∃ n, n = rs.length := ⟨_, rfl⟩
  obtain ⟨tn, htn⟩ : ∃ tn, tn = ts.length := ⟨_, rfl⟩
  rw [← hn] at HR ⊢
  rw [← htn] at HT ⊢
  clear hn htn
  have hB0 : Below w.heap.size w (((w.alloc (.cells #[.int .i64 now, .slice a n cap, .slice ta tn tcap] 27)).alloc (.cells #[.int .i64 0, .slice none 0 0, .slice none 0 0] 43)).alloc (.cells #[.int .i64 0, .slice none 0 0, .slice none 0 0] 43)) := balloc (balloc (balloc (Below.refl _ _) _) _) _
  have g0 := old_alloc (o' := .cells #[.int .i64 0, .slice none 0 0, .slice none 0 0] 43) (old_alloc (o' := .cells #[.int .i64 0, .slice none 0 0, .slice none 0 0] 43) (new_alloc w w.heap.size (.cells #[.int .i64 now, .slice a n cap, .slice ta tn tcap] 27) rfl))
  have g1 := old_alloc (o' := .cells #[.int .i64 0, .slice none 0 0, .slice none 0 0] 43) (new_alloc (w.alloc (.cells #[.int .i64 now, .slice a n cap, .slice ta tn tcap] 27)) (w.heap.size + 1) (.cells #[.int .i64 0, .slice none 0 0, .slice none 0 0] 43) (by simp))
  have g2 := new_alloc ((w.alloc (.cells #[.int .i64 now, .slice a n cap, .slice ta tn tcap] 27)).alloc (.cells #[.int .i64 0, .slice none 0 0, .slice none 0 0] 43)) (w.heap.size + 1 + 1) (.cells #[.int .i64 0, .slice none 0 0, .slice none 0 0] 43) (by simp)
  go_enter Tryd.func22, Tryd.ntmps22
  go_upto_region 2 with fail
  generalize ((w.alloc (.cells #[.int .i64 now, .slice a n cap, .slice ta tn tcap] 27)).alloc (.cells #[.int .i64 0, .slice none 0 0, .slice none 0 0] 43)).alloc (.cells #[.int .i64 0, .slice none 0 0, .slice none 0 0] 43) = W at *
  have hlW := lt_of_block g2
  obtain ⟨⟨d0, d1, d2⟩, _⟩ := cellk3 g0
  go_wp2_with fail
  refine (HR.out _ hB0).mono ?_
  rintro e w1 ⟨B, rfl, hbb, hbl, ho, hth, hro, hb1⟩
  replace g0 := keepheap2 hb1 g0
  replace g1 := keepheap2 hb1 g1
  replace g2 := keepheap2 hb1 g2
  have hB1 := btrans hB0 hb1
  have HO := hid ho
  have HTH := hid hth
  have HRO := hid hro
  have hs1 := hb1.size
  clear hB0 hb1 ho hth hro d0 d1 d2 HR
  obtain ⟨⟨f0, f1, f2⟩, p0, p1, p2⟩ := cellk3 g2
  go_upto_region 3 with fail
  have g2' : ((w1.setCell ⟨w.heap.size + 1 + 1, 0, none⟩ (.int .i64 now)).setCell ⟨w.heap.size + 1 + 1, 1, none⟩ (.slice (some ⟨B, 0, none⟩) n n)).heap[w.heap.size + 1 + 1]? = some (.cells #[.int .i64 now, .slice (some ⟨B, 0, none⟩) n n, .slice none 0 0] 43 (0, 0)) := setk3a g2 _ _
  have hfar : ∀ c, c ≠ w.heap.size + 1 + 1 → ((w1.setCell ⟨w.heap.size + 1 + 1, 0, none⟩ (.int .i64 now)).setCell ⟨w.heap.size + 1 + 1, 1, none⟩ (.slice (some ⟨B, 0, none⟩) n n)).heap[c]? = w1.heap[c]? := fun c hc => by rw [Below.heap_setCell _ _ _ _ (by dsimp only; omega), Below.heap_setCell _ _ _ _ (by dsimp only; omega)]
  have g0' := (hfar w.heap.size (by omega)).trans g0
  have g1' := (hfar (w.heap.size + 1) (by omega)).trans g1
  have HO2 := hid ((HO.out.setR (q := w.heap.size + 1 + 1) (k := 0) (u := .int .i64 now) (by omega) (by omega)).setR (q := w.heap.size + 1 + 1) (k := 1) (u := (.slice (some ⟨B, 0, none⟩) n n)) (by omega) (by omega))
  have hB2 := bset (bset hB1 (q := w.heap.size + 1 + 1) (k := 0) (by omega) (.int .i64 now)) (q := w.heap.size + 1 + 1) (k := 1) (by omega) (.slice (some ⟨B, 0, none⟩) n n)
  have HTH2 := hid (there_set (p := w.heap.size + 1 + 1) (k := 1) (there_set (p := w.heap.size + 1 + 1) (k := 0) HTH.out (.int .i64 now)) (.slice (some ⟨B, 0, none⟩) n n))
  have HRO2 : Hid (RwsO w1.heap.size ((w1.setCell ⟨w.heap.size + 1 + 1, 0, none⟩ (.int .i64 now)).setCell ⟨w.heap.size + 1 + 1, 1, none⟩ (.slice (some ⟨B, 0, none⟩) n n)) B rs) := hid (fun j hj => ((HRO.out j hj).other (by omega) _).other (by omega) _)
  have hVs : ((w1.setCell ⟨w.heap.size + 1 + 1, 0, none⟩ (.int .i64 now)).setCell ⟨w.heap.size + 1 + 1, 1, none⟩ (.slice (some ⟨B, 0, none⟩) n n)).heap.size = w1.heap.size := by simp
  have hVa := Nat.le_of_eq hVs
  have hVb := Nat.le_of_eq hVs.symm
  clear hVs
  have hbl2 : B < ((w1.setCell ⟨w.heap.size + 1 + 1, 0, none⟩ (.int .i64 now)).setCell ⟨w.heap.size + 1 + 1, 1, none⟩ (.slice (some ⟨B, 0, none⟩) n n)).heap.size := by simpa using hbl
  have hblw := hbl
  clear hfar g0 g1 g2 HO HTH HRO hB1 f0 f1 f2 p0 p1 p2 hbl
  generalize (w1.setCell ⟨w.heap.size + 1 + 1, 0, none⟩ (.int .i64 now)).setCell ⟨w.heap.size + 1 + 1, 1, none⟩ (.slice (some ⟨B, 0, none⟩) n n) = V at *
  have hlV := lt_of_block g2'
  obtain ⟨⟨d0, d1, d2⟩, _⟩ := cellk3 g0'
  go_wp2_with fail
  refine (HT.out _ hB2).mono ?_
  rintro e w2 ⟨T, rfl, htt, htx, hto, hb2⟩
  replace g1' := keepheap2 hb2 g1'
  replace g2' := keepheap2 hb2 g2'
  have hB3 := btrans hB2 hb2
  have HO3 := hid (fun j (hj : j < rs.length) => (HO2.out j hj).below hb2)
  have HTX := hid htx
  have HTO := hid hto
  have HTH3 := hid (there_below HTH2.out hbl2 hb2)
  have HRO3 : Hid (RwsO w1.heap.size w2 B rs) := hid (HRO2.out.below hVb hb2)
  have hs2 := hb2.size
  clear hB2 hb2 htx hto d0 d1 d2 HT HO2 g0'
  obtain ⟨⟨f0, f1, f2⟩, p0, p1, p2⟩ := cellk3 g2'
  obtain ⟨⟨v0, v1, v2⟩, u0, u1, u2⟩ := cellk3 g1'
  go_wp2_with fail
  have hTl := HTX.out.1
  have gF := setk3 (set_far (q := w.heap.size + 1 + 1) (k := 2) (u := (.slice (some ⟨T, 0, none⟩) tn tn)) g1' (by omega)) (.int .i64 now) (.slice (some ⟨B, 0, none⟩) n n) (.slice (some ⟨T, 0, none⟩) tn tn)
  have bF := bset (bset (bset (bset hB3 (q := w.heap.size + 1 + 1) (k := 2) (by omega) (.slice (some ⟨T, 0, none⟩) tn tn)) (q := w.heap.size + 1) (k := 0) (by omega) (.int .i64 now)) (q := w.heap.size + 1) (k := 1) (by omega) (.slice (some ⟨B, 0, none⟩) n n)) (q := w.heap.size + 1) (k := 2) (by omega) (.slice (some ⟨T, 0, none⟩) tn tn)
  have hfar : ∀ c, w.heap.size + 1 + 1 < c → ((((w2.setCell ⟨w.heap.size + 1 + 1, 2, none⟩ (.slice (some ⟨T, 0, none⟩) tn tn)).setCell ⟨w.heap.size + 1, 0, none⟩ (.int .i64 now)).setCell ⟨w.heap.size + 1, 1, none⟩ (.slice (some ⟨B, 0, none⟩) n n)).setCell ⟨w.heap.size + 1, 2, none⟩ (.slice (some ⟨T, 0, none⟩) tn tn)).heap[c]? = w2.heap[c]? := fun c hc => by rw [Below.heap_setCell _ _ _ _ (by dsimp only; omega), Below.heap_setCell _ _ _ _ (by dsimp only; omega), Below.heap_setCell _ _ _ _ (by dsimp only; omega), Below.heap_setCell _ _ _ _ (by dsimp only; omega)]
  have hsz : w2.heap.size ≤ ((((w2.setCell ⟨w.heap.size + 1 + 1, 2, none⟩ (.slice (some ⟨T, 0, none⟩) tn tn)).setCell ⟨w.heap.size + 1, 0, none⟩ (.int .i64 now)).setCell ⟨w.heap.size + 1, 1, none⟩ (.slice (some ⟨B, 0, none⟩) n n)).setCell ⟨w.heap.size + 1, 2, none⟩ (.slice (some ⟨T, 0, none⟩) tn tn)).heap.size := by simp
  have thF : ((((w2.setCell ⟨w.heap.size + 1 + 1, 2, none⟩ (.slice (some ⟨T, 0, none⟩) tn tn)).setCell ⟨w.heap.size + 1, 0, none⟩ (.int .i64 now)).setCell ⟨w.heap.size + 1, 1, none⟩ (.slice (some ⟨B, 0, none⟩) n n)).setCell ⟨w.heap.size + 1, 2, none⟩ (.slice (some ⟨T, 0, none⟩) tn tn)).there B 0 (n * 5) := (there_set (there_set (there_set (there_set HTH3.out _) _) _) _)
  have roF : RwsO w1.heap.size ((((w2.setCell ⟨w.heap.size + 1 + 1, 2, none⟩ (.slice (some ⟨T, 0, none⟩) tn tn)).setCell ⟨w.heap.size + 1, 0, none⟩ (.int .i64 now)).setCell ⟨w.heap.size + 1, 1, none⟩ (.slice (some ⟨B, 0, none⟩) n n)).setCell ⟨w.heap.size + 1, 2, none⟩ (.slice (some ⟨T, 0, none⟩) tn tn)) B rs := fun j hj => (((((HRO3.out j hj).other (by omega) _).other (by omega) _).other (by omega) _).other (by omega) _)
  have toF : TxsO ((((w2.setCell ⟨w.heap.size + 1 + 1, 2, none⟩ (.slice (some ⟨T, 0, none⟩) tn tn)).setCell ⟨w.heap.size + 1, 0, none⟩ (.int .i64 now)).setCell ⟨w.heap.size + 1, 1, none⟩ (.slice (some ⟨B, 0, none⟩) n n)).setCell ⟨w.heap.size + 1, 2, none⟩ (.slice (some ⟨T, 0, none⟩) tn tn)).heap.size ((((w2.setCell ⟨w.heap.size + 1 + 1, 2, none⟩ (.slice (some ⟨T, 0, none⟩) tn tn)).setCell ⟨w.heap.size + 1, 0, none⟩ (.int .i64 now)).setCell ⟨w.heap.size + 1, 1, none⟩ (.slice (some ⟨B, 0, none⟩) n n)).setCell ⟨w.heap.size + 1, 2, none⟩ (.slice (some ⟨T, 0, none⟩) tn tn)) T ts := by simpa using ((((HTO.out.set (by omega) _).set (by omega) _).set (by omega) _).set (by omega) _)
  have oF : RwsAt (fun c => B < c) ((((w2.setCell ⟨w.heap.size + 1 + 1, 2, none⟩ (.slice (some ⟨T, 0, none⟩) tn tn)).setCell ⟨w.heap.size + 1, 0, none⟩ (.int .i64 now)).setCell ⟨w.heap.size + 1, 1, none⟩ (.slice (some ⟨B, 0, none⟩) n n)).setCell ⟨w.heap.size + 1, 2, none⟩ (.slice (some ⟨T, 0, none⟩) tn tn)) B 0 rs := fun j hj => ((((HO3.out j hj).setR (q := w.heap.size + 1 + 1) (k := 2) (u := (.slice (some ⟨T, 0, none⟩) tn tn)) (by omega) (fun c hc => by omega)).setR (q := w.heap.size + 1) (k := 0) (u := .int .i64 now) (by omega) (fun c hc => by omega)).setR (q := w.heap.size + 1) (k := 1) (u := (.slice (some ⟨B, 0, none⟩) n n)) (by omega) (fun c hc => by omega)).setR (q := w.heap.size + 1) (k := 2) (u := (.slice (some ⟨T, 0, none⟩) tn tn)) (by omega) (fun c hc => by omega)
  have tF : TxsAt (fun c => T < c) 1099511627776 ((((w2.setCell ⟨w.heap.size + 1 + 1, 2, none⟩ (.slice (some ⟨T, 0, none⟩) tn tn)).setCell ⟨w.heap.size + 1, 0, none⟩ (.int .i64 now)).setCell ⟨w.heap.size + 1, 1, none⟩ (.slice (some ⟨B, 0, none⟩) n n)).setCell ⟨w.heap.size + 1, 2, none⟩ (.slice (some ⟨T, 0, none⟩) tn tn)) T 0 ts := fun j hj => (HTX.out.2 j hj).blk (fun i _ => by simp only [World.cell?, hfar T (by omega)]) (fun c hc => hfar c (by omega)) hsz
  generalize ((((w2.setCell ⟨w.heap.size + 1 + 1, 2, none⟩ (.slice (some ⟨T, 0, none⟩) tn tn)).setCell ⟨w.heap.size + 1, 0, none⟩ (.int .i64 now)).setCell ⟨w.heap.size + 1, 1, none⟩ (.slice (some ⟨B, 0, none⟩) n n)).setCell ⟨w.heap.size + 1, 2, none⟩ (.slice (some ⟨T, 0, none⟩) tn tn)) = wf at *
  have hTs := HTX.out.1
  obtain ⟨⟨z0, z1, z2⟩, _⟩ := cellk3 gF
  exact bodyPost_ret (v := .agg #[.int .i64 now, .slice (some ⟨B, 0, none⟩) n n, .slice (some ⟨T, 0, none⟩) tn tn]) (by simp [results, Tryd.results22, go_sem, z0, z1, z2]) rfl ⟨B, T, w1.heap.size, rfl, .inr ⟨B, 0, rfl, by omega, oF⟩, .inr ⟨T, 0, rfl, by omega, tF⟩, ⟨by omega, by omega, by omega, by omega, thF, roF, toF⟩, bF⟩
end Go.Proofs.YtdhdfgobefapiaaDoor
