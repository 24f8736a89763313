import Derived.Test.YtkdoigibpaempaaGreatDoorSa
set_option linter.unusedSimpArgs false
set_option linter.unusedVariables false
namespace Go.Proofs.YtkdoigibpaempaaGreatDoor
open Go.RowKit
abbrev Tx : Type := Int × Bool × List Ch
def txv (x : Tx) (a : Option Addr) (cap : Nat) : Value := .agg #[.int .i64 x.1, .bool x.2.1, .slice a x.2.2.length cap]
def TxAt (N : Nat → Prop) (M : Nat) (w : World) (b o : Nat) (x : Tx) : Prop :=
  ∃ a cap, w.cell? ⟨b, o, none⟩ = some (.int .i64 x.1) ∧ w.cell? ⟨b, o + 1, none⟩ = some (.bool x.2.1) ∧ w.cell? ⟨b, o + 2, none⟩ = some (.slice a x.2.2.length cap) ∧ x.2.2.length ≤ cap ∧ x.2.2.length ≤ M ∧ Chs N M w a x.2.2 ∧ (∀ c off, a = some ⟨c, off, none⟩ → N c)
def TxsAt (N : Nat → Prop) (M : Nat) (w : World) (b o : Nat) (xs : List Tx) : Prop := ∀ j (h : j < xs.length), TxAt N M w b (o + j * 3) xs[j]
def Txs (N : Nat → Prop) (M : Nat) (w : World) (a : Option Addr) (xs : List Tx) : Prop := xs = [] ∨ ∃ b o, a = some ⟨b, o, none⟩ ∧ b < w.heap.size ∧ TxsAt N M w b o xs
theorem TxAt.below {N : Nat → Prop} {M : Nat} {w w' : World} {b o : Nat} {x : Tx} (h : TxAt N M w b o x) (H : Below w.heap.size w w') : TxAt N M w' b o x := by
  obtain ⟨a, cap, k0, k1, q1, q2, q3, q4, q5⟩ := h
  exact ⟨a, cap, keepcell H k0, keepcell H k1, keepcell H q1, q2, q3, q4.below H, q5⟩
theorem Txs.below {N : Nat → Prop} {M : Nat} {w w' : World} {a : Option Addr} {xs : List Tx} (h : Txs N M w a xs) (H : Below w.heap.size w w') : Txs N M w' a xs := by
  rcases h with h | ⟨b, o, e, hb, h⟩
  · exact .inl h
  · exact .inr ⟨b, o, e, Nat.lt_of_lt_of_le hb H.size, fun j hj => (h j hj).below H⟩
theorem Txs.at {N : Nat → Prop} {M : Nat} {w : World} {a : Option Addr} {xs : List Tx} (h : Txs N M w a xs) (j : Nat) (hj : j < xs.length) : ∃ b o, a = some ⟨b, o, none⟩ ∧ b < w.heap.size ∧ TxAt N M w b (o + j * 3) xs[j] := by
  rcases h with h | ⟨b, o, e, hb, h⟩
  · subst h; simp at hj
  · exact ⟨b, o, e, hb, h j hj⟩
theorem TxAt.blk {N : Nat → Prop} {M : Nat} {w w' : World} {b o : Nat} {x : Tx} (h : TxAt N M w b o x) (hc : ∀ i, i < 3 → w'.cell? ⟨b, o + i, none⟩ = w.cell? ⟨b, o + i, none⟩) (hb : ∀ c, N c → w'.heap[c]? = w.heap[c]?) (hs : w.heap.size ≤ w'.heap.size) : TxAt N M w' b o x := by
  obtain ⟨a, cap, k0, k1, q1, q2, q3, q4, q5⟩ := h
  refine ⟨a, cap, (hc 0 (by omega)).trans k0, (hc 1 (by omega)).trans k1, (hc 2 (by omega)).trans q1, q2, q3, ?_, q5⟩
  rcases q4 with q4 | ⟨c, off, e, hb', hp⟩
  · exact .inl q4
  · have hcc := hb c (q5 c off e)
    refine .inr ⟨c, off, e, by omega, fun k hk => (hp k hk).blk (fun i _ => by simp only [World.cell?, hcc]) hb hs⟩
def txS (xs : List Tx) : Prop := xs.length ≤ 1048576 ∧ ∀ m (h : m < xs.length), chS xs[m].2.2
theorem Txs.small {N : Nat → Prop} {M : Nat} {w : World} {a : Option Addr} {xs : List Tx} (h : Txs N M w a xs) (hs : txS xs) : Txs N 1099511627776 w a xs := by
  rcases h with h | ⟨b, o, e, hb, h⟩
  · exact .inl h
  · refine .inr ⟨b, o, e, hb, fun j hj => ?_⟩
    obtain ⟨a, cap, k0, k1, q1, q2, q3, q4, q5⟩ := h j hj
    have hj2 := hs.2 j hj
    exact ⟨a, cap, k0, k1, q1, q2, by have := hj2.1; omega, q4.small hj2, q5⟩
set_option maxHeartbeats 1000000 in
theorem sz_tx {N : Nat → Prop} (x : Tx) (a : Option Addr) (cap : Nat) (left : Int) (w : World) (hm : x.2.2.length ≤ 9223372036854775807) (h0 : 0 ≤ left) (h1 : left ≤ 1048576) (h : Chs N 9223372036854775807 w a x.2.2) : Calls Tryz.prog 29 #[txv x a cap, .int .i64 left] w fun e w' => (∃ v : Int, e = .returned (.int .i64 v) ∧ (v = -1 ∨ (0 ≤ v ∧ v ≤ 1048576 ∧ Hid (chS x.2.2)))) ∧ Below w.heap.size w w' := by
  obtain ⟨st, op, cs⟩ := x
  unfold txv
  simp only at *
  have SZ := hid (fun (W : World) (hb : Below w.heap.size w W) => sz_chs a cap cs left W hm h0 h1 (h.below hb))
  clear h
  obtain ⟨B, hB⟩ : ∃ B : Prop, B = chS cs := ⟨_, rfl⟩
  rw [← hB] at SZ ⊢
  clear hB
  generalize cs.length = n at *
  go_enter Tryz.func29, Tryz.ntmps29
  go_wp2_with fail
  refine (SZ.out _ (balloc (Below.refl _ _) _)).mono ?_
  rintro e w1 ⟨⟨v, rfl, hv⟩, hb⟩
  have hB := btrans (balloc (Below.refl _ w) _) hb
  rcases hv with rfl | ⟨hv0, hv1, HV⟩
  · go_wp2_with fail
    go_ret
    exact ⟨⟨_, rfl, .inl rfl⟩, hB⟩
  · have hv2 : ¬ v < 0 := by omega
    go_wp2_with fail
    go_ret
    exact ⟨⟨_, rfl, .inr ⟨hv0, hv1, HV⟩⟩, hB⟩
set_option maxHeartbeats 1000000 in
theorem sz_txs {N : Nat → Prop} (a : Option Addr) (cap : Nat) (xs : List Tx) (left : Int) (w : World) (hm : xs.length ≤ 9223372036854775807) (h0 : 0 ≤ left) (h1 : left ≤ 1048576) (h : Txs N 9223372036854775807 w a xs) : Calls Tryz.prog 12 #[.slice a xs.length cap, .int .i64 left] w fun e w' => (∃ v : Int, e = .returned (.int .i64 v) ∧ (v = -1 ∨ (0 ≤ v ∧ v ≤ 1048576 ∧ Hid (txS xs)))) ∧ Below w.heap.size w w' := by
  have HR := hid h
  clear h
  by_cases hb : left < (xs.length : Int)
  · have h2 : left - (xs.length : Int) < 0 := by omega
    go_enter Tryz.func12, Tryz.ntmps12
    go_wp2_with fail
    go_ret
    exact ⟨⟨_, rfl, .inl rfl⟩, Below.refl _ _⟩
  · have h2 : ¬ (left - (xs.length : Int) < 0) := by omega
    have HF : Hid ((∀ m (h : m < xs.length), chS xs[m].2.2) → txS xs) := hid (fun h => ⟨by omega, h⟩)
    go_enter Tryz.func12, Tryz.ntmps12
    go_wp2_with fail
    go_loopw [5, 1] (fun ti tl wr => ∃ j : Nat, ∃ l : Int, ti = .int .i64 j ∧ tl = .int .i64 l ∧ j ≤ xs.length ∧ 0 ≤ l ∧ l ≤ 1048576 ∧ Hid (∀ m (h : m < xs.length), m < j → chS xs[m].2.2) ∧ Hid (Below w.heap.size w wr)) (fun ti _ _ => xs.length - (intOf ti).toNat)
    case atStart => exact ⟨0, _, rfl, rfl, Nat.zero_le _, by omega, by omega, hid (fun m h hh => absurd hh (by omega)), hid (Below.refl _ _)⟩
    case round =>
      obtain ⟨j, l, rfl, rfl, hj, hl0, hl1, HM, HB⟩ := hrel
      by_cases hlt : j < xs.length
      · have c1 : (j : Int) < (xs.length : Int) := by omega
        obtain ⟨b, o, rfl, hbs, hr⟩ := (HR.out.below HB.out).at j hlt
        obtain ⟨a', cap', k0, k1, q1, q2, q3, q4, q5⟩ := hr
        have HX : Hid ((chS xs[j].2.2) → ∀ m (h : m < xs.length), m < j + 1 → chS xs[m].2.2) := hid (fun hx m h hm => by
          by_cases e : m = j
          · subst e; exact hx
          · exact HM.out m h (by omega))
        have S := hid (sz_tx (N := N) xs[j] a' cap' l wr q3 hl0 hl1 q4)
        unfold txv at S
        obtain ⟨Q, hQ⟩ : ∃ Q : Prop, Q = (chS xs[j].2.2) := ⟨_, rfl⟩
        rw [← hQ] at HX S
        clear hQ q2 q3 q4 q5
        generalize xs[j].1 = st at *
        generalize xs[j].2.1 = op at *
        generalize xs[j].2.2.length = np at *
        go_wp2_with fail
        refine (S.out).mono ?_
        rintro e w1 ⟨⟨v, rfl, hv⟩, hb1⟩
        have hB := btrans HB.out hb1
        rcases hv with rfl | ⟨hv0, hv1, hv3⟩
        · go_wp2_with fail
          go_ret
          exact ⟨⟨_, rfl, .inl rfl⟩, hB⟩
        · have hv2 : ¬ v < 0 := by omega
          have HX2 := hid (HX.out hv3.out)
          clear hv3
          go_wp2_with fail
          go_roundw
          case rel => exact ⟨j + 1, v, by go_num, rfl, by omega, hv0, hv1, HX2, hid hB⟩
          case measure => simp [intOf]; omega
      · have c1 : (xs.length : Int) ≤ (j : Int) := by omega
        have HF2 := hid (HF.out (fun m h => HM.out m h (by omega)))
        go_wp2_with fail
        go_ret
        exact ⟨⟨_, rfl, .inr ⟨hl0, hl1, HF2⟩⟩, HB.out⟩
set_option maxHeartbeats 2000000 in
theorem to_tx {N : Nat → Prop} (x : Tx) (a : Option Addr) (cap : Nat) (w : World) (hm : x.2.2.length ≤ 1099511627776) (hc : x.2.2.length ≤ cap) (h : Chs N 1099511627776 w a x.2.2) : Calls Tryz.prog 37 #[txv x a cap] w fun e w' => ∃ b, e = .returned (txv x (some ⟨b, 0, none⟩) x.2.2.length) ∧ w.heap.size ≤ b ∧ (b < w'.heap.size ∧ ChsAt (fun c => b < c) 1099511627776 w' b 0 x.2.2) ∧ Below w.heap.size w w' := by
  obtain ⟨st, op, cs⟩ := x
  unfold txv
  simp only at *
  have TS := hid (fun (W : World) (hb : Below w.heap.size w W) => to_chs a cap cs W hm (h.below hb))
  clear h
  generalize hn : cs.length = n at *
  have HN := hid hn
  clear hn
  go_enter Tryz.func37, Tryz.ntmps37
  go_wp2_with fail
  have hB0 : Below w.heap.size w (((w.alloc (.cells #[.int .i64 st, .bool op, .slice a n cap] 71)).alloc (.cells #[.int .i64 0, .bool false, .slice none 0 0] 48)).alloc (.cells #[.int .i64 st, .bool op, .slice none 0 0] 48)) := balloc (balloc (balloc (Below.refl _ _) _) _) _
  have g2 := old_alloc (o' := .cells #[.int .i64 st, .bool op, .slice none 0 0] 48) (new_alloc (w.alloc (.cells #[.int .i64 st, .bool op, .slice a n cap] 71)) (w.heap.size + 1) (.cells #[.int .i64 0, .bool false, .slice none 0 0] 48) (by simp))
  have g3 := new_alloc ((w.alloc (.cells #[.int .i64 st, .bool op, .slice a n cap] 71)).alloc (.cells #[.int .i64 0, .bool false, .slice none 0 0] 48)) (w.heap.size + 1 + 1) (.cells #[.int .i64 st, .bool op, .slice none 0 0] 48) (by simp)
  generalize ((w.alloc (.cells #[.int .i64 st, .bool op, .slice a n cap] 71)).alloc (.cells #[.int .i64 0, .bool false, .slice none 0 0] 48)).alloc (.cells #[.int .i64 st, .bool op, .slice none 0 0] 48) = W at *
  have hlW := lt_of_block g3
  refine (TS.out _ hB0).mono ?_
  rintro e w1 ⟨b, rfl, hbb, ho, hb1⟩
  replace g2 := keepheap2 hb1 g2
  replace g3 := keepheap2 hb1 g3
  have hB := btrans hB0 hb1
  have HO := hid ho
  clear hb1 hB0 ho
  obtain ⟨⟨x0, x1, x2⟩, xf0, xf1, xf2⟩ := cellk3 g2
  obtain ⟨⟨y0, y1, y2⟩, yf0, yf1, yf2⟩ := cellk3 g3
  go_wp2_with fail
  have gF := setk3 (set_far (q := w.heap.size + 1 + 1) (k := 2) (u := .slice (some ⟨b, 0, none⟩) n n) g2 (by omega)) (.int .i64 st) (.bool op) (.slice (some ⟨b, 0, none⟩) n n)
  have bF := (bset (bset (bset (bset hB (q := w.heap.size + 1 + 1) (k := 2) (by omega) (.slice (some ⟨b, 0, none⟩) n n)) (q := w.heap.size + 1) (k := 0) (by omega) (.int .i64 st)) (q := w.heap.size + 1) (k := 1) (by omega) (.bool op)) (q := w.heap.size + 1) (k := 2) (by omega) (.slice (some ⟨b, 0, none⟩) n n))
  have hfar : ∀ c, w.heap.size + 1 + 1 < c → ((((w1.setCell ⟨w.heap.size + 1 + 1, 2, none⟩ (.slice (some ⟨b, 0, none⟩) n n)).setCell ⟨w.heap.size + 1, 0, none⟩ (.int .i64 st)).setCell ⟨w.heap.size + 1, 1, none⟩ (.bool op)).setCell ⟨w.heap.size + 1, 2, none⟩ (.slice (some ⟨b, 0, none⟩) n n)).heap[c]? = w1.heap[c]? := fun c hc => by rw [Below.heap_setCell _ _ _ _ (by dsimp only; omega), Below.heap_setCell _ _ _ _ (by dsimp only; omega), Below.heap_setCell _ _ _ _ (by dsimp only; omega), Below.heap_setCell _ _ _ _ (by dsimp only; omega)]
  have hsz : w1.heap.size ≤ ((((w1.setCell ⟨w.heap.size + 1 + 1, 2, none⟩ (.slice (some ⟨b, 0, none⟩) n n)).setCell ⟨w.heap.size + 1, 0, none⟩ (.int .i64 st)).setCell ⟨w.heap.size + 1, 1, none⟩ (.bool op)).setCell ⟨w.heap.size + 1, 2, none⟩ (.slice (some ⟨b, 0, none⟩) n n)).heap.size := by simp
  generalize ((((w1.setCell ⟨w.heap.size + 1 + 1, 2, none⟩ (.slice (some ⟨b, 0, none⟩) n n)).setCell ⟨w.heap.size + 1, 0, none⟩ (.int .i64 st)).setCell ⟨w.heap.size + 1, 1, none⟩ (.bool op)).setCell ⟨w.heap.size + 1, 2, none⟩ (.slice (some ⟨b, 0, none⟩) n n)) = wf at *
  have oF : b < wf.heap.size ∧ ChsAt (fun c => b < c) 1099511627776 wf b 0 cs := ⟨Nat.lt_of_lt_of_le HO.out.1 hsz, fun j hj => (HO.out.2 j hj).blk (fun i _ => by simp only [World.cell?, hfar b (by omega)]) (fun c hc => hfar c (by omega)) hsz⟩
  obtain ⟨⟨z0, z1, z2⟩, _⟩ := cellk3 gF
  exact bodyPost_ret (v := .agg #[.int .i64 st, .bool op, .slice (some ⟨b, 0, none⟩) n n]) (by simp [results, Tryz.results37, go_sem, z0, z1, z2]) rfl ⟨b, rfl, by omega, oF, bF⟩
theorem Tryz.infoTx : (Tryz.prog.info? 48).map (fun i => (i.zero, i.size, i.bytes)) = some (some (.agg #[.int .i64 0, .bool false, .slice none 0 0]), 3, 40) := by kernel_rfl
theorem make_txs (n : Nat) (hn : n ≤ 1099511627776) (w : World) : (Instr.makeSlice 32 (.int .i64 n) (.int .i64 n)).run Tryz.prog w = .ok (.slice (some ⟨w.heap.size, 0, none⟩) n n) (w.alloc (.cells (madeCells #[.int .i64 0, .bool false, .slice none 0 0] (n * 3)) 48)) := by
  obtain ⟨i0, hi, hz0, hz1, hz2⟩ := info_parts Tryz.infoTx
  have := run_make (P := Tryz.prog) w 32 48 i0 _ Tryz.underlying32 hi hz0 .i64 .i64 n n (by omega) (by omega) (by rw [hz2]; omega) (by omega)
  rw [hz1] at this
  exact this
theorem made_owntx (w : World) (n : Nat) : (w.alloc (.cells (madeCells #[.int .i64 0, .bool false, .slice none 0 0] (n * 3)) 48)).there w.heap.size 0 (n * 3) := by
  intro j hj
  simp only [Nat.zero_add]
  refine ⟨?_, World.frozen?_alloc_new w _ _ j⟩
  rw [World.cell?_alloc_new]
  have hs := size_madeCells #[.int .i64 0, .bool false, .slice none 0 0] (n * 3)
  rw [Array.getElem?_eq_getElem (by rw [hs]; exact hj)]
  rfl
theorem put_tx {w : World} {B k n b : Nat} {xs : List Tx} (hk : k < xs.length) (hn : xs.length = n) (h : ∀ j (hj : j < xs.length), j < k → TxAt (fun c => B < c) 1099511627776 w B (j * 3) xs[j]) (ht : w.there B 0 (n * 3)) (hb : B < b) (hm : xs[k].2.2.length ≤ 1099511627776) (ho : b < w.heap.size ∧ ChsAt (fun c => b < c) 1099511627776 w b 0 xs[k].2.2) :
    (∀ j (hj : j < xs.length), j < k + 1 → TxAt (fun c => B < c) 1099511627776 (((w.setCell ⟨B, k * 3, none⟩ (.int .i64 xs[k].1)).setCell ⟨B, k * 3 + 1, none⟩ (.bool xs[k].2.1)).setCell ⟨B, k * 3 + 2, none⟩ (.slice (some ⟨b, 0, none⟩) xs[k].2.2.length xs[k].2.2.length)) B (j * 3) xs[j]) ∧ (((w.setCell ⟨B, k * 3, none⟩ (.int .i64 xs[k].1)).setCell ⟨B, k * 3 + 1, none⟩ (.bool xs[k].2.1)).setCell ⟨B, k * 3 + 2, none⟩ (.slice (some ⟨b, 0, none⟩) xs[k].2.2.length xs[k].2.2.length)).there B 0 (n * 3) := by
  subst hn
  have e : (((w.setCell ⟨B, k * 3, none⟩ (.int .i64 xs[k].1)).setCell ⟨B, k * 3 + 1, none⟩ (.bool xs[k].2.1)).setCell ⟨B, k * 3 + 2, none⟩ (.slice (some ⟨b, 0, none⟩) xs[k].2.2.length xs[k].2.2.length)) = w.setCells B (k * 3) [.int .i64 xs[k].1, .bool xs[k].2.1, .slice (some ⟨b, 0, none⟩) xs[k].2.2.length xs[k].2.2.length] := rfl
  have hblk : ∀ c, B < c → (w.setCells B (k * 3) [.int .i64 xs[k].1, .bool xs[k].2.1, .slice (some ⟨b, 0, none⟩) xs[k].2.2.length xs[k].2.2.length]).heap[c]? = w.heap[c]? := by
    intro c hc
    rw [← e]
    rw [Below.heap_setCell _ _ _ _ (by dsimp only; omega), Below.heap_setCell _ _ _ _ (by dsimp only; omega), Below.heap_setCell _ _ _ _ (by dsimp only; omega)]
  have hsz : (w.setCells B (k * 3) [.int .i64 xs[k].1, .bool xs[k].2.1, .slice (some ⟨b, 0, none⟩) xs[k].2.2.length xs[k].2.2.length]).heap.size = w.heap.size := by
    rw [← e]; simp
  rw [e]
  have hth : w.there B (k * 3) 3 := by
    intro j hj
    have := ht (k * 3 + j) (by omega)
    rwa [Nat.zero_add] at this
  have hr := World.rangeAt_setCells_same w B (k * 3) [.int .i64 xs[k].1, .bool xs[k].2.1, .slice (some ⟨b, 0, none⟩) xs[k].2.2.length xs[k].2.2.length] hth
  refine ⟨?_, World.there_setCells ht _ _ _⟩
  intro j hj hjk
  by_cases ej : j = k
  · subst ej
    refine ⟨some ⟨b, 0, none⟩, xs[j].2.2.length, by simpa using hr 0 _ rfl, hr 1 _ rfl, hr 2 _ rfl, Nat.le_refl _, hm, .inr ⟨b, 0, rfl, by rw [hsz]; exact ho.1, fun i hi => by
      obtain ⟨a', cap', p0, p1, p2, p3, p4, p5, p6, p7⟩ := (ho.2 i hi).blk (w' := w.setCells B (j * 3) [.int .i64 xs[j].1, .bool xs[j].2.1, .slice (some ⟨b, 0, none⟩) xs[j].2.2.length xs[j].2.2.length]) (fun i _ => by simp only [World.cell?, hblk b hb]) (fun c hc => hblk c (by omega)) (by omega)
      exact ⟨a', cap', p0, p1, p2, p3, p4, p5, p6, fun c off e => (by have := p7 c off e; omega)⟩⟩, fun c off e => (by cases e; exact hb)⟩
  · exact (h j hj (by omega)).blk (fun i hi => World.cell?_setCells_out B _ (k * 3) w ⟨B, j * 3 + i, none⟩ (fun _ _ => by left; show j * 3 + i < k * 3; omega)) (fun c hc => hblk c hc) (by omega)
set_option maxHeartbeats 2000000 in
theorem to_txs {N : Nat → Prop} (a : Option Addr) (cap : Nat) (xs : List Tx) (w : World) (hm : xs.length ≤ 1099511627776) (h : Txs N 1099511627776 w a xs) : Calls Tryz.prog 19 #[.slice a xs.length cap] w fun e w' => ∃ B, e = .returned (.slice (some ⟨B, 0, none⟩) xs.length xs.length) ∧ w.heap.size ≤ B ∧ (B < w'.heap.size ∧ TxsAt (fun c => B < c) 1099511627776 w' B 0 xs) ∧ Below w.heap.size w w' := by
  have HR := hid h
  clear h
  have hmk := make_txs xs.length hm
  obtain ⟨n, hn⟩ : ∃ n, n = xs.length := ⟨_, rfl⟩
  have HN := hid hn.symm
  rw [← hn] at hmk hm ⊢
  clear hn
  go_enter Tryz.func19, Tryz.ntmps19
  go_wp2_with fail
  have hB : Below w.heap.size w (w.alloc (.cells (madeCells #[.int .i64 0, .bool false, .slice none 0 0] (n * 3)) 48)) := balloc (Below.refl _ _) _
  have hT := made_owntx w n
  have hl : w.heap.size < (w.alloc (.cells (madeCells #[.int .i64 0, .bool false, .slice none 0 0] (n * 3)) 48)).heap.size := by simp
  generalize w.alloc (.cells (madeCells #[.int .i64 0, .bool false, .slice none 0 0] (n * 3)) 48) = W at *
  clear hmk
  go_loopw [4] (fun ti wr => ∃ j : Nat, ti = .int .i64 j ∧ j ≤ n ∧ Hid (w.heap.size < wr.heap.size) ∧ Hid (∀ i (hi : i < xs.length), i < j → TxAt (fun c => w.heap.size < c) 1099511627776 wr w.heap.size (i * 3) xs[i]) ∧ Hid (wr.there w.heap.size 0 (n * 3)) ∧ Hid (Below w.heap.size w wr)) (fun ti _ => n - (intOf ti).toNat)
  case atStart => exact ⟨0, rfl, Nat.zero_le _, hid hl, hid (fun i hi h => absurd h (by omega)), hid hT, hid hB⟩
  case round =>
    clear hB hT hl
    obtain ⟨j, rfl, hj, HL, HP, HT, HBW⟩ := hrel
    by_cases hlt : j < n
    · have c1 : (j : Int) < (n : Int) := by omega
      have hjr : j < xs.length := by rw [HN.out]; exact hlt
      obtain ⟨b, o, rfl, hbs, hr⟩ := (HR.out.below HBW.out).at j hjr
      obtain ⟨a', cap', k0, k1, q1, q2, q3, q4, q5⟩ := hr
      have TR := hid (to_tx (N := N) xs[j] a' cap' wr q3 q2 q4)
      have HPR := hid (fun (W : World) (bb : Nat) => put_tx (w := W) (B := w.heap.size) (k := j) (n := n) (b := bb) (xs := xs) hjr HN.out)
      have HK6 := hid q3
      unfold txv at TR
      clear q2 q3 q4 q5
      generalize xs[j].1 = st at *
      generalize xs[j].2.1 = op at *
      generalize xs[j].2.2 = inn at *
      go_wp2_with fail
      refine TR.out.mono ?_
      rintro e w1 ⟨bb, rfl, hbb, ho, hb1⟩
      have hP := fun i (hi : i < xs.length) (h : i < j) => (HP.out i hi h).below hb1
      have hT := there_below HT.out HL.out hb1
      have hB := btrans HBW.out hb1
      have hL : w.heap.size < w1.heap.size := Nat.lt_of_lt_of_le HL.out hb1.size
      have hbl : w.heap.size < bb := Nat.lt_of_lt_of_le HL.out hbb
      have HPUT := hid (HPR.out w1 bb hP hT hbl HK6.out ho)
      have q := fun i (hi : i < n * 3) => hT i hi
      obtain ⟨v0, s0, r0⟩ := there_at hT (show j * 3 < n * 3 by omega)
      obtain ⟨v1, s1, r1⟩ := there_at hT (show j * 3 + 1 < n * 3 by omega)
      obtain ⟨v2, s2, r2⟩ := there_at hT (show j * 3 + 2 < n * 3 by omega)
      clear q hP HPR hb1 ho TR
      have HL1 := hid hL
      have HB1 := hid hB
      clear hT
      go_wp2_with fail
      go_roundw
      case rel => exact ⟨j + 1, by go_num, by omega, hid (by simpa using hL), hid HPUT.out.1, hid HPUT.out.2, hid ((bset (bset (bset hB (by omega) _) (by omega) _) (by omega) _))⟩
      case measure => simp [intOf]; omega
    · obtain rfl : n = j := by omega
      have c1 : (n : Int) ≤ (n : Int) := by omega
      go_wp2_with fail
      go_ret
      exact ⟨w.heap.size, rfl, Nat.le_refl _, ⟨HL.out, fun i hi => by have := HP.out i hi (by rw [HN.out] at hi; exact hi); simpa using this⟩, HBW.out⟩
theorem eq_tx {N1 N2 : Nat → Prop} (x : Tx) (a1 a2 : Option Addr) (c1 c2 : Nat) (w : World) (hm : x.2.2.length ≤ 1099511627776) (h1 : x.2.2.length ≤ c1) (h2 : x.2.2.length ≤ c2) (p1 : Chs N1 1099511627776 w a1 x.2.2) (p2 : Chs N2 1099511627776 w a2 x.2.2) : Calls Tryz.prog 46 #[txv x a1 c1, txv x a2 c2] w fun e w' => e = .returned (.bool true) ∧ Below w.heap.size w w' := by
  obtain ⟨st, op, cs⟩ := x
  unfold txv
  simp only at *
  have EQ := hid (fun (W : World) (hb : Below w.heap.size w W) => eq_chs a1 a2 c1 c2 cs W hm (p1.below hb) (p2.below hb))
  clear p1 p2
  generalize cs.length = n at *
  go_enter Tryz.func46, Tryz.ntmps46
  go_wp2_with fail
  refine (EQ.out _ (balloc (balloc (Below.refl _ _) _) _)).mono ?_
  rintro e w1 ⟨rfl, hb⟩
  go_wp2_with fail
  go_ret
  exact ⟨rfl, btrans (balloc (balloc (Below.refl _ _) _) _) hb⟩
set_option maxHeartbeats 2000000 in
theorem eq_txs {N1 N2 : Nat → Prop} (a b : Option Addr) (cap cap' : Nat) (xs : List Tx) (w : World) (hm : xs.length ≤ 1099511627776) (p1 : Txs N1 1099511627776 w a xs) (p2 : Txs N2 1099511627776 w b xs) : Calls Tryz.prog 23 #[.slice a xs.length cap, .slice b xs.length cap'] w fun e w' => e = .returned (.bool true) ∧ Below w.heap.size w w' := by
  have H1 := hid p1
  have H2 := hid p2
  clear p1 p2
  obtain ⟨n, hn⟩ : ∃ n, n = xs.length := ⟨_, rfl⟩
  have HN := hid hn.symm
  rw [← hn] at hm ⊢
  clear hn
  go_enter Tryz.func23, Tryz.ntmps23
  go_wp2_with fail
  go_loopw [5] (fun ti wr => ∃ j : Nat, ti = .int .i64 j ∧ j ≤ n ∧ Hid (Below w.heap.size w wr)) (fun ti _ => n - (intOf ti).toNat)
  case atStart => exact ⟨0, rfl, Nat.zero_le _, hid (Below.refl _ _)⟩
  case round =>
    obtain ⟨j, rfl, hj, HBW⟩ := hrel
    by_cases hlt : j < n
    · have c1 : (j : Int) < (n : Int) := by omega
      have hjr : j < xs.length := by rw [HN.out]; exact hlt
      obtain ⟨b1, o1, rfl, hb1, a1, c1', k0, k1, q1, q2, q3, q4, q5⟩ := (H1.out.below HBW.out).at j hjr
      obtain ⟨b2, o2, rfl, hb2, a2, c2', l0, l1, r1, r2, r3, r4, r5⟩ := (H2.out.below HBW.out).at j hjr
      have EQ := hid (fun (W : World) (hb : Below wr.heap.size wr W) => eq_tx (N1 := N1) (N2 := N2) xs[j] a1 a2 c1' c2' W q3 q2 r2 (q4.below hb) (r4.below hb))
      unfold txv at EQ
      clear q2 q3 q4 q5 r2 r3 r4 r5
      generalize xs[j].1 = st at *
      generalize xs[j].2.1 = op at *
      generalize xs[j].2.2.length = np at *
      have HB0 : Hid (Below wr.heap.size wr wr.drew) := hid (bdrew (Below.refl _ _))
      go_wp2_with fail
      refine wp_region_held_drew (S := (fun w' => w'.cell? ⟨b1, o1 + j * 3, none⟩ = some (.int .i64 st) ∧ w'.cell? ⟨b1, o1 + j * 3 + 1, none⟩ = some (.bool op) ∧ w'.cell? ⟨b1, o1 + j * 3 + 2, none⟩ = some (.slice a1 np c1') ∧ w'.cell? ⟨b2, o2 + j * 3, none⟩ = some (.int .i64 st) ∧ w'.cell? ⟨b2, o2 + j * 3 + 1, none⟩ = some (.bool op) ∧ w'.cell? ⟨b2, o2 + j * 3 + 2, none⟩ = some (.slice a2 np c2'))) (by kernel_rfl) ?_ (fun hHeld => ?_)
      · (repeat' apply And.intro) <;> (with_reducible repeat (first | assumption | refine keepdrew ?_ | refine keepcell (by assumption) ?_))
      refine wpAnyH_take (i := 0) (v := ?_) rfl (by kernel_rfl) (by kernel_rfl) (by kernel_rfl) (fun _ _ _ h => h) (Or.inl ⟨by rfl, ?_⟩) hHeld ?_
      rotate_left
      · intro w hSw; (try dsimp only at hSw); go_simp; try (with_reducible rfl)
      try simp only [sq]
      refine wpAnyH_take (i := 1) (v := ?_) rfl (by kernel_rfl) (by kernel_rfl) (by kernel_rfl) (fun _ _ _ h => h) (Or.inl ⟨by rfl, ?_⟩) hHeld ?_
      rotate_left
      · intro w hSw; (try dsimp only at hSw); go_simp; try (with_reducible rfl)
      try simp only [sq]
      refine wpAnyH_take (i := 2) (v := ?_) rfl (by kernel_rfl) (by kernel_rfl) (by kernel_rfl) (fun _ _ _ h => h) (Or.inl ⟨by rfl, ?_⟩) hHeld ?_
      rotate_left
      · intro w hSw; (try dsimp only at hSw); go_simp; try (with_reducible rfl)
      try simp only [sq]
      refine wpAnyH_take (i := 3) (v := ?_) rfl (by kernel_rfl) (by kernel_rfl) (by kernel_rfl) (fun _ _ _ h => h) (Or.inl ⟨by rfl, ?_⟩) hHeld ?_
      rotate_left
      · intro w hSw; (try dsimp only at hSw); go_simp; try (with_reducible rfl)
      try simp only [sq]
      refine wpAnyH_take (i := 4) (v := ?_) rfl (by kernel_rfl) (by kernel_rfl) (by kernel_rfl) (fun _ _ _ h => h) (Or.inl ⟨by rfl, ?_⟩) hHeld ?_
      rotate_left
      · intro w hSw; (try dsimp only at hSw); go_simp; try (with_reducible rfl)
      try simp only [sq]
      refine wpAnyH_take (i := 5) (v := ?_) rfl (by kernel_rfl) (by kernel_rfl) (by kernel_rfl) (fun _ _ _ h => h) (Or.inl ⟨by rfl, ?_⟩) hHeld ?_
      rotate_left
      · intro w hSw; (try dsimp only at hSw); go_simp; try (with_reducible rfl)
      try simp only [sq]
      refine wpAnyH_take (i := 6) (v := ?_) rfl (by kernel_rfl) (by kernel_rfl) (by kernel_rfl) (fun _ _ _ h => h) (Or.inl ⟨by rfl, ?_⟩) hHeld ?_
      rotate_left
      · intro w hSw; (try dsimp only at hSw); go_simp; try (with_reducible rfl)
      try simp only [sq]
      refine wpAnyH_take (i := 7) (v := ?_) rfl (by kernel_rfl) (by kernel_rfl) (by kernel_rfl) (fun _ _ _ h => h) (Or.inl ⟨by rfl, ?_⟩) hHeld ?_
      rotate_left
      · intro w hSw; (try dsimp only at hSw); go_simp; try (with_reducible rfl)
      try simp only [sq]
      refine wpAnyH_ready (rs := [8]) (by kernel_rfl) (by simp) ?_
      refine AllReadyH.cons rfl (fun K hK => ?_) AllReadyH.nil
      try simp only [sq]
      go_simp
      (first
          | (go_at_call 46; refine (EQ.out _ HB0.out).mono ?_; rintro e z1 ⟨rfl, hz⟩))
      go_wp2_with fail
      refine hK.out _ _ ?_ (fun hHeld => ?_)
      · (repeat' apply And.intro) <;> (with_reducible repeat (first | assumption | refine keepdrew ?_ | refine keepcell (by assumption) ?_))
      clear hK K
      try simp only [sq]
      refine wpAnyH_take (i := 9) (v := ?_) rfl (by kernel_rfl) (by kernel_rfl) (by kernel_rfl) (fun _ _ _ h => h) (Or.inl ⟨by rfl, ?_⟩) hHeld ?_
      rotate_left
      · intro w hSw; (try dsimp only at hSw); go_simp; try (with_reducible rfl)
      try simp only [sq]
      refine wpAnyH_done (by kernel_rfl) ?_ _
      go_wp2_with fail
      go_roundw
      case rel => exact ⟨j + 1, by go_num, by omega, hid (btrans (bdrew HBW.out) hz)⟩
      case measure => simp [intOf]; omega
    · have c1 : (n : Int) ≤ (j : Int) := by omega
      go_wp2_with fail
      go_ret
      exact ⟨rfl, HBW.out⟩
end Go.Proofs.YtkdoigibpaempaaGreatDoor
