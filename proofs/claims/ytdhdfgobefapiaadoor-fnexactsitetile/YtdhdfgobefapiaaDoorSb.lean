/- Transactions in memory: counted, copied, held one against the other. -/
import Derived.Test.YtdhdfgobefapiaaDoorSa
namespace Go.Proofs.YtdhdfgobefapiaaDoor
open Go.RowKit
set_option linter.unusedSimpArgs false
set_option linter.unusedVariables false
abbrev Tx : Type := Int × Bool × List Ch
def txv (x : Tx) (a : Option Addr) (cap : Nat) : Value := .agg #[.int .i64 x.1, .bool x.2.1, .slice a x.2.2.length cap]
def TxAt (N : Nat → Prop) (M : Nat) (w : World) (b o : Nat) (x : Tx) : Prop :=
  ∃ a cap, w.cell? ⟨b, o, none⟩ = some (.int .i64 x.1) ∧ w.cell? ⟨b, o + 1, none⟩ = some (.bool x.2.1) ∧ w.cell? ⟨b, o + 2, none⟩ = some (.slice a x.2.2.length cap) ∧ x.2.2.length ≤ cap ∧ x.2.2.length ≤ M ∧ Chs N M w a x.2.2 ∧ (∀ c off, a = some ⟨c, off, none⟩ → N c)
def TxsAt (N : Nat → Prop) (M : Nat) (w : World) (b o : Nat) (xs : List Tx) : Prop := ∀ j (h : j < xs.length), TxAt N M w b (o + j * 3) xs[j]
def Txs (N : Nat → Prop) (M : Nat) (w : World) (a : Option Addr) (xs : List Tx) : Prop := xs = [] ∨ ∃ b o, a = some ⟨b, o, none⟩ ∧ b < w.heap.size ∧ TxsAt N M w b o xs
theorem TxAt.below {N : Nat → Prop} {M : Nat} {w w' : World} {b o : Nat} {x : Tx} (h : TxAt N M w b o x) (H : Below w.heap.size w w') : TxAt N M w' b o x := by
  obtain ⟨a, cap, k0, k1, q1, q2, q3, q4, q5⟩ := h
  exact ⟨a, cap, keepcell H k0, keepcell H k1, keepcell H q1, q2, q3, q4.below H, q5⟩
theorem Txs.below {N : Nat → Prop} {M : Nat} {w w' : World} {a : Option Addr} {xs : List Tx} (h : Txs N M w a xs) (H : Below w.heap.size w w') : Txs N M w' a xs := by
  rcases h with h | ⟨b, o, e, hb, h⟩
  · exact .inl h
  · exact .inr ⟨b, o, e, Nat.lt_of_lt_of_le hb H.size, fun j hj => (h j hj).below H⟩
theorem Txs.at {N : Nat → Prop} {M : Nat} {w : World} {a : Option Addr} {xs : List Tx} (h : Txs N M w a xs) (j : Nat) (hj : j < xs.length) : ∃ b o, a = some ⟨b, o, none⟩ ∧ b < w.heap.size ∧ TxAt N M w b (o + j * 3) xs[j] := by
  rcases h with h | ⟨b, o, e, hb, h⟩
  · subst h; simp at hj
  · exact ⟨b, o, e, hb, h j hj⟩
theorem TxAt.blk {N : Nat → Prop} {M : Nat} {w w' : World} {b o : Nat} {x : Tx} (h : TxAt N M w b o x) (hc : ∀ i, i < 3 → w'.cell? ⟨b, o + i, none⟩ = w.cell? ⟨b, o + i, none⟩) (hb : ∀ c, N c → w'.heap[c]? = w.heap[c]?) (hs : w.heap.size ≤ w'.heap.size) : TxAt N M w' b o x := by
  obtain ⟨a, cap, k0, k1, q1, q2, q3, q4, q5⟩ := h
  refine ⟨a, cap, (hc 0 (by omega)).trans k0, (hc 1 (by omega)).trans k1, (hc 2 (by omega)).trans q1, q2, q3, ?_, q5⟩
  rcases q4 with q4 | ⟨c, off, e, hb', hp⟩
  · exact .inl q4
  · have hcc := hb c (q5 c off e)
    refine .inr ⟨c, off, e, by omega, fun k hk => (hp k hk).blk (fun i _ => by simp only [World.cell?, hcc]) hb hs⟩
def txS (xs : List Tx) : Prop := xs.length ≤ 1048576 ∧ ∀ m (h : m < xs.length), chS xs[m].2.2
theorem Txs.small {N : Nat → Prop} {M : Nat} {w : World} {a : Option Addr} {xs : List Tx} (h : Txs N M w a xs) (hs : txS xs) : Txs N 1099511627776 w a xs := by
  rcases h with h | ⟨b, o, e, hb, h⟩
  · exact .inl h
  · refine .inr ⟨b, o, e, hb, fun j hj => ?_⟩
    obtain ⟨a, cap, k0, k1, q1, q2, q3, q4, q5⟩ := h j hj
    have hj2 := hs.2 j hj
    exact ⟨a, cap, k0, k1, q1, q2, by have := hj2.1; omega, q4.small hj2, q5⟩
set_option maxHeartbeats 1000000 in
theorem sz_tx {N : Nat → Prop} (x : Tx) (a : Option Addr) (cap : Nat) (left : Int) (w : World) (hm : x.2.2.length ≤ 9223372036854775807) (h0 : 0 ≤ left) (h1 : left ≤ 1048576) (h : Chs N 9223372036854775807 w a x.2.2) : Calls Tryd.prog 45 #[txv x a cap, .int .i64 left] w fun e w' => (∃ v : Int, e = .returned (.int .i64 v) ∧ (v = -1 ∨ (0 ≤ v ∧ v ≤ 1048576 ∧ Hid (chS x.2.2)))) ∧ Below w.heap.size w w' := by
  obtain ⟨st, op, cs⟩ := x
  unfold txv
  simp only at *
  have SZ := hid (fun (W : World) (hb : Below w.heap.size w W) => sz_chs a cap cs left W hm h0 h1 (h.below hb))
  clear h
  obtain ⟨B, hB⟩ : ∃ B : Prop, B = chS cs := ⟨_, rfl⟩
  rw [← hB] at SZ ⊢
  clear hB
  generalize cs.length = n at *
  go_enter Tryd.func45, Tryd.ntmps45
  go_wp2_with fail
  refine (SZ.out _ (balloc (Below.refl _ _) _)).mono ?_
  rintro e w1 ⟨⟨v, rfl, hv⟩, hb⟩
  have hB := btrans (balloc (Below.refl _ w) _) hb
  rcases hv with rfl | ⟨hv0, hv1, HV⟩
  · go_wp2_with fail
    go_ret
    exact ⟨⟨_, rfl, .inl rfl⟩, hB⟩
  · have hv2 : ¬ v < 0 := by omega
    go_wp2_with fail
    go_ret
    exact ⟨⟨_, rfl, .inr ⟨hv0, hv1, HV⟩⟩, hB⟩
set_option maxHeartbeats 1000000 in
theorem sz_txs {N : Nat → Prop} (a : Option Addr) (cap : Nat) (xs : List Tx) (left : Int) (w : World) (hm : xs.length ≤ 9223372036854775807) (h0 : 0 ≤ left) (h1 : left ≤ 1048576) (h : Txs N 9223372036854775807 w a xs) : Calls Tryd.prog 33 #[.slice a xs.length cap, .int .i64 left] w fun e w' => (∃ v : Int, e = .returned (.int .i64 v) ∧ (v = -1 ∨ (0 ≤ v ∧ v ≤ 1048576 ∧ Hid (txS xs)))) ∧ Below w.heap.size w w' := by
  have HR := hid h
  clear h
  by_cases hb : left < (xs.length : Int)
  · have h2 : left - (xs.length : Int) < 0 := by omega
    go_enter Tryd.func33, Tryd.ntmps33
    go_wp2_with fail
    go_ret
    exact ⟨⟨_, rfl, .inl rfl⟩, Below.refl _ _⟩
  · have h2 : ¬ (left - (xs.length : Int) < 0) := by omega
    have HF : Hid ((∀ m (h : m < xs.length), chS xs[m].2.2) → txS xs) := hid (fun h => ⟨by omega, h⟩)
    go_enter Tryd.func33, Tryd.ntmps33
    go_wp2_with fail
    go_loopw [5, 1] (fun ti tl wr => ∃ j : Nat, ∃ l : Int, ti = .int .i64 j ∧ tl = .int .i64 l ∧ j ≤ xs.length ∧ 0 ≤ l ∧ l ≤ 1048576 ∧ Hid (∀ m (h : m < xs.length), m < j → chS xs[m].2.2) ∧ Hid (Below w.heap.size w wr)) (fun ti _ _ => xs.length - (intOf ti).toNat)
    case atStart => exact ⟨0, _, rfl, rfl, Nat.zero_le _, by omega, by omega, hid (fun m h hh => absurd hh (by omega)), hid (Below.refl _ _)⟩
    case round =>
      obtain ⟨j, l, rfl, rfl, hj, hl0, hl1, HM, HB⟩ := hrel
      by_cases hlt : j < xs.length
      · have c1 : (j : Int) < (xs.length : Int) := by omega
        obtain ⟨b, o, rfl, hbs, hr⟩ := (HR.out.below HB.out).at j hlt
        obtain ⟨a', cap', k0, k1, q1, q2, q3, q4, q5⟩ := hr
        have HX : Hid ((chS xs[j].2.2) → ∀ m (h : m < xs.length), m < j + 1 → chS xs[m].2.2) := hid (fun hx m h hm => by
          by_cases e : m = j
          · subst e; exact hx
          · exact HM.out m h (by omega))
        have S := hid (sz_tx (N := N) xs[j] a' cap' l wr q3 hl0 hl1 q4)
        unfold txv at S
        obtain ⟨Q, hQ⟩ : ∃ Q : Prop, Q = (chS xs[j].2.2) := ⟨_, rfl⟩
        rw [← hQ] at HX S
        clear hQ q2 q3 q4 q5
        generalize xs[j].1 = st at *
        generalize xs[j].2.1 = op at *
        generalize xs[j].2.2.length = np at *
        go_wp2_with fail
        refine (S.out).mono ?_
        rintro e w1 ⟨⟨v, rfl, hv⟩, hb1⟩
        have hB := btrans HB.out hb1
        rcases hv with rfl | ⟨hv0, hv1, hv3⟩
        · go_wp2_with fail
          go_ret
          exact ⟨⟨_, rfl, .inl rfl⟩, hB⟩
        · have hv2 : ¬ v < 0 := by omega
          have HX2 := hid (HX.out hv3.out)
          clear hv3
          go_wp2_with fail
          go_roundw
          case rel => exact ⟨j + 1, v, by go_num, rfl, by omega, hv0, hv1, HX2, hid hB⟩
          case measure => simp [intOf]; omega
      · have c1 : (xs.length : Int) ≤ (j : Int) := by omega
        have HF2 := hid (HF.out (fun m h => HM.out m h (by omega)))
        go_wp2_with fail
        go_ret
        exact ⟨⟨_, rfl, .inr ⟨hl0, hl1, HF2⟩⟩, HB.out⟩
theorem Tryd.infoTx : (Tryd.prog.info? 98).map (fun i => (i.zero, i.size, i.bytes)) = some (some (.agg #[.int .i64 0, .bool false, .slice none 0 0]), 3, 40) := by kernel_rfl
theorem make_txs (n : Nat) (hn : n ≤ 1099511627776) (w : World) : (Instr.makeSlice 41 (.int .i64 n) (.int .i64 n)).run Tryd.prog w = .ok (.slice (some ⟨w.heap.size, 0, none⟩) n n) (w.alloc (.cells (madeCells #[.int .i64 0, .bool false, .slice none 0 0] (n * 3)) 98)) := by
  obtain ⟨i0, hi, hz0, hz1, hz2⟩ := info_parts Tryd.infoTx
  have := run_make (P := Tryd.prog) w 41 98 i0 _ Tryd.underlying41 hi hz0 .i64 .i64 n n (by omega) (by omega) (by rw [hz2]; omega) (by omega)
  rw [hz1] at this
  exact this
theorem made_owntx (w : World) (n : Nat) : (w.alloc (.cells (madeCells #[.int .i64 0, .bool false, .slice none 0 0] (n * 3)) 98)).there w.heap.size 0 (n * 3) := by
  intro j hj
  simp only [Nat.zero_add]
  refine ⟨?_, World.frozen?_alloc_new w _ _ j⟩
  rw [World.cell?_alloc_new]
  have hs := size_madeCells #[.int .i64 0, .bool false, .slice none 0 0] (n * 3)
  rw [Array.getElem?_eq_getElem (by rw [hs]; exact hj)]
  rfl
theorem put_tx {w : World} {B k n b : Nat} {xs : List Tx} (hk : k < xs.length) (hn : xs.length = n) (h : ∀ j (hj : j < xs.length), j < k → TxAt (fun c => B < c) 1099511627776 w B (j * 3) xs[j]) (ht : w.there B 0 (n * 3)) (hb : B < b) (hm : xs[k].2.2.length ≤ 1099511627776) (ho : b < w.heap.size ∧ ChsAt (fun c => b < c) 1099511627776 w b 0 xs[k].2.2) :
    (∀ j (hj : j < xs.length), j < k + 1 → TxAt (fun c => B < c) 1099511627776 (((w.setCell ⟨B, k * 3, none⟩ (.int .i64 xs[k].1)).setCell ⟨B, k * 3 + 1, none⟩ (.bool xs[k].2.1)).setCell ⟨B, k * 3 + 2, none⟩ (.slice (some ⟨b, 0, none⟩) xs[k].2.2.length xs[k].2.2.length)) B (j * 3) xs[j]) ∧ (((w.setCell ⟨B, k * 3, none⟩ (.int .i64 xs[k].1)).setCell ⟨B, k * 3 + 1, none⟩ (.bool xs[k].2.1)).setCell ⟨B, k * 3 + 2, none⟩ (.slice (some ⟨b, 0, none⟩) xs[k].2.2.length xs[k].2.2.length)).there B 0 (n * 3) := by
  subst hn
  have e : (((w.setCell ⟨B, k * 3, none⟩ (.int .i64 xs[k].1)).setCell ⟨B, k * 3 + 1, none⟩ (.bool xs[k].2.1)).setCell ⟨B, k * 3 + 2, none⟩ (.slice (some ⟨b, 0, none⟩) xs[k].2.2.length xs[k].2.2.length)) = w.setCells B (k * 3) [.int .i64 xs[k].1, .bool xs[k].2.1, .slice (some ⟨b, 0, none⟩) xs[k].2.2.length xs[k].2.2.length] := rfl
  have hblk : ∀ c, B < c → (w.setCells B (k * 3) [.int .i64 xs[k].1, .bool xs[k].2.1, .slice (some ⟨b, 0, none⟩) xs[k].2.2.length xs[k].2.2.length]).heap[c]? = w.heap[c]? := by
    intro c hc
    rw [← e]
    rw [Below.heap_setCell _ _ _ _ (by dsimp only; omega), Below.heap_setCell _ _ _ _ (by dsimp only; omega), Below.heap_setCell _ _ _ _ (by dsimp only; omega)]
  have hsz : (w.setCells B (k * 3) [.int .i64 xs[k].1, .bool xs[k].2.1, .slice (some ⟨b, 0, none⟩) xs[k].2.2.length xs[k].2.2.length]).heap.size = w.heap.size := by
    rw [← e]; simp
  rw [e]
  have hth : w.there B (k * 3) 3 := by
    intro j hj
    have := ht (k * 3 + j) (by omega)
    rwa [Nat.zero_add] at this
  have hr := World.rangeAt_setCells_same w B (k * 3) [.int .i64 xs[k].1, .bool xs[k].2.1, .slice (some ⟨b, 0, none⟩) xs[k].2.2.length xs[k].2.2.length] hth
  refine ⟨?_, World.there_setCells ht _ _ _⟩
  intro j hj hjk
  by_cases ej : j = k
  · subst ej
    refine ⟨some ⟨b, 0, none⟩, xs[j].2.2.length, by simpa using hr 0 _ rfl, hr 1 _ rfl, hr 2 _ rfl, Nat.le_refl _, hm, .inr ⟨b, 0, rfl, by rw [hsz]; exact ho.1, fun i hi => by
      obtain ⟨a', cap', p0, p1, p2, p3, p4, p5, p6, p7⟩ := (ho.2 i hi).blk (w' := w.setCells B (j * 3) [.int .i64 xs[j].1, .bool xs[j].2.1, .slice (some ⟨b, 0, none⟩) xs[j].2.2.length xs[j].2.2.length]) (fun i _ => by simp only [World.cell?, hblk b hb]) (fun c hc => hblk c (by omega)) (by omega)
      exact ⟨a', cap', p0, p1, p2, p3, p4, p5, p6, fun c off e => (by have := p7 c off e; omega)⟩⟩, fun c off e => (by cases e; exact hb)⟩
  · exact (h j hj (by omega)).blk (fun i hi => World.cell?_setCells_out B _ (k * 3) w ⟨B, j * 3 + i, none⟩ (fun _ _ => by left; show j * 3 + i < k * 3; omega)) (fun c hc => hblk c hc) (by omega)
theorem eq_tx {N1 N2 : Nat → Prop} (x : Tx) (a1 a2 : Option Addr) (c1 c2 : Nat) (w : World) (hm : x.2.2.length ≤ 1099511627776) (h1 : x.2.2.length ≤ c1) (h2 : x.2.2.length ≤ c2) (p1 : Chs N1 1099511627776 w a1 x.2.2) (p2 : Chs N2 1099511627776 w a2 x.2.2) : Calls Tryd.prog 50 #[txv x a1 c1, txv x a2 c2] w fun e w' => e = .returned (.bool true) ∧ Below w.heap.size w w' := by
  obtain ⟨st, op, cs⟩ := x
  unfold txv
  simp only at *
  have EQ := hid (fun (W : World) (hb : Below w.heap.size w W) => eq_chs a1 a2 c1 c2 cs W hm (p1.below hb) (p2.below hb))
  clear p1 p2
  generalize cs.length = n at *
  go_enter Tryd.func50, Tryd.ntmps50
  go_wp2_with fail
  refine (EQ.out _ (balloc (balloc (Below.refl _ _) _) _)).mono ?_
  rintro e w1 ⟨rfl, hb⟩
  go_wp2_with fail
  go_ret
  exact ⟨rfl, btrans (balloc (balloc (Below.refl _ _) _) _) hb⟩
set_option maxHeartbeats 2000000 in
theorem eq_txs {N1 N2 : Nat → Prop} (a b : Option Addr) (cap cap' : Nat) (xs : List Tx) (w : World) (hm : xs.length ≤ 1099511627776) (p1 : Txs N1 1099511627776 w a xs) (p2 : Txs N2 1099511627776 w b xs) : Calls Tryd.prog 43 #[.slice a xs.length cap, .slice b xs.length cap'] w fun e w' => e = .returned (.bool true) ∧ Below w.heap.size w w' := by
  have H1 := hid p1
  have H2 := hid p2
  clear p1 p2
  obtain ⟨n, hn⟩ : ∃ n, n = xs.length := ⟨_, rfl⟩
  have HN := hid hn.symm
  rw [← hn] at hm ⊢
  clear hn
  go_enter Tryd.func43, Tryd.ntmps43
  go_wp2_with fail
  go_loopw [5] (fun ti wr => ∃ j : Nat, ti = .int .i64 j ∧ j ≤ n ∧ Hid (Below w.heap.size w wr)) (fun ti _ => n - (intOf ti).toNat)
  case atStart => exact ⟨0, rfl, Nat.zero_le _, hid (Below.refl _ _)⟩
  case round =>
    obtain ⟨j, rfl, hj, HBW⟩ := hrel
    by_cases hlt : j < n
    · have c1 : (j : Int) < (n : Int) := by omega
      have hjr : j < xs.length := by rw [HN.out]; exact hlt
      obtain ⟨b1, o1, rfl, hb1, a1, c1', k0, k1, q1, q2, q3, q4, q5⟩ := (H1.out.below HBW.out).at j hjr
      obtain ⟨b2, o2, rfl, hb2, a2, c2', l0, l1, r1, r2, r3, r4, r5⟩ := (H2.out.below HBW.out).at j hjr
      have EQ := hid (fun (W : World) (hb : Below wr.heap.size wr W) => eq_tx (N1 := N1) (N2 := N2) xs[j] a1 a2 c1' c2' W q3 q2 r2 (q4.below hb) (r4.below hb))
      unfold txv at EQ
      clear q2 q3 q4 q5 r2 r3 r4 r5
      generalize xs[j].1 = st at *
      generalize xs[j].2.1 = op at *
      generalize xs[j].2.2.length = np at *
      have HB0 : Hid (Below wr.heap.size wr wr.drew) := hid (bdrew (Below.refl _ _))
      go_wp2_with fail
      refine wp_region_held_drew (S := (fun w' => w'.cell? ⟨b1, o1 + j * 3, none⟩ = some (.int .i64 st) ∧ w'.cell? ⟨b1, o1 + j * 3 + 1, none⟩ = some (.bool op) ∧ w'.cell? ⟨b1, o1 + j * 3 + 2, none⟩ = some (.slice a1 np c1') ∧ w'.cell? ⟨b2, o2 + j * 3, none⟩ = some (.int .i64 st) ∧ w'.cell? ⟨b2, o2 + j * 3 + 1, none⟩ = some (.bool op) ∧ w'.cell? ⟨b2, o2 + j * 3 + 2, none⟩ = some (.slice a2 np c2'))) (by kernel_rfl) ?_ (fun hHeld => ?_)
      · (repeat' apply And.intro) <;> (repeat (first | with_reducible assumption | with_reducible refine keepdrew ?_ | with_reducible refine keepcell (by with_reducible assumption) ?_))
      refine wpAnyH_take (i := 0) (v := ?_) rfl (by kernel_rfl) (by kernel_rfl) (by kernel_rfl) (fun _ _ _ h => h) (Or.inl ⟨by rfl, ?_⟩) hHeld ?_
      rotate_left
      · intro w hSw; (try dsimp only at hSw); go_simp; try (with_reducible rfl)
      try simp only [sq]
      refine wpAnyH_take (i := 1) (v := ?_) rfl (by kernel_rfl) (by kernel_rfl) (by kernel_rfl) (fun _ _ _ h => h) (Or.inl ⟨by rfl, ?_⟩) hHeld ?_
      rotate_left
      · intro w hSw; (try dsimp only at hSw); go_simp; try (with_reducible rfl)
      try simp only [sq]
      refine wpAnyH_take (i := 2) (v := ?_) rfl (by kernel_rfl) (by kernel_rfl) (by kernel_rfl) (fun _ _ _ h => h) (Or.inl ⟨by rfl, ?_⟩) hHeld ?_
      rotate_left
      · intro w hSw; (try dsimp only at hSw); go_simp; try (with_reducible rfl)
      try simp only [sq]
      refine wpAnyH_take (i := 3) (v := ?_) rfl (by kernel_rfl) (by kernel_rfl) (by kernel_rfl) (fun _ _ _ h => h) (Or.inl ⟨by rfl, ?_⟩) hHeld ?_
      rotate_left
      · intro w hSw; (try dsimp only at hSw); go_simp; try (with_reducible rfl)
      try simp only [sq]
      refine wpAnyH_take (i := 4) (v := ?_) rfl (by kernel_rfl) (by kernel_rfl) (by kernel_rfl) (fun _ _ _ h => h) (Or.inl ⟨by rfl, ?_⟩) hHeld ?_
      rotate_left
      · intro w hSw; (try dsimp only at hSw); go_simp; try (with_reducible rfl)
      try simp only [sq]
      refine wpAnyH_take (i := 5) (v := ?_) rfl (by kernel_rfl) (by kernel_rfl) (by kernel_rfl) (fun _ _ _ h => h) (Or.inl ⟨by rfl, ?_⟩) hHeld ?_
      rotate_left
      · intro w hSw; (try dsimp only at hSw); go_simp; try (with_reducible rfl)
      try simp only [sq]
      refine wpAnyH_take (i := 6) (v := ?_) rfl (by kernel_rfl) (by kernel_rfl) (by kernel_rfl) (fun _ _ _ h => h) (Or.inl ⟨by rfl, ?_⟩) hHeld ?_
      rotate_left
      · intro w hSw; (try dsimp only at hSw); go_simp; try (with_reducible rfl)
      try simp only [sq]
      refine wpAnyH_take (i := 7) (v := ?_) rfl (by kernel_rfl) (by kernel_rfl) (by kernel_rfl) (fun _ _ _ h => h) (Or.inl ⟨by rfl, ?_⟩) hHeld ?_
      rotate_left
      · intro w hSw; (try dsimp only at hSw); go_simp; try (with_reducible rfl)
      try simp only [sq]
      refine wpAnyH_ready (rs := [8]) (by kernel_rfl) (by simp) ?_
      refine AllReadyH.cons rfl (fun K hK => ?_) AllReadyH.nil
      try simp only [sq]
      go_simp
      (first
          | (go_at_call 50; refine (EQ.out _ HB0.out).mono ?_; rintro e z1 ⟨rfl, hz⟩))
      go_wp2_with fail
      refine hK.out _ _ ?_ (fun hHeld => ?_)
      · (repeat' apply And.intro) <;> (repeat (first | with_reducible assumption | with_reducible refine keepdrew ?_ | with_reducible refine keepcell (by with_reducible assumption) ?_))
      clear hK K
      try simp only [sq]
      refine wpAnyH_take (i := 9) (v := ?_) rfl (by kernel_rfl) (by kernel_rfl) (by kernel_rfl) (fun _ _ _ h => h) (Or.inl ⟨by rfl, ?_⟩) hHeld ?_
      rotate_left
      · intro w hSw; (try dsimp only at hSw); go_simp; try (with_reducible rfl)
      try simp only [sq]
      refine wpAnyH_done (by kernel_rfl) ?_ _
      go_wp2_with fail
      go_roundw
      case rel => exact ⟨j + 1, by go_num, by omega, hid (btrans (bdrew HBW.out) hz)⟩
      case measure => simp [intOf]; omega
    · have c1 : (n : Int) ≤ (j : Int) := by omega
      go_wp2_with fail
      go_ret
      exact ⟨rfl, HBW.out⟩
end Go.Proofs.YtdhdfgobefapiaaDoor
