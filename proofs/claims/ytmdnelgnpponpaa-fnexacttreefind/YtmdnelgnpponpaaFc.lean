/- The law's helpers for items and knots: their sizes, their copies, whether two are the same. -/
import Derived.Test.YtmdnelgnpponpaaFb
import Derived.Deep.RegionHeld3
namespace Go.Proofs.Ytmdnelgnpponpaa
open Go.RowKit
set_option linter.unusedSimpArgs false
set_option linter.unusedVariables false
theorem to_boxb (a b c d : Int) (w : World) : Calls Try.prog 20 #[.agg #[.int .i64 a, .int .i64 b, .int .i64 c, .int .i64 d]] w fun e w' => e = .returned (.agg #[.int .i64 a, .int .i64 b, .int .i64 c, .int .i64 d]) ∧ Below w.heap.size w w' := by
  refine (to_box a b c d w).mono ?_
  rintro e w' ⟨rfl, rfl⟩
  refine ⟨rfl, ?_⟩
  (repeat (first | with_reducible exact Below.refl _ _ | with_reducible refine balloc ?_ _ | with_reducible refine bset ?_ (by simp) _ | (refine bset ?_ ?_ _; rotate_left; (first | exact Nat.le_refl _ | (simp; done) | (simp; omega)))))
set_option maxRecDepth 100000 in
set_option maxHeartbeats 1000000 in
theorem to_item (i a b c d : Int) (w : World) : Calls Try.prog 51 #[.agg #[.int .i64 i, .int .i64 a, .int .i64 b, .int .i64 c, .int .i64 d]] w fun e w' => e = .returned (.agg #[.int .i64 i, .int .i64 a, .int .i64 b, .int .i64 c, .int .i64 d]) ∧ Below w.heap.size w w' := by
  go_enter Try.func51, Try.ntmps51
  go_wp2_with (first | (go_at_call 20; refine (to_box _ _ _ _ _).mono ?_; rintro e w1 ⟨rfl, rfl⟩))
  refine bodyPost_ret (v := .agg #[.int .i64 i, .int .i64 a, .int .i64 b, .int .i64 c, .int .i64 d]) (by simp [results, Try.results51, go_sem]) rfl ⟨rfl, ?_⟩
  (repeat (first | with_reducible exact Below.refl _ _ | with_reducible refine balloc ?_ _ | (refine bset ?_ ?_ _; rotate_left; (first | exact Nat.le_refl _ | (simp; done) | (simp; omega)))))
theorem Try.infoIt : (Try.prog.info? 54).map (fun i => (i.zero, i.size, i.bytes)) = some (some (.agg #[.int .i64 0, .int .i64 0, .int .i64 0, .int .i64 0, .int .i64 0]), 5, 40) := by kernel_rfl
theorem Try.infoKn : (Try.prog.info? 34).map (fun i => (i.zero, i.size, i.bytes)) = some (some (.agg #[.int .i64 0, .int .i64 0, .int .i64 0, .int .i64 0, .bool false, .slice none 0 0, .slice none 0 0]), 7, 88) := by kernel_rfl
theorem make_items (n : Nat) (hn : n ≤ 1099511627776) (w : World) : (Instr.makeSlice 31 (.int .i64 n) (.int .i64 n)).run Try.prog w = .ok (.slice (some ⟨w.heap.size, 0, none⟩) n n) (w.alloc (.cells (madeCells #[.int .i64 0, .int .i64 0, .int .i64 0, .int .i64 0, .int .i64 0] (n * 5)) 54)) := by
  obtain ⟨i0, hi, hz0, hz1, hz2⟩ := info_parts Try.infoIt
  have := run_make (P := Try.prog) w 31 54 i0 _ Try.underlying31 hi hz0 .i64 .i64 n n (by omega) (by omega) (by rw [hz2]; omega) (by omega)
  rw [hz1] at this
  exact this
theorem make_knots (n : Nat) (hn : n ≤ 1099511627776) (w : World) : (Instr.makeSlice 32 (.int .i64 n) (.int .i64 n)).run Try.prog w = .ok (.slice (some ⟨w.heap.size, 0, none⟩) n n) (w.alloc (.cells (madeCells #[.int .i64 0, .int .i64 0, .int .i64 0, .int .i64 0, .bool false, .slice none 0 0, .slice none 0 0] (n * 7)) 34)) := by
  obtain ⟨i0, hi, hz0, hz1, hz2⟩ := info_parts Try.infoKn
  have := run_make (P := Try.prog) w 32 34 i0 _ Try.underlying32 hi hz0 .i64 .i64 n n (by omega) (by omega) (by rw [hz2]; omega) (by omega)
  rw [hz1] at this
  exact this
theorem made_ownG (w : World) (zs : Array Value) (n : Nat) (t : TypeId) (h0 : 0 < zs.size) : (w.alloc (.cells (madeCells zs n) t)).there w.heap.size 0 n := by
  intro j hj
  simp only [Nat.zero_add]
  refine ⟨?_, World.frozen?_alloc_new w _ _ j⟩
  rw [World.cell?_alloc_new]
  unfold madeCells
  rw [Array.getElem?_map, Array.getElem?_range, if_pos hj]
  rfl
set_option maxRecDepth 100000 in
set_option maxHeartbeats 2000000 in
theorem to_items (a : Option Addr) (cap : Nat) (l : List It) (w : World) (hm : l.length ≤ 1099511627776) (hc : l.length ≤ cap) (h : ItL w a l) : Calls Try.prog 32 #[.slice a l.length cap] w fun e w' => ∃ b, e = .returned (.slice (some ⟨b, 0, none⟩) l.length l.length) ∧ w.heap.size ≤ b ∧ ItO w' b l ∧ Below w.heap.size w w' := by
  have hmk := make_items l.length hm
  go_enter Try.func32, Try.ntmps32
  go_wp2_with fail
  go_loopw [4] (fun ti wr => ∃ k : Nat, ti = .int .i64 k ∧ k ≤ l.length ∧ Below w.heap.size w wr ∧ w.heap.size < wr.heap.size ∧ (∀ j (h : j < l.length), j < k → Cs wr w.heap.size (j * 5) (ci l[j])) ∧ wr.there w.heap.size 0 (l.length * 5)) (fun ti _ => l.length - (intOf ti).toNat)
  case atStart => exact ⟨0, rfl, Nat.zero_le _, (Below.refl _ _).alloc (Nat.le_refl _) _, by simp, fun j _ hj => by omega, made_ownG w _ _ _ (by simp)⟩
  case round =>
    clear hmk
    obtain ⟨k, rfl, hk, hb, hB, hp, ht⟩ := hrel
    by_cases hlt : k < l.length
    · rcases h with rfl | ⟨b, off, rfl, hbs, hq⟩
      · simp at hlt
      obtain ⟨c0, c1, c2, c3, c4⟩ := ((hq k hlt).below hbs hb).item
      have hci : ci l[k] = [.int .i64 l[k].1, .int .i64 l[k].2.1, .int .i64 l[k].2.2.1, .int .i64 l[k].2.2.2.1, .int .i64 l[k].2.2.2.2] := rfl
      generalize hx : l[k].1 = x at *
      generalize hy : l[k].2.1 = y at *
      generalize hu : l[k].2.2.1 = u at *
      generalize hv : l[k].2.2.2.1 = v at *
      generalize hz : l[k].2.2.2.2 = z at *
      have Hci := hid hci
      have Hq := hid hq
      have Hp := hid hp
      have Ht := hid ht
      clear hq hp ht hci hx hy hu hv hz
      go_wp2_with fail
      refine (to_item _ _ _ _ _ _).mono ?_
      rintro e w1 ⟨rfl, hb1⟩
      have Ht1 := hid (there_below Ht.out hB hb1)
      have Hp1 := hid (fun j (h : j < l.length) hjk => (Hp.out j h hjk).below hB hb1)
      have hB1 := Nat.lt_of_lt_of_le hB hb1.size
      obtain ⟨g0, g0'⟩ := Ht1.out (k * 5) (by omega)
      obtain ⟨g1, g1'⟩ := Ht1.out (k * 5 + 1) (by omega)
      obtain ⟨g2, g2'⟩ := Ht1.out (k * 5 + 2) (by omega)
      obtain ⟨g3, g3'⟩ := Ht1.out (k * 5 + 3) (by omega)
      obtain ⟨g4, g4'⟩ := Ht1.out (k * 5 + 4) (by omega)
      obtain ⟨u0, hu0⟩ := Option.isSome_iff_exists.1 g0
      obtain ⟨u1, hu1⟩ := Option.isSome_iff_exists.1 g1
      obtain ⟨u2, hu2⟩ := Option.isSome_iff_exists.1 g2
      obtain ⟨u3, hu3⟩ := Option.isSome_iff_exists.1 g3
      obtain ⟨u4, hu4⟩ := Option.isSome_iff_exists.1 g4
      simp only [Nat.zero_add, ← Nat.add_assoc] at hu0 hu1 hu2 hu3 hu4 g0' g1' g2' g3' g4'
      clear g0 g1 g2 g3 g4
      go_wp2_with fail
      go_roundw
      case rel =>
        obtain ⟨r1, r2, r3⟩ := put_el (k := k) (m := 5) (vs := [.int .i64 x, .int .i64 y, .int .i64 u, .int .i64 v, .int .i64 z]) rfl Ht1.out (by omega)
        refine ⟨k + 1, by go_num, by omega, setL_below [.int .i64 x, .int .i64 y, .int .i64 u, .int .i64 v, .int .i64 z] w w1 w.heap.size (k * 5) _ (btrans hb hb1) (Nat.le_refl _), ?_, ?_, r2⟩
        · show w.heap.size < (setL w1 w.heap.size (k * 5) [.int .i64 x, .int .i64 y, .int .i64 u, .int .i64 v, .int .i64 z]).heap.size
          rw [setL_size]; exact hB1
        · intro j hj hjk
          by_cases e : j = k
          · subst e
            rw [Hci.out]
            exact r1
          · exact r3 (j * 5) _ (by simp [ci]; omega) (Hp1.out j hj (by omega))
      case measure => simp [intOf]; omega
    · have hk' : k = l.length := by omega
      subst hk'
      have Hp := hid hp
      have Ht := hid ht
      clear hp ht
      go_wp2_with fail
      go_ret
      exact ⟨w.heap.size, rfl, Nat.le_refl _, ⟨hB, fun j hj => Hp.out j hj hj, Ht.out⟩, hb⟩
/-- What is left of a size. -/
def szr (left : Int) (n : Nat) : Int := if left < (n : Int) then -1 else left - (n : Int)
theorem szr_more {left : Int} {a b : Nat} (h : ¬ szr left a < 0) : szr (szr left a) b = szr left (a + b) := by
  unfold szr at *
  split at h
  · omega
  · rename_i h1
    rw [if_neg h1]
    by_cases h2 : left - (a : Int) < (b : Int)
    · rw [if_pos h2, if_pos (by omega)]
    · rw [if_neg h2, if_neg (by omega)]; omega
theorem szr_neg {left : Int} {a b : Nat} (h : szr left a < 0) (h0 : 0 ≤ left) (hab : a ≤ b) : szr left b = -1 := by
  unfold szr at *
  split at h
  · rw [if_pos (by omega)]
  · omega
theorem szr_le {left : Int} {a : Nat} (h0 : 0 ≤ left) : -1 ≤ szr left a ∧ szr left a ≤ left := by
  unfold szr
  split <;> omega
theorem sz_items (a : Option Addr) (n cap : Nat) (left : Int) (w : World) (hn : n ≤ 9223372036854775807) (h0 : 0 ≤ left) (h1 : left ≤ 1048576) : Calls Try.prog 29 #[.slice a n cap, .int .i64 left] w fun e w' => e = .returned (.int .i64 (szr left n)) ∧ w' = w := by
  unfold szr
  have hw : IntKind.i64.wrap (left - (n : Int)) = left - (n : Int) := by rw [IntKind.wrap_i64]; omega
  by_cases h : left < (n : Int)
  · have hd : left - (n : Int) < 0 := by omega
    rw [if_pos h]
    go_enter Try.func29, Try.ntmps29
    go_wp2_with fail
    go_ret
    exact ⟨rfl, rfl⟩
  · have hd : ¬ left - (n : Int) < 0 := by omega
    rw [if_neg h]
    go_enter Try.func29, Try.ntmps29
    go_wp2_with fail
    go_ret
    exact ⟨rfl, rfl⟩
theorem sum_take (f : KT → Nat) (l : List KT) {k : Nat} (h : k < l.length) : ((l.take (k + 1)).map f).sum = ((l.take k).map f).sum + f l[k] := by
  rw [List.take_add_one, List.getElem?_eq_getElem h, Option.toList_some, List.map_append, List.sum_append]
  simp only [List.map_cons, List.map_nil, List.sum_cons, List.sum_nil, Nat.add_zero]
theorem sum_take_le (f : KT → Nat) (l : List KT) (k : Nat) : ((l.take k).map f).sum ≤ (l.map f).sum := by
  conv => rhs; rw [← List.take_append_drop k l]
  rw [List.map_append, List.sum_append]
  omega
set_option maxRecDepth 100000 in
set_option maxHeartbeats 2000000 in
theorem sz_knots (n : Nat) (IH : ∀ (t : KT) (ia : Option Addr) (ic : Nat) (ka : Option Addr) (kc : Nat) (left : Int) (w : World), KnL n w ia ic ka kc t → 0 ≤ left → left ≤ 1048576 → Calls Try.prog 8 #[kv t ia ic ka kc, .int .i64 left] w fun e w' => e = .returned (.int .i64 (szr left (ksz n t))) ∧ Below w.heap.size w w')
    (a : Option Addr) (cap : Nat) (l : List KT) (left : Int) (w : World) (hc : l.length ≤ cap) (hm : cap ≤ 9223372036854775807) (h0 : 0 ≤ left) (h1 : left ≤ 1048576)
    (h : l = [] ∨ ∃ b off, a = some ⟨b, off, none⟩ ∧ b < w.heap.size ∧ ∀ j (h : j < l.length), ∃ ia' ic' ka' kc', Cs w b (off + j * 7) (ck l[j] ia' ic' ka' kc') ∧ KnL n w ia' ic' ka' kc' l[j]) :
    Calls Try.prog 30 #[.slice a l.length cap, .int .i64 left] w fun e w' => e = .returned (.int .i64 (szr left (l.length + (l.map (ksz n)).sum))) ∧ Below w.heap.size w w' := by
  have hw : IntKind.i64.wrap (left - (l.length : Int)) = left - (l.length : Int) := by rw [IntKind.wrap_i64]; omega
  by_cases hneg : left < (l.length : Int)
  · have hd : left - (l.length : Int) < 0 := by omega
    have he : szr left (l.length + (l.map (ksz n)).sum) = -1 := by unfold szr; rw [if_pos (by omega)]
    rw [he]
    clear IH h
    go_enter Try.func30, Try.ntmps30
    go_wp2_with fail
    go_ret
    exact ⟨rfl, Below.refl _ _⟩
  have hd : ¬ left - (l.length : Int) < 0 := by omega
  have hIH := hid IH
  have hh := hid h
  clear IH h
  go_enter Try.func30, Try.ntmps30
  go_wp2_with fail
  go_loopw [1, 5] (fun tl ti wr => ∃ k : Nat, ti = .int .i64 k ∧ k ≤ l.length ∧ tl = .int .i64 (szr left (l.length + ((l.take k).map (ksz n)).sum)) ∧ ¬ szr left (l.length + ((l.take k).map (ksz n)).sum) < 0 ∧ Below w.heap.size w wr) (fun _ ti _ => l.length - (intOf ti).toNat)
  case atStart => exact ⟨0, rfl, Nat.zero_le _, by rw [List.take_zero]; simp only [List.map_nil, List.sum_nil, Nat.add_zero]; unfold szr; rw [if_neg (by omega)], by rw [List.take_zero]; simp only [List.map_nil, List.sum_nil, Nat.add_zero]; unfold szr; rw [if_neg (by omega)]; omega, Below.refl _ _⟩
  case round =>
    obtain ⟨k, rfl, hk, rfl, hs, hb⟩ := hrel
    by_cases hlt : k < l.length
    · obtain ⟨b, off, rfl, hbs, hq⟩ : ∃ b off, a = some ⟨b, off, none⟩ ∧ b < w.heap.size ∧ ∀ j (h : j < l.length), ∃ ia' ic' ka' kc', Cs w b (off + j * 7) (ck l[j] ia' ic' ka' kc') ∧ KnL n w ia' ic' ka' kc' l[j] := by
        rcases hh.out with h | h
        · rw [h] at hlt; simp at hlt
        · exact h
      obtain ⟨ia', ic', ka', kc', q1, q2⟩ := hq k hlt
      obtain ⟨c0, c1, c2, c3, c4, c5, c6⟩ := (q1.below hbs hb).knot
      have hsz := szr_le (left := left) (a := l.length + ((l.take k).map (ksz n)).sum) h0
      have C := hid (hIH.out l[k] ia' ic' ka' kc' (szr left (l.length + ((l.take k).map (ksz n)).sum)) wr (q2.below hb) (by omega) (by omega))
      rw [szr_more hs, Nat.add_assoc, ← sum_take (ksz n) l hlt] at C
      unfold kv at C
      have HS := hid hs
      clear q1 q2 hq hs hsz
      generalize szr left (l.length + ((l.take k).map (ksz n)).sum) = cur at *
      generalize hnew : szr left (l.length + ((l.take (k + 1)).map (ksz n)).sum) = new at *
      generalize l[k].box.1 = b0 at *
      generalize l[k].box.2.1 = b1 at *
      generalize l[k].box.2.2.1 = b2 at *
      generalize l[k].box.2.2.2 = b3 at *
      generalize l[k].lf = b4 at *
      generalize l[k].its.length = b5 at *
      generalize l[k].kids.length = b6 at *
      go_wp2_with fail
      refine C.out.mono ?_
      rintro e w1 ⟨rfl, hb1⟩
      by_cases hn : new < 0
      · go_wp2_with fail
        go_ret
        have hfin := szr_neg (left := left) (a := l.length + ((l.take (k + 1)).map (ksz n)).sum) (b := l.length + (l.map (ksz n)).sum) (by rw [hnew]; exact hn) h0 (by have := sum_take_le (ksz n) l (k + 1); omega)
        exact ⟨by rw [hfin]; rfl, btrans hb hb1⟩
      · go_wp2_with fail
        go_roundw
        case rel => exact ⟨k + 1, by go_num, by omega, by rw [hnew], by rw [hnew]; omega, btrans hb hb1⟩
        case measure => simp [intOf]; omega
    · have hk' : k = l.length := by omega
      subst hk'
      rw [List.take_length] at hs ⊢
      go_wp2_with fail
      go_ret
      exact ⟨rfl, hb⟩
set_option maxRecDepth 100000 in
set_option maxHeartbeats 2000000 in
theorem sz_knot (n : Nat) : ∀ (t : KT) (ia : Option Addr) (ic : Nat) (ka : Option Addr) (kc : Nat) (left : Int) (w : World), KnL n w ia ic ka kc t → 0 ≤ left → left ≤ 1048576 → Calls Try.prog 8 #[kv t ia ic ka kc, .int .i64 left] w fun e w' => e = .returned (.int .i64 (szr left (ksz n t))) ∧ Below w.heap.size w w' := by
  induction n with
  | zero => intro t ia ic ka kc left w h; exact h.elim
  | succ n ih =>
    intro t ia ic ka kc left w h h0 h1
    obtain ⟨p1, p2, p3, p4, p5, p6⟩ := h
    have hI := hid (fun (l' : Int) (hl0 : 0 ≤ l') (hl1 : l' ≤ 1048576) (W : World) (hb : Below w.heap.size w W) => sz_knots n ih ka kc t.kids l' W p4 p5 hl0 hl1 (by
      rcases p6 with p6 | ⟨b, off, e, hbs, hq⟩
      · exact .inl p6
      · refine .inr ⟨b, off, e, Nat.lt_of_lt_of_le hbs hb.size, fun j hj => ?_⟩
        obtain ⟨ia', ic', ka', kc', q1, q2⟩ := hq j hj
        exact ⟨ia', ic', ka', kc', q1.below hbs hb, q2.below hb⟩))
    clear p6 ih p1
    have hks : ksz (n + 1) t = t.its.length + (t.kids.length + (t.kids.map (ksz n)).sum) := by unfold ksz; omega
    rw [hks]
    unfold kv
    have hb2 := t.box
    generalize t.box.1 = b0 at *
    generalize t.box.2.1 = b1 at *
    generalize t.box.2.2.1 = b2 at *
    generalize t.box.2.2.2 = b3 at *
    generalize t.lf = b4 at *
    generalize t.its.length = ni at *
    generalize (t.kids.map (ksz n)).sum = sk at *
    generalize t.kids.length = nk at *
    have C1 := hid (fun W => sz_items ia ni ic left W (by omega) h0 h1)
    have hle := szr_le (left := left) (a := ni) h0
    by_cases hneg : szr left ni < 0
    · have he := szr_neg (b := ni + (nk + sk)) hneg h0 (by omega)
      rw [he]
      generalize szr left ni = cur at *
      go_enter Try.func8, Try.ntmps8
      go_wp2_with fail
      refine (C1.out _).mono ?_
      rintro e w1 ⟨rfl, rfl⟩
      go_wp2_with fail
      go_ret
      exact ⟨rfl, balloc (Below.refl _ _) _⟩
    · rw [← szr_more hneg]
      have C2 := hid (hI.out (szr left ni) (by omega) (by omega))
      have hle2 := szr_le (left := szr left ni) (a := nk + sk) (by omega)
      generalize szr left ni = cur at *
      generalize szr cur (nk + sk) = fin at *
      clear hI
      have fin2 : fin < 0 → fin = -1 := by omega
      go_enter Try.func8, Try.ntmps8
      go_wp2_with fail
      refine (C1.out _).mono ?_
      rintro e w1 ⟨rfl, rfl⟩
      go_wp2_with fail
      refine (C2.out _ (balloc (Below.refl _ _) _)).mono ?_
      rintro e w2 ⟨rfl, hb2⟩
      have hbF := btrans (balloc (Below.refl w.heap.size w) _) hb2
      by_cases hf : fin < 0
      · have := fin2 hf
        subst this
        go_wp2_with fail
        go_ret
        exact ⟨rfl, hbF⟩
      · go_wp2_with fail
        go_ret
        exact ⟨rfl, hbF⟩
end Go.Proofs.Ytmdnelgnpponpaa
