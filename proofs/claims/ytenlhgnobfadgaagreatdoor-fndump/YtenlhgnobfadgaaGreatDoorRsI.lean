import Derived.Test.YtenlhgnobfadgaaGreatDoorJ22
import Derived.Deep.RegionHeld3
set_option maxRecDepth 100000
set_option maxHeartbeats 4000000
set_option linter.unusedSimpArgs false
set_option linter.unusedVariables false
namespace Go.Proofs.YtenlhgnobfadgaaGreatDoor
open Go.RowKit
theorem pts_blockr {w w' : World} {b n : Nat} {l : List (Int × Int)} (h : b < w.heap.size ∧ PtsAt w b 0 l ∧ w.there b 0 n) (hs : w.heap.size ≤ w'.heap.size) (hb : w'.heap[b]? = w.heap[b]?) : b < w'.heap.size ∧ PtsAt w' b 0 l ∧ w'.there b 0 n := by
 have hc : ∀ k, w'.cell? ⟨b, k, none⟩ = w.cell? ⟨b, k, none⟩ := fun k => by simp only [World.cell?, hb]
 have hf : ∀ k, w'.frozen? ⟨b, k, none⟩ = w.frozen? ⟨b, k, none⟩ := fun k => by simp only [World.frozen?, hb]
 refine ⟨by omega, fun j hj => ?_, fun j hj => ?_⟩
 ·rw [hc, hc]; exact h.2.1 j hj
 ·rw [hc, hf]; exact h.2.2 j hj
theorem own_below {w w' : World} {b n : Nat} {l : List (Int × Int)} (h : b < w.heap.size ∧ PtsAt w b 0 l ∧ w.there b 0 n) (hb : Below w.heap.size w w') : b < w'.heap.size ∧ PtsAt w' b 0 l ∧ w'.there b 0 n := pts_blockr h hb.size (hb.block b h.1)
theorem own_setr2 {w : World} {b q k k' : Nat} {u u' : Value} {l : List (Int × Int)} (h : PtsOwn w b l) (hne : q ≠ b) : PtsOwn ((w.setCell ⟨q, k, none⟩ u).setCell ⟨q, k', none⟩ u') b l := by
 have e : ∀ (W : World) (k : Nat) (u : Value), (W.setCell ⟨q, k, none⟩ u).heap[b]? = W.heap[b]? := fun W k u => by
  show (W.heap.modify q _)[b]? = _
  rw [Array.getElem?_modify, if_neg hne]
 exact pts_blockr (pts_blockr h (by simp) (e _ _ _)) (by simp) (e _ _ _)
theorem put_next {w : World} {b n : Nat} {l : List (Int × Int)} (h : b < w.heap.size ∧ PtsAt w b 0 l ∧ w.there b 0 (n * 2)) (hl : l.length < n) (x y : Int) :
  b < ((w.setCell ⟨b, l.length * 2, none⟩ (.int .i64 x)).setCell ⟨b, l.length * 2 + 1, none⟩ (.int .i64 y)).heap.size ∧ PtsAt ((w.setCell ⟨b, l.length * 2, none⟩ (.int .i64 x)).setCell ⟨b, l.length * 2 + 1, none⟩ (.int .i64 y)) b 0 (l ++ [(x, y)]) ∧ ((w.setCell ⟨b, l.length * 2, none⟩ (.int .i64 x)).setCell ⟨b, l.length * 2 + 1, none⟩ (.int .i64 y)).there b 0 (n * 2) := by
 have hL : ((l ++ [(x, y)]) ++ List.replicate (n - (l.length + 1)) ((0 : Int), (0 : Int))).length = n := by simp; omega
 have ht : (((l ++ [(x, y)]) ++ List.replicate (n - (l.length + 1)) ((0 : Int), (0 : Int)))).take l.length = l := by simp
 have ht1 : (((l ++ [(x, y)]) ++ List.replicate (n - (l.length + 1)) ((0 : Int), (0 : Int)))).take (l.length + 1) = l ++ [(x, y)] := by
  rw [List.take_append_of_le_length (by simp), List.take_of_length_le (by simp)]
 have hg : (((l ++ [(x, y)]) ++ List.replicate (n - (l.length + 1)) ((0 : Int), (0 : Int)))).getD l.length (0, 0) = (x, y) := by simp [List.getD]
 have hp := put_point (w := w) (b := b) (k := l.length) (n := n * 2) (ps := (l ++ [(x, y)]) ++ List.replicate (n - (l.length + 1)) ((0 : Int), (0 : Int))) h.1 (by rw [hL]; exact hl) (by rw [hL]) (by rw [ht]; exact h.2.1) h.2.2 x y (by rw [hg]) (by rw [hg])
 rw [ht1] at hp
 exact ⟨by simpa using h.1, hp.1, hp.2⟩
theorem texts_set {w : World} {g cap q k : Nat} {u : Value} {l : List ByteArray} (h : Texts w g cap l) (hne : q ≠ g) : Texts (w.setCell ⟨q, k, none⟩ u) g cap l := h.kept (grown_set w q k u) (by simpa using hne)
def SOT (w : World) (o : Option (Int × List (Int × Int))) (e : Ending) (w' : World) : Prop := Below w.heap.size w w' ∧ ((o = none ∧ Refused e) ∨ ∃ k l b, o = some (k, l) ∧ e = .returned (.agg #[.int .i64 k, .slice (some ⟨b, 0, none⟩) l.length l.length]) ∧ w.heap.size ≤ b ∧ PtsOwn w' b l)
theorem sot_refused {w w' : World} {o : Option (Int × List (Int × Int))} {e : Ending} (h : o = none) (he : Refused e) (hb : Below w.heap.size w w') : SOT w o e w' := ⟨hb, .inl ⟨h, he⟩⟩
theorem sot_yes {w w' : World} {o : Option (Int × List (Int × Int))} {k : Int} {l : List (Int × Int)} {b n : Nat} (h : o = some (k, l)) (hn : l.length = n) (hb : Below w.heap.size w w') (hbb : w.heap.size ≤ b) (ho : PtsOwn w' b l) : SOT w o (.returned (.agg #[.int .i64 k, .slice (some ⟨b, 0, none⟩) n n])) w' := by
 subst hn
 exact ⟨hb, .inr ⟨k, l, b, h, rfl, hbb, ho⟩⟩
theorem drop2 {ws : List ByteArray} {i : Nat} (h : i + 1 < ws.length) : ws.drop i = ws[i] :: ws[i + 1] :: ws.drop (i + 2) := by
 rw [List.drop_eq_getElem_cons (by omega), List.drop_eq_getElem_cons h]
theorem getD0 {ws : List ByteArray} (h : 0 < ws.length) : ws.getD 0 ⟨#[]⟩ = ws[0] := by
 rw [List.getD_eq_getElem?_getD, List.getElem?_eq_getElem h]; rfl
theorem sot_all (s : ByteArray) (hs : s.size ≤ 1048576) (w : World) (hLb : LibsR w) (hKw : KWr w) : Calls Tryz.prog 99 #[.string s] w fun e w' => SOT w (rso (rest s s.size 0 0)) e w' := by
 have HLB := hid hLb
 have HKW := hid hKw
 have HWD := hid (fun (W : World) (hb : Below w.heap.size w W) => impl_words s hs W (hLb.1 s W hs hb).2.2 hLb.2.2)
 obtain ⟨hw0, hw1⟩ := rest_len s s.size 0 0
 have HSZ := hid (rest_size s s.size 0 0)
 generalize rest s s.size 0 0 = ws at *
 obtain ⟨n, hn⟩ : ∃ n, n = ws.length := ⟨_, rfl⟩
 have HNL := hid hn.symm
 rw [← hn] at HWD hw0 hw1
 clear hn hLb hKw
 have hni : (0 : Int) < (n : Int) := by omega
 have hni1 : (1 : Int) ≤ (n : Int) := by omega
 obtain ⟨x, hx⟩ : ∃ x, x = ws.getD 0 ⟨#[]⟩ := ⟨_, rfl⟩
 have HX := hid hx
 clear hx
 go_enter Tryz.func99, Tryz.ntmps99
 go_wp2_with fail
 have g2 := new_alloc w w.heap.size (.cells #[.int .i64 0, .slice none 0 0] 48) rfl
 have hB : Below w.heap.size w (w.alloc (.cells #[.int .i64 0, .slice none 0 0] 48)) := balloc (Below.refl _ _) _
 generalize w.alloc (.cells #[.int .i64 0, .slice none 0 0] 48) = W at *
 have hlW := lt_of_block g2
 refine (HWD.out _ hB).mono ?_
 rintro e W1 ⟨g, rfl, hgg, hT, hb1⟩
 have hgw : w.heap.size < g := by omega
 have HT := hid hT
 replace g2 := keepheap hb1 g2
 replace hB := btrans hB hb1
 clear hb1 hT hgg HWD
 have hc0 : W1.cell? ⟨g, 0, none⟩ = some (.string x) := by
  have h0 : 0 < ws.length := by rw [HNL.out]; exact hw0
  rw [HX.out, getD0 h0]; exact HT.out.cell 0 h0
 go_wp2_with fail
 cases hk : kdr x with
 | none =>
  have HN := hid (show rso ws = none by unfold rso; rw [← HX.out, hk])
  have HKD := hid (fun (W : World) (hb : Below w.heap.size w W) => kind_no x hk W (HKW.out.below hb))
  clear HNL HX HSZ HLB HKW
  by_cases hn1 : n = 1
  ·obtain rfl : 1 = n := hn1.symm
   refine wp_region_held_drew (S := (fun w' => w'.cell? ⟨g, 0, none⟩ = some (.string x))) (by kernel_rfl) ?_ (fun hHeld => ?_)
   ·exact hc0
   replace g2 : W1.drew.heap[w.heap.size]? = some (.cells #[.int .i64 0, .slice none 0 0] 48 (0, 0)) := g2
   replace HT : Hid (Texts W1.drew g 1 ws) := hid (HT.out.kept (grown_drew (grown_same W1 none) 1) (by simp))
   replace hB := bdrew hB
   generalize W1.drew = z0 at *
   refine tkR ?_ 0 rfl (fun _ _ _ h => h) hHeld ?_ ?_
   rotate_left
   ·intro w hSw; (try dsimp only at hSw); go_simp; try (with_reducible rfl)
   try simp only [sq]
   refine tkR ?_ 1 rfl (fun _ _ _ h => h) hHeld ?_ ?_
   rotate_left
   ·intro w hSw; (try dsimp only at hSw); go_simp; try (with_reducible rfl)
   try simp only [sq]
   refine tkR ?_ 2 rfl (fun _ _ _ h => h) hHeld ?_ ?_
   rotate_left
   ·intro w hSw; (try dsimp only at hSw); go_simp; try (with_reducible rfl)
   try simp only [sq]
   refine tkR ?_ 4 rfl (fun _ _ _ h => h) hHeld ?_ ?_
   rotate_left
   ·intro w hSw; (try dsimp only at hSw); go_simp; try (with_reducible rfl)
   try simp only [sq]
   refine tkR ?_ 5 rfl (fun _ _ _ h => h) hHeld ?_ ?_
   rotate_left
   ·intro w hSw; (try dsimp only at hSw); go_simp; try (with_reducible rfl)
   try simp only [sq]
   refine rd1 3 rfl (fun K hK => ?_)
   try simp only [sq]
   go_simp
   go_at_call 138
   refine (HKD.out _ hB).mono ?_
   rintro e z1 ⟨⟨t, rfl⟩, hw⟩
   replace hw := hw.symm
   subst hw
   go_wp2_with fail
   exact ⟨rfl, sot_refused HN.out ⟨_, rfl⟩ hB⟩
  ·have hn2 : ¬ n - 1 = 0 := by omega
   refine wp_region_held_drew (S := (fun w' => w'.cell? ⟨g, 0, none⟩ = some (.string x))) (by kernel_rfl) ?_ (fun hHeld => ?_)
   ·exact hc0
   replace g2 : W1.drew.heap[w.heap.size]? = some (.cells #[.int .i64 0, .slice none 0 0] 48 (0, 0)) := g2
   replace HT : Hid (Texts W1.drew g n ws) := hid (HT.out.kept (grown_drew (grown_same W1 none) 1) (by simp))
   replace hB := bdrew hB
   generalize W1.drew = z0 at *
   refine tkR ?_ 0 rfl (fun _ _ _ h => h) hHeld ?_ ?_
   rotate_left
   ·intro w hSw; (try dsimp only at hSw); go_simp; try (with_reducible rfl)
   try simp only [sq]
   refine tkR ?_ 1 rfl (fun _ _ _ h => h) hHeld ?_ ?_
   rotate_left
   ·intro w hSw; (try dsimp only at hSw); go_simp; try (with_reducible rfl)
   try simp only [sq]
   refine tkR ?_ 2 rfl (fun _ _ _ h => h) hHeld ?_ ?_
   rotate_left
   ·intro w hSw; (try dsimp only at hSw); go_simp; try (with_reducible rfl)
   try simp only [sq]
   refine tkR ?_ 4 rfl (fun _ _ _ h => h) hHeld ?_ ?_
   rotate_left
   ·intro w hSw; (try dsimp only at hSw); go_simp; try (with_reducible rfl)
   try simp only [sq]
   refine tkR ?_ 5 rfl (fun _ _ _ h => h) hHeld ?_ ?_
   rotate_left
   ·intro w hSw; (try dsimp only at hSw); go_simp; try (with_reducible rfl)
   try simp only [sq]
   refine rd1 3 rfl (fun K hK => ?_)
   try simp only [sq]
   go_simp
   go_at_call 138
   refine (HKD.out _ hB).mono ?_
   rintro e z1 ⟨⟨t, rfl⟩, hw⟩
   replace hw := hw.symm
   subst hw
   go_wp2_with fail
   exact ⟨rfl, sot_refused HN.out ⟨_, rfl⟩ hB⟩
 | some m =>
  have HKD := hid (fun (W : World) (hb : Below w.heap.size w W) => kind_ok x m hk W (HKW.out.below hb))
  have hm3 := kdr_le hk
  have HO := hid (show rso ws = match rdp (ws.drop 1) with | none => none | some l => if shok (m : Int) l = true then some ((m : Int), l) else none by unfold rso; rw [← HX.out, hk]; rfl)
  clear hk
  go_cut [4, 5] (fun t4 t5 wx => t4 = .int .i64 m ∧ (∃ o5 : Nat, t5 = .slice (some ⟨g, o5, none⟩) (n - 1) (n - 1) ∧ (1 < n → o5 = 1)) ∧ Hid (wx.heap[w.heap.size]? = some (.cells #[.int .i64 0, .slice none 0 0] 48 (0, 0))) ∧ Hid (Texts wx g n ws) ∧ Hid (Below w.heap.size w wx))
  case first =>
   clear HNL HX HSZ HLB HKW HO
   by_cases hn1 : n = 1
   ·obtain rfl : 1 = n := hn1.symm
    refine wp_region_held_drew (S := (fun w' => w'.cell? ⟨g, 0, none⟩ = some (.string x))) (by kernel_rfl) ?_ (fun hHeld => ?_)
    ·exact hc0
    replace g2 : W1.drew.heap[w.heap.size]? = some (.cells #[.int .i64 0, .slice none 0 0] 48 (0, 0)) := g2
    replace HT : Hid (Texts W1.drew g 1 ws) := hid (HT.out.kept (grown_drew (grown_same W1 none) 1) (by simp))
    replace hB := bdrew hB
    generalize W1.drew = z0 at *
    refine tkR ?_ 0 rfl (fun _ _ _ h => h) hHeld ?_ ?_
    rotate_left
    ·intro w hSw; (try dsimp only at hSw); go_simp; try (with_reducible rfl)
    try simp only [sq]
    refine tkR ?_ 1 rfl (fun _ _ _ h => h) hHeld ?_ ?_
    rotate_left
    ·intro w hSw; (try dsimp only at hSw); go_simp; try (with_reducible rfl)
    try simp only [sq]
    refine tkR ?_ 2 rfl (fun _ _ _ h => h) hHeld ?_ ?_
    rotate_left
    ·intro w hSw; (try dsimp only at hSw); go_simp; try (with_reducible rfl)
    try simp only [sq]
    refine tkR ?_ 4 rfl (fun _ _ _ h => h) hHeld ?_ ?_
    rotate_left
    ·intro w hSw; (try dsimp only at hSw); go_simp; try (with_reducible rfl)
    try simp only [sq]
    refine tkR ?_ 5 rfl (fun _ _ _ h => h) hHeld ?_ ?_
    rotate_left
    ·intro w hSw; (try dsimp only at hSw); go_simp; try (with_reducible rfl)
    try simp only [sq]
    refine rd1 3 rfl (fun K hK => ?_)
    try simp only [sq]
    go_simp
    go_at_call 138
    refine (HKD.out _ hB).mono ?_
    rintro e z1 ⟨rfl, hw⟩
    replace hw := hw.symm
    subst hw
    go_wp2_with fail
    refine hK.out _ _ ?_ (fun hHeld => ?_)
    ·(repeat' apply And.intro) <;> (with_reducible repeat (first | assumption | refine keepset ?_ (by dsimp only; omega) | refine keepdrew ?_ | refine keepcell (by assumption) ?_ | refine keepalloc ?_ _))
    clear hK K
    try simp only [sq]
    refine tkR ?_ 6 rfl (fun _ _ _ h => h) hHeld ?_ ?_
    rotate_left
    ·intro w hSw; (try dsimp only at hSw); go_simp; try (with_reducible rfl)
    try simp only [sq]
    refine tkR ?_ 7 rfl (fun _ _ _ h => h) hHeld ?_ ?_
    rotate_left
    ·intro w hSw; (try dsimp only at hSw); go_simp; try (with_reducible rfl)
    try simp only [sq]
    refine wpAnyH_done (by kernel_rfl) ?_ _
    go_wp2_with fail
    go_meet
    exact ⟨rfl, ⟨0, rfl, by omega⟩, hid g2, HT, hid hB⟩
   ·have hn2 : ¬ n - 1 = 0 := by omega
    refine wp_region_held_drew (S := (fun w' => w'.cell? ⟨g, 0, none⟩ = some (.string x))) (by kernel_rfl) ?_ (fun hHeld => ?_)
    ·exact hc0
    replace g2 : W1.drew.heap[w.heap.size]? = some (.cells #[.int .i64 0, .slice none 0 0] 48 (0, 0)) := g2
    replace HT : Hid (Texts W1.drew g n ws) := hid (HT.out.kept (grown_drew (grown_same W1 none) 1) (by simp))
    replace hB := bdrew hB
    generalize W1.drew = z0 at *
    refine tkR ?_ 0 rfl (fun _ _ _ h => h) hHeld ?_ ?_
    rotate_left
    ·intro w hSw; (try dsimp only at hSw); go_simp; try (with_reducible rfl)
    try simp only [sq]
    refine tkR ?_ 1 rfl (fun _ _ _ h => h) hHeld ?_ ?_
    rotate_left
    ·intro w hSw; (try dsimp only at hSw); go_simp; try (with_reducible rfl)
    try simp only [sq]
    refine tkR ?_ 2 rfl (fun _ _ _ h => h) hHeld ?_ ?_
    rotate_left
    ·intro w hSw; (try dsimp only at hSw); go_simp; try (with_reducible rfl)
    try simp only [sq]
    refine tkR ?_ 4 rfl (fun _ _ _ h => h) hHeld ?_ ?_
    rotate_left
    ·intro w hSw; (try dsimp only at hSw); go_simp; try (with_reducible rfl)
    try simp only [sq]
    refine tkR ?_ 5 rfl (fun _ _ _ h => h) hHeld ?_ ?_
    rotate_left
    ·intro w hSw; (try dsimp only at hSw); go_simp; try (with_reducible rfl)
    try simp only [sq]
    refine rd1 3 rfl (fun K hK => ?_)
    try simp only [sq]
    go_simp
    go_at_call 138
    refine (HKD.out _ hB).mono ?_
    rintro e z1 ⟨rfl, hw⟩
    replace hw := hw.symm
    subst hw
    go_wp2_with fail
    refine hK.out _ _ ?_ (fun hHeld => ?_)
    ·(repeat' apply And.intro) <;> (with_reducible repeat (first | assumption | refine keepset ?_ (by dsimp only; omega) | refine keepdrew ?_ | refine keepcell (by assumption) ?_ | refine keepalloc ?_ _))
    clear hK K
    try simp only [sq]
    refine tkR ?_ 6 rfl (fun _ _ _ h => h) hHeld ?_ ?_
    rotate_left
    ·intro w hSw; (try dsimp only at hSw); go_simp; try (with_reducible rfl)
    try simp only [sq]
    refine tkR ?_ 7 rfl (fun _ _ _ h => h) hHeld ?_ ?_
    rotate_left
    ·intro w hSw; (try dsimp only at hSw); go_simp; try (with_reducible rfl)
    try simp only [sq]
    refine wpAnyH_done (by kernel_rfl) ?_ _
    go_wp2_with fail
    go_meet
    exact ⟨rfl, ⟨1, rfl, by omega⟩, hid g2, HT, hid hB⟩
  case rest =>
   obtain ⟨rfl, ⟨o5, rfl, ho5⟩, G2, HT, HBW⟩ := hcut
   clear HKD hc0 g2 hB HKW
   by_cases hodd : (n - 1) % 2 = 1
   ·have HN := hid (show rso ws = none by
     rw [HO.out]
     cases hr : rdp (ws.drop 1) with
     | none => rfl
     | some l =>
      have := rdp_len _ _ l (Nat.le_refl _) hr
      have hh := HNL.out
      rw [List.length_drop] at this; omega)
    have ho : (((n - 1 : Nat) : Int).tmod 2 != 0) = true := by
     rw [show ((n - 1 : Nat) : Int).tmod 2 = (((n - 1) % 2 : Nat) : Int) from rfl, hodd]; rfl
    go_wp2_with fail
    exact ⟨rfl, sot_refused HN.out ⟨_, rfl⟩ HBW.out⟩
   ·obtain ⟨np, hnp1, hnp2⟩ : ∃ np, n ≤ 2 * np + 1 ∧ 2 * np + 1 ≤ n := ⟨(n - 1) / 2, by omega, by omega⟩
    have ho : (((n - 1 : Nat) : Int).tmod 2 != 0) = false := by
     rw [show ((n - 1 : Nat) : Int).tmod 2 = (((n - 1) % 2 : Nat) : Int) from rfl, show (n - 1) % 2 = 0 by omega]; rfl
    have hq : ((n - 1 : Nat) : Int).tdiv 2 = (np : Int) := by
     rw [show ((n - 1 : Nat) : Int).tdiv 2 = (((n - 1) / 2 : Nat) : Int) from rfl, show (n - 1) / 2 = np by omega]
    have ho2 : (((n - 1 : Nat) : Int) % 2 != 0) = false := by
     rw [show ((n - 1 : Nat) : Int) % 2 = 0 by omega]; rfl
    have hmk := make_points np (by omega)
    have hB := HBW.out
    have g2 := G2.out
    have hsz := lt_of_block g2
    have hlg := HT.out.lt
    go_wp2_with fail
    have hbm : Below wc.heap.size wc (wc.alloc (.cells (madeCells #[.int .i64 0, .int .i64 0] (np * 2)) 91)) := balloc (Below.refl _ _) _
    have hL : wc.heap.size < (wc.alloc (.cells (madeCells #[.int .i64 0, .int .i64 0] (np * 2)) 91)).heap.size ∧ PtsAt (wc.alloc (.cells (madeCells #[.int .i64 0, .int .i64 0] (np * 2)) 91)) wc.heap.size 0 [] ∧ (wc.alloc (.cells (madeCells #[.int .i64 0, .int .i64 0] (np * 2)) 91)).there wc.heap.size 0 (np * 2) := ⟨by simp, fun j hj => by simp at hj, made_own wc np⟩
    replace g2 := keepheap hbm g2
    replace HT := hid (HT.out.kept (grown_all hbm none) (by simp))
    replace hB := btrans hB hbm
    generalize wc.alloc (.cells (madeCells #[.int .i64 0, .int .i64 0] (np * 2)) 91) = V at *
    generalize wc.heap.size = BL at *
    clear hbm hmk G2 HBW hq ho ho2
    go_loopw [28] (fun tj wr => ∃ j : Nat, ∃ l : List (Int × Int), tj = .int .i64 j ∧ j ≤ np ∧ Hid (l.length = j) ∧ Hid (rdp (ws.drop 1) = (rdp (ws.drop (2 * j + 1))).map (fun r => l ++ r)) ∧ Hid (Texts wr g n ws) ∧ Hid (wr.heap[w.heap.size]? = some (.cells #[.int .i64 0, .slice none 0 0] 48 (0, 0))) ∧ Hid (BL < wr.heap.size ∧ PtsAt wr BL 0 l ∧ wr.there BL 0 (np * 2)) ∧ Hid (Below w.heap.size w wr)) (fun tj _ => np - (intOf tj).toNat)
    case atStart => exact ⟨0, [], rfl, Nat.zero_le _, hid rfl, hid (by simp), HT, hid g2, hid hL, hid hB⟩
    case round =>
     clear HT g2 hL hB
     obtain ⟨j, l, rfl, hj, HLn, HR, HT, G2, HL, HBW⟩ := hrel
     by_cases hlt : j < np
     ·have c1 : (j : Int) < (np : Int) := by omega
      have hi1 : 2 * j + 1 < ws.length := by rw [HNL.out]; omega
      have hi2 : 2 * j + 1 + 1 < ws.length := by rw [HNL.out]; omega
      have hc1 := HT.out.cell (2 * j + 1) hi1
      have hc2 := HT.out.cell (2 * j + 1 + 1) hi2
      have hz1 := HSZ.out _ (List.getElem_mem hi1)
      have hz2 := HSZ.out _ (List.getElem_mem hi2)
      have hdr : rdp (ws.drop 1) = (rdp (ws[2 * j + 1] :: ws[2 * j + 1 + 1] :: ws.drop (2 * (j + 1) + 1))).map (fun r => l ++ r) := by
       rw [HR.out, drop2 hi2]
       rfl
      generalize ws[2 * j + 1] = x1 at *
      generalize ws[2 * j + 1 + 1] = x2 at *
      have HDR := hid hdr
      clear hdr HR hi1 hi2
      rw [show 2 * j + 1 + 1 = 1 + (2 * j + 1) by omega] at hc2
      rw [show 2 * j + 1 = 1 + 2 * j by omega] at hc1
      obtain rfl : o5 = 1 := ho5 (by omega)
      have hm1 : IntKind.i64.wrap (2 * (j : Int)) = 2 * (j : Int) := IntWalk.i64_in _ ⟨by omega, by omega⟩
      have hm2 : IntKind.i64.wrap (2 * (j : Int) + 1) = 2 * (j : Int) + 1 := IntWalk.i64_in _ ⟨by omega, by omega⟩
      have hq1 : (0 : Int) ≤ 2 * (j : Int) := by omega
      have hq2 : 2 * (j : Int) < ((n - 1 : Nat) : Int) := by omega
      have hq3 : (0 : Int) ≤ 2 * (j : Int) + 1 := by omega
      have hq4 : 2 * (j : Int) + 1 < ((n - 1 : Nat) : Int) := by omega
      have hq5 : (2 * (j : Int)).toNat = 2 * j := by omega
      have hq6 : (2 * (j : Int) + 1).toNat = 2 * j + 1 := by omega
      cases hb1 : riB x1
      ·have HN := hid (show rso ws = none by rw [HO.out, HDR.out, rdp_no (.inl hb1)]; rfl)
       have N1 := hid (fun (W : World) (hb : Below w.heap.size w W) => num_no x1 (by omega) W (HLB.out.below hb) hb1)
       go_wp2_with fail
       refine wp_region_held_drew (S := (fun w' => w'.cell? ⟨g, 1 + 2 * j, none⟩ = some (.string x1) ∧ w'.cell? ⟨g, 1 + (2 * j + 1), none⟩ = some (.string x2))) (by kernel_rfl) ?_ (fun hHeld => ?_)
       ·exact ⟨hc1, hc2⟩
       have g2 := G2.out
       have hB := HBW.out
       replace g2 : wr.drew.heap[w.heap.size]? = some (.cells #[.int .i64 0, .slice none 0 0] 48 (0, 0)) := g2
       replace HT : Hid (Texts wr.drew g n ws) := hid (HT.out.kept (grown_drew (grown_same wr none) 1) (by simp))
       replace HL : Hid (BL < wr.drew.heap.size ∧ PtsAt wr.drew BL 0 l ∧ wr.drew.there BL 0 (np * 2)) := HL
       replace hB := bdrew hB
       replace hc1 : wr.drew.cell? ⟨g, 1 + 2 * j, none⟩ = some (.string x1) := hc1
       replace hc2 : wr.drew.cell? ⟨g, 1 + (2 * j + 1), none⟩ = some (.string x2) := hc2
       clear G2 HBW
       generalize wr.drew = z0 at *
       refine tkR ?_ 0 rfl (fun _ _ _ h => h) hHeld ?_ ?_
       rotate_left
       ·intro w hSw; (try dsimp only at hSw); go_simp; try (with_reducible rfl)
       try simp only [sq]
       refine tkR ?_ 1 rfl (fun _ _ _ h => h) hHeld ?_ ?_
       rotate_left
       ·intro w hSw; (try dsimp only at hSw); go_simp; try (with_reducible rfl)
       try simp only [sq]
       refine tkR ?_ 2 rfl (fun _ _ _ h => h) hHeld ?_ ?_
       rotate_left
       ·intro w hSw; (try dsimp only at hSw); go_simp; try (with_reducible rfl)
       try simp only [sq]
       refine tkR ?_ 3 rfl (fun _ _ _ h => h) hHeld ?_ ?_
       rotate_left
       ·intro w hSw; (try dsimp only at hSw); go_simp; try (with_reducible rfl)
       try simp only [sq]
       refine tkR ?_ 4 rfl (fun _ _ _ h => h) hHeld ?_ ?_
       rotate_left
       ·intro w hSw; (try dsimp only at hSw); go_simp; try (with_reducible rfl)
       try simp only [sq]
       refine tkR ?_ 5 rfl (fun _ _ _ h => h) hHeld ?_ ?_
       rotate_left
       ·intro w hSw; (try dsimp only at hSw); go_simp; try (with_reducible rfl)
       try simp only [sq]
       refine tkR ?_ 6 rfl (fun _ _ _ h => h) hHeld ?_ ?_
       rotate_left
       ·intro w hSw; (try dsimp only at hSw); go_simp; try (with_reducible rfl)
       try simp only [sq]
       refine tkR ?_ 8 rfl (fun _ _ _ h => h) hHeld ?_ ?_
       rotate_left
       ·intro w hSw; (try dsimp only at hSw); go_simp; try (with_reducible rfl)
       try simp only [sq]
       refine tkR ?_ 9 rfl (fun _ _ _ h => h) hHeld ?_ ?_
       rotate_left
       ·intro w hSw; (try dsimp only at hSw); go_simp; try (with_reducible rfl)
       try simp only [sq]
       refine tkR ?_ 10 rfl (fun _ _ _ h => h) hHeld ?_ ?_
       rotate_left
       ·intro w hSw; (try dsimp only at hSw); go_simp; try (with_reducible rfl)
       try simp only [sq]
       refine tkR ?_ 11 rfl (fun _ _ _ h => h) hHeld ?_ ?_
       rotate_left
       ·intro w hSw; (try dsimp only at hSw); go_simp; try (with_reducible rfl)
       try simp only [sq]
       refine tkR ?_ 12 rfl (fun _ _ _ h => h) hHeld ?_ ?_
       rotate_left
       ·intro w hSw; (try dsimp only at hSw); go_simp; try (with_reducible rfl)
       try simp only [sq]
       refine tkR ?_ 13 rfl (fun _ _ _ h => h) hHeld ?_ ?_
       rotate_left
       ·intro w hSw; (try dsimp only at hSw); go_simp; try (with_reducible rfl)
       try simp only [sq]
       refine rd1 7 rfl (fun K hK => ?_)
       try simp only [sq]
       go_simp
       go_at_call 139
       refine (N1.out _ hB).mono ?_
       rintro e z1 ⟨⟨t, rfl⟩, hcl⟩
       go_wp2_with fail
       exact ⟨rfl, sot_refused HN.out ⟨_, rfl⟩ (btrans hB hcl)⟩
      have N1 := hid (fun (W : World) (hb : Below w.heap.size w W) => num_ok x1 (by omega) W (HLB.out.below hb) hb1)
      cases hb2 : riB x2
      ·have HN := hid (show rso ws = none by rw [HO.out, HDR.out, rdp_no (.inr hb2)]; rfl)
       have N2 := hid (fun (W : World) (hb : Below w.heap.size w W) => num_no x2 (by omega) W (HLB.out.below hb) hb2)
       go_wp2_with fail
       refine wp_region_held_drew (S := (fun w' => w'.cell? ⟨g, 1 + 2 * j, none⟩ = some (.string x1) ∧ w'.cell? ⟨g, 1 + (2 * j + 1), none⟩ = some (.string x2))) (by kernel_rfl) ?_ (fun hHeld => ?_)
       ·exact ⟨hc1, hc2⟩
       have g2 := G2.out
       have hB := HBW.out
       replace g2 : wr.drew.heap[w.heap.size]? = some (.cells #[.int .i64 0, .slice none 0 0] 48 (0, 0)) := g2
       replace HT : Hid (Texts wr.drew g n ws) := hid (HT.out.kept (grown_drew (grown_same wr none) 1) (by simp))
       replace HL : Hid (BL < wr.drew.heap.size ∧ PtsAt wr.drew BL 0 l ∧ wr.drew.there BL 0 (np * 2)) := HL
       replace hB := bdrew hB
       replace hc1 : wr.drew.cell? ⟨g, 1 + 2 * j, none⟩ = some (.string x1) := hc1
       replace hc2 : wr.drew.cell? ⟨g, 1 + (2 * j + 1), none⟩ = some (.string x2) := hc2
       clear G2 HBW
       generalize wr.drew = z0 at *
       refine tkR ?_ 0 rfl (fun _ _ _ h => h) hHeld ?_ ?_
       rotate_left
       ·intro w hSw; (try dsimp only at hSw); go_simp; try (with_reducible rfl)
       try simp only [sq]
       refine tkR ?_ 1 rfl (fun _ _ _ h => h) hHeld ?_ ?_
       rotate_left
       ·intro w hSw; (try dsimp only at hSw); go_simp; try (with_reducible rfl)
       try simp only [sq]
       refine tkR ?_ 2 rfl (fun _ _ _ h => h) hHeld ?_ ?_
       rotate_left
       ·intro w hSw; (try dsimp only at hSw); go_simp; try (with_reducible rfl)
       try simp only [sq]
       refine tkR ?_ 3 rfl (fun _ _ _ h => h) hHeld ?_ ?_
       rotate_left
       ·intro w hSw; (try dsimp only at hSw); go_simp; try (with_reducible rfl)
       try simp only [sq]
       refine tkR ?_ 4 rfl (fun _ _ _ h => h) hHeld ?_ ?_
       rotate_left
       ·intro w hSw; (try dsimp only at hSw); go_simp; try (with_reducible rfl)
       try simp only [sq]
       refine tkR ?_ 5 rfl (fun _ _ _ h => h) hHeld ?_ ?_
       rotate_left
       ·intro w hSw; (try dsimp only at hSw); go_simp; try (with_reducible rfl)
       try simp only [sq]
       refine tkR ?_ 6 rfl (fun _ _ _ h => h) hHeld ?_ ?_
       rotate_left
       ·intro w hSw; (try dsimp only at hSw); go_simp; try (with_reducible rfl)
       try simp only [sq]
       refine tkR ?_ 8 rfl (fun _ _ _ h => h) hHeld ?_ ?_
       rotate_left
       ·intro w hSw; (try dsimp only at hSw); go_simp; try (with_reducible rfl)
       try simp only [sq]
       refine tkR ?_ 9 rfl (fun _ _ _ h => h) hHeld ?_ ?_
       rotate_left
       ·intro w hSw; (try dsimp only at hSw); go_simp; try (with_reducible rfl)
       try simp only [sq]
       refine tkR ?_ 10 rfl (fun _ _ _ h => h) hHeld ?_ ?_
       rotate_left
       ·intro w hSw; (try dsimp only at hSw); go_simp; try (with_reducible rfl)
       try simp only [sq]
       refine tkR ?_ 11 rfl (fun _ _ _ h => h) hHeld ?_ ?_
       rotate_left
       ·intro w hSw; (try dsimp only at hSw); go_simp; try (with_reducible rfl)
       try simp only [sq]
       refine tkR ?_ 12 rfl (fun _ _ _ h => h) hHeld ?_ ?_
       rotate_left
       ·intro w hSw; (try dsimp only at hSw); go_simp; try (with_reducible rfl)
       try simp only [sq]
       refine tkR ?_ 13 rfl (fun _ _ _ h => h) hHeld ?_ ?_
       rotate_left
       ·intro w hSw; (try dsimp only at hSw); go_simp; try (with_reducible rfl)
       try simp only [sq]
       refine rd1 7 rfl (fun K hK => ?_)
       try simp only [sq]
       go_simp
       go_at_call 139
       refine (N1.out _ hB).mono ?_
       rintro e z1 ⟨rfl, hcl⟩
       replace hc1 := keepcell hcl hc1
       replace hc2 := keepcell hcl hc2
       replace g2 := keepheap hcl g2
       replace HT := hid (HT.out.kept (grown_all hcl none) (by simp))
       replace HL := hid (own_below HL.out hcl)
       replace hB := btrans hB hcl
       go_wp2_with fail
       refine hK.out _ _ ?_ (fun hHeld => ?_)
       ·(repeat' apply And.intro) <;> (with_reducible repeat (first | assumption | refine keepset ?_ (by dsimp only; omega) | refine keepdrew ?_ | refine keepcell (by assumption) ?_ | refine keepalloc ?_ _))
       clear hK K
       try simp only [sq]
       clear hcl
       refine rd1 14 rfl (fun K hK => ?_)
       try simp only [sq]
       go_simp
       go_at_call 139
       refine (N2.out _ hB).mono ?_
       rintro e z2 ⟨⟨t, rfl⟩, hcl⟩
       go_wp2_with fail
       exact ⟨rfl, sot_refused HN.out ⟨_, rfl⟩ (btrans hB hcl)⟩
      have N2 := hid (fun (W : World) (hb : Below w.heap.size w W) => num_ok x2 (by omega) W (HLB.out.below hb) hb2)
      have HRS : Hid (rdp (ws.drop 1) = (rdp (ws.drop (2 * (j + 1) + 1))).map (fun r => (l ++ [(riN x1, riN x2)]) ++ r)) := hid (by
       rw [HDR.out, rdp_step hb1 hb2]
       cases rdp (ws.drop (2 * (j + 1) + 1)) with
       | none => rfl
       | some r => simp)
      clear hb1 hb2 HDR
      go_wp2_with fail
      refine wp_region_held_drew (S := (fun w' => w'.cell? ⟨g, 1 + 2 * j, none⟩ = some (.string x1) ∧ w'.cell? ⟨g, 1 + (2 * j + 1), none⟩ = some (.string x2))) (by kernel_rfl) ?_ (fun hHeld => ?_)
      ·exact ⟨hc1, hc2⟩
      have g2 := G2.out
      have hB := HBW.out
      replace g2 : wr.drew.heap[w.heap.size]? = some (.cells #[.int .i64 0, .slice none 0 0] 48 (0, 0)) := g2
      replace HT : Hid (Texts wr.drew g n ws) := hid (HT.out.kept (grown_drew (grown_same wr none) 1) (by simp))
      replace HL : Hid (BL < wr.drew.heap.size ∧ PtsAt wr.drew BL 0 l ∧ wr.drew.there BL 0 (np * 2)) := HL
      replace hB := bdrew hB
      replace hc1 : wr.drew.cell? ⟨g, 1 + 2 * j, none⟩ = some (.string x1) := hc1
      replace hc2 : wr.drew.cell? ⟨g, 1 + (2 * j + 1), none⟩ = some (.string x2) := hc2
      clear G2 HBW
      generalize wr.drew = z0 at *
      refine tkR ?_ 0 rfl (fun _ _ _ h => h) hHeld ?_ ?_
      rotate_left
      ·intro w hSw; (try dsimp only at hSw); go_simp; try (with_reducible rfl)
      try simp only [sq]
      refine tkR ?_ 1 rfl (fun _ _ _ h => h) hHeld ?_ ?_
      rotate_left
      ·intro w hSw; (try dsimp only at hSw); go_simp; try (with_reducible rfl)
      try simp only [sq]
      refine tkR ?_ 2 rfl (fun _ _ _ h => h) hHeld ?_ ?_
      rotate_left
      ·intro w hSw; (try dsimp only at hSw); go_simp; try (with_reducible rfl)
      try simp only [sq]
      refine tkR ?_ 3 rfl (fun _ _ _ h => h) hHeld ?_ ?_
      rotate_left
      ·intro w hSw; (try dsimp only at hSw); go_simp; try (with_reducible rfl)
      try simp only [sq]
      refine tkR ?_ 4 rfl (fun _ _ _ h => h) hHeld ?_ ?_
      rotate_left
      ·intro w hSw; (try dsimp only at hSw); go_simp; try (with_reducible rfl)
      try simp only [sq]
      refine tkR ?_ 5 rfl (fun _ _ _ h => h) hHeld ?_ ?_
      rotate_left
      ·intro w hSw; (try dsimp only at hSw); go_simp; try (with_reducible rfl)
      try simp only [sq]
      refine tkR ?_ 6 rfl (fun _ _ _ h => h) hHeld ?_ ?_
      rotate_left
      ·intro w hSw; (try dsimp only at hSw); go_simp; try (with_reducible rfl)
      try simp only [sq]
      refine tkR ?_ 8 rfl (fun _ _ _ h => h) hHeld ?_ ?_
      rotate_left
      ·intro w hSw; (try dsimp only at hSw); go_simp; try (with_reducible rfl)
      try simp only [sq]
      refine tkR ?_ 9 rfl (fun _ _ _ h => h) hHeld ?_ ?_
      rotate_left
      ·intro w hSw; (try dsimp only at hSw); go_simp; try (with_reducible rfl)
      try simp only [sq]
      refine tkR ?_ 10 rfl (fun _ _ _ h => h) hHeld ?_ ?_
      rotate_left
      ·intro w hSw; (try dsimp only at hSw); go_simp; try (with_reducible rfl)
      try simp only [sq]
      refine tkR ?_ 11 rfl (fun _ _ _ h => h) hHeld ?_ ?_
      rotate_left
      ·intro w hSw; (try dsimp only at hSw); go_simp; try (with_reducible rfl)
      try simp only [sq]
      refine tkR ?_ 12 rfl (fun _ _ _ h => h) hHeld ?_ ?_
      rotate_left
      ·intro w hSw; (try dsimp only at hSw); go_simp; try (with_reducible rfl)
      try simp only [sq]
      refine tkR ?_ 13 rfl (fun _ _ _ h => h) hHeld ?_ ?_
      rotate_left
      ·intro w hSw; (try dsimp only at hSw); go_simp; try (with_reducible rfl)
      try simp only [sq]
      refine rd1 7 rfl (fun K hK => ?_)
      try simp only [sq]
      go_simp
      go_at_call 139
      refine (N1.out _ hB).mono ?_
      rintro e z1 ⟨rfl, hcl⟩
      replace hc1 := keepcell hcl hc1
      replace hc2 := keepcell hcl hc2
      replace g2 := keepheap hcl g2
      replace HT := hid (HT.out.kept (grown_all hcl none) (by simp))
      replace HL := hid (own_below HL.out hcl)
      replace hB := btrans hB hcl
      go_wp2_with fail
      refine hK.out _ _ ?_ (fun hHeld => ?_)
      ·(repeat' apply And.intro) <;> (with_reducible repeat (first | assumption | refine keepset ?_ (by dsimp only; omega) | refine keepdrew ?_ | refine keepcell (by assumption) ?_ | refine keepalloc ?_ _))
      clear hK K
      try simp only [sq]
      clear hcl
      refine rd1 14 rfl (fun K hK => ?_)
      try simp only [sq]
      go_simp
      go_at_call 139
      refine (N2.out _ hB).mono ?_
      rintro e z2 ⟨rfl, hcl⟩
      replace hc1 := keepcell hcl hc1
      replace hc2 := keepcell hcl hc2
      replace g2 := keepheap hcl g2
      replace HT := hid (HT.out.kept (grown_all hcl none) (by simp))
      replace HL := hid (own_below HL.out hcl)
      replace hB := btrans hB hcl
      go_wp2_with fail
      refine hK.out _ _ ?_ (fun hHeld => ?_)
      ·(repeat' apply And.intro) <;> (with_reducible repeat (first | assumption | refine keepset ?_ (by dsimp only; omega) | refine keepdrew ?_ | refine keepcell (by assumption) ?_ | refine keepalloc ?_ _))
      clear hK K
      try simp only [sq]
      clear hcl
      obtain ⟨k0, k0'⟩ := HL.out.2.2 (j * 2) (by omega)
      obtain ⟨k1, k1'⟩ := HL.out.2.2 (j * 2 + 1) (by omega)
      obtain ⟨v0, hv0⟩ := Option.isSome_iff_exists.1 k0
      obtain ⟨v1, hv1⟩ := Option.isSome_iff_exists.1 k1
      simp only [Nat.zero_add, ← Nat.add_assoc] at hv0 hv1 k0' k1'
      clear k0 k1
      refine tkR ?_ 15 rfl (fun _ _ _ h => h) hHeld ?_ ?_
      rotate_left
      ·intro w hSw; (try dsimp only at hSw); go_simp; try (with_reducible rfl)
      try simp only [sq]
      refine tkR ?_ 16 rfl (fun _ _ _ h => h) hHeld ?_ ?_
      rotate_left
      ·intro w hSw; (try dsimp only at hSw); go_simp; try (with_reducible rfl)
      try simp only [sq]
      refine rd1 17 rfl (fun K hK => ?_)
      try simp only [sq]
      go_simp
      refine hK.out _ _ ?_ (fun hHeld => ?_)
      ·(repeat' apply And.intro) <;> (with_reducible repeat (first | assumption | refine keepset ?_ (by dsimp only; omega) | refine keepdrew ?_ | refine keepcell (by assumption) ?_ | refine keepalloc ?_ _))
      clear hK K
      try simp only [sq]
      refine wpAnyH_done (by kernel_rfl) ?_ _
      go_wp2_with fail
      go_roundw
      case rel =>
       have hln := HLn.out
       have hput := put_next (w := z2) (b := BL) (n := np) (l := l) HL.out (by omega) (riN x1) (riN x2)
       rw [hln] at hput
       refine ⟨j + 1, l ++ [(riN x1, riN x2)], by go_num, by omega, hid (by simp <;> omega), HRS, hid (texts_set (texts_set HT.out (by omega)) (by omega)), hid (set_far (set_far g2 (by omega)) (by omega)), hid hput, hid (bset (bset hB (by omega) _) (by omega) _)⟩
      case measure => simp [intOf]; omega
     ·obtain rfl : np = j := by omega
      have hR : rdp (ws.drop 1) = some l := by
       rw [HR.out, List.drop_of_length_le (by rw [HNL.out]; omega)]
       simp [rdp]
      have hlen := HLn.out
      have hpt := PtsOwn.pts (w := wr) (b := BL) (ps := l) ⟨HL.out.1, HL.out.2.1, by rw [hlen]; exact HL.out.2.2⟩
      cases hk : shok (m : Int) l
      ·have HN := hid (show rso ws = none by rw [HO.out, hR]; simp [hk])
       have HA := hid (right_no wr m (some ⟨BL, 0, none⟩) l.length l (by omega) (Nat.le_refl _) hpt hk)
       rw [hlen] at HA
       clear hk hR hlen hpt
       go_wp2_with fail
       refine HA.out.mono ?_
       rintro e z1 ⟨⟨t, rfl⟩, hg⟩
       go_wp2_with fail
       exact ⟨rfl, sot_refused HN.out ⟨_, rfl⟩ (btrans HBW.out hg)⟩
      ·have HN := hid (show rso ws = some ((m : Int), l) by rw [HO.out, hR]; simp [hk])
       have HA := hid (right_ok wr m (some ⟨BL, 0, none⟩) l.length l (by omega) (Nat.le_refl _) hpt hk)
       unfold shv at HA
       rw [hlen] at HA
       have hown : PtsOwn wr BL l := ⟨HL.out.1, HL.out.2.1, by rw [hlen]; exact HL.out.2.2⟩
       clear hk hR hlen hpt
       go_wp2_with fail
       refine HA.out.mono ?_
       rintro e z1 ⟨rfl, hg⟩
       have g2 := keepheap hg G2.out
       have hB := btrans HBW.out hg
       replace hown := hown.below hg
       clear hg
       obtain ⟨y0, y1, y2, y3⟩ := cell2g g2
       go_wp2_with fail
       have gF := (set2 g2 (.int .i64 m) (.slice (some ⟨BL, 0, none⟩) np np)).1
       have bF := bset (bset hB (q := w.heap.size) (k := 0) (by omega) (.int .i64 m)) (q := w.heap.size) (k := 1) (by omega) (.slice (some ⟨BL, 0, none⟩) np np)
       have oF := own_setr2 (k := 0) (k' := 1) (u := .int .i64 m) (u' := .slice (some ⟨BL, 0, none⟩) np np) hown (q := w.heap.size) (by omega)
       generalize (z1.setCell ⟨w.heap.size, 0, none⟩ (.int .i64 m)).setCell ⟨w.heap.size, 1, none⟩ (.slice (some ⟨BL, 0, none⟩) np np) = wf at *
       obtain ⟨q0, q1, _, _⟩ := cell2g gF
       exact bodyPost_ret (v := .agg #[(.int .i64 m), (.slice (some ⟨BL, 0, none⟩) np np)]) (by simp [results, Tryz.results99, go_sem, q0, q1]) rfl (sot_yes HN.out HLn.out bF (by omega) oF)
end Go.Proofs.YtenlhgnobfadgaaGreatDoor
