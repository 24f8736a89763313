/- Texts of stores, joined: Sob, Sob2. -/
import Derived.Test.YtjafahhoihlliaaGreatDoorJ30
namespace Go.Proofs.YtjafahhoihlliaaGreatDoor
open Go.RowKit
set_option linter.unusedVariables false
set_option maxHeartbeats 1000000 in
theorem sob_out (s : ByteArray) (i : Int) (hs : s.size ≤ 1048576) (hi : ¬ (0 ≤ i ∧ i < (s.size : Int))) (w : World) : Calls Tryz.prog 41 #[.string s, .int .i64 i] w fun e w' => Refused e ∧ Below w.heap.size w w' := by
  by_cases h : i < 0
  · go_enter Tryz.func41, Tryz.ntmps41
    go_wp2_with fail
    exact ⟨rfl, ⟨_, rfl⟩, balloc (Below.refl _ _) _⟩
  · have h0 : 0 ≤ i := by omega
    have h1 : (s.size : Int) ≤ i := by omega
    go_enter Tryz.func41, Tryz.ntmps41
    go_wp2_with fail
    exact ⟨rfl, ⟨_, rfl⟩, balloc (Below.refl _ _) _⟩
set_option maxHeartbeats 1000000 in
theorem sob_no (s : ByteArray) (i : Nat) (hs : s.size ≤ 1048576) (hi : i < s.size) (h : rd s ((i : Int) + 1) = none ∨ ∃ n p, rd s ((i : Int) + 1) = some (n, p) ∧ 60 < n) (w : World) : Calls Tryz.prog 41 #[.string s, .int .i64 i] w fun e w' => Refused e ∧ Below w.heap.size w w' := by
  have hi' : (i : Int) < (s.size : Int) := by omega
  have hi0 : (0 : Int) ≤ (i : Int) := by omega
  have HC : Hid (∀ (W : World) (R : Nat), RdAt W R s ((i : Int) + 1) → Calls Tryz.prog 67 #[.pointer (some ⟨R, 0, none⟩)] W fun e w' => Refused e ∧ W.grownBy w' (some R)) := hid (fun W R hb => by
    rcases h with h | ⟨n, p, h, hn⟩
    · exact count_no W R s _ (by unfold maxLen; omega) hb h
    · exact count_great W R s _ n p (by unfold maxLen; omega) hb h hn)
  clear h
  go_enter Tryz.func41, Tryz.ntmps41
  go_wp2_with fail
  have g := new_alloc (w.alloc (.cells #[.int .i64 0, .slice none 0 0] 26)) (w.heap.size + 1) (.cells #[.string s, .int .i64 ((i : Int) + 1)] 102) (by simp)
  have hB : Below w.heap.size w ((w.alloc (.cells #[.int .i64 0, .slice none 0 0] 26)).alloc (.cells #[.string s, .int .i64 ((i : Int) + 1)] 102)) := balloc (balloc (Below.refl _ _) _) _
  generalize ((w.alloc (.cells #[.int .i64 0, .slice none 0 0] 26)).alloc (.cells #[.string s, .int .i64 ((i : Int) + 1)] 102)) = W at *
  refine (HC.out _ _ g).mono ?_
  rintro e W1 ⟨⟨v, rfl⟩, hg⟩
  go_wp2_with fail
  exact ⟨rfl, ⟨_, rfl⟩, bgrown hB hg (by omega)⟩
end Go.Proofs.YtjafahhoihlliaaGreatDoor
namespace Go.Proofs.YtjafahhoihlliaaGreatDoor
open Go.RowKit
set_option linter.unusedVariables false
theorem set2_0 {w : World} {p : Nat} {x y u : Value} {t : TypeId} (h : w.heap[p]? = some (.cells #[x, y] t (0, 0))) : (w.setCell ⟨p, 0, none⟩ u).heap[p]? = some (.cells #[u, y] t (0, 0)) := by
  have hlt := lt_of_block h
  have h' : w.heap[p] = .cells #[x, y] t (0, 0) := by simpa [Array.getElem?_eq_getElem hlt] using h
  show (w.heap.modify p _)[p]? = _
  rw [Array.getElem?_eq_getElem (by simpa using hlt), Array.getElem_modify_self, h']
  rfl
theorem pts_block {w w' : World} {b n : Nat} {l : List (Int × Int)} (h : b < w.heap.size ∧ PtsAt w b 0 l ∧ w.there b 0 n) (hs : w.heap.size ≤ w'.heap.size) (hb : w'.heap[b]? = w.heap[b]?) : b < w'.heap.size ∧ PtsAt w' b 0 l ∧ w'.there b 0 n := by
  have hc : ∀ k, w'.cell? ⟨b, k, none⟩ = w.cell? ⟨b, k, none⟩ := fun k => by simp only [World.cell?, hb]
  have hf : ∀ k, w'.frozen? ⟨b, k, none⟩ = w.frozen? ⟨b, k, none⟩ := fun k => by simp only [World.frozen?, hb]
  refine ⟨by omega, fun j hj => ?_, fun j hj => ?_⟩
  · rw [hc, hc]; exact h.2.1 j hj
  · rw [hc, hf]; exact h.2.2 j hj
theorem own_grown {w w' : World} {b n : Nat} {r : Option Nat} {l : List (Int × Int)} (h : b < w.heap.size ∧ PtsAt w b 0 l ∧ w.there b 0 n) (hg : w.grownBy w' r) (hne : some b ≠ r) : b < w'.heap.size ∧ PtsAt w' b 0 l ∧ w'.there b 0 n := pts_block h hg.size (hg.block b h.1 hne)
theorem own_set {w : World} {b n q k : Nat} {u : Value} {l : List (Int × Int)} (h : b < w.heap.size ∧ PtsAt w b 0 l ∧ w.there b 0 n) (hne : q ≠ b) : b < (w.setCell ⟨q, k, none⟩ u).heap.size ∧ PtsAt (w.setCell ⟨q, k, none⟩ u) b 0 l ∧ (w.setCell ⟨q, k, none⟩ u).there b 0 n := pts_block h (by simp) (by
    show (w.heap.modify q _)[b]? = _
    rw [Array.getElem?_modify, if_neg hne])
theorem own_set2 {w : World} {b q k k' : Nat} {u u' : Value} {l : List (Int × Int)} (h : PtsOwn w b l) (hne : q ≠ b) : PtsOwn ((w.setCell ⟨q, k, none⟩ u).setCell ⟨q, k', none⟩ u') b l := own_set (own_set h hne) hne
/-- What the inner function answers. -/
def SOB (w : World) (o : Option (Int × List (Int × Int) × Int)) (e : Ending) (w' : World) : Prop := Below w.heap.size w w' ∧ ((o = none ∧ Refused e) ∨ ∃ k l q b, o = some (k, l, q) ∧ e = .returned (.tuple #[.agg #[.int .i64 k, .slice (some ⟨b, 0, none⟩) l.length l.length], .int .i64 q]) ∧ w.heap.size ≤ b ∧ PtsOwn w' b l)
theorem sob_refused {w w' : World} {o : Option (Int × List (Int × Int) × Int)} {e : Ending} (h : o = none) (he : Refused e) (hb : Below w.heap.size w w') : SOB w o e w' := ⟨hb, .inl ⟨h, he⟩⟩
theorem sob_yes {w w' : World} {o : Option (Int × List (Int × Int) × Int)} {k q : Int} {l : List (Int × Int)} {b n : Nat} (h : o = some (k, l, q)) (hn : l.length = n) (hb : Below w.heap.size w w') (hbb : w.heap.size ≤ b) (ho : PtsOwn w' b l) : SOB w o (.returned (.tuple #[.agg #[.int .i64 k, .slice (some ⟨b, 0, none⟩) n n], .int .i64 q])) w' := by
  subst hn
  exact ⟨hb, .inr ⟨k, l, q, b, h, rfl, hbb, ho⟩⟩
theorem rdl_step {s : ByteArray} {m n j : Nat} {p q : Int} {x y : Int} {l : List (Int × Int)} {dx mid dy fin : Nat} (hj : j < n) (HR : rdl s m n p 0 0 = (rdl s m (n - j) q x y).map (fun r => (l ++ r.1, r.2))) (h1 : rd s q = some (dx, mid)) (h2 : rd s mid = some (dy, fin)) (hc : ¬ (m < dx ∨ m < dy)) :
    rdl s m n p 0 0 = (rdl s m (n - (j + 1)) fin (x + unf dx) (y + unf dy)).map (fun r => ((l ++ [(x + unf dx, y + unf dy)]) ++ r.1, r.2)) := by
  have e1 : n - j = n - (j + 1) + 1 := by omega
  rw [HR, e1]
  simp only [rdl, h1, h2, if_neg hc]
  cases rdl s m (n - (j + 1)) fin (x + unf dx) (y + unf dy) with
  | none => rfl
  | some r => simp
theorem put_next {w : World} {b n : Nat} {l : List (Int × Int)} (h : b < w.heap.size ∧ PtsAt w b 0 l ∧ w.there b 0 (n * 2)) (hl : l.length < n) (x y : Int) :
    b < ((w.setCell ⟨b, l.length * 2, none⟩ (.int .i64 x)).setCell ⟨b, l.length * 2 + 1, none⟩ (.int .i64 y)).heap.size ∧ PtsAt ((w.setCell ⟨b, l.length * 2, none⟩ (.int .i64 x)).setCell ⟨b, l.length * 2 + 1, none⟩ (.int .i64 y)) b 0 (l ++ [(x, y)]) ∧ ((w.setCell ⟨b, l.length * 2, none⟩ (.int .i64 x)).setCell ⟨b, l.length * 2 + 1, none⟩ (.int .i64 y)).there b 0 (n * 2) := by
  have hL : ((l ++ [(x, y)]) ++ List.replicate (n - (l.length + 1)) ((0 : Int), (0 : Int))).length = n := by simp; omega
  have ht : (((l ++ [(x, y)]) ++ List.replicate (n - (l.length + 1)) ((0 : Int), (0 : Int)))).take l.length = l := by simp
  have ht1 : (((l ++ [(x, y)]) ++ List.replicate (n - (l.length + 1)) ((0 : Int), (0 : Int)))).take (l.length + 1) = l ++ [(x, y)] := by
    rw [List.take_append_of_le_length (by simp), List.take_of_length_le (by simp)]
  have hg : (((l ++ [(x, y)]) ++ List.replicate (n - (l.length + 1)) ((0 : Int), (0 : Int)))).getD l.length (0, 0) = (x, y) := by simp [List.getD]
  have hp := put_point (w := w) (b := b) (k := l.length) (n := n * 2) (ps := (l ++ [(x, y)]) ++ List.replicate (n - (l.length + 1)) ((0 : Int), (0 : Int))) h.1 (by rw [hL]; exact hl) (by rw [hL]) (by rw [ht]; exact h.2.1) h.2.2 x y (by rw [hg]) (by rw [hg])
  rw [ht1] at hp
  exact ⟨by simpa using h.1, hp.1, hp.2⟩
set_option maxRecDepth 100000 in
set_option maxHeartbeats 4000000 in
theorem sob_ok (s : ByteArray) (i : Nat) (hs : s.size ≤ 1048576) (hi : i < s.size) (n p : Nat) (h : rd s ((i : Int) + 1) = some (n, p)) (hn : n ≤ 60) (w : World) : Calls Tryz.prog 41 #[.string s, .int .i64 i] w fun e w' => SOB w (gso s 2000000000 i) e w' := by
  have HO := hid (show gso s 2000000000 i = (gsh s 2000000000 (by8 s i) n p).map (fun r => ((by8 s i : Int), r.1, r.2)) by rw [gso_in s _ i hi, h]; simp only; rw [if_neg (by omega)])
  have hi' : (i : Int) < (s.size : Int) := by omega
  have hi0 : (0 : Int) ≤ (i : Int) := by omega
  have hn' : (n : Int) ≤ 60 := by omega
  have hsm : s.size ≤ maxLen := by unfold maxLen; omega
  have HSM := hid hsm
  clear hsm
  have hp := rd_small s _ n p h
  have e8 := by8_at s i hi
  have h8 := by8_lt s i
  have HC : Hid (∀ (W : World), RdAt W (w.heap.size + 1) s ((i : Int) + 1) → Calls Tryz.prog 67 #[.pointer (some ⟨w.heap.size + 1, 0, none⟩)] W fun e w' => e = .returned (.int .i64 n) ∧ RdAt w' (w.heap.size + 1) s p ∧ W.grownBy w' (some (w.heap.size + 1))) := hid (fun W hb => count_ok W _ s _ n p HSM.out hb h hn)
  have hmk := make_points n (by omega)
  clear h
  go_enter Tryz.func41, Tryz.ntmps41
  go_wp2_with fail
  have g := new_alloc (w.alloc (.cells #[.int .i64 0, .slice none 0 0] 26)) (w.heap.size + 1) (.cells #[.string s, .int .i64 ((i : Int) + 1)] 102) (by simp)
  have g4 := old_alloc (o' := .cells #[.string s, .int .i64 ((i : Int) + 1)] 102) (new_alloc w w.heap.size (.cells #[.int .i64 0, .slice none 0 0] 26) rfl)
  have hB : Below w.heap.size w ((w.alloc (.cells #[.int .i64 0, .slice none 0 0] 26)).alloc (.cells #[.string s, .int .i64 ((i : Int) + 1)] 102)) := balloc (balloc (Below.refl _ _) _) _
  generalize ((w.alloc (.cells #[.int .i64 0, .slice none 0 0] 26)).alloc (.cells #[.string s, .int .i64 ((i : Int) + 1)] 102)) = W at *
  refine (HC.out _ g).mono ?_
  rintro e W1 ⟨rfl, hr, hg⟩
  replace g4 := (hg.block _ (lt_of_block g4) (by simp)).trans g4
  replace hB := bgrown hB hg (by omega)
  clear hg g
  have hl1 : w.heap.size + 1 < W1.heap.size := lt_of_block hr
  go_wp2_with fail
  have hbm : Below W1.heap.size W1 ((W1.alloc (.cells (madeCells #[.int .i64 0, .int .i64 0] (n * 2)) 44)).alloc (.cells #[.int .i64 0, .int .i64 0] 44)) := balloc (balloc (Below.refl _ _) _) _
  have gA := new_alloc (W1.alloc (.cells (madeCells #[.int .i64 0, .int .i64 0] (n * 2)) 44)) (W1.heap.size + 1) (.cells #[.int .i64 0, .int .i64 0] 44) (by simp)
  have hL : W1.heap.size < ((W1.alloc (.cells (madeCells #[.int .i64 0, .int .i64 0] (n * 2)) 44)).alloc (.cells #[.int .i64 0, .int .i64 0] 44)).heap.size ∧ PtsAt ((W1.alloc (.cells (madeCells #[.int .i64 0, .int .i64 0] (n * 2)) 44)).alloc (.cells #[.int .i64 0, .int .i64 0] 44)) W1.heap.size 0 [] ∧ ((W1.alloc (.cells (madeCells #[.int .i64 0, .int .i64 0] (n * 2)) 44)).alloc (.cells #[.int .i64 0, .int .i64 0] 44)).there W1.heap.size 0 (n * 2) :=
    ⟨by simp; omega, fun j hj => by simp at hj, there_below (made_own W1 n) (by simp) (balloc (Below.refl _ _) _)⟩
  replace hr : RdAt ((W1.alloc (.cells (madeCells #[.int .i64 0, .int .i64 0] (n * 2)) 44)).alloc (.cells #[.int .i64 0, .int .i64 0] 44)) (w.heap.size + 1) s p := keepheap hbm hr
  replace g4 := keepheap hbm g4
  replace hB := btrans hB hbm
  generalize ((W1.alloc (.cells (madeCells #[.int .i64 0, .int .i64 0] (n * 2)) 44)).alloc (.cells #[.int .i64 0, .int .i64 0] 44)) = V at *
  generalize W1.heap.size = BL at *
  have hbl : w.heap.size + 1 < BL := hl1
  clear hbm hl1 hmk HC
  generalize by8 s i = kd at *
  go_loopw [29] (fun tj wr => ∃ j q : Nat, ∃ x y : Int, ∃ l : List (Int × Int), tj = .int .i64 j ∧ j ≤ n ∧ (-1000000000 * (j : Int) ≤ x ∧ x ≤ 1000000000 * (j : Int)) ∧ (-1000000000 * (j : Int) ≤ y ∧ y ≤ 1000000000 * (j : Int)) ∧ Hid (l.length = j) ∧ Hid (rdl s 2000000000 n p 0 0 = (rdl s 2000000000 (n - j) q x y).map (fun r => (l ++ r.1, r.2))) ∧ Hid (RdAt wr (w.heap.size + 1) s q) ∧ Hid (wr.heap[BL + 1]? = some (.cells #[.int .i64 x, .int .i64 y] 44 (0, 0))) ∧ Hid (wr.heap[w.heap.size]? = some (.cells #[.int .i64 0, .slice none 0 0] 26 (0, 0))) ∧ Hid (BL < wr.heap.size ∧ PtsAt wr BL 0 l ∧ wr.there BL 0 (n * 2)) ∧ Hid (Below w.heap.size w wr)) (fun tj _ => n - (intOf tj).toNat)
  case atStart => exact ⟨0, p, 0, 0, [], rfl, Nat.zero_le _, by omega, by omega, hid rfl, hid (by simp), hid hr, hid gA, hid g4, hid hL, hid hB⟩
  case round =>
    clear hr gA g4 hL hB
    obtain ⟨j, q, x, y, l, rfl, hj, hx, hy, HLn, HR, HRD, GA, G4, HL, HBW⟩ := hrel
    by_cases hlt : j < n
    · have c1 : (j : Int) < (n : Int) := by omega
      have e1 : n - j = n - (j + 1) + 1 := by omega
      clear e8
      -- the first coordinate
      have H1 : (∃ dx mid, rd s (q : Int) = some (dx, mid) ∧ dx ≤ 2000000000) ∨ ((rdl s 2000000000 (n - j) q x y = none) ∧ ∀ W, RdAt W (w.heap.size + 1) s q → Calls Tryz.prog 68 #[.pointer (some ⟨w.heap.size + 1, 0, none⟩)] W fun e w' => Refused e ∧ W.grownBy w' (some (w.heap.size + 1))) := by
        cases h1 : rd s (q : Int) with
        | none => exact .inr ⟨by rw [e1, rdl_none1 h1], fun W hb => step_no W _ s _ HSM.out hb h1⟩
        | some d1 =>
          obtain ⟨dx, mid⟩ := d1
          by_cases hd : dx ≤ 2000000000
          · exact .inl ⟨dx, mid, rfl, hd⟩
          · refine .inr ⟨?_, fun W hb => step_great W _ s _ dx mid HSM.out hb h1 (by omega)⟩
            rw [e1]
            cases h2 : rd s (mid : Int) with
            | none => exact rdl_none2 h1 h2
            | some d2 => exact rdl_none3 h1 h2 (.inl (by omega))
      rcases H1 with ⟨dx, mid, h1, hdx⟩ | ⟨hno, S1'⟩
      rotate_left
      · have HN := hid (show gso s 2000000000 i = none by rw [HO.out]; unfold gsh; rw [HR.out, hno]; rfl)
        have S1 := hid S1'
        clear hno S1' HR HO
        go_wp2_with fail
        refine wp_region_held_drew (S := (fun _ => True)) (by kernel_rfl) ?_ (fun hHeld => ?_)
        · trivial
        have hr := HRD.out
        have gA := GA.out
        have g4 := G4.out
        have hB := HBW.out
        replace hr : RdAt wr.drew (w.heap.size + 1) s q := hr
        replace gA : wr.drew.heap[BL + 1]? = some (.cells #[.int .i64 x, .int .i64 y] 44 (0, 0)) := gA
        replace g4 : wr.drew.heap[w.heap.size]? = some (.cells #[.int .i64 0, .slice none 0 0] 26 (0, 0)) := g4
        replace HL : Hid (BL < wr.drew.heap.size ∧ PtsAt wr.drew BL 0 l ∧ wr.drew.there BL 0 (n * 2)) := HL
        replace hB := bdrew hB
        clear HRD GA G4 HBW
        generalize wr.drew = z0 at *
        obtain ⟨c0, c1, f0, f1⟩ := cell2g gA
        refine wpAnyH_take (i := 0) (v := ?_) rfl (by kernel_rfl) (by kernel_rfl) (by kernel_rfl) (fun _ _ _ h => h) (Or.inl ⟨by rfl, ?_⟩) hHeld ?_
        rotate_left
        · intro w hSw; (try dsimp only at hSw); go_simp; try (with_reducible rfl)
        try simp only [sq]
        refine wpAnyH_ready (rs := [1, 2]) (by kernel_rfl) (by simp) ?_
        refine (AllReadyH.cons rfl (fun K hK => ?_) (AllReadyH.cons rfl (fun K hK => ?_) AllReadyH.nil))
        · skip
          try simp only [sq]
          go_simp
          refine hK.out _ _ trivial (fun hHeld => ?_)
          clear hK K
          try simp only [sq]
          refine wpAnyH_ready (rs := [2]) (by kernel_rfl) (by simp) ?_
          refine (AllReadyH.cons rfl (fun K hK => ?_) AllReadyH.nil)
          try simp only [sq]
          go_simp
          go_at_call 68
          refine (S1.out _ hr).mono ?_
          rintro e z1 ⟨⟨t, rfl⟩, hg⟩
          go_wp2_with fail
          exact ⟨rfl, sob_refused HN.out ⟨_, rfl⟩ (bgrown hB hg (by omega))⟩
        · skip
          try simp only [sq]
          go_simp
          go_at_call 68
          refine (S1.out _ hr).mono ?_
          rintro e z1 ⟨⟨t, rfl⟩, hg⟩
          go_wp2_with fail
          exact ⟨rfl, sob_refused HN.out ⟨_, rfl⟩ (bgrown hB hg (by omega))⟩
      have S1 := hid (fun (W : World) (hb : RdAt W (w.heap.size + 1) s q) => step_ok W _ s _ dx mid HSM.out hb h1 hdx)
      have H2 : (∃ dy fin, rd s (mid : Int) = some (dy, fin) ∧ dy ≤ 2000000000) ∨ ((rdl s 2000000000 (n - j) q x y = none) ∧ ∀ W, RdAt W (w.heap.size + 1) s mid → Calls Tryz.prog 68 #[.pointer (some ⟨w.heap.size + 1, 0, none⟩)] W fun e w' => Refused e ∧ W.grownBy w' (some (w.heap.size + 1))) := by
        cases h2 : rd s (mid : Int) with
        | none => exact .inr ⟨by rw [e1, rdl_none2 h1 h2], fun W hb => step_no W _ s _ HSM.out hb h2⟩
        | some d2 =>
          obtain ⟨dy, fin⟩ := d2
          by_cases hd : dy ≤ 2000000000
          · exact .inl ⟨dy, fin, rfl, hd⟩
          · refine .inr ⟨?_, fun W hb => step_great W _ s _ dy fin HSM.out hb h2 (by omega)⟩
            rw [e1]
            exact rdl_none3 h1 h2 (.inr (by omega))
      have hu1 := unf_in dx hdx
      obtain ⟨ux, hux⟩ : ∃ u, u = unf dx := ⟨_, rfl⟩
      rw [← hux] at S1 hu1
      have HUX := hid hux
      clear hux
      have hw1 : IntKind.i64.wrap (x + ux) = x + ux := IntWalk.i64_in _ ⟨by omega, by omega⟩
      go_wp2_with fail
      go_cut [29, 9] (fun t29 t9 wx => t29 = .int .i64 j ∧ t9 = .int .i64 j ∧ Hid (RdAt wx (w.heap.size + 1) s mid) ∧ Hid (wx.heap[BL + 1]? = some (.cells #[.int .i64 (x + ux), .int .i64 y] 44 (0, 0))) ∧ Hid (wx.heap[w.heap.size]? = some (.cells #[.int .i64 0, .slice none 0 0] 26 (0, 0))) ∧ Hid (BL < wx.heap.size ∧ PtsAt wx BL 0 l ∧ wx.there BL 0 (n * 2)) ∧ Hid (Below w.heap.size w wx))
      case first =>
        refine wp_region_held_drew (S := (fun _ => True)) (by kernel_rfl) ?_ (fun hHeld => ?_)
        · trivial
        have hr := HRD.out
        have gA := GA.out
        have g4 := G4.out
        have hB := HBW.out
        replace hr : RdAt wr.drew (w.heap.size + 1) s q := hr
        replace gA : wr.drew.heap[BL + 1]? = some (.cells #[.int .i64 x, .int .i64 y] 44 (0, 0)) := gA
        replace g4 : wr.drew.heap[w.heap.size]? = some (.cells #[.int .i64 0, .slice none 0 0] 26 (0, 0)) := g4
        replace HL : Hid (BL < wr.drew.heap.size ∧ PtsAt wr.drew BL 0 l ∧ wr.drew.there BL 0 (n * 2)) := HL
        replace hB := bdrew hB
        clear HRD GA G4 HBW
        generalize wr.drew = z0 at *
        obtain ⟨c0, c1, f0, f1⟩ := cell2g gA
        refine wpAnyH_take (i := 0) (v := ?_) rfl (by kernel_rfl) (by kernel_rfl) (by kernel_rfl) (fun _ _ _ h => h) (Or.inl ⟨by rfl, ?_⟩) hHeld ?_
        rotate_left
        · intro w hSw; (try dsimp only at hSw); go_simp; try (with_reducible rfl)
        try simp only [sq]
        refine wpAnyH_ready (rs := [1, 2]) (by kernel_rfl) (by simp) ?_
        refine (AllReadyH.cons rfl (fun K hK => ?_) (AllReadyH.cons rfl (fun K hK => ?_) AllReadyH.nil))
        · skip
          try simp only [sq]
          go_simp
          refine hK.out _ _ trivial (fun hHeld => ?_)
          clear hK K
          try simp only [sq]
          refine wpAnyH_ready (rs := [2]) (by kernel_rfl) (by simp) ?_
          refine (AllReadyH.cons rfl (fun K hK => ?_) AllReadyH.nil)
          try simp only [sq]
          go_simp
          go_at_call 68
          refine (S1.out _ hr).mono ?_
          rintro e z1 ⟨rfl, hr', hg⟩
          replace hr := hr'
          replace gA := (hg.block _ (lt_of_block gA) (by simp <;> omega)).trans gA
          replace g4 := (hg.block _ (lt_of_block g4) (by simp <;> omega)).trans g4
          replace HL := hid (own_grown HL.out hg (by simp <;> omega))
          replace hB := bgrown hB hg (by omega)
          clear hg hr' c0 c1 f0 f1
          obtain ⟨c0, c1, f0, f1⟩ := cell2g gA
          go_wp2_with fail
          refine hK.out _ _ trivial (fun hHeld => ?_)
          clear hK K
          try simp only [sq]
          refine wpAnyH_take (i := 3) (v := ?_) rfl (by kernel_rfl) (by kernel_rfl) (by kernel_rfl) (fun _ _ _ h => h) (Or.inl ⟨by rfl, ?_⟩) hHeld ?_
          rotate_left
          · intro w hSw; (try dsimp only at hSw); go_simp; try (with_reducible rfl)
          try simp only [sq]
          refine wpAnyH_take (i := 4) (v := ?_) rfl (by kernel_rfl) (by kernel_rfl) (by kernel_rfl) (fun _ _ _ h => h) (Or.inl ⟨by rfl, ?_⟩) hHeld ?_
          rotate_left
          · intro w hSw; (try dsimp only at hSw); go_simp; try (with_reducible rfl)
          try simp only [sq]
          refine wpAnyH_ready (rs := [5]) (by kernel_rfl) (by simp) ?_
          refine (AllReadyH.cons rfl (fun K hK => ?_) AllReadyH.nil)
          try simp only [sq]
          go_simp
          refine hK.out _ _ trivial (fun hHeld => ?_)
          clear hK K
          try simp only [sq]
          refine wpAnyH_done (by kernel_rfl) ?_ _
          go_wp2_with fail
          go_meet
          exact ⟨rfl, rfl, hid (set_far hr (by omega)), hid (set2_0 gA), hid (set_far g4 (by omega)), hid (own_set HL.out (by omega)), hid (bset hB (by omega) _)⟩
        · skip
          try simp only [sq]
          go_simp
          go_at_call 68
          refine (S1.out _ hr).mono ?_
          rintro e z1 ⟨rfl, hr', hg⟩
          replace hr := hr'
          replace gA := (hg.block _ (lt_of_block gA) (by simp <;> omega)).trans gA
          replace g4 := (hg.block _ (lt_of_block g4) (by simp <;> omega)).trans g4
          replace HL := hid (own_grown HL.out hg (by simp <;> omega))
          replace hB := bgrown hB hg (by omega)
          clear hg hr' c0 c1 f0 f1
          obtain ⟨c0, c1, f0, f1⟩ := cell2g gA
          go_wp2_with fail
          refine hK.out _ _ trivial (fun hHeld => ?_)
          clear hK K
          try simp only [sq]
          refine wpAnyH_ready (rs := [1]) (by kernel_rfl) (by simp) ?_
          refine (AllReadyH.cons rfl (fun K hK => ?_) AllReadyH.nil)
          try simp only [sq]
          go_simp
          refine hK.out _ _ trivial (fun hHeld => ?_)
          clear hK K
          try simp only [sq]
          refine wpAnyH_take (i := 3) (v := ?_) rfl (by kernel_rfl) (by kernel_rfl) (by kernel_rfl) (fun _ _ _ h => h) (Or.inl ⟨by rfl, ?_⟩) hHeld ?_
          rotate_left
          · intro w hSw; (try dsimp only at hSw); go_simp; try (with_reducible rfl)
          try simp only [sq]
          refine wpAnyH_take (i := 4) (v := ?_) rfl (by kernel_rfl) (by kernel_rfl) (by kernel_rfl) (fun _ _ _ h => h) (Or.inl ⟨by rfl, ?_⟩) hHeld ?_
          rotate_left
          · intro w hSw; (try dsimp only at hSw); go_simp; try (with_reducible rfl)
          try simp only [sq]
          refine wpAnyH_ready (rs := [5]) (by kernel_rfl) (by simp) ?_
          refine (AllReadyH.cons rfl (fun K hK => ?_) AllReadyH.nil)
          try simp only [sq]
          go_simp
          refine hK.out _ _ trivial (fun hHeld => ?_)
          clear hK K
          try simp only [sq]
          refine wpAnyH_done (by kernel_rfl) ?_ _
          go_wp2_with fail
          go_meet
          exact ⟨rfl, rfl, hid (set_far hr (by omega)), hid (set2_0 gA), hid (set_far g4 (by omega)), hid (own_set HL.out (by omega)), hid (bset hB (by omega) _)⟩
      case rest =>
        obtain ⟨rfl, rfl, HRD, GA, G4, HL, HBW⟩ := hcut
        clear S1
        rcases H2 with ⟨dy, fin, h2, hdy⟩ | ⟨hno, S2'⟩
        rotate_left
        · have HN := hid (show gso s 2000000000 i = none by rw [HO.out]; unfold gsh; rw [HR.out, hno]; rfl)
          have S2 := hid S2'
          clear hno S2' HR HO
          go_wp2_with fail
          refine wp_region_held_drew (S := (fun _ => True)) (by kernel_rfl) ?_ (fun hHeld => ?_)
          · trivial
          have hr := HRD.out
          have gA := GA.out
          have g4 := G4.out
          have hB := HBW.out
          replace hr : RdAt wc.drew (w.heap.size + 1) s mid := hr
          replace gA : wc.drew.heap[BL + 1]? = some (.cells #[.int .i64 (x + ux), .int .i64 y] 44 (0, 0)) := gA
          replace g4 : wc.drew.heap[w.heap.size]? = some (.cells #[.int .i64 0, .slice none 0 0] 26 (0, 0)) := g4
          replace HL : Hid (BL < wc.drew.heap.size ∧ PtsAt wc.drew BL 0 l ∧ wc.drew.there BL 0 (n * 2)) := HL
          replace hB := bdrew hB
          clear HRD GA G4 HBW
          generalize wc.drew = z0 at *
          obtain ⟨c0, c1, f0, f1⟩ := cell2g gA
          refine wpAnyH_take (i := 0) (v := ?_) rfl (by kernel_rfl) (by kernel_rfl) (by kernel_rfl) (fun _ _ _ h => h) (Or.inl ⟨by rfl, ?_⟩) hHeld ?_
          rotate_left
          · intro w hSw; (try dsimp only at hSw); go_simp; try (with_reducible rfl)
          try simp only [sq]
          refine wpAnyH_ready (rs := [1, 2]) (by kernel_rfl) (by simp) ?_
          refine (AllReadyH.cons rfl (fun K hK => ?_) (AllReadyH.cons rfl (fun K hK => ?_) AllReadyH.nil))
          · skip
            try simp only [sq]
            go_simp
            refine hK.out _ _ trivial (fun hHeld => ?_)
            clear hK K
            try simp only [sq]
            refine wpAnyH_ready (rs := [2]) (by kernel_rfl) (by simp) ?_
            refine (AllReadyH.cons rfl (fun K hK => ?_) AllReadyH.nil)
            try simp only [sq]
            go_simp
            go_at_call 68
            refine (S2.out _ hr).mono ?_
            rintro e z1 ⟨⟨t, rfl⟩, hg⟩
            go_wp2_with fail
            exact ⟨rfl, sob_refused HN.out ⟨_, rfl⟩ (bgrown hB hg (by omega))⟩
          · skip
            try simp only [sq]
            go_simp
            go_at_call 68
            refine (S2.out _ hr).mono ?_
            rintro e z1 ⟨⟨t, rfl⟩, hg⟩
            go_wp2_with fail
            exact ⟨rfl, sob_refused HN.out ⟨_, rfl⟩ (bgrown hB hg (by omega))⟩
        have S2 := hid (fun (W : World) (hb : RdAt W (w.heap.size + 1) s mid) => step_ok W _ s _ dy fin HSM.out hb h2 hdy)
        have hu2 := unf_in dy hdy
        have HRS := hid (rdl_step hlt HR.out h1 h2 (by omega))
        clear HR h1 h2
        rw [← HUX.out] at HRS
        obtain ⟨uy, huy⟩ : ∃ u, u = unf dy := ⟨_, rfl⟩
        rw [← huy] at S2 hu2 HRS
        clear HUX huy
        have hw2 : IntKind.i64.wrap (y + uy) = y + uy := IntWalk.i64_in _ ⟨by omega, by omega⟩
        go_wp2_with fail
        go_cut [29, 9] (fun t29 t9 wx => t29 = .int .i64 j ∧ t9 = .int .i64 j ∧ Hid (RdAt wx (w.heap.size + 1) s fin) ∧ Hid (wx.heap[BL + 1]? = some (.cells #[.int .i64 (x + ux), .int .i64 (y + uy)] 44 (0, 0))) ∧ Hid (wx.heap[w.heap.size]? = some (.cells #[.int .i64 0, .slice none 0 0] 26 (0, 0))) ∧ Hid (BL < wx.heap.size ∧ PtsAt wx BL 0 l ∧ wx.there BL 0 (n * 2)) ∧ Hid (Below w.heap.size w wx))
        case first =>
          refine wp_region_held_drew (S := (fun _ => True)) (by kernel_rfl) ?_ (fun hHeld => ?_)
          · trivial
          have hr := HRD.out
          have gA := GA.out
          have g4 := G4.out
          have hB := HBW.out
          replace hr : RdAt wc.drew (w.heap.size + 1) s mid := hr
          replace gA : wc.drew.heap[BL + 1]? = some (.cells #[.int .i64 (x + ux), .int .i64 y] 44 (0, 0)) := gA
          replace g4 : wc.drew.heap[w.heap.size]? = some (.cells #[.int .i64 0, .slice none 0 0] 26 (0, 0)) := g4
          replace HL : Hid (BL < wc.drew.heap.size ∧ PtsAt wc.drew BL 0 l ∧ wc.drew.there BL 0 (n * 2)) := HL
          replace hB := bdrew hB
          clear HRD GA G4 HBW
          generalize wc.drew = z0 at *
          obtain ⟨c0, c1, f0, f1⟩ := cell2g gA
          refine wpAnyH_take (i := 0) (v := ?_) rfl (by kernel_rfl) (by kernel_rfl) (by kernel_rfl) (fun _ _ _ h => h) (Or.inl ⟨by rfl, ?_⟩) hHeld ?_
          rotate_left
          · intro w hSw; (try dsimp only at hSw); go_simp; try (with_reducible rfl)
          try simp only [sq]
          refine wpAnyH_ready (rs := [1, 2]) (by kernel_rfl) (by simp) ?_
          refine (AllReadyH.cons rfl (fun K hK => ?_) (AllReadyH.cons rfl (fun K hK => ?_) AllReadyH.nil))
          · skip
            try simp only [sq]
            go_simp
            refine hK.out _ _ trivial (fun hHeld => ?_)
            clear hK K
            try simp only [sq]
            refine wpAnyH_ready (rs := [2]) (by kernel_rfl) (by simp) ?_
            refine (AllReadyH.cons rfl (fun K hK => ?_) AllReadyH.nil)
            try simp only [sq]
            go_simp
            go_at_call 68
            refine (S2.out _ hr).mono ?_
            rintro e z1 ⟨rfl, hr', hg⟩
            replace hr := hr'
            replace gA := (hg.block _ (lt_of_block gA) (by simp <;> omega)).trans gA
            replace g4 := (hg.block _ (lt_of_block g4) (by simp <;> omega)).trans g4
            replace HL := hid (own_grown HL.out hg (by simp <;> omega))
            replace hB := bgrown hB hg (by omega)
            clear hg hr' c0 c1 f0 f1
            obtain ⟨c0, c1, f0, f1⟩ := cell2g gA
            go_wp2_with fail
            refine hK.out _ _ trivial (fun hHeld => ?_)
            clear hK K
            try simp only [sq]
            refine wpAnyH_take (i := 3) (v := ?_) rfl (by kernel_rfl) (by kernel_rfl) (by kernel_rfl) (fun _ _ _ h => h) (Or.inl ⟨by rfl, ?_⟩) hHeld ?_
            rotate_left
            · intro w hSw; (try dsimp only at hSw); go_simp; try (with_reducible rfl)
            try simp only [sq]
            refine wpAnyH_take (i := 4) (v := ?_) rfl (by kernel_rfl) (by kernel_rfl) (by kernel_rfl) (fun _ _ _ h => h) (Or.inl ⟨by rfl, ?_⟩) hHeld ?_
            rotate_left
            · intro w hSw; (try dsimp only at hSw); go_simp; try (with_reducible rfl)
            try simp only [sq]
            refine wpAnyH_ready (rs := [5]) (by kernel_rfl) (by simp) ?_
            refine (AllReadyH.cons rfl (fun K hK => ?_) AllReadyH.nil)
            try simp only [sq]
            go_simp
            refine hK.out _ _ trivial (fun hHeld => ?_)
            clear hK K
            try simp only [sq]
            refine wpAnyH_done (by kernel_rfl) ?_ _
            go_wp2_with fail
            go_meet
            exact ⟨rfl, rfl, hid (set_far hr (by omega)), hid (set2_1 gA), hid (set_far g4 (by omega)), hid (own_set HL.out (by omega)), hid (bset hB (by omega) _)⟩
          · skip
            try simp only [sq]
            go_simp
            go_at_call 68
            refine (S2.out _ hr).mono ?_
            rintro e z1 ⟨rfl, hr', hg⟩
            replace hr := hr'
            replace gA := (hg.block _ (lt_of_block gA) (by simp <;> omega)).trans gA
            replace g4 := (hg.block _ (lt_of_block g4) (by simp <;> omega)).trans g4
            replace HL := hid (own_grown HL.out hg (by simp <;> omega))
            replace hB := bgrown hB hg (by omega)
            clear hg hr' c0 c1 f0 f1
            obtain ⟨c0, c1, f0, f1⟩ := cell2g gA
            go_wp2_with fail
            refine hK.out _ _ trivial (fun hHeld => ?_)
            clear hK K
            try simp only [sq]
            refine wpAnyH_ready (rs := [1]) (by kernel_rfl) (by simp) ?_
            refine (AllReadyH.cons rfl (fun K hK => ?_) AllReadyH.nil)
            try simp only [sq]
            go_simp
            refine hK.out _ _ trivial (fun hHeld => ?_)
            clear hK K
            try simp only [sq]
            refine wpAnyH_take (i := 3) (v := ?_) rfl (by kernel_rfl) (by kernel_rfl) (by kernel_rfl) (fun _ _ _ h => h) (Or.inl ⟨by rfl, ?_⟩) hHeld ?_
            rotate_left
            · intro w hSw; (try dsimp only at hSw); go_simp; try (with_reducible rfl)
            try simp only [sq]
            refine wpAnyH_take (i := 4) (v := ?_) rfl (by kernel_rfl) (by kernel_rfl) (by kernel_rfl) (fun _ _ _ h => h) (Or.inl ⟨by rfl, ?_⟩) hHeld ?_
            rotate_left
            · intro w hSw; (try dsimp only at hSw); go_simp; try (with_reducible rfl)
            try simp only [sq]
            refine wpAnyH_ready (rs := [5]) (by kernel_rfl) (by simp) ?_
            refine (AllReadyH.cons rfl (fun K hK => ?_) AllReadyH.nil)
            try simp only [sq]
            go_simp
            refine hK.out _ _ trivial (fun hHeld => ?_)
            clear hK K
            try simp only [sq]
            refine wpAnyH_done (by kernel_rfl) ?_ _
            go_wp2_with fail
            go_meet
            exact ⟨rfl, rfl, hid (set_far hr (by omega)), hid (set2_1 gA), hid (set_far g4 (by omega)), hid (own_set HL.out (by omega)), hid (bset hB (by omega) _)⟩
        case rest =>
          obtain ⟨rfl, rfl, HRD, GA, G4, HL, HBW⟩ := hcut
          clear S2 HSM HO
          obtain ⟨c0, c1', f0, f1⟩ := cell2g GA.out
          obtain ⟨k0, k0'⟩ := HL.out.2.2 (j * 2) (by omega)
          obtain ⟨k1, k1'⟩ := HL.out.2.2 (j * 2 + 1) (by omega)
          obtain ⟨v0, hv0⟩ := Option.isSome_iff_exists.1 k0
          obtain ⟨v1, hv1⟩ := Option.isSome_iff_exists.1 k1
          simp only [Nat.zero_add, ← Nat.add_assoc] at hv0 hv1 k0' k1'
          clear k0 k1
          go_wp2_with fail
          go_roundw
          case rel =>
            have hln := HLn.out
            have hput := put_next (w := wc) (b := BL) (n := n) (l := l) HL.out (by omega) (x + ux) (y + uy)
            rw [hln] at hput
            refine ⟨j + 1, fin, x + ux, y + uy, l ++ [(x + ux, y + uy)], by go_num, by omega, by omega, by omega, hid (by simp <;> omega), HRS, hid (set_far (set_far HRD.out (by omega)) (by omega)), hid (set_far (set_far GA.out (by omega)) (by omega)), hid (set_far (set_far G4.out (by omega)) (by omega)), hid hput, hid (bset (bset HBW.out (by omega) _) (by omega) _)⟩
          case measure => simp [intOf]; omega
    · obtain rfl : n = j := by omega
      have HRR := hid (show rdl s 2000000000 n p 0 0 = some (l, (q : Int)) by rw [HR.out]; simp [rdl])
      clear HR
      have hlen := HLn.out
      have hw8 : IntKind.i64.wrap (kd : Int) = kd := IntWalk.i64_in _ ⟨by omega, by omega⟩
      cases hk : shok (kd : Int) l
      · have HN := hid (show gso s 2000000000 i = none by rw [HO.out]; unfold gsh; rw [HRR.out]; simp [hk])
        have HA := hid (fun (W : World) (hw : Pts W (some ⟨BL, 0, none⟩) l) => right_no W kd (some ⟨BL, 0, none⟩) l.length l (by omega) (Nat.le_refl _) hw hk)
        rw [hlen] at HA
        clear hk HO HRR hlen
        go_wp2_with fail
        refine wp_region_held_drew (S := (fun _ => True)) (by kernel_rfl) ?_ (fun hHeld => ?_)
        · trivial
        have hr := HRD.out
        have g4 := G4.out
        have hB := HBW.out
        replace hr : RdAt wr.drew (w.heap.size + 1) s q := hr
        replace g4 : wr.drew.heap[w.heap.size]? = some (.cells #[.int .i64 0, .slice none 0 0] 26 (0, 0)) := g4
        replace HL : Hid (BL < wr.drew.heap.size ∧ PtsAt wr.drew BL 0 l ∧ wr.drew.there BL 0 (n * 2)) := HL
        replace hB := bdrew hB
        clear HRD GA G4 HBW
        generalize wr.drew = z0 at *
        have hown : PtsOwn z0 BL l := ⟨HL.out.1, HL.out.2.1, by rw [HLn.out]; exact HL.out.2.2⟩
        have hpt := hown.pts
        clear HL
        obtain ⟨r0, r1, _, _⟩ := cell2g hr
        obtain ⟨y0, y1, y2, y3⟩ := cell2g g4
        refine wpAnyH_take (i := 0) (v := ?_) rfl (by kernel_rfl) (by kernel_rfl) (by kernel_rfl) (fun _ _ _ h => h) (Or.inl ⟨by rfl, ?_⟩) hHeld ?_
        rotate_left
        · intro w hSw; (try dsimp only at hSw); go_simp; try (with_reducible rfl)
        try simp only [sq]
        refine wpAnyH_take (i := 1) (v := ?_) rfl (by kernel_rfl) (by kernel_rfl) (by kernel_rfl) (fun _ _ _ h => h) (Or.inl ⟨by rfl, ?_⟩) hHeld ?_
        rotate_left
        · intro w hSw; (try dsimp only at hSw); go_simp; try (with_reducible rfl)
        try simp only [sq]
        refine wpAnyH_take (i := 2) (v := ?_) rfl (by kernel_rfl) (by kernel_rfl) (by kernel_rfl) (fun _ _ _ h => h) (Or.inl ⟨by rfl, ?_⟩) hHeld ?_
        rotate_left
        · intro w hSw; (try dsimp only at hSw); go_simp; try (with_reducible rfl)
        try simp only [sq]
        refine wpAnyH_take (i := 3) (v := ?_) rfl (by kernel_rfl) (by kernel_rfl) (by kernel_rfl) (fun _ _ _ h => h) (Or.inl ⟨by rfl, ?_⟩) hHeld ?_
        rotate_left
        · intro w hSw; (try dsimp only at hSw); go_simp; try (with_reducible rfl)
        try simp only [sq]
        refine wpAnyH_take (i := 4) (v := ?_) rfl (by kernel_rfl) (by kernel_rfl) (by kernel_rfl) (fun _ _ _ h => h) (Or.inl ⟨by rfl, ?_⟩) hHeld ?_
        rotate_left
        · intro w hSw; (try dsimp only at hSw); go_simp; try (with_reducible rfl)
        try simp only [sq]
        refine wpAnyH_take (i := 6) (v := ?_) rfl (by kernel_rfl) (by kernel_rfl) (by kernel_rfl) (fun _ _ _ h => h) (Or.inl ⟨by rfl, ?_⟩) hHeld ?_
        rotate_left
        · intro w hSw; (try dsimp only at hSw); go_simp; try (with_reducible rfl)
        try simp only [sq]
        refine wpAnyH_ready (rs := [5, 7]) (by kernel_rfl) (by simp) ?_
        refine (AllReadyH.cons rfl (fun K hK => ?_) (AllReadyH.cons rfl (fun K hK => ?_) AllReadyH.nil))
        · skip
          try simp only [sq]
          go_simp
          go_at_call 66
          refine (HA.out _ hpt).mono ?_
          rintro e z1 ⟨⟨t, rfl⟩, hg⟩
          go_wp2_with fail
          exact ⟨rfl, sob_refused HN.out ⟨_, rfl⟩ (btrans hB hg)⟩
        · skip
          try simp only [sq]
          go_simp
          refine hK.out _ _ trivial (fun hHeld => ?_)
          clear hK K
          try simp only [sq]
          refine wpAnyH_ready (rs := [5]) (by kernel_rfl) (by simp) ?_
          refine (AllReadyH.cons rfl (fun K hK => ?_) AllReadyH.nil)
          try simp only [sq]
          go_simp
          go_at_call 66
          refine (HA.out _ hpt).mono ?_
          rintro e z1 ⟨⟨t, rfl⟩, hg⟩
          go_wp2_with fail
          exact ⟨rfl, sob_refused HN.out ⟨_, rfl⟩ (btrans hB hg)⟩
      · have HN := hid (show gso s 2000000000 i = some ((kd : Int), l, (q : Int)) by rw [HO.out]; unfold gsh; rw [HRR.out]; simp [hk])
        have HA := hid (fun (W : World) (hw : Pts W (some ⟨BL, 0, none⟩) l) => right_ok W kd (some ⟨BL, 0, none⟩) l.length l (by omega) (Nat.le_refl _) hw hk)
        unfold shv at HA
        rw [hlen] at HA
        clear hk HO HRR hlen
        go_wp2_with fail
        refine wp_region_held_drew (S := (fun _ => True)) (by kernel_rfl) ?_ (fun hHeld => ?_)
        · trivial
        have hr := HRD.out
        have g4 := G4.out
        have hB := HBW.out
        replace hr : RdAt wr.drew (w.heap.size + 1) s q := hr
        replace g4 : wr.drew.heap[w.heap.size]? = some (.cells #[.int .i64 0, .slice none 0 0] 26 (0, 0)) := g4
        replace HL : Hid (BL < wr.drew.heap.size ∧ PtsAt wr.drew BL 0 l ∧ wr.drew.there BL 0 (n * 2)) := HL
        replace hB := bdrew hB
        clear HRD GA G4 HBW
        generalize wr.drew = z0 at *
        have hown : PtsOwn z0 BL l := ⟨HL.out.1, HL.out.2.1, by rw [HLn.out]; exact HL.out.2.2⟩
        have hpt := hown.pts
        clear HL
        obtain ⟨r0, r1, _, _⟩ := cell2g hr
        obtain ⟨y0, y1, y2, y3⟩ := cell2g g4
        refine wpAnyH_take (i := 0) (v := ?_) rfl (by kernel_rfl) (by kernel_rfl) (by kernel_rfl) (fun _ _ _ h => h) (Or.inl ⟨by rfl, ?_⟩) hHeld ?_
        rotate_left
        · intro w hSw; (try dsimp only at hSw); go_simp; try (with_reducible rfl)
        try simp only [sq]
        refine wpAnyH_take (i := 1) (v := ?_) rfl (by kernel_rfl) (by kernel_rfl) (by kernel_rfl) (fun _ _ _ h => h) (Or.inl ⟨by rfl, ?_⟩) hHeld ?_
        rotate_left
        · intro w hSw; (try dsimp only at hSw); go_simp; try (with_reducible rfl)
        try simp only [sq]
        refine wpAnyH_take (i := 2) (v := ?_) rfl (by kernel_rfl) (by kernel_rfl) (by kernel_rfl) (fun _ _ _ h => h) (Or.inl ⟨by rfl, ?_⟩) hHeld ?_
        rotate_left
        · intro w hSw; (try dsimp only at hSw); go_simp; try (with_reducible rfl)
        try simp only [sq]
        refine wpAnyH_take (i := 3) (v := ?_) rfl (by kernel_rfl) (by kernel_rfl) (by kernel_rfl) (fun _ _ _ h => h) (Or.inl ⟨by rfl, ?_⟩) hHeld ?_
        rotate_left
        · intro w hSw; (try dsimp only at hSw); go_simp; try (with_reducible rfl)
        try simp only [sq]
        refine wpAnyH_take (i := 4) (v := ?_) rfl (by kernel_rfl) (by kernel_rfl) (by kernel_rfl) (fun _ _ _ h => h) (Or.inl ⟨by rfl, ?_⟩) hHeld ?_
        rotate_left
        · intro w hSw; (try dsimp only at hSw); go_simp; try (with_reducible rfl)
        try simp only [sq]
        refine wpAnyH_take (i := 6) (v := ?_) rfl (by kernel_rfl) (by kernel_rfl) (by kernel_rfl) (fun _ _ _ h => h) (Or.inl ⟨by rfl, ?_⟩) hHeld ?_
        rotate_left
        · intro w hSw; (try dsimp only at hSw); go_simp; try (with_reducible rfl)
        try simp only [sq]
        refine wpAnyH_ready (rs := [5, 7]) (by kernel_rfl) (by simp) ?_
        refine (AllReadyH.cons rfl (fun K hK => ?_) (AllReadyH.cons rfl (fun K hK => ?_) AllReadyH.nil))
        · skip
          try simp only [sq]
          go_simp
          go_at_call 66
          refine (HA.out _ hpt).mono ?_
          rintro e z1 ⟨rfl, hg⟩
          replace hr := keepheap hg hr
          replace g4 := keepheap hg g4
          replace hown := hown.below hg
          replace hB := btrans hB hg
          clear hg r0 r1 y0 y1 y2 y3 hpt
          obtain ⟨r0, r1, _, _⟩ := cell2g hr
          obtain ⟨y0, y1, y2, y3⟩ := cell2g g4
          go_wp2_with fail
          refine hK.out _ _ trivial (fun hHeld => ?_)
          clear hK K
          try simp only [sq]
          refine wpAnyH_ready (rs := [7, 8]) (by kernel_rfl) (by simp) ?_
          refine (AllReadyH.cons rfl (fun K hK => ?_) (AllReadyH.cons rfl (fun K hK => ?_) AllReadyH.nil))
          · skip
            try simp only [sq]
            go_simp
            refine hK.out _ _ trivial (fun hHeld => ?_)
            clear hK K
            try simp only [sq]
            refine wpAnyH_ready (rs := [8]) (by kernel_rfl) (by simp) ?_
            refine (AllReadyH.cons rfl (fun K hK => ?_) AllReadyH.nil)
            try simp only [sq]
            go_simp
            refine hK.out _ _ trivial (fun hHeld => ?_)
            clear hK K
            try simp only [sq]
            replace g4 := (set2 g4 (.int .i64 kd) (.slice (some ⟨BL, 0, none⟩) n n)).1
            replace hr := set_far (q := w.heap.size) (k := 1) (u := .slice (some ⟨BL, 0, none⟩) n n) (set_far (q := w.heap.size) (k := 0) (u := .int .i64 kd) hr (by omega)) (by omega)
            replace hown := own_set2 (k := 0) (k' := 1) (u := .int .i64 kd) (u' := .slice (some ⟨BL, 0, none⟩) n n) hown (q := w.heap.size) (by omega)
            replace hB := bset (bset hB (q := w.heap.size) (k := 0) (by omega) (.int .i64 kd)) (q := w.heap.size) (k := 1) (by omega) (.slice (some ⟨BL, 0, none⟩) n n)
            generalize (z1.setCell ⟨w.heap.size, 0, none⟩ (.int .i64 kd)).setCell ⟨w.heap.size, 1, none⟩ (.slice (some ⟨BL, 0, none⟩) n n) = z2 at *
            clear r0 r1 y0 y1 y2 y3
            obtain ⟨r0, r1, _, _⟩ := cell2g hr
            obtain ⟨y0, y1, y2, y3⟩ := cell2g g4
            refine wpAnyH_take (i := 9) (v := ?_) rfl (by kernel_rfl) (by kernel_rfl) (by kernel_rfl) (fun _ _ _ h => h) (Or.inl ⟨by rfl, ?_⟩) hHeld ?_
            rotate_left
            · intro w hSw; (try dsimp only at hSw); go_simp; try (with_reducible rfl)
            try simp only [sq]
            refine wpAnyH_done (by kernel_rfl) ?_ _
            go_wp2_with fail
            exact bodyPost_ret (v := .tuple #[.agg #[(.int .i64 kd), (.slice (some ⟨BL, 0, none⟩) n n)], .int .i64 q]) (by simp [results, Tryz.results41, go_sem, y0, y1]) rfl (sob_yes HN.out HLn.out hB (by omega) hown)
          · skip
            try simp only [sq]
            go_simp
            refine hK.out _ _ trivial (fun hHeld => ?_)
            clear hK K
            try simp only [sq]
            replace g4 := (set2 g4 (.int .i64 kd) (.slice (some ⟨BL, 0, none⟩) n n)).1
            replace hr := set_far (q := w.heap.size) (k := 1) (u := .slice (some ⟨BL, 0, none⟩) n n) (set_far (q := w.heap.size) (k := 0) (u := .int .i64 kd) hr (by omega)) (by omega)
            replace hown := own_set2 (k := 0) (k' := 1) (u := .int .i64 kd) (u' := .slice (some ⟨BL, 0, none⟩) n n) hown (q := w.heap.size) (by omega)
            replace hB := bset (bset hB (q := w.heap.size) (k := 0) (by omega) (.int .i64 kd)) (q := w.heap.size) (k := 1) (by omega) (.slice (some ⟨BL, 0, none⟩) n n)
            generalize (z1.setCell ⟨w.heap.size, 0, none⟩ (.int .i64 kd)).setCell ⟨w.heap.size, 1, none⟩ (.slice (some ⟨BL, 0, none⟩) n n) = z2 at *
            clear r0 r1 y0 y1 y2 y3
            obtain ⟨r0, r1, _, _⟩ := cell2g hr
            obtain ⟨y0, y1, y2, y3⟩ := cell2g g4
            refine wpAnyH_ready (rs := [7]) (by kernel_rfl) (by simp) ?_
            refine (AllReadyH.cons rfl (fun K hK => ?_) AllReadyH.nil)
            try simp only [sq]
            go_simp
            refine hK.out _ _ trivial (fun hHeld => ?_)
            clear hK K
            try simp only [sq]
            refine wpAnyH_take (i := 9) (v := ?_) rfl (by kernel_rfl) (by kernel_rfl) (by kernel_rfl) (fun _ _ _ h => h) (Or.inl ⟨by rfl, ?_⟩) hHeld ?_
            rotate_left
            · intro w hSw; (try dsimp only at hSw); go_simp; try (with_reducible rfl)
            try simp only [sq]
            refine wpAnyH_done (by kernel_rfl) ?_ _
            go_wp2_with fail
            exact bodyPost_ret (v := .tuple #[.agg #[(.int .i64 kd), (.slice (some ⟨BL, 0, none⟩) n n)], .int .i64 q]) (by simp [results, Tryz.results41, go_sem, y0, y1]) rfl (sob_yes HN.out HLn.out hB (by omega) hown)
        · skip
          try simp only [sq]
          go_simp
          refine hK.out _ _ trivial (fun hHeld => ?_)
          clear hK K
          try simp only [sq]
          refine wpAnyH_ready (rs := [5]) (by kernel_rfl) (by simp) ?_
          refine (AllReadyH.cons rfl (fun K hK => ?_) AllReadyH.nil)
          try simp only [sq]
          go_simp
          go_at_call 66
          refine (HA.out _ hpt).mono ?_
          rintro e z1 ⟨rfl, hg⟩
          replace hr := keepheap hg hr
          replace g4 := keepheap hg g4
          replace hown := hown.below hg
          replace hB := btrans hB hg
          clear hg r0 r1 y0 y1 y2 y3 hpt
          obtain ⟨r0, r1, _, _⟩ := cell2g hr
          obtain ⟨y0, y1, y2, y3⟩ := cell2g g4
          go_wp2_with fail
          refine hK.out _ _ trivial (fun hHeld => ?_)
          clear hK K
          try simp only [sq]
          refine wpAnyH_ready (rs := [8]) (by kernel_rfl) (by simp) ?_
          refine (AllReadyH.cons rfl (fun K hK => ?_) AllReadyH.nil)
          try simp only [sq]
          go_simp
          refine hK.out _ _ trivial (fun hHeld => ?_)
          clear hK K
          try simp only [sq]
          replace g4 := (set2 g4 (.int .i64 kd) (.slice (some ⟨BL, 0, none⟩) n n)).1
          replace hr := set_far (q := w.heap.size) (k := 1) (u := .slice (some ⟨BL, 0, none⟩) n n) (set_far (q := w.heap.size) (k := 0) (u := .int .i64 kd) hr (by omega)) (by omega)
          replace hown := own_set2 (k := 0) (k' := 1) (u := .int .i64 kd) (u' := .slice (some ⟨BL, 0, none⟩) n n) hown (q := w.heap.size) (by omega)
          replace hB := bset (bset hB (q := w.heap.size) (k := 0) (by omega) (.int .i64 kd)) (q := w.heap.size) (k := 1) (by omega) (.slice (some ⟨BL, 0, none⟩) n n)
          generalize (z1.setCell ⟨w.heap.size, 0, none⟩ (.int .i64 kd)).setCell ⟨w.heap.size, 1, none⟩ (.slice (some ⟨BL, 0, none⟩) n n) = z2 at *
          clear r0 r1 y0 y1 y2 y3
          obtain ⟨r0, r1, _, _⟩ := cell2g hr
          obtain ⟨y0, y1, y2, y3⟩ := cell2g g4
          refine wpAnyH_take (i := 9) (v := ?_) rfl (by kernel_rfl) (by kernel_rfl) (by kernel_rfl) (fun _ _ _ h => h) (Or.inl ⟨by rfl, ?_⟩) hHeld ?_
          rotate_left
          · intro w hSw; (try dsimp only at hSw); go_simp; try (with_reducible rfl)
          try simp only [sq]
          refine wpAnyH_done (by kernel_rfl) ?_ _
          go_wp2_with fail
          exact bodyPost_ret (v := .tuple #[.agg #[(.int .i64 kd), (.slice (some ⟨BL, 0, none⟩) n n)], .int .i64 q]) (by simp [results, Tryz.results41, go_sem, y0, y1]) rfl (sob_yes HN.out HLn.out hB (by omega) hown)
end Go.Proofs.YtjafahhoihlliaaGreatDoor
