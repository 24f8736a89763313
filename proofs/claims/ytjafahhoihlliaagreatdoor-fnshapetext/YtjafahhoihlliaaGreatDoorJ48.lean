/- Texts of stores, joined: GetI. -/
import Derived.Test.YtjafahhoihlliaaGreatDoorJ47
import Derived.Test.YtjafahhoihlliaaGreatDoorJ15
namespace Go.Proofs.YtjafahhoihlliaaGreatDoor
open Go.RowKit
set_option linter.unusedVariables false
theorem sob_all (s : ByteArray) (i : Int) (hs : s.size ≤ 1048576) (w : World) : Calls Tryz.prog 41 #[.string s, .int .i64 i] w fun e w' => SOB w (gso s 2000000000 i) e w' := by
  by_cases hi : 0 ≤ i ∧ i < (s.size : Int)
  · obtain ⟨k, rfl⟩ := Int.eq_ofNat_of_zero_le hi.1
    have hk : k < s.size := by omega
    cases h : rd s ((k : Int) + 1) with
    | none => exact (sob_no s k hs hk (.inl h) w).mono fun e w' hh => sob_refused (by rw [gso_in s _ k hk, h]) hh.1 hh.2
    | some r =>
      obtain ⟨n, p⟩ := r
      by_cases hn : 60 < n
      · exact (sob_no s k hs hk (.inr ⟨n, p, h, hn⟩) w).mono fun e w' hh => sob_refused (by rw [gso_in s _ k hk, h]; simp only; rw [if_pos hn]) hh.1 hh.2
      · exact sob_ok s k hs hk n p h (by omega) w
  · exact (sob_out s i hs hi w).mono fun e w' hh => sob_refused (by unfold gso; rw [if_neg hi]) hh.1 hh.2
theorem cell1g {w : World} {p : Nat} {a : Value} {t : TypeId} (h : w.heap[p]? = some (.cells #[a] t (0, 0))) : w.cell? ⟨p, 0, none⟩ = some a ∧ w.frozen? ⟨p, 0, none⟩ = false := by
  simp only [World.cell?, World.frozen?, h]
  exact ⟨rfl, by simp⟩
theorem set1g {w : World} {p : Nat} {x u : Value} {t : TypeId} (h : w.heap[p]? = some (.cells #[x] t (0, 0))) : (w.setCell ⟨p, 0, none⟩ u).heap[p]? = some (.cells #[u] t (0, 0)) := by
  have hlt := lt_of_block h
  have h' : w.heap[p] = .cells #[x] t (0, 0) := by simpa [Array.getElem?_eq_getElem hlt] using h
  show (w.heap.modify p _)[p]? = _
  rw [Array.getElem?_eq_getElem (by simpa using hlt), Array.getElem_modify_self, h']
  rfl
/-- The closure's five blocks, and all below them as it was. -/
def GB (w0 w : World) (s : ByteArray) (i : Int) (k q : Int) (v : Value) : Prop :=
  w.heap[w0.heap.size]? = some (.cells #[.string s] 9 (0, 0)) ∧ w.heap[w0.heap.size + 1]? = some (.cells #[.int .i64 i] 3 (0, 0)) ∧ w.heap[w0.heap.size + 2]? = some (.cells #[.int .i64 0, .slice none 0 0] 26 (0, 0)) ∧ w.heap[w0.heap.size + 3]? = some (.cells #[.int .i64 k, v] 26 (0, 0)) ∧ w.heap[w0.heap.size + 4]? = some (.cells #[.int .i64 q] 3 (0, 0)) ∧ Below w0.heap.size w0 w
theorem GB.below {w0 w w' : World} {s : ByteArray} {i k q : Int} {v : Value} (h : GB w0 w s i k q v) (hb : Below w.heap.size w w') : GB w0 w' s i k q v := by
  obtain ⟨h0, h1, h2, h3, h4, h5⟩ := h
  exact ⟨keepheap hb h0, keepheap hb h1, keepheap hb h2, keepheap hb h3, keepheap hb h4, btrans h5 hb⟩
set_option maxHeartbeats 1000000 in
theorem get1_no (s : ByteArray) (i : Int) (hs : s.size ≤ 1048576) (w0 w : World) (h : GB w0 w s i 0 (-1) (.slice none 0 0)) (hn : gso s 2000000000 i = none) : Calls Tryz.prog 40 #[.pointer (some ⟨w0.heap.size, 0, none⟩), .pointer (some ⟨w0.heap.size + 1, 0, none⟩), .pointer (some ⟨w0.heap.size + 3, 0, none⟩), .pointer (some ⟨w0.heap.size + 4, 0, none⟩)] w fun e w' => Refused e ∧ GB w0 w' s i 0 (-1) (.slice none 0 0) := by
  have HS := hid (fun w => sob_all s i hs w)
  have HH := hid h
  obtain ⟨h0, h1, h2, h3, h4, h5⟩ := h
  obtain ⟨c0, _⟩ := cell1g h0
  obtain ⟨c1, _⟩ := cell1g h1
  have HN := hid hn
  clear h0 h1 h2 h3 h4 h5 hn
  go_enter Tryz.func40, Tryz.ntmps40
  go_wp2_with fail
  refine (HS.out _).mono ?_
  rintro e w1 ⟨hb, ⟨_, t, rfl⟩ | ⟨k, l, q, b, ho, _⟩⟩
  · go_wp2_with fail
    exact ⟨rfl, ⟨_, rfl⟩, HH.out.below hb⟩
  · rw [HN.out] at ho; cases ho
set_option maxHeartbeats 1000000 in
theorem get1_yes (s : ByteArray) (i : Int) (hs : s.size ≤ 1048576) (w0 w : World) (h : GB w0 w s i 0 (-1) (.slice none 0 0)) (k q : Int) (l : List (Int × Int)) (hn : gso s 2000000000 i = some (k, l, q)) : Calls Tryz.prog 40 #[.pointer (some ⟨w0.heap.size, 0, none⟩), .pointer (some ⟨w0.heap.size + 1, 0, none⟩), .pointer (some ⟨w0.heap.size + 3, 0, none⟩), .pointer (some ⟨w0.heap.size + 4, 0, none⟩)] w fun e w' => e = .returned (.tuple #[]) ∧ ∃ b, GB w0 w' s i k q (.slice (some ⟨b, 0, none⟩) l.length l.length) ∧ w0.heap.size + 4 < b ∧ PtsOwn w' b l := by
  have HS := hid (fun w => sob_all s i hs w)
  have HH := hid h
  obtain ⟨h0, h1, h2, h3, h4, h5⟩ := h
  have hlt := lt_of_block h4
  obtain ⟨c0, _⟩ := cell1g h0
  obtain ⟨c1, _⟩ := cell1g h1
  have HN := hid hn
  clear h0 h1 h2 h3 h4 h5 hn
  go_enter Tryz.func40, Tryz.ntmps40
  go_wp2_with fail
  refine (HS.out _).mono ?_
  rintro e w1 ⟨hb, ⟨ho, _⟩ | ⟨k', l', q', b, ho, rfl, hbb, hown⟩⟩
  · rw [HN.out] at ho; cases ho
  · rw [HN.out] at ho
    simp only [Option.some.injEq, Prod.mk.injEq] at ho
    obtain ⟨rfl, rfl, rfl⟩ := ho
    obtain ⟨h0, h1, h2, h3, h4, h5⟩ := HH.out.below hb
    obtain ⟨x0, x1, x2, x3⟩ := cell2g h3
    obtain ⟨y0, y1⟩ := cell1g h4
    have z3 := set_far (q := w0.heap.size + 4) (k := 0) (u := .int .i64 q) (set2 h3 (.int .i64 k) (.slice (some ⟨b, 0, none⟩) l.length l.length)).1 (by omega)
    have z4 := set1g (u := .int .i64 q) (set_far (q := w0.heap.size + 3) (k := 1) (u := .slice (some ⟨b, 0, none⟩) l.length l.length) (set_far (q := w0.heap.size + 3) (k := 0) (u := .int .i64 k) h4 (by omega)) (by omega))
    have z0 := set_far (q := w0.heap.size + 4) (k := 0) (u := .int .i64 q) (set_far (q := w0.heap.size + 3) (k := 1) (u := .slice (some ⟨b, 0, none⟩) l.length l.length) (set_far (q := w0.heap.size + 3) (k := 0) (u := .int .i64 k) h0 (by omega)) (by omega)) (by omega)
    have z1 := set_far (q := w0.heap.size + 4) (k := 0) (u := .int .i64 q) (set_far (q := w0.heap.size + 3) (k := 1) (u := .slice (some ⟨b, 0, none⟩) l.length l.length) (set_far (q := w0.heap.size + 3) (k := 0) (u := .int .i64 k) h1 (by omega)) (by omega)) (by omega)
    have z2 := set_far (q := w0.heap.size + 4) (k := 0) (u := .int .i64 q) (set_far (q := w0.heap.size + 3) (k := 1) (u := .slice (some ⟨b, 0, none⟩) l.length l.length) (set_far (q := w0.heap.size + 3) (k := 0) (u := .int .i64 k) h2 (by omega)) (by omega)) (by omega)
    have z5 := bset (bset (bset h5 (q := w0.heap.size + 3) (k := 0) (by omega) (.int .i64 k)) (q := w0.heap.size + 3) (k := 1) (by omega) (.slice (some ⟨b, 0, none⟩) l.length l.length)) (q := w0.heap.size + 4) (k := 0) (by omega) (.int .i64 q)
    have zo : PtsOwn (((w1.setCell ⟨w0.heap.size + 3, 0, none⟩ (.int .i64 k)).setCell ⟨w0.heap.size + 3, 1, none⟩ (.slice (some ⟨b, 0, none⟩) l.length l.length)).setCell ⟨w0.heap.size + 4, 0, none⟩ (.int .i64 q)) b l := own_set (own_set2 hown (by omega)) (by omega)
    have HZ := hid (show GB w0 _ s i k q (.slice (some ⟨b, 0, none⟩) l.length l.length) ∧ w0.heap.size + 4 < b ∧ PtsOwn (((w1.setCell ⟨w0.heap.size + 3, 0, none⟩ (.int .i64 k)).setCell ⟨w0.heap.size + 3, 1, none⟩ (.slice (some ⟨b, 0, none⟩) l.length l.length)).setCell ⟨w0.heap.size + 4, 0, none⟩ (.int .i64 q)) b l from ⟨⟨z0, z1, z2, z3, z4, z5⟩, by omega, zo⟩)
    clear z0 z1 z2 z3 z4 z5 zo hown HH HN HS
    go_wp2_with fail
    go_end0
    exact ⟨rfl, b, HZ.out⟩
theorem gsa_own {w w' : World} {o : Option (Int × List (Int × Int) × Int)} {k q : Int} {l : List (Int × Int)} {b : Nat} (h : o = some (k, l, q)) (hb : Below w.heap.size w w') (hg : w.heap.size ≤ b) (hp : PtsOwn w' b l) : GSA w o (.returned (.tuple #[.agg #[.int .i64 k, .slice (some ⟨b, 0, none⟩) l.length l.length], .int .i64 q])) w' := by
  subst h
  exact ⟨some ⟨b, 0, none⟩, l.length, rfl, Nat.le_refl _, .inr ⟨b, rfl, hp⟩, fun b' off h => by injection h with h; injection h with h1; omega, hb⟩
set_option maxRecDepth 100000 in
set_option maxHeartbeats 2000000 in
theorem impl_GetShape (s : ByteArray) (i : Int) (hs : s.size ≤ 1048576) (w : World) (hg : w.cell? ⟨1, 0, none⟩ = some (.iface 133 (.agg #[.pointer (some ⟨10, 51, none⟩)]))) : Calls Tryz.prog 13 #[.string s, .int .i64 i] w fun e w' => GSA w (gso s 2000000000 i) e w' := by
  have hmf : ∀ (fn : Fn) (first cap : Array Value) (w : World), (Instr.makeFunc fn first cap).run Tryz.prog w = .ok (.func fn first cap) w := fun _ _ _ _ => rfl
  cases hn : gso s 2000000000 i with
  | none =>
    have HW := hid (fun (W : World) (h : GB w W s i 0 (-1) (.slice none 0 0)) => whole_no_g _ W _ (get1_no s i hs w W h hn) (fun w' h' => keepcell (h'.2.2.2.2.2) hg))
    clear hn
    go_enter Tryz.func13, Tryz.ntmps13
    go_wp2_with fail
    have hG : GB w (((((w.alloc (.cells #[.string s] 9)).alloc (.cells #[.int .i64 i] 3)).alloc (.cells #[.int .i64 0, .slice none 0 0] 26)).alloc (.cells #[.int .i64 0, .slice none 0 0] 26)).alloc (.cells #[.int .i64 (-1)] 3)) s i 0 (-1) (.slice none 0 0) :=
      ⟨old_alloc (old_alloc (old_alloc (old_alloc (new_alloc _ _ _ rfl)))), old_alloc (old_alloc (old_alloc (new_alloc _ _ _ (by simp)))), old_alloc (old_alloc (new_alloc _ _ _ (by simp))), old_alloc (new_alloc _ _ _ (by simp)), new_alloc _ _ _ (by simp), balloc (balloc (balloc (balloc (balloc (Below.refl _ _) _) _) _) _) _⟩
    generalize (((((w.alloc (.cells #[.string s] 9)).alloc (.cells #[.int .i64 i] 3)).alloc (.cells #[.int .i64 0, .slice none 0 0] 26)).alloc (.cells #[.int .i64 0, .slice none 0 0] 26)).alloc (.cells #[.int .i64 (-1)] 3)) = W at *
    refine (HW.out _ hG).mono ?_
    rintro e w1 ⟨rfl, w2, hZ', hb⟩
    have hZ := hZ'.below hb
    clear hZ' hb
    clear hG HW
    obtain ⟨_, _, h2, h3, h4, h5⟩ := hZ
    replace h2 : w1.heap[w.heap.size + 1 + 1]? = _ := h2
    replace h3 : w1.heap[w.heap.size + 1 + 1 + 1]? = _ := h3
    replace h4 : w1.heap[w.heap.size + 1 + 1 + 1 + 1]? = _ := h4
    obtain ⟨x0, x1, _, _⟩ := cell2g h3
    obtain ⟨y0, _⟩ := cell1g h4
    obtain ⟨u0', u1', u2', u3'⟩ := cell2g h2
    go_wp2_with fail
    go_region_held3 (fun w' => w'.cell? ⟨w.heap.size + 1 + 1 + 1, 0, none⟩ = some (.int .i64 0) ∧ w'.cell? ⟨w.heap.size + 1 + 1 + 1, 1, none⟩ = some (.slice none 0 0) ∧ w'.cell? ⟨w.heap.size + 1 + 1 + 1 + 1, 0, none⟩ = some (.int .i64 (-1))) ((go_split_ands; (repeat' apply And.intro) <;> (repeat (first | with_reducible assumption | with_reducible refine keepset ?_ (by dsimp only; omega) | with_reducible refine keepdrew ?_ | with_reducible refine keepcell (by with_reducible assumption) ?_ | with_reducible refine keepalloc ?_ _))))
      (first
        | (fail))
    all_goals
      go_wp2_with fail
      have gF := (set2 h2 (.int .i64 0) (.slice none 0 0)).1
      have bF := bset (bset h5 (q := w.heap.size + 1 + 1) (k := 0) (by omega) (.int .i64 0)) (q := w.heap.size + 1 + 1) (k := 1) (by omega) (.slice none 0 0)
      replace gF : ((w1.setCell ⟨w.heap.size + 1 + 1, 0, none⟩ (.int .i64 0)).setCell ⟨w.heap.size + 1 + 1, 1, none⟩ (.slice none 0 0)).drew.heap[w.heap.size + 1 + 1]? = _ := gF
      replace bF := bdrew bF
      generalize ((w1.setCell ⟨w.heap.size + 1 + 1, 0, none⟩ (.int .i64 0)).setCell ⟨w.heap.size + 1 + 1, 1, none⟩ (.slice none 0 0)).drew = wf at *
      obtain ⟨z0, z1, _, _⟩ := cell2g gF
      exact bodyPost_ret (v := .tuple #[.agg #[(.int .i64 0), (.slice none 0 0)], .int .i64 (-1)]) (by simp [results, Tryz.results13, go_sem, z0, z1]) rfl (gsa_no rfl bF)
  | some r =>
    obtain ⟨k, l, q⟩ := r
    have HW := hid (fun (W : World) (h : GB w W s i 0 (-1) (.slice none 0 0)) => whole_ok_g _ W _ (get1_yes s i hs w W h k q l hn))
    clear hn
    go_enter Tryz.func13, Tryz.ntmps13
    go_wp2_with fail
    have hG : GB w (((((w.alloc (.cells #[.string s] 9)).alloc (.cells #[.int .i64 i] 3)).alloc (.cells #[.int .i64 0, .slice none 0 0] 26)).alloc (.cells #[.int .i64 0, .slice none 0 0] 26)).alloc (.cells #[.int .i64 (-1)] 3)) s i 0 (-1) (.slice none 0 0) :=
      ⟨old_alloc (old_alloc (old_alloc (old_alloc (new_alloc _ _ _ rfl)))), old_alloc (old_alloc (old_alloc (new_alloc _ _ _ (by simp)))), old_alloc (old_alloc (new_alloc _ _ _ (by simp))), old_alloc (new_alloc _ _ _ (by simp)), new_alloc _ _ _ (by simp), balloc (balloc (balloc (balloc (balloc (Below.refl _ _) _) _) _) _) _⟩
    generalize (((((w.alloc (.cells #[.string s] 9)).alloc (.cells #[.int .i64 i] 3)).alloc (.cells #[.int .i64 0, .slice none 0 0] 26)).alloc (.cells #[.int .i64 0, .slice none 0 0] 26)).alloc (.cells #[.int .i64 (-1)] 3)) = W at *
    refine (HW.out _ hG).mono ?_
    rintro e w1 ⟨rfl, b, hZ, hbb, hown⟩
    clear hG HW
    obtain ⟨_, _, h2, h3, h4, h5⟩ := hZ
    replace h2 : w1.heap[w.heap.size + 1 + 1]? = _ := h2
    replace h3 : w1.heap[w.heap.size + 1 + 1 + 1]? = _ := h3
    replace h4 : w1.heap[w.heap.size + 1 + 1 + 1 + 1]? = _ := h4
    obtain ⟨x0, x1, _, _⟩ := cell2g h3
    obtain ⟨y0, _⟩ := cell1g h4
    obtain ⟨u0', u1', u2', u3'⟩ := cell2g h2
    go_wp2_with fail
    go_region_held3 (fun w' => w'.cell? ⟨w.heap.size + 1 + 1 + 1, 0, none⟩ = some (.int .i64 k) ∧ w'.cell? ⟨w.heap.size + 1 + 1 + 1, 1, none⟩ = some (.slice (some ⟨b, 0, none⟩) l.length l.length) ∧ w'.cell? ⟨w.heap.size + 1 + 1 + 1 + 1, 0, none⟩ = some (.int .i64 q)) ((go_split_ands; (repeat' apply And.intro) <;> (repeat (first | with_reducible assumption | with_reducible refine keepset ?_ (by dsimp only; omega) | with_reducible refine keepdrew ?_ | with_reducible refine keepcell (by with_reducible assumption) ?_ | with_reducible refine keepalloc ?_ _))))
      (first
        | (fail))
    all_goals
      go_wp2_with fail
      have gF := (set2 h2 (.int .i64 k) (.slice (some ⟨b, 0, none⟩) l.length l.length)).1
      have bF := bset (bset h5 (q := w.heap.size + 1 + 1) (k := 0) (by omega) (.int .i64 k)) (q := w.heap.size + 1 + 1) (k := 1) (by omega) (.slice (some ⟨b, 0, none⟩) l.length l.length)
      have oF := own_set2 (k := 0) (k' := 1) (u := .int .i64 k) (u' := .slice (some ⟨b, 0, none⟩) l.length l.length) hown (q := w.heap.size + 1 + 1) (by omega)
      replace gF : ((w1.setCell ⟨w.heap.size + 1 + 1, 0, none⟩ (.int .i64 k)).setCell ⟨w.heap.size + 1 + 1, 1, none⟩ (.slice (some ⟨b, 0, none⟩) l.length l.length)).drew.heap[w.heap.size + 1 + 1]? = _ := gF
      replace bF := bdrew bF
      replace oF : PtsOwn ((w1.setCell ⟨w.heap.size + 1 + 1, 0, none⟩ (.int .i64 k)).setCell ⟨w.heap.size + 1 + 1, 1, none⟩ (.slice (some ⟨b, 0, none⟩) l.length l.length)).drew b l := oF
      generalize ((w1.setCell ⟨w.heap.size + 1 + 1, 0, none⟩ (.int .i64 k)).setCell ⟨w.heap.size + 1 + 1, 1, none⟩ (.slice (some ⟨b, 0, none⟩) l.length l.length)).drew = wf at *
      obtain ⟨z0, z1, _, _⟩ := cell2g gF
      exact bodyPost_ret (v := .tuple #[.agg #[(.int .i64 k), (.slice (some ⟨b, 0, none⟩) l.length l.length)], .int .i64 q]) (by simp [results, Tryz.results13, go_sem, z0, z1]) rfl (gsa_own rfl bF (by omega) oF)
end Go.Proofs.YtjafahhoihlliaaGreatDoor
