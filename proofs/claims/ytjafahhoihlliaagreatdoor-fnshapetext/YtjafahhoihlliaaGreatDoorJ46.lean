/- Texts of stores, joined: RsF. -/
import Derived.Test.YtjafahhoihlliaaGreatDoorJ45
namespace Go.Proofs.YtjafahhoihlliaaGreatDoor
open Go.RowKit
set_option linter.unusedVariables false
theorem cell1r {w : World} {p : Nat} {a : Value} {t : TypeId} (h : w.heap[p]? = some (.cells #[a] t (0, 0))) : w.cell? ⟨p, 0, none⟩ = some a ∧ w.frozen? ⟨p, 0, none⟩ = false := by
  simp only [World.cell?, World.frozen?, h]
  exact ⟨rfl, by simp⟩
/-- The closure's blocks, and all below them as it was. -/
def RB (w0 w : World) (s : ByteArray) (k : Int) (v : Value) : Prop :=
  w.heap[w0.heap.size]? = some (.cells #[.string s] 9 (0, 0)) ∧ w.heap[w0.heap.size + 1]? = some (.cells #[.int .i64 0, .slice none 0 0] 26 (0, 0)) ∧ w.heap[w0.heap.size + 2]? = some (.cells #[.int .i64 k, v] 26 (0, 0)) ∧ Below w0.heap.size w0 w
theorem RB.below {w0 w w' : World} {s : ByteArray} {k : Int} {v : Value} (h : RB w0 w s k v) (hb : Below w.heap.size w w') : RB w0 w' s k v := by
  obtain ⟨h0, h1, h2, h3⟩ := h
  exact ⟨keepheap hb h0, keepheap hb h1, keepheap hb h2, btrans h3 hb⟩
set_option maxHeartbeats 1000000 in
theorem rd1_no (s : ByteArray) (hs : s.size ≤ 1048576) (w0 w : World) (hLb : LibsR w0) (hKw : KWr w0) (h : RB w0 w s 0 (.slice none 0 0)) (hn : rso (rest s s.size 0 0) = none) : Calls Tryz.prog 38 #[.pointer (some ⟨w0.heap.size, 0, none⟩), .pointer (some ⟨w0.heap.size + 2, 0, none⟩)] w fun e w' => Refused e ∧ RB w0 w' s 0 (.slice none 0 0) := by
  have HS := hid (sot_all s hs w (hLb.below h.2.2.2) (hKw.below h.2.2.2))
  have HH := hid h
  obtain ⟨h0, h1, h2, h3⟩ := h
  obtain ⟨c0, _⟩ := cell1r h0
  have HN := hid hn
  clear h0 h1 h2 h3 hn hLb hKw
  go_enter Tryz.func38, Tryz.ntmps38
  go_wp2_with fail
  refine HS.out.mono ?_
  rintro e w1 ⟨hb, ⟨_, t, rfl⟩ | ⟨k, l, b, ho, _⟩⟩
  · go_wp2_with fail
    exact ⟨rfl, ⟨_, rfl⟩, HH.out.below hb⟩
  · rw [HN.out] at ho; cases ho
set_option maxHeartbeats 1000000 in
theorem rd1_yes (s : ByteArray) (hs : s.size ≤ 1048576) (w0 w : World) (hLb : LibsR w0) (hKw : KWr w0) (h : RB w0 w s 0 (.slice none 0 0)) (k : Int) (l : List (Int × Int)) (hn : rso (rest s s.size 0 0) = some (k, l)) : Calls Tryz.prog 38 #[.pointer (some ⟨w0.heap.size, 0, none⟩), .pointer (some ⟨w0.heap.size + 2, 0, none⟩)] w fun e w' => e = .returned (.tuple #[]) ∧ ∃ b, RB w0 w' s k (.slice (some ⟨b, 0, none⟩) l.length l.length) ∧ w0.heap.size + 2 < b ∧ PtsOwn w' b l := by
  have HS := hid (sot_all s hs w (hLb.below h.2.2.2) (hKw.below h.2.2.2))
  have HH := hid h
  obtain ⟨h0, h1, h2, h3⟩ := h
  have hlt := lt_of_block h2
  obtain ⟨c0, _⟩ := cell1r h0
  have HN := hid hn
  clear h0 h1 h2 h3 hn hLb hKw
  go_enter Tryz.func38, Tryz.ntmps38
  go_wp2_with fail
  refine HS.out.mono ?_
  rintro e w1 ⟨hb, ⟨ho, _⟩ | ⟨k', l', b, ho, rfl, hbb, hown⟩⟩
  · rw [HN.out] at ho; cases ho
  · rw [HN.out] at ho
    simp only [Option.some.injEq, Prod.mk.injEq] at ho
    obtain ⟨rfl, rfl⟩ := ho
    obtain ⟨h0, h1, h2, h3⟩ := HH.out.below hb
    obtain ⟨x0, x1, x2, x3⟩ := cell2g h2
    have z2 := (set2 h2 (.int .i64 k) (.slice (some ⟨b, 0, none⟩) l.length l.length)).1
    have z0 := set_far (q := w0.heap.size + 2) (k := 1) (u := .slice (some ⟨b, 0, none⟩) l.length l.length) (set_far (q := w0.heap.size + 2) (k := 0) (u := .int .i64 k) h0 (by omega)) (by omega)
    have z1 := set_far (q := w0.heap.size + 2) (k := 1) (u := .slice (some ⟨b, 0, none⟩) l.length l.length) (set_far (q := w0.heap.size + 2) (k := 0) (u := .int .i64 k) h1 (by omega)) (by omega)
    have z5 := bset (bset h3 (q := w0.heap.size + 2) (k := 0) (by omega) (.int .i64 k)) (q := w0.heap.size + 2) (k := 1) (by omega) (.slice (some ⟨b, 0, none⟩) l.length l.length)
    have zo := own_setr2 (k := 0) (k' := 1) (u := .int .i64 k) (u' := .slice (some ⟨b, 0, none⟩) l.length l.length) hown (q := w0.heap.size + 2) (by omega)
    have HZ := hid (show RB w0 _ s k (.slice (some ⟨b, 0, none⟩) l.length l.length) ∧ w0.heap.size + 2 < b ∧ PtsOwn ((w1.setCell ⟨w0.heap.size + 2, 0, none⟩ (.int .i64 k)).setCell ⟨w0.heap.size + 2, 1, none⟩ (.slice (some ⟨b, 0, none⟩) l.length l.length)) b l from ⟨⟨z0, z1, z2, z5⟩, by omega, zo⟩)
    clear z0 z1 z2 z5 zo hown HH HN HS
    go_wp2_with fail
    go_end0
    exact ⟨rfl, b, HZ.out⟩
set_option maxRecDepth 100000 in
set_option maxHeartbeats 2000000 in
theorem impl_ReadShape (s : ByteArray) (hs : s.size ≤ 1048576) (w : World) (hLb : LibsR w) (hKw : KWr w) (hg : w.cell? ⟨1, 0, none⟩ = some (.iface 133 (.agg #[.pointer (some ⟨10, 51, none⟩)]))) : Calls Tryz.prog 12 #[.string s] w fun e w' => RSA w (rso (rest s s.size 0 0)) e w' := by
  have hmf : ∀ (fn : Fn) (first cap : Array Value) (w : World), (Instr.makeFunc fn first cap).run Tryz.prog w = .ok (.func fn first cap) w := fun _ _ _ _ => rfl
  cases hn : rso (rest s s.size 0 0) with
  | none =>
    have HW := hid (fun (W : World) (h : RB w W s 0 (.slice none 0 0)) => whole_no_r _ W _ (rd1_no s hs w W hLb hKw h hn) (fun w' h' => keepcell h'.2.2.2 hg))
    clear hn hLb hKw hg
    go_enter Tryz.func12, Tryz.ntmps12
    go_wp2_with fail
    have hG : RB w (((w.alloc (.cells #[.string s] 9)).alloc (.cells #[.int .i64 0, .slice none 0 0] 26)).alloc (.cells #[.int .i64 0, .slice none 0 0] 26)) s 0 (.slice none 0 0) :=
      ⟨old_alloc (old_alloc (new_alloc _ _ _ rfl)), old_alloc (new_alloc _ _ _ (by simp)), new_alloc _ _ _ (by simp), balloc (balloc (balloc (Below.refl _ _) _) _) _⟩
    generalize (((w.alloc (.cells #[.string s] 9)).alloc (.cells #[.int .i64 0, .slice none 0 0] 26)).alloc (.cells #[.int .i64 0, .slice none 0 0] 26)) = W at *
    refine (HW.out _ hG).mono ?_
    rintro e w1 ⟨rfl, w2, hZ', hb⟩
    have hZ := hZ'.below hb
    clear hG HW hZ' hb
    obtain ⟨_, h1, h2, h5⟩ := hZ
    replace h2 : w1.heap[w.heap.size + 1 + 1]? = _ := h2
    obtain ⟨x0, x1, _, _⟩ := cell2g h2
    obtain ⟨y0, y1, y2, y3⟩ := cell2g h1
    go_wp2_with fail
    have gF := (set2 h1 (.int .i64 0) (.slice none 0 0)).1
    have bF := bset (bset h5 (q := w.heap.size + 1) (k := 0) (by omega) (.int .i64 0)) (q := w.heap.size + 1) (k := 1) (by omega) (.slice none 0 0)
    generalize (w1.setCell ⟨w.heap.size + 1, 0, none⟩ (.int .i64 0)).setCell ⟨w.heap.size + 1, 1, none⟩ (.slice none 0 0) = wf at *
    obtain ⟨z0, z1, _, _⟩ := cell2g gF
    exact bodyPost_ret (v := .tuple #[.agg #[(.int .i64 0), (.slice none 0 0)], .bool false]) (by simp [results, Tryz.results12, go_sem, z0, z1]) rfl (rsa_no rfl bF)
  | some r =>
    obtain ⟨k, l⟩ := r
    have HW := hid (fun (W : World) (h : RB w W s 0 (.slice none 0 0)) => whole_ok_r _ W _ (rd1_yes s hs w W hLb hKw h k l hn))
    clear hn hLb hKw hg
    go_enter Tryz.func12, Tryz.ntmps12
    go_wp2_with fail
    have hG : RB w (((w.alloc (.cells #[.string s] 9)).alloc (.cells #[.int .i64 0, .slice none 0 0] 26)).alloc (.cells #[.int .i64 0, .slice none 0 0] 26)) s 0 (.slice none 0 0) :=
      ⟨old_alloc (old_alloc (new_alloc _ _ _ rfl)), old_alloc (new_alloc _ _ _ (by simp)), new_alloc _ _ _ (by simp), balloc (balloc (balloc (Below.refl _ _) _) _) _⟩
    generalize (((w.alloc (.cells #[.string s] 9)).alloc (.cells #[.int .i64 0, .slice none 0 0] 26)).alloc (.cells #[.int .i64 0, .slice none 0 0] 26)) = W at *
    refine (HW.out _ hG).mono ?_
    rintro e w1 ⟨rfl, b, hZ, hbb, hown⟩
    clear hG HW
    obtain ⟨_, h1, h2, h5⟩ := hZ
    replace h2 : w1.heap[w.heap.size + 1 + 1]? = _ := h2
    obtain ⟨x0, x1, _, _⟩ := cell2g h2
    obtain ⟨y0, y1, y2, y3⟩ := cell2g h1
    go_wp2_with fail
    have gF := (set2 h1 (.int .i64 k) (.slice (some ⟨b, 0, none⟩) l.length l.length)).1
    have bF := bset (bset h5 (q := w.heap.size + 1) (k := 0) (by omega) (.int .i64 k)) (q := w.heap.size + 1) (k := 1) (by omega) (.slice (some ⟨b, 0, none⟩) l.length l.length)
    have oF := own_setr2 (k := 0) (k' := 1) (u := .int .i64 k) (u' := .slice (some ⟨b, 0, none⟩) l.length l.length) hown (q := w.heap.size + 1) (by omega)
    generalize (w1.setCell ⟨w.heap.size + 1, 0, none⟩ (.int .i64 k)).setCell ⟨w.heap.size + 1, 1, none⟩ (.slice (some ⟨b, 0, none⟩) l.length l.length) = wf at *
    obtain ⟨z0, z1, _, _⟩ := cell2g gF
    exact bodyPost_ret (v := .tuple #[.agg #[(.int .i64 k), (.slice (some ⟨b, 0, none⟩) l.length l.length)], .bool true]) (by simp [results, Tryz.results12, go_sem, z0, z1]) rfl (rsa_own rfl (Nat.le_refl _) bF (by omega) oF)
end Go.Proofs.YtjafahhoihlliaaGreatDoor
