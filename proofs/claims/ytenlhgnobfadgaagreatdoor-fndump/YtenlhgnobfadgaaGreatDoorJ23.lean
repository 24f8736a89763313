/- Texts of stores, joined: RsS, RsF, Lo1. -/
import Derived.Deep.RegionHeld3
import Derived.Test.YtenlhgnobfadgaaGreatDoorRsI
import Derived.Test.YtenlhgnobfadgaaGreatDoorJ10
import Derived.Lib.CutLaws
set_option maxRecDepth 100000
set_option maxHeartbeats 2000000
set_option linter.unusedSimpArgs false
set_option linter.unusedVariables false
namespace Go.Proofs.YtenlhgnobfadgaaGreatDoor
open Go.RowKit
theorem set2_0s {w : World} {p : Nat} {x y u : Value} {t : TypeId} (h : w.heap[p]? = some (.cells #[x, y] t (0, 0))) : (w.setCell ⟨p, 0, none⟩ u).heap[p]? = some (.cells #[u, y] t (0, 0)) := by
 have hlt := lt_of_block h
 have h' : w.heap[p] = .cells #[x, y] t (0, 0) := by simpa [Array.getElem?_eq_getElem hlt] using h
 show (w.heap.modify p _)[p]? = _
 rw [Array.getElem?_eq_getElem (by simpa using hlt), Array.getElem_modify_self, h']
 rfl
def kdi (x : ByteArray) (i : Nat) : Int := match kdr x with | none => -1 | some m => if m < i then (m : Int) else -1
theorem kdi_hit {x : ByteArray} {i : Nat} (h : kdr x = some i) : kdi x (i + 1) = (i : Int) := by unfold kdi; rw [h]; simp
theorem kdi_miss {x : ByteArray} {i : Nat} (h : kdr x ≠ some i) : kdi x (i + 1) = kdi x i := by
 unfold kdi
 split
 ·rfl
 ·rename_i m hm
  have : m ≠ i := fun e => h (by rw [hm, e])
  by_cases hl : m < i
  ·rw [if_pos (by omega), if_pos hl]
  ·rw [if_neg (by omega), if_neg hl]
theorem names_cell (w : World) (i : Nat) (h : i ≤ 3) : (w.alloc (.cells #[.string (kwr 0), .string (kwr 1), .string (kwr 2), .string (kwr 3)] 9)).cell? ⟨w.heap.size, i, none⟩ = some (.string (kwr i)) := by
 rw [World.cell?_alloc_at _ _ _ _ rfl]
 obtain rfl | rfl | rfl | rfl : i = 0 ∨ i = 1 ∨ i = 2 ∨ i = 3 := by omega
 all_goals rfl
theorem drop2s {ws : List ByteArray} {i : Nat} (h : i + 1 < ws.length) : ws.drop i = ws[i] :: ws[i + 1] :: ws.drop (i + 2) := by
 rw [List.drop_eq_getElem_cons (by omega), List.drop_eq_getElem_cons h]
theorem rso_odd {ws : List ByteArray} (h : ws.length % 2 = 0) (h0 : 0 < ws.length) : rso ws = none := by
 unfold rso
 split
 ·rfl
 ·cases hr : rdp (ws.drop 1) with
  | none => rfl
  | some l =>
   have := rdp_len _ _ l (Nat.le_refl _) hr
   rw [List.length_drop] at this; omega
theorem rso_long {ws : List ByteArray} (h : 121 < ws.length) : rso ws = none := by
 unfold rso
 split
 ·rfl
 ·cases hr : rdp (ws.drop 1) with
  | none => rfl
  | some l =>
   have := rdp_len _ _ l (Nat.le_refl _) hr
   rw [List.length_drop] at this
   simp only
   split
   ·rename_i hk
    have := kind_natr hk
    omega
   ·rfl
theorem rso_rdp {ws : List ByteArray} (h : rdp (ws.drop 1) = none) : rso ws = none := by
 unfold rso
 rw [h]
 split <;> rfl
theorem rso_kd {ws : List ByteArray} {l : List (Int × Int)} {x : ByteArray} (hx : x = ws.getD 0 ⟨#[]⟩) (h : rdp (ws.drop 1) = some l) : rso ws = if shok (kdi x 4) l = true then some (kdi x 4, l) else none := by
 unfold rso kdi
 rw [h, ← hx]
 cases hk : kdr x with
 | none =>
  simp only
  rw [if_neg]
  intro hs
  have := (kind_natr hs).1
  omega
 | some m =>
  have := kdr_le hk
  have h4 : (if m < 4 then (m : Int) else -1) = (m : Int) := if_pos (by omega)
  simp only
  rw [h4]
theorem rsa_row {w w' : World} {B : Nat} {o : Option (Int × List (Int × Int))} {k : Int} {l : List (Int × Int)} {ao : Option Addr} {n cap : Nat} (h : o = some (k, l)) (hb : Below w.heap.size w w') (hr : PtRow w' B (.slice ao n cap) l) (hB : w.heap.size ≤ B) (h0 : 0 < l.length) : RSA w o (.returned (.tuple #[.agg #[.int .i64 k, .slice ao n cap], .bool true])) w' := by
 subst h
 obtain ⟨g, c, e, hg, hc, hp⟩ := hr.ownG h0
 injection e with e1 e2 e3
 subst e1 e2 e3
 exact ⟨some ⟨g, 0, none⟩, cap, rfl, hc, .inr ⟨g, rfl, hp⟩, fun b off h => by injection h with h; injection h with h1; omega, hb⟩
theorem cell1r {w : World} {p : Nat} {a : Value} {t : TypeId} (h : w.heap[p]? = some (.cells #[a] t (0, 0))) : w.cell? ⟨p, 0, none⟩ = some a ∧ w.frozen? ⟨p, 0, none⟩ = false := by
 simp only [World.cell?, World.frozen?, h]
 exact ⟨rfl, by simp⟩
def RB (w0 w : World) (s : ByteArray) (k : Int) (v : Value) : Prop :=
 w.heap[w0.heap.size]? = some (.cells #[.string s] 9 (0, 0)) ∧ w.heap[w0.heap.size + 1]? = some (.cells #[.int .i64 0, .slice none 0 0] 48 (0, 0)) ∧ w.heap[w0.heap.size + 2]? = some (.cells #[.int .i64 k, v] 48 (0, 0)) ∧ Below w0.heap.size w0 w
theorem RB.below {w0 w w' : World} {s : ByteArray} {k : Int} {v : Value} (h : RB w0 w s k v) (hb : Below w.heap.size w w') : RB w0 w' s k v := by
 obtain ⟨h0, h1, h2, h3⟩ := h
 exact ⟨keepheap hb h0, keepheap hb h1, keepheap hb h2, btrans h3 hb⟩
theorem rd1_no (s : ByteArray) (hs : s.size ≤ 1048576) (w0 w : World) (hLb : LibsR w0) (hKw : KWr w0) (h : RB w0 w s 0 (.slice none 0 0)) (hn : rso (rest s s.size 0 0) = none) : Calls Tryz.prog 98 #[.pointer (some ⟨w0.heap.size, 0, none⟩), .pointer (some ⟨w0.heap.size + 2, 0, none⟩)] w fun e w' => Refused e ∧ RB w0 w' s 0 (.slice none 0 0) := by
 have HS := hid (sot_all s hs w (hLb.below h.2.2.2) (hKw.below h.2.2.2))
 have HH := hid h
 obtain ⟨h0, h1, h2, h3⟩ := h
 obtain ⟨c0, _⟩ := cell1r h0
 have HN := hid hn
 clear h0 h1 h2 h3 hn hLb hKw
 go_enter Tryz.func98, Tryz.ntmps98
 go_wp2_with fail
 refine HS.out.mono ?_
 rintro e w1 ⟨hb, ⟨_, t, rfl⟩ | ⟨k, l, b, ho, _⟩⟩
 ·go_wp2_with fail
  exact ⟨rfl, ⟨_, rfl⟩, HH.out.below hb⟩
 ·rw [HN.out] at ho; cases ho
theorem rd1_yes (s : ByteArray) (hs : s.size ≤ 1048576) (w0 w : World) (hLb : LibsR w0) (hKw : KWr w0) (h : RB w0 w s 0 (.slice none 0 0)) (k : Int) (l : List (Int × Int)) (hn : rso (rest s s.size 0 0) = some (k, l)) : Calls Tryz.prog 98 #[.pointer (some ⟨w0.heap.size, 0, none⟩), .pointer (some ⟨w0.heap.size + 2, 0, none⟩)] w fun e w' => e = .returned (.tuple #[]) ∧ ∃ b, RB w0 w' s k (.slice (some ⟨b, 0, none⟩) l.length l.length) ∧ w0.heap.size + 2 < b ∧ PtsOwn w' b l := by
 have HS := hid (sot_all s hs w (hLb.below h.2.2.2) (hKw.below h.2.2.2))
 have HH := hid h
 obtain ⟨h0, h1, h2, h3⟩ := h
 have hlt := lt_of_block h2
 obtain ⟨c0, _⟩ := cell1r h0
 have HN := hid hn
 clear h0 h1 h2 h3 hn hLb hKw
 go_enter Tryz.func98, Tryz.ntmps98
 go_wp2_with fail
 refine HS.out.mono ?_
 rintro e w1 ⟨hb, ⟨ho, _⟩ | ⟨k', l', b, ho, rfl, hbb, hown⟩⟩
 ·rw [HN.out] at ho; cases ho
 ·rw [HN.out] at ho
  simp only [Option.some.injEq, Prod.mk.injEq] at ho
  obtain ⟨rfl, rfl⟩ := ho
  obtain ⟨h0, h1, h2, h3⟩ := HH.out.below hb
  obtain ⟨x0, x1, x2, x3⟩ := cell2g h2
  have z2 := (set2 h2 (.int .i64 k) (.slice (some ⟨b, 0, none⟩) l.length l.length)).1
  have z0 := set_far (q := w0.heap.size + 2) (k := 1) (u := .slice (some ⟨b, 0, none⟩) l.length l.length) (set_far (q := w0.heap.size + 2) (k := 0) (u := .int .i64 k) h0 (by omega)) (by omega)
  have z1 := set_far (q := w0.heap.size + 2) (k := 1) (u := .slice (some ⟨b, 0, none⟩) l.length l.length) (set_far (q := w0.heap.size + 2) (k := 0) (u := .int .i64 k) h1 (by omega)) (by omega)
  have z5 := bset (bset h3 (q := w0.heap.size + 2) (k := 0) (by omega) (.int .i64 k)) (q := w0.heap.size + 2) (k := 1) (by omega) (.slice (some ⟨b, 0, none⟩) l.length l.length)
  have zo := own_setr2 (k := 0) (k' := 1) (u := .int .i64 k) (u' := .slice (some ⟨b, 0, none⟩) l.length l.length) hown (q := w0.heap.size + 2) (by omega)
  have HZ := hid (show RB w0 _ s k (.slice (some ⟨b, 0, none⟩) l.length l.length) ∧ w0.heap.size + 2 < b ∧ PtsOwn ((w1.setCell ⟨w0.heap.size + 2, 0, none⟩ (.int .i64 k)).setCell ⟨w0.heap.size + 2, 1, none⟩ (.slice (some ⟨b, 0, none⟩) l.length l.length)) b l from ⟨⟨z0, z1, z2, z5⟩, by omega, zo⟩)
  clear z0 z1 z2 z5 zo hown HH HN HS
  go_wp2_with fail
  go_end0
  exact ⟨rfl, b, HZ.out⟩
theorem impl_ReadShape (s : ByteArray) (hs : s.size ≤ 1048576) (w : World) (hLb : LibsR w) (hKw : KWr w) (hg : w.cell? ⟨2, 0, none⟩ = some (.iface 235 (.agg #[.pointer (some ⟨10, 67, none⟩)]))) : Calls Tryz.prog 59 #[.string s] w fun e w' => RSA w (rso (rest s s.size 0 0)) e w' := by
 have hmf : ∀ (fn : Fn) (first cap : Array Value) (w : World), (Instr.makeFunc fn first cap).run Tryz.prog w = .ok (.func fn first cap) w := fun _ _ _ _ => rfl
 cases hn : rso (rest s s.size 0 0) with
 | none =>
  have HW := hid (fun (W : World) (h : RB w W s 0 (.slice none 0 0)) => whole_no_r _ W _ (rd1_no s hs w W hLb hKw h hn) (fun w' h' => keepcell h'.2.2.2 hg))
  clear hn hLb hKw hg
  go_enter Tryz.func59, Tryz.ntmps59
  go_wp2_with fail
  have hG : RB w (((w.alloc (.cells #[.string s] 9)).alloc (.cells #[.int .i64 0, .slice none 0 0] 48)).alloc (.cells #[.int .i64 0, .slice none 0 0] 48)) s 0 (.slice none 0 0) :=
   ⟨old_alloc (old_alloc (new_alloc _ _ _ rfl)), old_alloc (new_alloc _ _ _ (by simp)), new_alloc _ _ _ (by simp), balloc (balloc (balloc (Below.refl _ _) _) _) _⟩
  generalize (((w.alloc (.cells #[.string s] 9)).alloc (.cells #[.int .i64 0, .slice none 0 0] 48)).alloc (.cells #[.int .i64 0, .slice none 0 0] 48)) = W at *
  refine (HW.out _ hG).mono ?_
  rintro e w1 ⟨rfl, w2, hZ', hb⟩
  have hZ := hZ'.below hb
  clear hG HW hZ' hb
  obtain ⟨_, h1, h2, h5⟩ := hZ
  replace h2 : w1.heap[w.heap.size + 1 + 1]? = _ := h2
  obtain ⟨x0, x1, _, _⟩ := cell2g h2
  obtain ⟨y0, y1, y2, y3⟩ := cell2g h1
  go_wp2_with fail
  have gF := (set2 h1 (.int .i64 0) (.slice none 0 0)).1
  have bF := bset (bset h5 (q := w.heap.size + 1) (k := 0) (by omega) (.int .i64 0)) (q := w.heap.size + 1) (k := 1) (by omega) (.slice none 0 0)
  generalize (w1.setCell ⟨w.heap.size + 1, 0, none⟩ (.int .i64 0)).setCell ⟨w.heap.size + 1, 1, none⟩ (.slice none 0 0) = wf at *
  obtain ⟨z0, z1, _, _⟩ := cell2g gF
  exact bodyPost_ret (v := .tuple #[.agg #[(.int .i64 0), (.slice none 0 0)], .bool false]) (by simp [results, Tryz.results59, go_sem, z0, z1]) rfl (rsa_no rfl bF)
 | some r =>
  obtain ⟨k, l⟩ := r
  have HW := hid (fun (W : World) (h : RB w W s 0 (.slice none 0 0)) => whole_ok_r _ W _ (rd1_yes s hs w W hLb hKw h k l hn))
  clear hn hLb hKw hg
  go_enter Tryz.func59, Tryz.ntmps59
  go_wp2_with fail
  have hG : RB w (((w.alloc (.cells #[.string s] 9)).alloc (.cells #[.int .i64 0, .slice none 0 0] 48)).alloc (.cells #[.int .i64 0, .slice none 0 0] 48)) s 0 (.slice none 0 0) :=
   ⟨old_alloc (old_alloc (new_alloc _ _ _ rfl)), old_alloc (new_alloc _ _ _ (by simp)), new_alloc _ _ _ (by simp), balloc (balloc (balloc (Below.refl _ _) _) _) _⟩
  generalize (((w.alloc (.cells #[.string s] 9)).alloc (.cells #[.int .i64 0, .slice none 0 0] 48)).alloc (.cells #[.int .i64 0, .slice none 0 0] 48)) = W at *
  refine (HW.out _ hG).mono ?_
  rintro e w1 ⟨rfl, b, hZ, hbb, hown⟩
  clear hG HW
  obtain ⟨_, h1, h2, h5⟩ := hZ
  replace h2 : w1.heap[w.heap.size + 1 + 1]? = _ := h2
  obtain ⟨x0, x1, _, _⟩ := cell2g h2
  obtain ⟨y0, y1, y2, y3⟩ := cell2g h1
  go_wp2_with fail
  have gF := (set2 h1 (.int .i64 k) (.slice (some ⟨b, 0, none⟩) l.length l.length)).1
  have bF := bset (bset h5 (q := w.heap.size + 1) (k := 0) (by omega) (.int .i64 k)) (q := w.heap.size + 1) (k := 1) (by omega) (.slice (some ⟨b, 0, none⟩) l.length l.length)
  have oF := own_setr2 (k := 0) (k' := 1) (u := .int .i64 k) (u' := .slice (some ⟨b, 0, none⟩) l.length l.length) hown (q := w.heap.size + 1) (by omega)
  generalize (w1.setCell ⟨w.heap.size + 1, 0, none⟩ (.int .i64 k)).setCell ⟨w.heap.size + 1, 1, none⟩ (.slice (some ⟨b, 0, none⟩) l.length l.length) = wf at *
  obtain ⟨z0, z1, _, _⟩ := cell2g gF
  exact bodyPost_ret (v := .tuple #[.agg #[(.int .i64 k), (.slice (some ⟨b, 0, none⟩) l.length l.length)], .bool true]) (by simp [results, Tryz.results59, go_sem, z0, z1]) rfl (rsa_own rfl (Nat.le_refl _) bF (by omega) oF)
theorem occC (c : UInt8) (l : List UInt8) (j : Nat) : Lib.occAt l [c] j = true ↔ l[j]? = some c := by
 unfold Lib.occAt
 rw [← List.head?_drop]
 cases h : l.drop j with
 | nil => simp
 | cons a r =>
  simp only [List.isPrefixOf, Bool.and_true, beq_iff_eq, List.head?_cons, Option.some.injEq]
  exact eq_comm
theorem byteC (s : ByteArray) (k : Nat) (c : UInt8) (n : Nat) (hc : c.toNat = n) : UInt8.ofNat (by8 s k) = c ↔ by8 s k = n := by
 have hlt := by8_lt s k
 constructor
 ·intro h
  have := congrArg UInt8.toNat h
  rw [UInt8.toNat_ofNat'] at this
  omega
 ·intro h
  apply UInt8.toNat_inj.1
  rw [UInt8.toNat_ofNat']
  omega
theorem no_occC (s : ByteArray) (c : UInt8) (n a i : Nat) (hc : c.toNat = n) (hi : i ≤ s.size) (hno : ∀ k, a ≤ k → k < i → by8 s k ≠ n) : Lib.NoOcc (s.extract a s.size).data.toList [c] (i - a) := by
 intro j hj
 rw [Bool.eq_false_iff]
 intro h
 have h' := (occC c _ j).1 h
 rw [cut_byte s a j (by omega), Option.some.injEq, byteC s _ c n hc] at h'
 exact hno (a + j) (by omega) (by omega) h'
theorem cut_hit (s : ByteArray) (c : UInt8) (n a i : Nat) (hc : c.toNat = n) (ha : a ≤ i) (hi : i < s.size) (hno : ∀ k, a ≤ k → k < i → by8 s k ≠ n) (h : by8 s i = n) :
  (⟨(Lib.cut (s.extract a s.size).data.toList [c]).1.toArray⟩ : ByteArray) = s.extract a i ∧ (⟨(Lib.cut (s.extract a s.size).data.toList [c]).2.1.toArray⟩ : ByteArray) = s.extract (i + 1) s.size ∧ (Lib.cut (s.extract a s.size).data.toList [c]).2.2 = true := by
 have hsz : (s.extract a s.size).data.toList.length = s.size - a := by rw [Lib.extract_data]; simp
 have hidx : Lib.indexB (s.extract a s.size) ⟨#[c]⟩ = ((i - a : Nat) : Int) := by
  refine Lib.index_hit (no_occC s c n a i hc (by omega) hno) (by rw [hsz]; omega) ((occC c _ _).2 ?_)
  rw [cut_byte s a (i - a) (by omega), show a + (i - a) = i by omega, Option.some.injEq]
  exact (byteC s i c n hc).2 h
 obtain ⟨e1, e2, e3⟩ := Lib.cutB_hit (s.extract a s.size) ⟨#[c]⟩ (i - a) hidx
 refine ⟨e1.trans ?_, e2.trans ?_, e3⟩
 ·rw [cut_cut s a 0 (i - a) (by omega), Nat.add_zero, show a + (i - a) = i by omega]
 ·rw [show (i - a + (⟨#[c]⟩ : ByteArray).size) = i - a + 1 from rfl, cut_end s a _ (by omega), show a + (i - a + 1) = i + 1 by omega]
theorem cut_miss (s : ByteArray) (c : UInt8) (n a : Nat) (hc : c.toNat = n) (hno : ∀ k, a ≤ k → k < s.size → by8 s k ≠ n) :
  (⟨(Lib.cut (s.extract a s.size).data.toList [c]).1.toArray⟩ : ByteArray) = s.extract a s.size ∧ (⟨(Lib.cut (s.extract a s.size).data.toList [c]).2.1.toArray⟩ : ByteArray) = ⟨#[]⟩ ∧ (Lib.cut (s.extract a s.size).data.toList [c]).2.2 = false := by
 have hsz : (s.extract a s.size).data.toList.length = s.size - a := by rw [Lib.extract_data]; simp
 have hidx : Lib.indexB (s.extract a s.size) ⟨#[c]⟩ = -1 := Lib.index_past (by simp) (no_occC s c n a s.size hc (Nat.le_refl _) hno) (by rw [hsz]; show _ < s.size - a + 1; omega)
 exact Lib.cutB_miss (s.extract a s.size) ⟨#[c]⟩ hidx
theorem first_at (s : ByteArray) (n a : Nat) : (∃ i, a ≤ i ∧ i < s.size ∧ by8 s i = n ∧ ∀ k, a ≤ k → k < i → by8 s k ≠ n) ∨ ∀ k, a ≤ k → k < s.size → by8 s k ≠ n := by
 obtain ⟨m, hm⟩ : ∃ m, m = s.size - a := ⟨_, rfl⟩
 induction m generalizing a with
 | zero => exact .inr fun k h1 h2 => by omega
 | succ m ih =>
  by_cases h : by8 s a = n
  ·exact .inl ⟨a, Nat.le_refl _, by omega, h, fun k h1 h2 => by omega⟩
  ·rcases ih (a + 1) (by omega) with ⟨i, h1, h2, h3, h4⟩ | h1
   ·refine .inl ⟨i, by omega, h2, h3, fun k k1 k2 => ?_⟩
    by_cases e : k = a
    ·rw [e]; exact h
    ·exact h4 k (by omega) k2
   ·refine .inr fun k k1 k2 => ?_
    by_cases e : k = a
    ·rw [e]; exact h
    ·exact h1 k (by omega) k2
theorem rest_skip (s : ByteArray) : ∀ (m f a i : Nat), (∀ k, i ≤ k → k < i + m → by8 s k ≠ 32) → rest s (f + m) a i = rest s f a (i + m)
 | 0, f, a, i, _ => rfl
 | m + 1, f, a, i, h => by
  rw [rest_miss s a i (f + (m + 1)) (f + m) rfl (h i (Nat.le_refl _) (by omega)), rest_skip s m f a (i + 1) (fun k h1 h2 => h k (by omega) (by omega)), show i + 1 + m = i + (m + 1) by omega]
theorem rest_first (s : ByteArray) (a i : Nat) (ha : a ≤ i) (hi : i < s.size) (hno : ∀ k, a ≤ k → k < i → by8 s k ≠ 32) (h : by8 s i = 32) : rest s (s.size - a) a a = s.extract a i :: rest s (s.size - (i + 1)) (i + 1) (i + 1) := by
 rw [show s.size - a = (s.size - i) + (i - a) by omega, rest_skip s (i - a) (s.size - i) a a (fun k h1 h2 => hno k h1 (by omega)), show a + (i - a) = i by omega]
 exact rest_hit s a i (s.size - i) (s.size - (i + 1)) (by omega) h
theorem rest_none (s : ByteArray) (a : Nat) (ha : a ≤ s.size) (hno : ∀ k, a ≤ k → k < s.size → by8 s k ≠ 32) : rest s (s.size - a) a a = [s.extract a s.size] := by
 have := rest_skip s (s.size - a) 0 a a (fun k h1 h2 => hno k h1 (by omega))
 rw [Nat.zero_add] at this
 rw [this]; rfl
theorem by8_cut (s : ByteArray) (a j : Nat) (h : a + j < s.size) : by8 (s.extract a s.size) j = by8 s (a + j) := by
 have hj : j < (s.extract a s.size).size := by simp; omega
 have h1 := cut_byte s a j h
 rw [byte_at _ j hj, Option.some.injEq] at h1
 rw [← by8_at _ j hj, h1, UInt8.toNat_ofNat']
 have := by8_lt s (a + j)
 omega
theorem rest_shift (s : ByteArray) (a : Nat) (ha : a ≤ s.size) : ∀ (f b i : Nat), b ≤ i → a + i + f = s.size → rest (s.extract a s.size) f b i = rest s f (a + b) (a + i)
 | 0, b, i, hb, h => by
  show [(s.extract a s.size).extract b (s.extract a s.size).size] = [s.extract (a + b) s.size]
  rw [cut_end s a b ha]
 | f + 1, b, i, hb, h => by
  have e := by8_cut s a i (by omega)
  by_cases h32 : by8 s (a + i) = 32
  ·rw [rest_hit _ b i (f + 1) f rfl (by rw [e]; exact h32), rest_hit s (a + b) (a + i) (f + 1) f rfl h32, cut_cut s a b i (by omega), rest_shift s a ha f (i + 1) (i + 1) (Nat.le_refl _) (by omega)]
   rfl
  ·rw [rest_miss _ b i (f + 1) f rfl (by rw [e]; exact h32), rest_miss s (a + b) (a + i) (f + 1) f rfl h32, rest_shift s a ha f b (i + 1) (by omega) (by omega)]
   rfl
theorem rest_tail (s : ByteArray) (a : Nat) (ha : a ≤ s.size) : rest (s.extract a s.size) (s.extract a s.size).size 0 0 = rest s (s.size - a) a a := by
 have hs : (s.extract a s.size).size = s.size - a := by simp
 rw [hs]
 exact rest_shift s a ha (s.size - a) 0 0 (Nat.le_refl _) (by omega)
noncomputable def lin (x : ByteArray) : Option Ch :=
 if 2 ≤ (rest x x.size 0 0).length ∧ idb (riN ((rest x x.size 0 0).getD 0 ⟨#[]⟩)) = true then (rso ((rest x x.size 0 0).drop 1)).map (fun r => (riN ((rest x x.size 0 0).getD 0 ⟨#[]⟩), false, r.1, r.2)) else none
theorem lin_short {x : ByteArray} (h : (rest x x.size 0 0).length < 2) : lin x = none := by
 unfold lin; rw [if_neg (by omega)]
theorem lin_id {x : ByteArray} (h : idb (riN ((rest x x.size 0 0).getD 0 ⟨#[]⟩)) = false) : lin x = none := by
 unfold lin; rw [if_neg (by rw [h]; simp)]
theorem lin_sh {x : ByteArray} (h : rso ((rest x x.size 0 0).drop 1) = none) : lin x = none := by
 unfold lin; rw [h]; split <;> rfl
theorem lin_yes {x : ByteArray} {k : Int} {l : List (Int × Int)} (h2 : 2 ≤ (rest x x.size 0 0).length) (hi : idb (riN ((rest x x.size 0 0).getD 0 ⟨#[]⟩)) = true) (h : rso ((rest x x.size 0 0).drop 1) = some (k, l)) : lin x = some (riN ((rest x x.size 0 0).getD 0 ⟨#[]⟩), false, k, l) := by
 unfold lin; rw [if_pos ⟨h2, hi⟩, h]; rfl
theorem ri_zero {x : ByteArray} (h : riB x = false) : riN x = 0 := by
 unfold riB at h; unfold riN
 cases hr : ri x with
 | none => rfl
 | some v => rw [hr] at h; cases h
theorem ri_idb {x : ByteArray} (h : idb (riN x) = true) : riB x = true := by
 cases hb : riB x with
 | true => rfl
 | false => rw [ri_zero hb] at h; cases h
theorem lin_cut {x : ByteArray} {j : Nat} (hj : j < x.size) (hno : ∀ k, 0 ≤ k → k < j → by8 x k ≠ 32) (h : by8 x j = 32) : lin x = if idb (riN (x.extract 0 j)) = true then (rso (rest (x.extract (j + 1) x.size) (x.extract (j + 1) x.size).size 0 0)).map (fun r => (riN (x.extract 0 j), false, r.1, r.2)) else none := by
 have e := rest_first x 0 j (Nat.zero_le _) hj hno h
 rw [Nat.sub_zero] at e
 have hl := (rest_len x (x.size - (j + 1)) (j + 1) (j + 1)).1
 unfold lin
 rw [e, rest_tail x (j + 1) (by omega)]
 simp only [List.length_cons, List.getD_cons_zero, List.drop_succ_cons, List.drop_zero]
 by_cases hi : idb (riN (x.extract 0 j)) = true
 ·rw [if_pos ⟨by omega, hi⟩, if_pos hi]
 ·rw [if_neg (fun h => hi h.2), if_neg hi]
theorem lin_nocut {x : ByteArray} (hno : ∀ k, 0 ≤ k → k < x.size → by8 x k ≠ 32) : lin x = none := by
 have e := rest_none x 0 (Nat.zero_le _) hno
 rw [Nat.sub_zero] at e
 exact lin_short (by rw [e]; simp)
theorem rso_empty : rso (rest ⟨#[]⟩ (⟨#[]⟩ : ByteArray).size 0 0) = none := by
 have e : rest ⟨#[]⟩ (⟨#[]⟩ : ByteArray).size 0 0 = [⟨#[]⟩] := rfl
 rw [e]
 have hk : kdr ⟨#[]⟩ = none := by decide
 unfold rso
 rw [show ([⟨#[]⟩] : List ByteArray).getD 0 ⟨#[]⟩ = ⟨#[]⟩ from rfl, hk]
def lastI (acc : List Ch) : Int := (acc.getD (acc.length - 1) (0, false, 0, [])).1
theorem lastI_at {acc : List Ch} (h : acc.length - 1 < acc.length) : lastI acc = (acc[acc.length - 1]).1 := by
 unfold lastI
 rw [List.getD_eq_getElem?_getD, List.getElem?_eq_getElem h]; rfl
noncomputable def ldo (acc : List Ch) (x : ByteArray) : Option (List Ch) := match lin x with
 | none => none
 | some c => if acc.length < 100 ∧ (acc.length = 0 ∨ lastI acc < c.1) then some (acc ++ [c]) else none
theorem ldo_no {acc : List Ch} {x : ByteArray} (h : lin x = none) : ldo acc x = none := by unfold ldo; rw [h]
theorem ldo_full {acc : List Ch} {x : ByteArray} (h : 100 ≤ acc.length) : ldo acc x = none := by
 unfold ldo
 cases lin x with
 | none => rfl
 | some c => simp only; rw [if_neg (by omega)]
theorem ldo_last {acc : List Ch} {x : ByteArray} {c : Ch} (h : lin x = some c) (h0 : acc.length ≠ 0) (hl : c.1 ≤ lastI acc) : ldo acc x = none := by
 unfold ldo
 rw [h]; simp only; rw [if_neg (by omega)]
theorem ldo_lastN {acc : List Ch} {x : ByteArray} (h0 : acc.length ≠ 0) (hl : riN ((rest x x.size 0 0).getD 0 ⟨#[]⟩) ≤ lastI acc) : ldo acc x = none := by
 cases h : lin x with
 | none => exact ldo_no h
 | some c =>
  refine ldo_last h h0 ?_
  unfold lin at h
  split at h
  ·rw [Option.map_eq_some_iff] at h
   obtain ⟨r, _, rfl⟩ := h
   exact hl
  ·cases h
theorem ldo_yes {acc : List Ch} {x : ByteArray} {c : Ch} (h : lin x = some c) (h1 : acc.length < 100) (h0 : acc.length = 0 ∨ lastI acc < c.1) : ldo acc x = some (acc ++ [c]) := by
 unfold ldo
 rw [h]; simp only; rw [if_pos ⟨h1, h0⟩]
noncomputable def ld (s : ByteArray) : Nat → Nat → Nat → List Ch → List Ch × Nat
 | 0, a, _, acc => if a < s.size then ([], acc.length + 1) else (acc, 0)
 | f + 1, a, i, acc => if by8 s i = 10 then (match ldo acc (s.extract a i) with | none => ([], acc.length + 1) | some l => ld s f (i + 1) (i + 1) l) else ld s f a (i + 1) acc
theorem ld_miss {s : ByteArray} {f f' a i : Nat} {acc : List Ch} (hf : f = f' + 1) (h : by8 s i ≠ 10) : ld s f a i acc = ld s f' a (i + 1) acc := by
 subst hf; rw [ld, if_neg h]
theorem ld_no {s : ByteArray} {f f' a i : Nat} {acc : List Ch} (hf : f = f' + 1) (h : by8 s i = 10) (ho : ldo acc (s.extract a i) = none) : ld s f a i acc = ([], acc.length + 1) := by
 subst hf; rw [ld, if_pos h, ho]
theorem ld_yes {s : ByteArray} {f f' a i : Nat} {acc l : List Ch} (hf : f = f' + 1) (h : by8 s i = 10) (ho : ldo acc (s.extract a i) = some l) : ld s f a i acc = ld s f' (i + 1) (i + 1) l := by
 subst hf; rw [ld, if_pos h, ho]
theorem ld_end {s : ByteArray} {a i : Nat} {acc : List Ch} (h : ¬ a < s.size) : ld s 0 a i acc = (acc, 0) := by rw [ld, if_neg h]
theorem ld_open {s : ByteArray} {a i : Nat} {acc : List Ch} (h : a < s.size) : ld s 0 a i acc = ([], acc.length + 1) := by rw [ld, if_pos h]
theorem ld_skip (s : ByteArray) (a : Nat) (acc : List Ch) : ∀ (m f i : Nat), (∀ k, i ≤ k → k < i + m → by8 s k ≠ 10) → ld s (f + m) a i acc = ld s f a (i + m) acc
 | 0, f, i, _ => rfl
 | m + 1, f, i, h => by
  rw [ld_miss (f' := f + m) (by omega) (h i (Nat.le_refl _) (by omega)), ld_skip s a acc m f (i + 1) (fun k h1 h2 => h k (by omega) (by omega)), show i + 1 + m = i + (m + 1) by omega]
theorem ld_at {s : ByteArray} {a i : Nat} {acc : List Ch} (ha : a ≤ i) (hi : i < s.size) (hno : ∀ k, a ≤ k → k < i → by8 s k ≠ 10) : ld s (s.size - a) a a acc = ld s (s.size - i) a i acc := by
 have := ld_skip s a acc (i - a) (s.size - i) a (fun k h1 h2 => hno k h1 (by omega))
 rw [show s.size - i + (i - a) = s.size - a by omega, show a + (i - a) = i by omega] at this
 exact this
theorem ld_none {s : ByteArray} {a : Nat} {acc : List Ch} (ha : a < s.size) (hno : ∀ k, a ≤ k → k < s.size → by8 s k ≠ 10) : ld s (s.size - a) a a acc = ([], acc.length + 1) := by
 have := ld_skip s a acc (s.size - a) 0 a (fun k h1 h2 => hno k h1 (by omega))
 rw [Nat.zero_add] at this
 rw [this, ld_open ha]
theorem ldo_small {acc l : List Ch} {x : ByteArray} (h : ldo acc x = some l) (ha : acc.length ≤ 100 ∧ ∀ c ∈ acc, c.2.2.2.length ≤ 60) : l.length ≤ 100 ∧ ∀ c ∈ l, c.2.2.2.length ≤ 60 := by
 unfold ldo at h
 cases hl : lin x with
 | none => rw [hl] at h; cases h
 | some c =>
  rw [hl] at h
  simp only at h
  split at h
  ·rename_i hc
   cases h
   refine ⟨by rw [List.length_append]; simp; omega, fun y hy => ?_⟩
   rcases List.mem_append.1 hy with hy | hy
   ·exact ha.2 y hy
   ·rw [List.mem_singleton] at hy
    subst hy
    unfold lin at hl
    split at hl
    ·rw [Option.map_eq_some_iff] at hl
     obtain ⟨r, hr, rfl⟩ := hl
     have := rso_len ((rest x x.size 0 0).drop 1)
     rw [hr] at this
     exact this
    ·cases hl
  ·cases h
theorem ld_small (s : ByteArray) : ∀ (f a i : Nat) (acc : List Ch), (acc.length ≤ 100 ∧ ∀ c ∈ acc, c.2.2.2.length ≤ 60) → ((ld s f a i acc).1.length ≤ 100 ∧ ∀ c ∈ (ld s f a i acc).1, c.2.2.2.length ≤ 60)
 | 0, a, i, acc, h => by
  unfold ld
  split
  ·exact ⟨by simp, fun c hc => by cases hc⟩
  ·exact h
 | f + 1, a, i, acc, h => by
  unfold ld
  split
  ·cases ho : ldo acc (s.extract a i) with
   | none => exact ⟨by simp, fun c hc => by cases hc⟩
   | some l => exact ld_small s f (i + 1) (i + 1) l (ldo_small ho h)
  ·exact ld_small s f a (i + 1) acc h
theorem ld_chS (s : ByteArray) : chS (ld s s.size 0 0 []).1 ∧ (ld s s.size 0 0 []).1.length ≤ 100 := by
 obtain ⟨h1, h2⟩ := ld_small s s.size 0 0 [] ⟨by simp, fun c hc => by cases hc⟩
 exact ⟨⟨by omega, fun m hm => by have := h2 _ (List.getElem_mem hm); omega⟩, h1⟩
def LDA (w : World) (r : List Ch × Nat) (e : Ending) (w' : World) : Prop :=
 ∃ a cap, e = .returned (.tuple #[.slice a r.1.length cap, .int .i64 r.2]) ∧ LC KN w.heap.size w'.heap.size w' (.slice a r.1.length cap) r.1 ∧ Below w.heap.size w w'
theorem lx_noneL (w w1 : World) (hb : w.heap.size ≤ w1.heap.size) : LX KN 50 w.heap.size (w1.alloc (.cells #[] 50)).heap.size (w1.alloc (.cells #[] 50)) (.slice (some ⟨w1.heap.size, 0, none⟩) 0 0) [] [] := by
 have := World.ownsRow_made (base := w1.heap.size) (e := 50) (size := 4) w1 #[] 0 (Nat.le_refl _) (by unfold maxLen; omega) rfl
 exact (LX.nil (hi := (w1.alloc (.cells #[] 50)).heap.size) this (fun g e => by simp [Value.ownBlock] at e; subst e; simp) (Nat.le_refl _)).mono hb (Nat.le_refl _) (Nat.le_refl _)
theorem lda_no {w w1 : World} {r : List Ch × Nat} {n : Nat} (h : r = ([], n)) (hb : Below w.heap.size w w1) : LDA w r (.returned (.tuple #[.slice (some ⟨w1.heap.size, 0, none⟩) 0 0, .int .i64 n])) (w1.alloc (.cells #[] 50)) := by
 subst h
 exact ⟨_, _, rfl, (lx_noneL w w1 hb.size).lc, balloc hb _⟩
theorem lda_yes {w w1 : World} {r : List Ch × Nat} {a : Option Addr} {cap hi : Nat} {cs : List Ch} (h : r = (cs, 0)) (hl : LC KN w.heap.size hi w1 (.slice a cs.length cap) cs) (hh : hi = w1.heap.size) (hb : Below w.heap.size w w1) : LDA w r (.returned (.tuple #[.slice a cs.length cap, .int .i64 0])) w1 := by
 subst h hh
 exact ⟨_, _, rfl, hl, hb⟩
theorem LX.growsL {α : Type} {K : Kd α} {t : TypeId} {base hi : Nat} {w w' : World} {v : Value} {xs : List α} {ps : List (α × Value)} (h : LX K t base hi w v xs ps) (hb : Below w.heap.size w w') : LX K t base w'.heap.size w' v xs ps := (h.below hb).mono (Nat.le_refl _) (Nat.le_trans h.2.2.2.1 hb.size) (Nat.le_refl _)
theorem bgrowL {w a b : World} {r : Option Nat} (h : Below w.heap.size w a) (hg : a.grownBy b r) (hp : ∀ c, r = some c → w.heap.size ≤ c) : Below w.heap.size w b := h.grown hg h.size hp
def TxO (w : World) (g o : Nat) (l : List ByteArray) : Prop := g < w.heap.size ∧ ∀ j (h : j < l.length), w.cell? ⟨g, o + j, none⟩ = some (.string l[j])
theorem TxO.lt {w : World} {g o : Nat} {l : List ByteArray} (h : TxO w g o l) : g < w.heap.size := h.1
theorem TxO.cell {w : World} {g o : Nat} {l : List ByteArray} (h : TxO w g o l) (j : Nat) (hj : j < l.length) : w.cell? ⟨g, o + j, none⟩ = some (.string l[j]) := h.2 j hj
theorem TxO.kept {w w' : World} {g o : Nat} {l : List ByteArray} {r : Option Nat} (h : TxO w g o l) (hg : w.grownBy w' r) (hne : r ≠ some g) : TxO w' g o l :=
 ⟨Nat.lt_of_lt_of_le h.1 hg.size, fun j hj => by rw [World.cell?_of_block (w := w) (hg.block g h.1 (fun e => hne e.symm))]; exact h.2 j hj⟩
theorem Texts.txo {w : World} {g cap : Nat} {l : List ByteArray} (h : Texts w g cap l) (k : Nat) : TxO w g k (l.drop k) :=
 ⟨h.lt, fun j hj => by
  rw [List.length_drop] at hj
  rw [List.getElem_drop]
  exact h.cell (k + j) (by omega)⟩
end Go.Proofs.YtenlhgnobfadgaaGreatDoor
