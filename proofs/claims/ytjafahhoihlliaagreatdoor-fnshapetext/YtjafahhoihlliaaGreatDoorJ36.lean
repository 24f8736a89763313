/- Texts of stores, joined: Put. -/
import Derived.Test.YtjafahhoihlliaaGreatDoorJ34
import Derived.Test.YtjafahhoihlliaaGreatDoorJ35
import Derived.Test.YtjafahhoihlliaaGreatDoorJ19
namespace Go.Proofs.YtjafahhoihlliaaGreatDoor
open Go.RowKit
set_option linter.unusedVariables false
set_option linter.unusedSimpArgs false
def kb (k : Int) : UInt8 := UInt8.ofNat k.toNat
def tx (n : Nat) : List UInt8 := (strOfNums (G 5 n)).data.toList
def prv (ps : List (Int × Int)) : Nat → Int × Int
  | 0 => (0, 0)
  | i + 1 => ps.getD i (0, 0)
def stX (ps : List (Int × Int)) (i : Nat) : Nat := (fold ((ps.getD i (0, 0)).1 - (prv ps i).1)).toNat
def stY (ps : List (Int × Int)) (i : Nat) : Nat := (fold ((ps.getD i (0, 0)).2 - (prv ps i).2)).toNat
def bodyT (ps : List (Int × Int)) : Nat → List UInt8
  | 0 => []
  | i + 1 => bodyT ps i ++ (tx (stX ps i) ++ tx (stY ps i))
def shl (k : Int) (ps : List (Int × Int)) (i : Nat) : List UInt8 := kb k :: (tx ps.length ++ bodyT ps i)
def psT (k : Int) (ps : List (Int × Int)) : ByteArray := if shok k ps = true then ⟨(shl k ps ps.length).toArray⟩ else ⟨#[]⟩
theorem G_len : ∀ (f r : Nat), (G f r).length ≤ f ∧ (0 < f → 0 < (G f r).length)
  | 0, r => by simp [G]
  | f + 1, r => by
    have := G_len f (r / 128)
    by_cases h : r ≤ 127
    · rw [G_last _ _ h]; simp
    · rw [G_more _ _ (by omega)]; simp; exact this.1
theorem put_size (n : Nat) : 0 < (strOfNums (G 5 n)).size ∧ (strOfNums (G 5 n)).size ≤ 5 := by
  rw [strOfNums_size]
  have := G_len 5 n
  exact ⟨this.2 (by omega), this.1⟩
theorem tx_len (n : Nat) : (tx n).length ≤ 5 := by
  have := (put_size n).2
  unfold tx
  rw [Array.length_toList]; exact this
theorem body_len (ps : List (Int × Int)) : ∀ i, (bodyT ps i).length ≤ 10 * i
  | 0 => by simp [bodyT]
  | i + 1 => by
    have h1 := body_len ps i
    have h2 := tx_len (stX ps i)
    have h3 := tx_len (stY ps i)
    simp only [bodyT, List.length_append]; omega
theorem shl_len (k : Int) (ps : List (Int × Int)) (i : Nat) : (shl k ps i).length ≤ 10 * i + 6 := by
  have h1 := body_len ps i
  have h2 := tx_len ps.length
  simp only [shl, List.length_cons, List.length_append]; omega
theorem shl_next (k : Int) (ps : List (Int × Int)) (i : Nat) : Lib.byteCells (shl k ps (i + 1)) = Lib.byteCells (shl k ps i) ++ Lib.strCells (strOfNums (G 5 (stX ps i))) ++ Lib.strCells (strOfNums (G 5 (stY ps i))) := by
  simp [shl, bodyT, Lib.byteCells, Lib.strCells, tx]
theorem shl_first (k : Int) (ps : List (Int × Int)) (h0 : 0 ≤ k) (h1 : k ≤ 3) : Lib.byteCells (shl k ps 0) = [] ++ [.int .u8 k] ++ Lib.strCells (strOfNums (G 5 ps.length)) := by
  have hk : k = 0 ∨ k = 1 ∨ k = 2 ∨ k = 3 := by omega
  rcases hk with rfl | rfl | rfl | rfl <;> simp [shl, bodyT, Lib.byteCells, Lib.strCells, tx, kb]
def BA (B b : Nat) (bs : List Value) (w : World) : Prop := Lib.BuilderAt 49 5 B b (.pointer (some ⟨b, 0, none⟩)) bs w
theorem BA.lt {B b : Nat} {bs : List Value} {w : World} (h : BA B b bs w) : b < w.heap.size := by
  obtain ⟨_, v, hb, _⟩ := h; exact lt_of_block hb
theorem BA.below {B b : Nat} {bs : List Value} {w w' : World} (h : BA B b bs w) (hb : Below w.heap.size w w') : BA B b bs w' := by
  obtain ⟨hB, v, hk, hown, hne⟩ := h
  have hg : w.grownBy w' none := ⟨hb.os, hb.tape, hb.output, hb.size, fun k hk _ => hb.block k hk⟩
  exact ⟨hB, v, keepheap2 hb hk, World.ownsRow.kept hown hg (Classical.em _), hne⟩
theorem BA.set {B b c k : Nat} {bs : List Value} {w : World} {cs : Array Value} {T : TypeId} {fr : Nat × Nat} (h : BA B b bs w) (hc : w.heap[c]? = some (.cells cs T fr)) (hcb : c ≠ b) (hT : T ≠ 5) (u : Value) : BA B b bs (w.setCell ⟨c, k, none⟩ u) := by
  obtain ⟨hB, v, hk, hown, hne⟩ := h
  refine ⟨hB, v, set_far hk (fun e => hcb e.symm), World.ownsRow.kept hown (grown_set _ _ _ _) (Or.inr (fun e => ?_)), hne⟩
  rcases hown.2 with ⟨rfl, hn⟩ | ⟨g, cap, cur, rfl, hb, hgk, hc', _⟩
  · simp [Value.ownBlock] at e
  · simp [Value.ownBlock] at e
    subst e
    rw [hgk] at hc
    cases hc
    exact hT rfl
theorem fold_at {ps : List (Int × Int)} (ha : allok ps = true) (i : Nat) (hi : i < ps.length) : fold ((ps.getD i (0, 0)).1 - (prv ps i).1) = (stX ps i : Nat) ∧ stX ps i ≤ 4000000000 ∧ fold ((ps.getD i (0, 0)).2 - (prv ps i).2) = (stY ps i : Nat) ∧ stY ps i ≤ 4000000000 ∧ In (prv ps i).1 ∧ In (prv ps i).2 := by
  obtain ⟨a1, a2⟩ := allok_in ha i hi
  have hp : In (prv ps i).1 ∧ In (prv ps i).2 := by
    cases i with
    | zero => exact ⟨by unfold In prv; simp, by unfold In prv; simp⟩
    | succ j => exact allok_in ha j (by omega)
  obtain ⟨b1, b2⟩ := hp
  unfold In at *
  obtain ⟨n1, e1, f1⟩ := fold_nn ((ps.getD i (0, 0)).1 - (prv ps i).1) (by omega) (by omega)
  obtain ⟨n2, e2, f2⟩ := fold_nn ((ps.getD i (0, 0)).2 - (prv ps i).2) (by omega) (by omega)
  unfold stX stY
  rw [e1, e2]
  exact ⟨by simp, by simpa using f1, by simp, by simpa using f2, ⟨by omega, by omega⟩, by omega, by omega⟩
set_option maxRecDepth 100000 in
set_option maxHeartbeats 4000000 in
theorem impl_PutShape (k : Int) (a : Option Addr) (cap : Nat) (ps : List (Int × Int)) (w : World) (hm : ps.length ≤ 1099511627776) (hc : ps.length ≤ cap) (h : Pts w a ps) : Calls Tryz.prog 7 #[shv k a ps.length cap] w fun e w' => e = .returned (.string (psT k ps)) ∧ Below w.heap.size w w' := by
  have HP := hid h
  have O1 := hid (fun w' (hw : Pts w' a ps) => impl_ShapeOk k a cap ps w' hm hc hw)
  have hBX : Below w.heap.size w (w.alloc (.cells #[.int .i64 k, .slice a ps.length cap] 26)) := balloc (Below.refl _ _) _
  clear h
  unfold psT
  cases hs : shok k ps
  · rw [if_neg (by simp)]
    rw [hs] at O1
    clear hs
    go_enter Tryz.func7, Tryz.ntmps7
    go_wp2_with fail
    refine (O1.out _ (HP.out.below hBX)).mono ?_
    rintro e u1 ⟨rfl, hu1⟩
    go_wp2_with fail
    go_ret
    exact ⟨rfl, btrans hBX hu1⟩
  rw [if_pos rfl]
  have hk : 0 ≤ k ∧ k ≤ 3 ∧ 0 < ps.length ∧ ps.length ≤ 60 := by rcases shok_kind hs with h | h | h | h <;> omega
  obtain ⟨hk0, hk1, hn0, hn6⟩ := hk
  have HF := hid (fun i => fold_at (shok_allok hs) i)
  have HI := hid (fun i => allok_in (shok_allok hs) i)
  have SF := hid (shl_first k ps hk0 hk1)
  have SN := hid (fun i => shl_next k ps i)
  have SL := hid (fun i => shl_len k ps i)
  have PSn := put_size ps.length
  rw [hs] at O1
  clear hs
  have q0 : (w.alloc (.cells #[.int .i64 k, .slice a ps.length cap] 26)).cell? ⟨w.heap.size, 0, none⟩ = some (.int .i64 k) := newcell _ _ _ _ _ _ rfl rfl
  have q1 : (w.alloc (.cells #[.int .i64 k, .slice a ps.length cap] 26)).cell? ⟨w.heap.size, 1, none⟩ = some (.slice a ps.length cap) := newcell _ _ _ _ _ _ rfl rfl
  go_enter Tryz.func7, Tryz.ntmps7
  go_wp2_with fail
  refine (O1.out _ (HP.out.below hBX)).mono ?_
  rintro e u1 ⟨rfl, hu1⟩
  replace q0 := keepcell hu1 q0
  replace q1 := keepcell hu1 q1
  replace hBX := btrans hBX hu1
  have hlt1 : w.heap.size < u1.heap.size := World.block_lt_of_cell? u1 _ q0
  clear hu1
  have qa0 := keepalloc q0 (.cells #[.pointer none, .slice none 0 0] 49)
  have qa1 := keepalloc q1 (.cells #[.pointer none, .slice none 0 0] 49)
  have hcv : k % 256 = k := by omega
  have hIB : Lib.IsBuilder 49 5 u1.heap.size u1.heap.size [] (u1.alloc (.cells #[.pointer none, .slice none 0 0] 49)) := .inl ⟨Nat.le_refl _, .slice none 0 0, new_alloc _ _ _ rfl, ⟨by simp, .inl ⟨rfl, rfl⟩⟩, by simp [Value.ownBlock]⟩
  have HIB := hid hIB
  clear hIB
  have hsa : (u1.alloc (.cells #[.pointer none, .slice none 0 0] 49)).heap.size = u1.heap.size + 1 := by simp
  have hBA := balloc hBX (.cells #[.pointer none, .slice none 0 0] 49)
  go_wp2_with fail
  generalize u1.alloc (.cells #[.pointer none, .slice none 0 0] 49) = V at *
  generalize u1.heap.size = b at *
  clear q0 q1 hBX
  refine (write_byte b b [] k V HIB.out (by simp) (by omega)).mono ?_
  rintro e v1 ⟨rfl, hba, hb1, hkb1⟩
  have BA1 : Hid (BA b b ([] ++ [.int .u8 k]) v1) := hid hba
  have r1 : v1.cell? ⟨w.heap.size, 1, none⟩ = some (.slice a ps.length cap) := (hb1.cell (p := ⟨w.heap.size, 1, none⟩) (by dsimp only; omega)).trans qa1
  have hB1 : Below w.heap.size w v1 := hBA.trans (hb1.mono (by omega))
  have hz1 := hb1.size
  clear hba hb1 hkb1 qa0 qa1 HIB hBA
  go_wp2_with fail
  refine (impl_put ps.length (by omega) _).mono ?_
  rintro e v2 ⟨rfl, hb2⟩
  replace BA1 : Hid (BA b b ([] ++ [.int .u8 k]) v2) := hid (BA1.out.below hb2)
  replace r1 := keepcell hb2 r1
  replace hB1 := btrans hB1 hb2
  have hz2 := hb2.size
  clear hb2
  go_wp2_with fail
  refine (write_string b b _ _ v2 (.inr BA1.out) (by simp) PSn.1 (by omega) (by omega)).mono ?_
  rintro e v3 ⟨rfl, hba, hb3, hkb3⟩
  rw [← SF.out] at hba
  have BA3 : Hid (BA b b (Lib.byteCells (shl k ps 0)) v3) := hid hba
  replace r1 : v3.cell? ⟨w.heap.size, 1, none⟩ = some (.slice a ps.length cap) := (hb3.cell (p := ⟨w.heap.size, 1, none⟩) (by dsimp only; omega)).trans r1
  replace hB1 : Below w.heap.size w v3 := hB1.trans (hb3.mono (by omega))
  have hz3 := hb3.size
  clear hba hb3 hkb3 BA1
  have ra := keepalloc r1 (.cells #[.int .i64 0, .int .i64 0] 44)
  have A4 : (v3.alloc (.cells #[.int .i64 0, .int .i64 0] 44)).heap[v3.heap.size]? = some (.cells #[.int .i64 0, .int .i64 0] 44 (0, 0)) := new_alloc _ _ _ rfl
  have BA4 : Hid (BA b b (Lib.byteCells (shl k ps 0)) (v3.alloc (.cells #[.int .i64 0, .int .i64 0] 44))) := hid (BA3.out.below (balloc (Below.refl _ _) _))
  have hB4 := balloc hB1 (.cells #[.int .i64 0, .int .i64 0] 44)
  have hlb : b < v3.heap.size := BA3.out.lt
  have hsz4 : (v3.alloc (.cells #[.int .i64 0, .int .i64 0] 44)).heap.size = v3.heap.size + 1 := by simp
  have HA4 := hid A4
  clear BA3 hB1 A4
  go_wp2_with fail
  generalize v3.alloc (.cells #[.int .i64 0, .int .i64 0] 44) = U at *
  generalize v3.heap.size = p4 at *
  go_loopw [24] (fun ti wr => ∃ i : Nat, ti = .int .i64 i ∧ i ≤ ps.length ∧ Hid (Below w.heap.size w wr) ∧ Hid (wr.heap[p4]? = some (.cells #[.int .i64 (prv ps i).1, .int .i64 (prv ps i).2] 44 (0, 0))) ∧ Hid (BA b b (Lib.byteCells (shl k ps i)) wr) ∧ Hid (b ≤ wr.heap.size)) (fun ti _ => ps.length - (intOf ti).toNat)
  case atStart => exact ⟨0, rfl, Nat.zero_le _, hid hB4, HA4, BA4, hid (by omega)⟩
  case round =>
    clear ra HA4 BA4 hB4 r1
    obtain ⟨i, rfl, hi, HB, P4, BI, HZ⟩ := hrel
    by_cases hlt : i < ps.length
    · have c1 : (i : Int) < (ps.length : Int) := by omega
      obtain ⟨bb, off, rfl, hbs, hp⟩ : ∃ b off, a = some ⟨b, off, none⟩ ∧ b < w.heap.size ∧ PtsAt w b off ps := by
        rcases HP.out with h | h
        · rw [h] at hlt; simp at hlt
        · exact h
      obtain ⟨d0, d1⟩ := hp.below hbs HB.out i hlt
      obtain ⟨e1, f1, e2, f2, g1, g2⟩ := HF.out i hlt
      obtain ⟨i1, i2⟩ := HI.out i hlt
      have hsn := SN.out i
      have hsl := SL.out i
      have hpn : prv ps (i + 1) = ((ps.getD i (0, 0)).1, (ps.getD i (0, 0)).2) := rfl
      have s1 := put_size (stX ps i)
      have s2 := put_size (stY ps i)
      have HSN := hid hsn
      have HPN := hid hpn
      clear hp hsn hpn
      generalize (ps.getD i (0, 0)).1 = x at *
      generalize (ps.getD i (0, 0)).2 = y at *
      generalize (prv ps i).1 = px at *
      generalize (prv ps i).2 = py at *
      generalize stX ps i = n1 at *
      generalize stY ps i = n2 at *
      have E1 := hid e1
      have E2 := hid e2
      obtain ⟨s1a, s1b⟩ := s1
      obtain ⟨s2a, s2b⟩ := s2
      obtain ⟨j1, j2, _, _⟩ := cell2g (old_alloc (o' := .cells #[.int .i64 x, .int .i64 y] 44) P4.out)
      have hd1 : -200000 ≤ x - px ∧ x - px ≤ 200000 := by unfold In at *; omega
      have hd2 : -200000 ≤ y - py ∧ y - py ≤ 200000 := by unfold In at *; omega
      have hlp4 : p4 < wr.heap.size := lt_of_block P4.out
      clear e1 e2
      go_wp2_with fail
      refine (impl_minus x y px py i1 i2 g1 g2 _).mono ?_
      rintro e y1 ⟨rfl, hy1⟩
      have K6 : y1.heap[wr.heap.size]? = some (.cells #[.int .i64 x, .int .i64 y] 44 (0, 0)) := keepheap2 hy1 (new_alloc _ _ _ rfl)
      have K4 := keepheap2 hy1 (old_alloc (o' := .cells #[.int .i64 x, .int .i64 y] 44) P4.out)
      have B1' : BA b b (Lib.byteCells (shl k ps i)) y1 := BI.out.below (btrans (balloc (Below.refl _ _) _) hy1)
      have hBy := btrans (balloc HB.out (.cells #[.int .i64 x, .int .i64 y] 44)) hy1
      have hzy := hy1.size
      have hl6 : wr.heap.size < y1.heap.size := lt_of_block K6
      have hlb1 : b < y1.heap.size := B1'.lt
      -- the step's block
      have K7 : (y1.alloc (.cells #[.int .i64 (x - px), .int .i64 (y - py)] 44)).heap[y1.heap.size]? = some (.cells #[.int .i64 (x - px), .int .i64 (y - py)] 44 (0, 0)) := new_alloc _ _ _ rfl
      replace K6 := old_alloc (o' := .cells #[.int .i64 (x - px), .int .i64 (y - py)] 44) K6
      replace K4 := old_alloc (o' := .cells #[.int .i64 (x - px), .int .i64 (y - py)] 44) K4
      replace B1' : BA b b (Lib.byteCells (shl k ps i)) (y1.alloc (.cells #[.int .i64 (x - px), .int .i64 (y - py)] 44)) := B1'.below (balloc (Below.refl _ _) _)
      replace hBy := balloc hBy (.cells #[.int .i64 (x - px), .int .i64 (y - py)] 44)
      have hsz1 : (y1.alloc (.cells #[.int .i64 (x - px), .int .i64 (y - py)] 44)).heap.size = y1.heap.size + 1 := by simp
      have HK6 := hid K6
      have HK4 := hid K4
      have HK7 := hid K7
      have HB1 := hid B1'
      clear K6 K4 K7 B1' P4 BI HB hy1 j1 j2
      go_wp2_with fail
      generalize y1.alloc (.cells #[.int .i64 (x - px), .int .i64 (y - py)] 44) = Y at *
      generalize y1.heap.size = p7 at *
      generalize wr.heap.size = p6 at *
      refine (impl_fold (x - px) hd1.1 hd1.2 _).mono ?_
      rintro e yz ⟨rfl, hw⟩
      replace hw := hw.symm
      subst hw
      rw [E1.out]
      go_wp2_with fail
      refine (impl_put n1 f1 _).mono ?_
      rintro e y2 ⟨rfl, hy2⟩
      replace HK6 := hid (keepheap2 hy2 HK6.out)
      replace HK4 := hid (keepheap2 hy2 HK4.out)
      replace HK7 := hid (keepheap2 hy2 HK7.out)
      replace HB1 : Hid (BA b b (Lib.byteCells (shl k ps i)) y2) := hid (HB1.out.below hy2)
      replace hBy := btrans hBy hy2
      have hzy2 := hy2.size
      clear hy2
      go_wp2_with fail
      refine (write_string b b _ _ y2 (.inr HB1.out) (by rw [Lib.byteCells_length]; omega) s1a (by omega) (by omega)).mono ?_
      rintro e y3 ⟨rfl, hba, hb3, hkb3⟩
      replace HK6 := hid (hkb3 _ _ _ _ (by omega) (by decide) HK6.out)
      replace HK4 := hid (hkb3 _ _ _ _ (by omega) (by decide) HK4.out)
      replace HK7 := hid (hkb3 _ _ _ _ (by omega) (by decide) HK7.out)
      have HB3 : Hid (BA b b (Lib.byteCells (shl k ps i) ++ Lib.strCells (strOfNums (G 5 n1))) y3) := hid hba
      replace hBy : Below w.heap.size w y3 := hBy.trans (hb3.mono (by omega))
      have hzy3 := hb3.size
      obtain ⟨m0, m1, _, _⟩ := cell2g HK7.out
      clear hba hb3 hkb3 HB1
      go_wp2_with fail
      refine (impl_fold (y - py) hd2.1 hd2.2 _).mono ?_
      rintro e yz ⟨rfl, hw⟩
      replace hw := hw.symm
      subst hw
      rw [E2.out]
      go_wp2_with fail
      refine (impl_put n2 f2 _).mono ?_
      rintro e y4 ⟨rfl, hy4⟩
      replace HK6 := hid (keepheap2 hy4 HK6.out)
      replace HK4 := hid (keepheap2 hy4 HK4.out)
      replace HB3 : Hid (BA b b (Lib.byteCells (shl k ps i) ++ Lib.strCells (strOfNums (G 5 n1))) y4) := hid (HB3.out.below hy4)
      replace hBy := btrans hBy hy4
      have hzy4 := hy4.size
      clear hy4 m0 m1
      go_wp2_with fail
      refine (write_string b b _ _ y4 (.inr HB3.out) (by rw [List.length_append, Lib.byteCells_length, Lib.strCells_length]; omega) s2a (by omega) (by omega)).mono ?_
      rintro e y5 ⟨rfl, hba, hb5, hkb5⟩
      rw [← HSN.out] at hba
      replace HK6 := hid (hkb5 _ _ _ _ (by omega) (by decide) HK6.out)
      replace HK4 := hid (hkb5 _ _ _ _ (by omega) (by decide) HK4.out)
      have HB5 : Hid (BA b b (Lib.byteCells (shl k ps (i + 1))) y5) := hid hba
      replace hBy : Below w.heap.size w y5 := hBy.trans (hb5.mono (by omega))
      have hzy5 := hb5.size
      obtain ⟨m0, m1, _, _⟩ := cell2g HK6.out
      obtain ⟨o0, o1, of0, of1⟩ := cell2g HK4.out
      clear hba hb5 hkb5 HB3
      go_wp2_with fail
      have gF := (set2 HK4.out (.int .i64 x) (.int .i64 y)).1
      have bF := BA.set (k := 1) (BA.set (k := 0) HB5.out HK4.out (by omega) (by decide) (.int .i64 x)) (set_at HK4.out) (by omega) (by decide) (.int .i64 y)
      have wF := bset (bset hBy (q := p4) (k := 0) (by omega) (.int .i64 x)) (q := p4) (k := 1) (by omega) (.int .i64 y)
      have sF : b ≤ ((y5.setCell ⟨p4, 0, none⟩ (.int .i64 x)).setCell ⟨p4, 1, none⟩ (.int .i64 y)).heap.size := by simp; omega
      go_roundw
      case rel => exact ⟨i + 1, by go_num, by omega, hid wF, hid (by rw [HPN.out]; exact gF), hid bF, hid sF⟩
      case measure => simp [intOf]; omega
    · obtain rfl : i = ps.length := by omega
      have hBW := HB.out
      have hz := HZ.out
      clear HB HZ P4
      go_wp2_with fail
      refine (Tryz.Builder_String_any b b (shl k ps ps.length) _ (.inr BI.out) hz).mono ?_
      rintro e y9 ⟨rfl, hy9⟩
      go_wp2_with fail
      go_ret
      exact ⟨rfl, hBW.trans (hy9.mono (by omega))⟩
end Go.Proofs.YtjafahhoihlliaaGreatDoor
