/- Texts of stores, joined: Words, Words2. -/
import Derived.Test.YtenlhgnobfadgaaGreatDoorJ2
import Derived.Test.YtenlhgnobfadgaaGreatDoorJ3
set_option linter.unusedSimpArgs false
set_option linter.unusedVariables false
namespace Go.Proofs.YtenlhgnobfadgaaGreatDoor
open Go.RowKit
theorem Tryz.info9 : (Tryz.prog.info? 9).map (fun i => (i.zero, i.size, i.bytes)) = some (some (.string ByteArray.empty), 1, 16) := by kernel_rfl
theorem rest_end (s : ByteArray) (a i f : Nat) (h : f = 0) : rest s f a i = [s.extract a s.size] := by subst h; rfl
theorem rest_hit (s : ByteArray) (a i f f' : Nat) (hf : f = f' + 1) (h : by8 s i = 32) : rest s f a i = s.extract a i :: rest s f' (i + 1) (i + 1) := by subst hf; simp only [rest]; rw [if_pos h]
theorem rest_miss (s : ByteArray) (a i f f' : Nat) (hf : f = f' + 1) (h : ¬ by8 s i = 32) : rest s f a i = rest s f' a (i + 1) := by subst hf; simp only [rest]; rw [if_neg h]
theorem own_growW {w w0 w1 : World} {B : Nat} {v : Value} {n : Nat} {xs : List Value} {o : Obj} (hown : w0.ownsRow B 9 1 v n xs) (hb : Below B w w0) (hB : B ≤ w0.heap.size) (hg : (w0.alloc o).grownBy w1 v.ownBlock) : Below B w w1 :=
  (hb.alloc hB o).grown hg (by simp; omega) (fun k hk => (hown.lt k hk).1)
theorem texts_of {w : World} {B : Nat} {v : Value} {l : List ByteArray} (h : w.ownsRow B 9 1 v l.length (l.map Value.string)) (h0 : 0 < l.length) : ∃ g cap, v = .slice (some ⟨g, 0, none⟩) l.length cap ∧ B ≤ g ∧ Texts w g cap l := by
  have h' := h
  rcases h.2 with ⟨_, hn⟩ | ⟨g, cap, cur, rfl, hb, r⟩
  · omega
  · exact ⟨g, cap, rfl, hb, h.1, .inr ⟨g, cap, cur, rfl, Nat.zero_le _, r⟩⟩
set_option maxRecDepth 100000 in
set_option maxHeartbeats 2000000 in
theorem spec_words (s : ByteArray) (hs : s.size ≤ 1048576) (w : World) : Calls Tryz.prog 18 #[.string s] w fun e w' => ∃ g cap, e = .returned (.slice (some ⟨g, 0, none⟩) (rest s s.size 0 0).length cap) ∧ w.heap.size ≤ g ∧ Texts w' g cap (rest s s.size 0 0) ∧ Below w.heap.size w w' := by
  obtain ⟨i0, hi0, hz0, hz1, hz2⟩ := info_parts Tryz.info9
  obtain ⟨R, hR⟩ : ∃ R, R = rest s s.size 0 0 := ⟨_, rfl⟩
  rw [← hR]
  have HR := hidd hR
  clear hR
  go_enter Tryz.func18, Tryz.ntmps18
  go_wp2
  go_loopw [3, 4, 5] (fun v tf ti wr => ∃ a i : Nat, ∃ done : List ByteArray, tf = .int .i64 a ∧ ti = .int .i64 i ∧ a ≤ i ∧ i ≤ s.size ∧ done.length ≤ i ∧ wr.ownsRow w.heap.size 9 1 v done.length (done.map Value.string) ∧ Below w.heap.size w wr ∧ Hid (R = done ++ rest s (s.size - i) a i)) (fun _ _ ti _ => s.size - (intOf ti).toNat)
  case atStart => exact ⟨0, 0, [], rfl, rfl, Nat.le_refl _, Nat.zero_le _, Nat.le_refl _, World.ownsRow_made _ _ _ (Nat.le_refl _) (by decide) rfl, (Below.refl _ _).alloc (Nat.le_refl _) _, HR⟩
  case round =>
    obtain ⟨a, i, done, rfl, rfl, ha, hi, hdl, hown, hb, H⟩ := hrel
    have hsz := hb.size
    have r0 : 0 ≤ (a : Int) := by omega
    by_cases hlt : i < s.size
    · have c1 : (i : Int) < (s.size : Int) := by omega
      have e8 := by8_at s i hlt
      by_cases h32 : (s[i]'hlt).toNat = 32
      · have z1 : (((s[i]'hlt).toNat : Int) == 32) = true := by rw [beq_iff_eq]; omega
        have hnx : R = (done ++ [s.extract a i]) ++ rest s (s.size - (i + 1)) (i + 1) (i + 1) := by
          rw [H.out, rest_hit s a i (s.size - i) (s.size - (i + 1)) (by omega) (by omega)]; simp
        have Hn := hidd hnx
        clear hnx H e8 h32
        have r1 : 0 ≤ (i : Int) := by omega
        have r2 : (i : Int) ≤ (s.size : Int) := by omega
        have r3 : (a : Int) ≤ (i : Int) := by omega
        go_wp2_with (at_builtin; refine wpList_append_own _ rfl (.tmp 17) (.tmp 22) 41 rfl w.heap.size 9 i0 (.string ByteArray.empty) 1 16 Tryz.underlying41 hi0 hz0 hz1 hz2 rfl (by decide) _ _ _ rfl (hown.alloc _) ⟨wr.heap.size, 0, none⟩ 1 1 [.string (s.extract a i)] rfl rfl (cell_one_new _ _ _) (by simp [Value.oneCell']) (by unfold maxLen; omega) (by omega) (by simp; omega) ?_; intro v' w1 hown' hgrow _; have hb1 := own_growW hown hb hsz hgrow)
        go_roundw
        case rel => exact ⟨i + 1, i + 1, done ++ [s.extract a i], by go_num, by go_num, by omega, by omega, by simp; omega, by simpa using hown', hb1, Hn⟩
        case measure => simp [intOf]; omega
      · have z1 : (((s[i]'hlt).toNat : Int) == 32) = false := by rw [beq_eq_false_iff_ne]; omega
        have hnx : R = done ++ rest s (s.size - (i + 1)) a (i + 1) := by
          rw [H.out, rest_miss s a i (s.size - i) (s.size - (i + 1)) (by omega) (by omega)]
        have Hn := hidd hnx
        clear hnx H e8 h32
        go_wp2_with fail
        go_roundw
        case rel => exact ⟨a, i + 1, done, by go_num, by go_num, by omega, by omega, by omega, hown, hb, Hn⟩
        case measure => simp [intOf]; omega
    · have c1 : (s.size : Int) ≤ (i : Int) := by omega
      have hfin : R = done ++ [s.extract a s.size] := by rw [H.out, rest_end s a i _ (by omega)]
      have Hf := hidd hfin
      clear hfin H
      have r2 : (a : Int) ≤ (s.size : Int) := by omega
      go_wp2_with (at_builtin; refine wpList_append_own _ rfl (.tmp 26) (.tmp 30) 41 rfl w.heap.size 9 i0 (.string ByteArray.empty) 1 16 Tryz.underlying41 hi0 hz0 hz1 hz2 rfl (by decide) _ _ _ rfl (hown.alloc _) ⟨wr.heap.size, 0, none⟩ 1 1 [.string (s.extract a s.size)] rfl rfl (cell_one_new _ _ _) (by simp [Value.oneCell']) (by unfold maxLen; omega) (by omega) (by simp; omega) ?_; intro v' w1 hown' hgrow _; have hb1 := own_growW hown hb hsz hgrow)
      go_ret
      have hl : R.length = done.length + 1 := by rw [Hf.out]; simp
      have hT := texts_of (l := R) (B := w.heap.size) (w := w1) (v := v') (by rw [hl, Hf.out]; simpa using hown') (by omega)
      obtain ⟨g, cap, rfl, hBg, hT⟩ := hT
      exact ⟨g, cap, rfl, hBg, hT, hb1⟩
end Go.Proofs.YtenlhgnobfadgaaGreatDoor
namespace Go.Proofs.YtenlhgnobfadgaaGreatDoor
open Go.RowKit
def CloneAll : Prop := ∀ (x : ByteArray) (w1 : World), x.size ≤ 281474976710656 → Calls Tryz.prog 194 #[.string x] w1 fun e w' => e = .returned (.string x) ∧ Below w1.heap.size w1 w'
def SplitAt (s : ByteArray) (w : World) : Prop := Calls Tryz.prog 178 #[.string s, .string ⟨#[32]⟩] w fun e w' => e = .returned (.slice (some ⟨w.heap.size, 0, none⟩) (rest s s.size 0 0).length (rest s s.size 0 0).length) ∧ w' = w.alloc (.cells ((rest s s.size 0 0).map Value.string).toArray 9)
theorem rest_len (s : ByteArray) : ∀ (f a i : Nat), 0 < (rest s f a i).length ∧ (rest s f a i).length ≤ f + 1
  | 0, a, i => by simp [rest]
  | f + 1, a, i => by
    have h1 := rest_len s f (i + 1) (i + 1)
    have h2 := rest_len s f a (i + 1)
    simp only [rest]
    split
    · simp only [List.length_cons]; omega
    · omega
theorem rest_size (s : ByteArray) : ∀ (f a i : Nat), ∀ x ∈ rest s f a i, x.size ≤ s.size
  | 0, a, i, x, h => by simp [rest] at h; subst h; simp
  | f + 1, a, i, x, h => by
    simp only [rest] at h
    split at h
    · rcases List.mem_cons.1 h with rfl | h
      · simp; omega
      · exact rest_size s f _ _ x h
    · exact rest_size s f _ _ x h
theorem texts_new (w : World) (l : List ByteArray) (hm : l.length ≤ maxLen) : Texts (w.alloc (.cells (l.map Value.string).toArray 9)) w.heap.size l.length l := by
  have := World.ownsRow_lit (base := 0) (e := 9) (size := 1) w (l.map Value.string).toArray l.length (Nat.zero_le _) hm (by simp)
  simpa [Texts] using this
theorem set_same (l : List ByteArray) (i : Nat) (h : i < l.length) : l.set i l[i] = l := by
  apply List.ext_getElem?
  intro j
  by_cases e : j = i
  · subst e; rw [List.getElem?_set_self h, List.getElem?_eq_getElem h]
  · rw [List.getElem?_set_ne (fun h => e h.symm)]
set_option maxRecDepth 100000 in
set_option maxHeartbeats 2000000 in
theorem impl_words (s : ByteArray) (hs : s.size ≤ 1048576) (w : World) (hS : SplitAt s w) (hC : CloneAll) : Calls Tryz.prog 137 #[.string s] w fun e w' => ∃ g, e = .returned (.slice (some ⟨g, 0, none⟩) (rest s s.size 0 0).length (rest s s.size 0 0).length) ∧ w.heap.size ≤ g ∧ Texts w' g (rest s s.size 0 0).length (rest s s.size 0 0) ∧ Below w.heap.size w w' := by
  have hl := rest_len s s.size 0 0
  have hx := rest_size s s.size 0 0
  unfold SplitAt at hS
  generalize rest s s.size 0 0 = R at hS hl hx ⊢
  obtain ⟨n, hn⟩ : ∃ n, n = R.length := ⟨_, rfl⟩
  rw [← hn] at hS hl ⊢
  have HN := hidd hn
  have HX := hidd hx
  have HS := hidd hS
  clear hn hx hS
  obtain ⟨hl0, hl1⟩ := hl
  go_enter Tryz.func137, Tryz.ntmps137
  go_wp2_with fail
  refine HS.out.mono ?_
  rintro e w1 ⟨rfl, rfl⟩
  have hT0 : Texts (w.alloc (.cells (R.map Value.string).toArray 9)) w.heap.size n R := by
    have := texts_new w R (by unfold maxLen; have := HN.out; omega)
    rw [← HN.out] at this; exact this
  have hb0 : Below w.heap.size w (w.alloc (.cells (R.map Value.string).toArray 9)) := (Below.refl _ _).alloc (Nat.le_refl _) _
  generalize w.alloc (.cells (R.map Value.string).toArray 9) = w1 at hT0 hb0 ⊢
  clear HS
  go_wp2_with fail
  go_loopw [10] (fun ti wr => ∃ i : Nat, ti = .int .i64 i ∧ i ≤ n ∧ Texts wr w.heap.size n R ∧ Below w.heap.size w wr) (fun ti _ => n - (intOf ti).toNat)
  case atStart => exact ⟨0, rfl, Nat.zero_le _, hT0, hb0⟩
  case round =>
    obtain ⟨i, rfl, hi, hT, hb⟩ := hrel
    by_cases hlt : i < n
    · have c1 : (i : Int) < (n : Int) := by omega
      have hlt' : i < R.length := by have := HN.out; omega
      have hc := hT.cell i hlt'
      have hxs : (R[i]'hlt').size ≤ 281474976710656 := by have := HX.out (R[i]'hlt') (List.getElem_mem hlt'); omega
      have hst := set_same R i hlt'
      generalize R[i]'hlt' = x at hc hxs hst
      have Hst := hidd hst
      clear hst
      go_wp2_with (go_at_call 179; go_in)
      refine (hC x _ hxs).mono ?_
      rintro e w2 ⟨rfl, hb2⟩
      have hT2 := hT.kept (grown_all hb2 none) (by simp)
      replace hb := hb.trans (hb2.mono hb.size)
      clear hT hb2 hc
      have hc2 := hT2.cell i hlt'
      have hf2 := hT2.frozen i
      go_wp2_with fail
      go_roundw
      case rel =>
        have h3 := hT2.store i x
        rw [Hst.out] at h3
        exact ⟨i + 1, by go_num, by omega, h3.1, hb.grown h3.2 hb.size (fun k hk => by simp at hk; omega)⟩
      case measure => simp [intOf]; omega
    · have c1 : (n : Int) ≤ (i : Int) := by omega
      go_wp2_with fail
      go_ret
      exact ⟨w.heap.size, rfl, Nat.le_refl _, hT, hb⟩
end Go.Proofs.YtenlhgnobfadgaaGreatDoor
