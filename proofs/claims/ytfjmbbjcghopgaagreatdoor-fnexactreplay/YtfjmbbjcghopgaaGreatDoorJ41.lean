/- Texts of stores, joined: La, Lb, Lc, Ld, Le. -/
import Derived.Test.YtfjmbbjcghopgaaGreatDoorJ40
import Derived.Lib.ConvBytes
import Derived.Deep.AppendLies
import Derived.Deep.RegionHeld3
import Derived.Laws.BytesArg
namespace Go.Proofs.YtfjmbbjcghopgaaGreatDoor
open Go.RowKit
set_option linter.unusedSimpArgs false
set_option linter.unusedVariables false
theorem sum_lt (s : ByteArray) : sum s < 4294967296 := by
  have := cs_lt s s.size
  unfold sum
  omega
/-- The four bytes of a sum, the highest first. -/
def wdL (n : Nat) : List Int := [(n : Int) / 16777216, (n : Int) / 65536 % 256, (n : Int) / 256 % 256, (n : Int) % 256]
theorem conv4 (w : World) (z0 z1 z2 z3 : Int) : (convert 58 9 (.slice (some ⟨w.heap.size, 0, none⟩) 4 4)).run Tryz.prog (w.alloc (.cells #[.int .u8 z0, .int .u8 z1, .int .u8 z2, .int .u8 z3] 5)) = .ok (.string (strOfNums [z0, z1, z2, z3])) (w.alloc (.cells #[.int .u8 z0, .int .u8 z1, .int .u8 z2, .int .u8 z3] 5)) := by
  refine run_convert_bytes_arg _ 58 5 Tryz.underlying58 Tryz.underlying5 w.heap.size 0 4 4 [z0, z1, z2, z3] rfl (fun i hi => ?_) 9 Tryz.underlying9
  have hi' : i = 0 ∨ i = 1 ∨ i = 2 ∨ i = 3 := by omega
  rcases hi' with rfl | rfl | rfl | rfl <;> exact newcell _ _ _ _ _ _ rfl rfl
set_option maxRecDepth 100000 in
set_option maxHeartbeats 1000000 in
theorem spec_word (n : Nat) (h : n < 4294967296) (w : World) : Calls Tryz.prog 19 #[.int .u32 n] w fun e w' => e = .returned (.string (strOfNums (wdL n))) ∧ Below w.heap.size w w' := by
  have hcv := conv4 w ((n : Int) / 16777216) ((n : Int) / 65536 % 256) ((n : Int) / 256 % 256) ((n : Int) % 256)
  rw [show strOfNums [(n : Int) / 16777216, (n : Int) / 65536 % 256, (n : Int) / 256 % 256, (n : Int) % 256] = strOfNums (wdL n) from rfl] at hcv
  go_enter Tryz.func19, Tryz.ntmps19
  go_wp2_with fail
  go_ret
  exact ⟨rfl, balloc (Below.refl _ _) _⟩
set_option maxRecDepth 100000 in
set_option maxHeartbeats 1000000 in
theorem impl_word (s : ByteArray) (hs : s.size ≤ maxLen) (w : World) : Calls Tryz.prog 40 #[.string s] w fun e w' => e = .returned (.string (strOfNums (wdL (sum s)))) ∧ Below w.heap.size w w' := by
  have HS := hid (impl_sum s hs w)
  have h := sum_lt s
  generalize sum s = n at *
  have hcv := conv4 w ((n : Int) / 16777216) ((n : Int) / 65536 % 256) ((n : Int) / 256 % 256) ((n : Int) % 256)
  rw [show strOfNums [(n : Int) / 16777216, (n : Int) / 65536 % 256, (n : Int) / 256 % 256, (n : Int) % 256] = strOfNums (wdL n) from rfl] at hcv
  go_enter Tryz.func40, Tryz.ntmps40
  go_wp2_with fail
  refine HS.out.mono ?_
  rintro e z ⟨rfl, hz⟩
  replace hz := hz.symm
  subst hz
  go_wp2_with fail
  go_ret
  exact ⟨rfl, balloc (Below.refl _ _) _⟩
theorem gcS_S2 {s : ByteArray} {cs : List Ch} (h : gcS s = some cs) : chS cs ∧ cs.length ≤ 100 := by
  have := gcS_S s
  rw [h] at this
  exact this
theorem ext_size (s : ByteArray) (a b : Nat) (hb : b ≤ s.size) : (s.extract a b).size = b - a := by
  have e : (s.extract a b).size = (s.extract a b).data.toList.length := by rw [Array.length_toList]; rfl
  have e2 : s.data.toList.length = s.size := Array.length_toList
  rw [e, Lib.extract_data, List.length_take, List.length_drop, e2]
  omega
theorem ext_by8 (s : ByteArray) (a b k : Nat) (hb : b ≤ s.size) (h : a + k < b) : by8 (s.extract a b) k = by8 s (a + k) := by
  have h1 := byte_at s (a + k) (by omega)
  rw [by8_of (s.extract a b) k (s[a + k]'(by omega)) (by rw [Lib.extract_data, List.getElem?_take, if_pos (by omega), List.getElem?_drop]; exact h1)]
  exact by8_at s (a + k) (by omega)
theorem acc_sub (s : ByteArray) (e b : Nat) (hb : b ≤ s.size) : ∀ j, e + 4 + j ≤ b → acc (s.extract e b) 4 j = acc s (e + 4) j
  | 0, _ => rfl
  | j + 1, h => by
    simp only [acc]
    rw [acc_sub s e b hb j (by omega), ext_by8 s e b (4 + j) hb (by omega), show e + (4 + j) = e + 4 + j by omega]
theorem gn_sub (s : ByteArray) (e b : Nat) (hb : b ≤ s.size) (h9 : b = e + 9 ∨ (b = s.size ∧ s.size ≤ e + 9)) (he : e ≤ b) : ∀ f j, j + f ≤ 5 → gn (s.extract e b) 4 f j = (gn s (e + 4) f j).map (fun r => (r.1, r.2 - e))
  | 0, j, _ => rfl
  | f + 1, j, h => by
    have hsz := ext_size s e b hb
    have ih := gn_sub s e b hb h9 he f (j + 1) (by omega)
    simp only [gn]
    by_cases hin : e + 4 + j < s.size
    · have hin2 : e + 4 + j < b := by omega
      rw [if_pos hin, if_pos (by omega), ext_by8 s e b (4 + j) hb (by omega), show e + (4 + j) = e + 4 + j by omega, acc_sub s e b hb (j + 1) (by omega), ih]
      by_cases h1 : by8 s (e + 4 + j) < 128
      · rw [if_pos h1, if_pos h1]
        by_cases h2 : (by8 s (e + 4 + j) = 0 ∧ 0 < j) ∨ 4000000000 < acc s (e + 4) (j + 1)
        · rw [if_pos h2, if_pos h2]; rfl
        · rw [if_neg h2, if_neg h2]
          simp only [Option.map_some, Option.some.injEq, Prod.mk.injEq, true_and]
          omega
      · rw [if_neg h1, if_neg h1]
    · rw [if_neg hin, if_neg (by omega)]; rfl
theorem rd_sub (s : ByteArray) (e b : Nat) (hb : b ≤ s.size) (h9 : b = e + 9 ∨ (b = s.size ∧ s.size ≤ e + 9)) (he : e ≤ b) : rd (s.extract e b) 4 = (rd s ((e : Int) + 4)).map (fun r => (r.1, r.2 - e)) := by
  have hsz := ext_size s e b hb
  by_cases hin : e + 4 < s.size
  · have e1 : rd (s.extract e b) ((4 : Nat) : Int) = gn (s.extract e b) 4 5 0 := rd_in _ 4 (by omega)
    have e2 : rd s (((e + 4 : Nat)) : Int) = gn s (e + 4) 5 0 := rd_in s (e + 4) hin
    show rd (s.extract e b) ((4 : Nat) : Int) = (rd s ((e + 4 : Nat) : Int)).map _
    rw [e1, e2]
    exact gn_sub s e b hb h9 he 5 0 (by omega)
  · rw [rd_out _ 4 (by omega), rd_out s _ (by omega)]; rfl
theorem gn_pos (s : ByteArray) (i : Nat) : ∀ (f j n k : Nat), gn s i f j = some (n, k) → i < k
  | 0, j, n, k, h => by simp [gn] at h
  | f + 1, j, n, k, h => by
    simp only [gn] at h
    split at h
    · split at h
      · split at h
        · cases h
        · simp at h; omega
      · exact gn_pos s i f (j + 1) n k h
    · cases h
theorem rd_pos (s : ByteArray) (i n k : Nat) (h : rd s (i : Int) = some (n, k)) : i < k := by
  unfold rd at h
  split at h
  · exact gn_pos s _ 5 0 n k h
  · cases h
/-- The record that a log has at a. -/
def rc1 (s : ByteArray) (a : Nat) : Option (List Ch × Nat) :=
  match rd s ((a : Int) + 4) with
  | none => none
  | some (n, fr) =>
    if s.size < fr + n then none
    else if s.extract a (a + 4) = strOfNums (wdL (sum (s.extract fr (fr + n)))) then (gcS (s.extract fr (fr + n))).map (fun cs => (cs, fr + n)) else none
def rcs (s : ByteArray) : Nat → Nat → List (List Ch) × Nat
  | 0, a => ([], a)
  | f + 1, a =>
    match rc1 s a with
    | none => ([], a)
    | some (cs, b) => (cs :: (rcs s f b).1, (rcs s f b).2)
theorem rc1_facts {s : ByteArray} {a b : Nat} {cs : List Ch} (h : rc1 s a = some (cs, b)) : a < b ∧ b ≤ s.size := by
  unfold rc1 at h
  split at h
  · cases h
  · rename_i n fr h1
    have h2 := rd_pos s (a + 4) n fr h1
    split at h
    · cases h
    · split at h
      · rw [Option.map_eq_some_iff] at h
        obtain ⟨x, _, hx⟩ := h
        simp only [Prod.mk.injEq] at hx
        omega
      · cases h
theorem rc1_S {s : ByteArray} {a b : Nat} {cs : List Ch} (h : rc1 s a = some (cs, b)) : chS cs ∧ cs.length ≤ 100 := by
  unfold rc1 at h
  split at h
  · cases h
  · split at h
    · cases h
    · split at h
      · rw [Option.map_eq_some_iff] at h
        obtain ⟨x, hx, hx2⟩ := h
        simp only [Prod.mk.injEq] at hx2
        obtain ⟨rfl, _⟩ := hx2
        exact gcS_S2 hx
      · cases h
theorem rcs_fuel (s : ByteArray) : ∀ (f g a : Nat), s.size - a ≤ f → s.size - a ≤ g → rcs s f a = rcs s g a
  | 0, 0, a, _, _ => rfl
  | 0, g + 1, a, h, _ => by
    simp only [rcs]
    cases hr : rc1 s a with
    | none => rfl
    | some r => obtain ⟨cs, b⟩ := r; have := rc1_facts hr; omega
  | f + 1, 0, a, _, h => by
    simp only [rcs]
    cases hr : rc1 s a with
    | none => rfl
    | some r => obtain ⟨cs, b⟩ := r; have := rc1_facts hr; omega
  | f + 1, g + 1, a, h1, h2 => by
    simp only [rcs]
    cases hr : rc1 s a with
    | none => rfl
    | some r =>
      obtain ⟨cs, b⟩ := r
      have := rc1_facts hr
      simp only
      rw [rcs_fuel s f g b (by omega) (by omega)]
theorem rcs_no {s : ByteArray} {a : Nat} (h : rc1 s a = none) : rcs s s.size a = ([], a) := by
  cases hf : s.size with
  | zero => rfl
  | succ f => simp only [rcs, h]
theorem rcs_yes {s : ByteArray} {a b : Nat} {cs : List Ch} (h : rc1 s a = some (cs, b)) : rcs s s.size a = (cs :: (rcs s s.size b).1, (rcs s s.size b).2) := by
  have hb := rc1_facts h
  cases hf : s.size with
  | zero => omega
  | succ f =>
    simp only [rcs, h]
    rw [rcs_fuel s f (f + 1) b (by omega) (by omega)]
    rfl
theorem rcs_len (s : ByteArray) : ∀ (f a : Nat), (rcs s f a).1.length ≤ f ∧ (a ≤ s.size → (rcs s f a).2 ≤ s.size) ∧ ∀ x ∈ (rcs s f a).1, chS x ∧ x.length ≤ 100
  | 0, a => by simp [rcs]
  | f + 1, a => by
    simp only [rcs]
    cases hr : rc1 s a with
    | none => simp
    | some r =>
      obtain ⟨cs, b⟩ := r
      obtain ⟨h1, h2, h3⟩ := rcs_len s f b
      have hb := rc1_facts hr
      simp only [List.length_cons]
      refine ⟨by omega, fun _ => h2 (by omega), fun x hx => ?_⟩
      rcases List.mem_cons.1 hx with rfl | hx
      · exact rc1_S hr
      · exact h3 x hx
/-- What Records tells. -/
def recs (s : ByteArray) : List (List Ch) × Nat := if s.size ≤ 100000 then rcs s s.size 0 else ([], 0)
/-- What is told behind some of them. -/
def RR (s : ByteArray) (xss : List (List Ch)) (a : Nat) : Prop := rcs s s.size 0 = (xss ++ (rcs s s.size a).1, (rcs s s.size a).2)
theorem RR.zero (s : ByteArray) : RR s [] 0 := by unfold RR; simp
theorem RR.done {s : ByteArray} {xss : List (List Ch)} {a : Nat} (h : RR s xss a) (h1 : rc1 s a = none) : rcs s s.size 0 = (xss, a) := by
  unfold RR at h; rw [h, rcs_no h1]; simp
theorem RR.next {s : ByteArray} {xss : List (List Ch)} {a b : Nat} {cs : List Ch} (h : RR s xss a) (h1 : rc1 s a = some (cs, b)) : RR s (xss ++ [cs]) b := by
  unfold RR at h ⊢; rw [h, rcs_yes h1]; simp
theorem rc1_1 {s : ByteArray} {a : Nat} (h : rd s ((a : Int) + 4) = none) : rc1 s a = none := by unfold rc1; rw [h]
theorem rc1_2 {s : ByteArray} {a n fr : Nat} (h : rd s ((a : Int) + 4) = some (n, fr)) (hn : s.size < fr + n) : rc1 s a = none := by unfold rc1; rw [h]; simp only; rw [if_pos hn]
theorem rc1_3 {s : ByteArray} {a n fr : Nat} (h : rd s ((a : Int) + 4) = some (n, fr)) (hn : fr + n ≤ s.size) (hw : s.extract a (a + 4) ≠ strOfNums (wdL (sum (s.extract fr (fr + n))))) : rc1 s a = none := by unfold rc1; rw [h]; simp only; rw [if_neg (by omega), if_neg hw]
theorem rc1_4 {s : ByteArray} {a n fr : Nat} (h : rd s ((a : Int) + 4) = some (n, fr)) (hn : fr + n ≤ s.size) (hg : gcS (s.extract fr (fr + n)) = none) : rc1 s a = none := by
  unfold rc1; rw [h]; simp only; rw [if_neg (by omega)]
  split
  · rw [hg]; rfl
  · rfl
theorem rc1_5 {s : ByteArray} {a n fr : Nat} {cs : List Ch} (h : rd s ((a : Int) + 4) = some (n, fr)) (hn : fr + n ≤ s.size) (hw : s.extract a (a + 4) = strOfNums (wdL (sum (s.extract fr (fr + n))))) (hg : gcS (s.extract fr (fr + n)) = some cs) : rc1 s a = some (cs, fr + n) := by unfold rc1; rw [h]; simp only; rw [if_neg (by omega), if_pos hw, hg]; rfl
theorem rc1_short {s : ByteArray} {a : Nat} (h : s.size ≤ a + 4) : rc1 s a = none := rc1_1 (rd_out s _ (by omega))
end Go.Proofs.YtfjmbbjcghopgaaGreatDoor
namespace Go.Proofs.YtfjmbbjcghopgaaGreatDoor
open Go.RowKit
set_option linter.unusedSimpArgs false
set_option linter.unusedVariables false
/-- A list of changes as an element. -/
def KL : Kd (List Ch) where
  sz := 1
  vals := fun x v => [v]
  sub := fun lo up w v x => LC KN lo up w v x
  len := fun _ _ => rfl
  one := by
    rintro lo up w v x h u hu
    obtain ⟨a, c, e, _⟩ := h.form
    simp at hu
    subst hu
    rw [e]; rfl
  frame := fun h hb hs => h.frame hb hs
  top := fun h => h.1
/-- Lists of changes in memory, as they are read. -/
def CsL (w : World) (a : Option Addr) (xss : List (List Ch)) : Prop := xss = [] ∨ ∃ b o, a = some ⟨b, o, none⟩ ∧ b < w.heap.size ∧ ∀ j (h : j < xss.length), ∃ (a' : Option Addr) (cap' : Nat) (N : Nat → Prop), w.cell? ⟨b, o + j, none⟩ = some (.slice a' xss[j].length cap') ∧ Chs N 1099511627776 w a' xss[j]
theorem CsL.below {w w' : World} {a : Option Addr} {xss : List (List Ch)} (h : CsL w a xss) (H : Below w.heap.size w w') : CsL w' a xss := by
  rcases h with h | ⟨b, o, e, hb, h⟩
  · exact .inl h
  · exact .inr ⟨b, o, e, Nat.lt_of_lt_of_le hb H.size, fun j hj => by
      obtain ⟨a', cap', N, h1, h2⟩ := h j hj
      exact ⟨a', cap', N, keepcell H h1, h2.below H⟩⟩
theorem LC.csl {base hi : Nat} {w : World} {a : Option Addr} {n cap : Nat} {xss : List (List Ch)} (h : LC KL base hi w (.slice a n cap) xss) : CsL w a xss := by
  obtain ⟨h0, h⟩ := h
  rcases h with ⟨rfl, _⟩ | ⟨g, cp, ss, lo, up, e, h1, h2, h3, h4, h5, h6⟩
  · exact .inl rfl
  · cases e
    refine .inr ⟨g, 0, rfl, by omega, fun j hj => ?_⟩
    obtain ⟨⟨b1, hb⟩, a2, a3, a4⟩ := h5 j hj
    have k0 := b1 0 (by decide)
    obtain ⟨a', c', e', _⟩ := LC.form (K := KN) hb
    have hb2 : LC KN (lo j) (up j) w (ss j) xss[j] := hb
    rw [e'] at hb2
    refine ⟨a', c', _, ?_, hb2.chsN⟩
    rw [Nat.zero_add]
    have k1 : w.cell? ⟨g, j * 1 + 0, none⟩ = some (ss j) := k0
    rw [show j * 1 + 0 = j by omega] at k1
    rw [k1, e']
end Go.Proofs.YtfjmbbjcghopgaaGreatDoor
namespace Go.Proofs.YtfjmbbjcghopgaaGreatDoor
open Go.RowKit
set_option linter.unusedSimpArgs false
set_option linter.unusedVariables false
theorem Tryz.infoCL : (Tryz.prog.info? 35).map (fun i => (i.zero, i.size, i.bytes)) = some (some (.slice none 0 0), 1, 24) := by kernel_rfl
theorem wrap4 (a : Nat) (h : a ≤ 1048576) : IntKind.i64.wrap ((a : Int) + 4) = (a : Int) + 4 := by
  rw [IntKind.wrap_i64]
  omega
/-- What Records answers. -/
def GRA (w : World) (r : List (List Ch) × Nat) (e : Ending) (w' : World) : Prop :=
  ∃ a cap, e = .returned (.tuple #[.slice a r.1.length cap, .int .i64 r.2]) ∧ LC KL w.heap.size w'.heap.size w' (.slice a r.1.length cap) r.1 ∧ Below w.heap.size w w'
theorem lx_noneL (w w1 : World) (hb : w.heap.size ≤ w1.heap.size) : LX KL 35 w.heap.size (w1.alloc (.cells #[] 35)).heap.size (w1.alloc (.cells #[] 35)) (.slice (some ⟨w1.heap.size, 0, none⟩) 0 0) [] [] := by
  have := World.ownsRow_made (base := w1.heap.size) (e := 35) (size := 1) w1 #[] 0 (Nat.le_refl _) (by unfold maxLen; omega) rfl
  exact (LX.nil (hi := (w1.alloc (.cells #[] 35)).heap.size) this (fun g e => by simp [Value.ownBlock] at e; subst e; simp) (Nat.le_refl _)).mono hb (Nat.le_refl _) (Nat.le_refl _)
theorem gra_mk {w w1 : World} {r : List (List Ch) × Nat} {xss : List (List Ch)} {a : Nat} {av : Option Addr} {cv hi : Nat} (h : r = (xss, a)) (hl : LC KL w.heap.size hi w1 (.slice av xss.length cv) xss) (hb : Below w.heap.size w w1) : GRA w r (.returned (.tuple #[.slice av xss.length cv, .int .i64 a])) w1 := by
  subst h
  exact ⟨_, _, rfl, lc_up hl hl.1 (Nat.le_refl _), hb⟩
theorem RR.len {s : ByteArray} {xss : List (List Ch)} {a : Nat} (h : RR s xss a) : xss.length ≤ s.size := by
  have := (rcs_len s s.size 0).1
  unfold RR at h
  rw [h] at this
  simp at this
  omega
theorem ba_ne {a b : ByteArray} (h : a ≠ b) : (a.toList == b.toList) = false := by
  rw [beq_eq_false_iff_ne]
  intro e
  rw [ByteArray.toList_eq, ByteArray.toList_eq] at e
  exact h (ByteArray.ext (Array.ext' e))
theorem ba_eq {a b : ByteArray} (h : a = b) : (a.toList == b.toList) = true := by rw [h]; simp
theorem recs_small {s : ByteArray} (h : s.size ≤ 100000) : recs s = rcs s s.size 0 := if_pos h
theorem recs_great {s : ByteArray} (h : 100000 < s.size) : recs s = ([], 0) := if_neg (by omega)
set_option maxRecDepth 100000 in
set_option maxHeartbeats 8000000 in
theorem spec_Records (s : ByteArray) (hs : s.size ≤ 1048576) (w : World) : Calls Tryz.prog 9 #[.string s] w fun e w' => GRA w (recs s) e w' := by
  have hmx : s.size ≤ maxLen := by unfold maxLen; omega
  have HI := hid (lx_noneL w w (Nat.le_refl _))
  have HB0 := hid (balloc (Below.refl w.heap.size w) (.cells #[] 35))
  obtain ⟨i0, hi0, hz0, hz1, hz2⟩ := info_parts Tryz.infoCL
  by_cases hgr : 100000 < s.size
  · have HO := hid (recs_great hgr)
    have c0 : ¬ (s.size : Int) ≤ 100000 := by omega
    go_enter Tryz.func9, Tryz.ntmps9
    go_wp2_with fail
    go_loopw [4, 5] (fun tv ti wr => tv = .slice (some ⟨w.heap.size, 0, none⟩) 0 0 ∧ ti = .int .i64 0 ∧ wr = w.alloc (.cells #[] 35)) (fun _ _ _ => 0)
    case atStart => exact ⟨rfl, rfl, rfl⟩
    case round =>
      obtain ⟨rfl, rfl, rfl⟩ := hrel
      go_wp2_with fail
      go_ret2
      exact gra_mk HO.out HI.out.lc HB0.out
  have hsm : s.size ≤ 100000 := by omega
  have c0 : (s.size : Int) ≤ 100000 := by omega
  have HO := hid (recs_small hsm)
  clear hgr
  generalize recs s = rr at *
  go_enter Tryz.func9, Tryz.ntmps9
  go_wp2_with fail
  generalize w.alloc (.cells #[] 35) = W0 at *
  go_loopw [4, 5] (fun tv ti wr => ∃ (a : Nat) (xss : List (List Ch)) (us : List (List Ch × Value)), ti = .int .i64 a ∧ a ≤ s.size ∧ Hid (RR s xss a) ∧ Hid (LX KL 35 w.heap.size wr.heap.size wr tv xss us) ∧ Hid (Below w.heap.size w wr)) (fun _ ti _ => s.size - (intOf ti).toNat)
  case atStart => exact ⟨0, [], [], rfl, Nat.zero_le _, hid (RR.zero s), HI, HB0⟩
  case round =>
    clear HI HB0
    obtain ⟨a, xss, us, rfl, ha, HRR, HV, HB⟩ := hrel
    have hxl := HRR.out.len
    obtain ⟨av, cv, ev, hlv, hvr⟩ := HV.out.lc.form
    clear hvr
    subst ev
    have hwX := HB.out.size
    have ca : (a : Int) ≤ (s.size : Int) := by omega
    have HDN := hid (fun (h : rc1 s a = none) => HO.out.trans (HRR.out.done h))
    by_cases h4 : a + 4 < s.size
    · have c4 : (4 : Int) < (s.size : Int) - (a : Int) := by omega
      have M1 := hid (fun w => spec_rd s ((a : Int) + 4) hmx (by omega) (by omega) w)
      cases h1 : rd s ((a : Int) + 4) with
      | none =>
        rw [h1] at M1
        have HQ := hid (HDN.out (rc1_1 h1))
        clear h1 HRR HDN
        go_wp2_with fail
        refine (M1.out _).mono ?_
        rintro e y2 ⟨rfl, hB2⟩
        simp only [gnN, gnK]
        go_wp2_with fail
        go_ret2
        exact gra_mk HQ.out (HV.out.below hB2).lc (btrans HB.out hB2)
      | some r =>
        obtain ⟨n, fr⟩ := r
        rw [h1] at M1
        have hfr := rd_small s _ n fr h1
        have hpos := rd_pos s (a + 4) n fr h1
        by_cases hn : s.size < fr + n
        · have cn : (s.size : Int) - (fr : Int) < (n : Int) := by omega
          have HQ := hid (HDN.out (rc1_2 h1 hn))
          clear h1 HRR HDN
          go_wp2_with fail
          refine (M1.out _).mono ?_
          rintro e y2 ⟨rfl, hB2⟩
          simp only [gnN, gnK]
          go_wp2_with fail
          go_ret2
          exact gra_mk HQ.out (HV.out.below hB2).lc (btrans HB.out hB2)
        have hn' : fr + n ≤ s.size := by omega
        have cn : ¬ (s.size : Int) - (fr : Int) < (n : Int) := by omega
        have cn1 : (fr : Int) + (n : Int) ≤ (s.size : Int) := by omega
        have cn2 : ¬ (fr : Int) + (n : Int) < (fr : Int) := by omega
        have cn3 : (((fr : Int) + (n : Int))).toNat = fr + n := by omega
        have hbz : (s.extract fr (fr + n)).size ≤ 1048576 := by rw [ext_size s fr (fr + n) hn']; omega
        have M2 := hid (fun w => spec_GetChanges (s.extract fr (fr + n)) hbz w)
        have HC4 := hid (fun hg => HDN.out (rc1_4 h1 hn' hg))
        have HC3 := hid (fun hw => HDN.out (rc1_3 h1 hn' hw))
        have HC5 := hid (fun cs hw hg => HRR.out.next (rc1_5 (cs := cs) h1 hn' hw hg))
        have MS := hid (fun w => spec_sum (s.extract fr (fr + n)) (by unfold maxLen; omega) w)
        have MW := hid (fun w => spec_word (sum (s.extract fr (fr + n))) (sum_lt _) w)
        cases hg : gcS (s.extract fr (fr + n)) with
        | none =>
          have HQ := hid (HC4.out hg)
          rw [hg] at M2
          clear h1 HRR HDN HC3 HC4 HC5 hg MS MW
          unfold GCA at M2
          simp only [Option.getD_none, Option.isSome_none, List.length_nil] at M2
          go_wp2_with fail
          refine (M1.out _).mono ?_
          rintro e y2 ⟨rfl, hB2⟩
          simp only [gnN, gnK]
          go_wp2_with fail
          refine (M2.out _).mono ?_
          rintro e y3 ⟨ga, gc, rfl, hgl, hB3⟩
          have HV3 := hid ((HV.out.below hB2).below hB3)
          have HB3 := hid (btrans (btrans HB.out hB2) hB3)
          have HBd := hid (fun q => Go.RowKit.Below.trans HB3.out (show Below w.heap.size y3 (y3.drewN q) from ⟨rfl, rfl, rfl, Nat.le_refl _, fun _ _ => rfl⟩))
          have HVd := hid (fun q => HV3.out.below (show Below y3.heap.size y3 (y3.drewN q) from ⟨rfl, rfl, rfl, Nat.le_refl _, fun _ _ => rfl⟩))
          clear hgl hB2 hB3
          go_wp2_with fail
          go_quiet (fail)
          go_wp2_with fail
          go_ret2
          exact gra_mk HQ.out (HVd.out _).lc (HBd.out _)
        | some cs =>
          rw [hg] at M2
          unfold GCA at M2
          simp only [Option.getD_some, Option.isSome_some] at M2
          have ce1 : ((a : Int) + 4).toNat = a + 4 := by omega
          have ce2 : (a : Int) + 4 ≤ (s.size : Int) := by omega
          have ce3 : IntKind.i64.wrap ((a : Int) + 4) = (a : Int) + 4 := wrap4 a (by omega)
          have ce4 : (0 : Int) ≤ (a : Int) + 4 := by omega
          have ce5 : ¬ (s.size : Int) < (a : Int) + 4 := by omega
          have ce6 : ¬ (a : Int) + 4 < (a : Int) := by omega
          have ce7 : (a : Int) ≤ (a : Int) + 4 := by omega
          have ce8 : (0 : Int) ≤ (a : Int) := by omega
          have ce9 : a + 4 ≤ s.size := by omega
          by_cases hw : s.extract a (a + 4) = strOfNums (wdL (sum (s.extract fr (fr + n))))
          · have HRN := hid (HC5.out cs hw hg)
            have hww := ba_eq hw
            clear h1 HRR HDN HC3 HC4 HC5 hg hw
            generalize strOfNums (wdL (sum (s.extract fr (fr + n)))) = tw at *
            generalize sum (s.extract fr (fr + n)) = sm at *
            go_wp2_with fail
            refine (M1.out _).mono ?_
            rintro e y2 ⟨rfl, hB2⟩
            simp only [gnN, gnK]
            go_wp2_with fail
            refine (M2.out _).mono ?_
            rintro e y3 ⟨ga, gc, rfl, hgl, hB3⟩
            have HV3 := hid ((HV.out.below hB2).below hB3)
            have HB3 := hid (btrans (btrans HB.out hB2) hB3)
            have hz2' := hB2.size
            have hz3 := hB3.size
            have HG3 := hid hgl
            clear hgl hB2 hB3 HV HB
            go_upto_region 8 with fail
            go_region_held3 (fun _ => True) (trivial)
              (first
                | (go_at_call 20; refine (MS.out _).mono ?_; rintro e z1 ⟨rfl, hz1'⟩; replace hz1' := hz1'.symm; subst hz1')
                | (go_at_call 19; refine (MW.out _).mono ?_; rintro e z2 ⟨rfl, hB4⟩))
            all_goals
              have hB5 := btrans (bdrew (Below.refl y3.heap.size y3)) hB4
              have HV4 := hid (HV3.out.below hB5)
              have HB4 := hid (btrans HB3.out hB5)
              have hz5 := hB5.size
              have HS4 : Hid (KL.sub y2.heap.size y3.heap.size _ (.slice ga cs.length gc) cs) := hid (HG3.out.below hB5)
              clear hB5 hB4 HV3 HB3 HG3
              generalize y2.heap.size = gl at *
              generalize y3.heap.size = gu at *
              go_upto_region 9 with fail
              generalize z2 = W4 at *
              have hownZ : W4.ownsRow w.heap.size 35 1 (.slice av xss.length cv) xss.length (flatK KL us) := HV4.out.2.1
              have hm := HV4.out.2.2.2.1
              go_wp2_with (at_builtin; (refine wpList_append_lies _ rfl (.tmp 63) (.tmp 65) 30 rfl w.heap.size 35 i0 _ 1 24 Tryz.underlying30 hi0 hz0 hz1 hz2 rfl (by decide) (.slice av xss.length cv) xss.length (flatK KL us) rfl (hownZ.alloc _) ⟨W4.heap.size, 0, none⟩ 1 1 [.slice ga cs.length gc] rfl rfl (World.news_of_block (cs := #[.slice ga cs.length gc]) (t := 35) (fr := (0, 0)) (heap_alloc_new W4 _)) (by simp [Value.oneCell']) (by omega) (by unfold maxLen; omega) (by omega) (by simp; omega) (W4.heap.size + 1) (by simp) ?_; intro gg cq w2 hown2 hgrow hat hlt2))
              have hal2 : Below W4.heap.size W4 (W4.alloc (.cells #[.slice ga cs.length gc] 35)) := balloc (Below.refl _ _) _
              have hsn := LX.snoc (K := KL) (x := cs) (sv := .slice ga cs.length gc) (l := gl) (u := gu) (g := gg) (cap := cq) (HV4.out.below hal2) (by omega) (by omega) (KL.frame HS4.out (fun c _ hc => hal2.block c (by have := HS4.out.1; omega)) hal2.size) hown2 hgrow (by simpa using hat) hlt2
              have hbn : Below w.heap.size w w2 := bgrow (balloc HB4.out _) hgrow (fun c e => (World.ownsRow.lt hownZ c e).1)
              have HSN := hid hsn
              have HBN := hid hbn
              clear hsn hbn hown2 hgrow hal2 hownZ
              go_wp2_with fail
              go_roundw
              case rel => exact ⟨fr + n, xss ++ [cs], _, by go_num, by omega, HRN, hid (by simpa using HSN.out), HBN⟩
              case measure => simp [intOf]; omega
          · have HQ := hid (HC3.out hw)
            have hww := ba_ne hw
            clear h1 HRR HDN HC3 HC4 HC5 hg hw
            generalize strOfNums (wdL (sum (s.extract fr (fr + n)))) = tw at *
            generalize sum (s.extract fr (fr + n)) = sm at *
            go_wp2_with fail
            refine (M1.out _).mono ?_
            rintro e y2 ⟨rfl, hB2⟩
            simp only [gnN, gnK]
            go_wp2_with fail
            refine (M2.out _).mono ?_
            rintro e y3 ⟨ga, gc, rfl, hgl, hB3⟩
            have HV3 := hid ((HV.out.below hB2).below hB3)
            have HB3 := hid (btrans (btrans HB.out hB2) hB3)
            clear hgl hB2 hB3 HV HB
            go_upto_region 8 with fail
            go_region_held3 (fun _ => True) (trivial)
              (first
                | (go_at_call 20; refine (MS.out _).mono ?_; rintro e z1 ⟨rfl, hz1'⟩; replace hz1' := hz1'.symm; subst hz1')
                | (go_at_call 19; refine (MW.out _).mono ?_; rintro e z2 ⟨rfl, hB4⟩))
            all_goals
              have hB5 := btrans (bdrew (Below.refl y3.heap.size y3)) hB4
              have HV4 := hid (HV3.out.below hB5)
              have HB4 := hid (btrans HB3.out hB5)
              clear hB5 hB4 HV3 HB3
              go_wp2_with fail
              go_ret2
              exact gra_mk HQ.out HV4.out.lc HB4.out
    · have c4 : ¬ (4 : Int) < (s.size : Int) - (a : Int) := by omega
      have HQ := hid (HDN.out (rc1_short (by omega)))
      clear HRR HDN
      go_wp2_with fail
      go_ret2
      exact gra_mk HQ.out HV.out.lc HB.out
end Go.Proofs.YtfjmbbjcghopgaaGreatDoor
namespace Go.Proofs.YtfjmbbjcghopgaaGreatDoor
open Go.RowKit
set_option linter.unusedSimpArgs false
set_option linter.unusedVariables false
/-- The bytes of s from e on lie at off of the block g. -/
def BS (w : World) (g off : Nat) (s : ByteArray) (e : Nat) : Prop := ∀ i, e + i < s.size → w.cell? ⟨g, off + i, none⟩ = some (.int .u8 (by8 s (e + i)))
theorem BS.below {w w' : World} {g off : Nat} {s : ByteArray} {e : Nat} (h : BS w g off s e) (hb : Below w.heap.size w w') : BS w' g off s e := fun i hi => keepcell hb (h i hi)
theorem BS.drew {w : World} {g off : Nat} {s : ByteArray} {e : Nat} (h : BS w g off s e) : BS w.drew g off s e := h
theorem nums_ext (s : ByteArray) (a b : Nat) (hab : a ≤ b) (hb : b ≤ s.size) : strOfNums ((List.range (b - a)).map (fun i => ((by8 s (a + i) : Nat) : Int))) = s.extract a b := by
  apply ByteArray.ext
  apply Array.ext'
  rw [Lib.extract_data]
  have hd : (strOfNums ((List.range (b - a)).map (fun i => ((by8 s (a + i) : Nat) : Int)))).data.toList = (List.range (b - a)).map (fun i => UInt8.ofNat (by8 s (a + i))) := by
    simp [strOfNums, Function.comp_def]
  rw [hd]
  have hs : s.data.toList.length = s.size := Array.length_toList
  apply List.ext_getElem?
  intro k
  rw [List.getElem?_map, List.getElem?_take]
  by_cases hk : k < b - a
  · have h1 := byte_at s (a + k) (by omega)
    rw [if_pos hk, List.getElem?_drop, h1, List.getElem?_eq_getElem (by simpa using hk)]
    simp only [List.getElem_range, Option.map_some, Option.some.injEq]
    rw [← by8_at s (a + k) (by omega)]
    simp
  · rw [if_neg hk, List.getElem?_eq_none (by simpa using hk)]; rfl
/-- A part of the log as a text. -/
theorem conv_part {w : World} {g off : Nat} {s : ByteArray} {e : Nat} (h : BS w g off s e) (a b cap : Nat) (hae : e ≤ a) (hab : a ≤ b) (hb : b ≤ s.size) : (convert 58 9 (.slice (some ⟨g, off + (a - e), none⟩) (b - a) cap)).run Tryz.prog w = .ok (.string (s.extract a b)) w := by
  have := run_convert_bytes_arg (P := Tryz.prog) w 58 5 Tryz.underlying58 Tryz.underlying5 g (off + (a - e)) (b - a) cap ((List.range (b - a)).map (fun i => ((by8 s (a + i) : Nat) : Int))) (by simp) (fun i hi => by
    have h1 := h ((a - e) + i) (by omega)
    rw [show off + (a - e) + i = off + ((a - e) + i) by omega, h1, show e + ((a - e) + i) = a + i by omega]
    simp [List.getD_eq_getElem?_getD, List.getElem?_map, List.getElem?_range hi]) 9 Tryz.underlying9
  rw [nums_ext s a b hab hb] at this
  exact this
/-- What cutRecord answers. -/
def CRA (w : World) (o : Option (List Ch × Nat)) (e : Nat) (en : Ending) (w' : World) : Prop :=
  Below w.heap.size w w' ∧ ((o = none ∧ en = .returned (.tuple #[.slice none 0 0, .int .i64 0])) ∨ ∃ cs b a cap, o = some (cs, b) ∧ en = .returned (.tuple #[.slice a cs.length cap, .int .i64 ((b : Int) - (e : Int))]) ∧ LC KN w.heap.size w'.heap.size w' (.slice a cs.length cap) cs)
theorem cra_no {w w' : World} {o : Option (List Ch × Nat)} {e : Nat} (h : o = none) (hb : Below w.heap.size w w') : CRA w o e (.returned (.tuple #[.slice none 0 0, .int .i64 0])) w' := ⟨hb, .inl ⟨h, rfl⟩⟩
theorem wrap2 (f z : Nat) (h1 : f ≤ 1048576) (h2 : z ≤ 1048576) : IntKind.i64.wrap ((f : Int) + (z : Int)) = (f : Int) + (z : Int) := by
  rw [IntKind.wrap_i64]
  omega
theorem ext_none (s : ByteArray) (a : Nat) : s.extract a (a + 0) = ⟨#[]⟩ := by
  apply ByteArray.ext
  apply Array.ext'
  rw [Lib.extract_data]
  simp
theorem conv_none (a : Addr) (c : Nat) (W : World) : (convert 58 9 (.slice (some a) 0 c)).run Tryz.prog W = .ok (.string ⟨#[]⟩) W := by
  rw [run_convert_bytes_string (P := Tryz.prog) W 58 9 5 (some a) 0 c Tryz.underlying58 Tryz.underlying5 Tryz.underlying9, run_bytesToString W _ 0 c [] (by simpa using run_loadCells_list (P := Tryz.prog) W a [] (fun j v hj => by simp at hj)), foldl_push_bytes]
  rfl
set_option maxRecDepth 100000 in
set_option maxHeartbeats 8000000 in
theorem cut_one (s : ByteArray) (e g off cap : Nat) (hs : s.size ≤ 100000) (he : e ≤ s.size) (hcap : s.size - e ≤ cap) (hcb : cap ≤ 9223372036854775807) (w : World) (hB : BS w g off s e) (hg : w.cell? ⟨0, 0, none⟩ = some (.iface 143 (.agg #[.pointer (some ⟨1, 100, none⟩)]))) : Calls Tryz.prog 25 #[.slice (some ⟨g, off, none⟩) (s.size - e : Nat) cap] w fun en w' => CRA w (rc1 s e) e en w' := by
  obtain ⟨n, hn⟩ : ∃ n, n = s.size - e := ⟨_, rfl⟩
  have hne : s.size = e + n := by omega
  rw [← hn]
  rw [← hn] at hcap
  have HNE := hid hne
  obtain ⟨m9, hm9⟩ : ∃ m9, m9 = min n 9 := ⟨_, rfl⟩
  have hmin : min (n : Int) 9 = (m9 : Int) := by omega
  have hm1 : m9 = 9 ∨ (m9 = n ∧ n ≤ 9) := by omega
  have HM9 := hid hm1
  clear hm9
  have hm2 : (m9 : Int) ≤ (cap : Int) := by omega
  have hm3 : (0 : Int) ≤ (m9 : Int) := by omega
  have hcv : (convert 58 9 (.slice (some ⟨g, off, none⟩) m9 cap)).run Tryz.prog w = .ok (.string (s.extract e (e + m9))) w := by
    have := conv_part hB e (e + m9) cap (Nat.le_refl _) (by omega) (by omega)
    rw [show off + (e - e) = off by omega, show e + m9 - e = m9 by omega] at this
    exact this
  have hx9 : (s.extract e (e + m9)).size ≤ maxLen := by rw [ext_size s e (e + m9) (by omega)]; unfold maxLen; omega
  have MR := hid (fun W => impl_rd (s.extract e (e + m9)) 4 hx9 W)
  rw [rd_sub s e (e + m9) (by omega) (by omega) (by omega)] at MR
  clear hx9
  generalize s.extract e (e + m9) = hd at *
  cases h1 : rd s ((e : Int) + 4) with
  | none =>
    have HO := hid (rc1_1 h1)
    rw [h1] at MR
    simp only [Option.map_none, gnN, gnK] at MR
    clear h1 hn hne hm1
    go_enter Tryz.func25, Tryz.ntmps25
    go_wp2_with fail
    refine (MR.out _).mono ?_
    rintro e1 y1 ⟨rfl, hy⟩
    replace hy := hy.symm
    subst hy
    go_wp2_with fail
    go_ret2
    exact cra_no HO.out (Below.refl _ _)
  | some r =>
    obtain ⟨z, fr⟩ := r
    rw [h1] at MR
    have hfs := rd_small s _ z fr h1
    have hpos := rd_pos s (e + 4) z fr h1
    simp only [Option.map_some, gnN, gnK] at MR
    obtain ⟨f, hf⟩ : ∃ f, f = fr - e := ⟨_, rfl⟩
    rw [← hf] at MR
    have hfe : fr = e + f := by omega
    have hf5 : 5 ≤ f := by omega
    have hfn : f ≤ n := by omega
    clear hf
    by_cases hgr : s.size < fr + z
    · have HO := hid (rc1_2 h1 hgr)
      have c1 : (n : Int) - (f : Int) < (z : Int) := by omega
      clear h1 hn hne hfe hm1
      go_enter Tryz.func25, Tryz.ntmps25
      go_wp2_with fail
      refine (MR.out _).mono ?_
      rintro e1 y1 ⟨rfl, hy⟩
      replace hy := hy.symm
      subst hy
      go_wp2_with fail
      go_ret2
      exact cra_no HO.out (Below.refl _ _)
    have hle : fr + z ≤ s.size := by omega
    have c1 : ¬ (n : Int) - (f : Int) < (z : Int) := by omega
    have HC6 : Hid (∀ W, Below w.heap.size w W → (convert 58 9 (.slice (some ⟨g, off + f, none⟩) z z)).run Tryz.prog W = .ok (.string (s.extract fr (fr + z))) W) := hid (fun W hb => by
      have := conv_part (hB.below hb) fr (fr + z) z (by omega) (by omega) hle
      rw [show off + (fr - e) = off + f by omega, show fr + z - fr = z by omega] at this
      exact this)
    have HC7 : Hid (∀ W, Below w.heap.size w W → (convert 58 9 (.slice (some ⟨g, off, none⟩) 4 4)).run Tryz.prog W = .ok (.string (s.extract e (e + 4))) W) := hid (fun W hb => by
      have := conv_part (hB.below hb) e (e + 4) 4 (by omega) (by omega) (by omega)
      rw [show off + (e - e) = off by omega, show e + 4 - e = 4 by omega] at this
      exact this)
    have hbz : (s.extract fr (fr + z)).size ≤ 1048576 := by rw [ext_size s fr (fr + z) hle]; omega
    have HCZ : Hid (z = 0 → ∀ W, ∀ a c, (convert 58 9 (.slice (some a) 0 c)).run Tryz.prog W = .ok (.string (s.extract fr (fr + z))) W) := hid (fun hz W a c => by
      subst hz
      rw [ext_none s fr]
      exact conv_none a c W)
    have MW := hid (fun W => impl_word (s.extract fr (fr + z)) (by unfold maxLen; omega) W)
    have MC := hid (fun (W : World) (hb : Below w.heap.size w W) => impl_GetChanges (s.extract fr (fr + z)) hbz W (keepcell hb hg))
    rw [gc_same] at MC
    have HC3 := hid (fun hw => rc1_3 h1 hle hw)
    have HC4 := hid (fun hq => rc1_4 h1 hle hq)
    have HC5 := hid (fun cs hw hq => rc1_5 (cs := cs) h1 hle hw hq)
    have ci1 : (4 : Int) ≤ (cap : Int) := by omega
    have ci2 : (f : Int) ≤ (f : Int) + (z : Int) := by omega
    have ci3 : (f : Int) + (z : Int) ≤ (cap : Int) := by omega
    have ci4 : IntKind.i64.wrap ((f : Int) + (z : Int)) = (f : Int) + (z : Int) := wrap2 f z (by omega) (by omega)
    have ci5 : ((f : Int) + (z : Int)).toNat = f + z := by omega
    have ci6 : f + z - f = z := by omega
    have ci7 : (0 : Int) ≤ (f : Int) + (z : Int) := by omega
    have ci8 : (0 : Int) ≤ (f : Int) := by omega
    have ci9 : (f : Int) ≤ (cap : Int) := by omega
    have cz : (((fr + z : Nat) : Int)) - (e : Int) = (f : Int) + (z : Int) := by omega
    have HCZ2 := hid cz
    clear h1 cz hbz hle hgr hfs hpos hn hne hfe hm1
    generalize rc1 s e = ro at *
    generalize hbd : s.extract fr (fr + z) = bd at *
    generalize htt : s.extract e (e + 4) = t4 at *
    clear hbd htt
    generalize gcS bd = go at *
    go_enter Tryz.func25, Tryz.ntmps25
    go_wp2_with fail
    refine (MR.out _).mono ?_
    rintro e1 y1 ⟨rfl, hy⟩
    replace hy := hy.symm
    subst hy
    go_upto_region 6 with fail
    go_cut [8, 9] (fun t8 t9 wx => t8 = .slice (some ⟨g, off, none⟩) 4 4 ∧ t9 = .string bd ∧ Below w.heap.size w wx)
    case first =>
      by_cases hz : z = 0
      · replace HCZ := hid (HCZ.out hz)
        subst hz
        clear HC6
        refine wp_region_held_drew (S := (fun w' => ∀ a c, (convert 58 9 (.slice (some a) 0 c)).run Tryz.prog w' = .ok (.string bd) w')) (by kernel_rfl) ?_ (fun hHeld => ?_)
        · exact HCZ.out _
        refine wpAnyH_take (i := 0) (v := ?_) rfl (by kernel_rfl) (by kernel_rfl) (by kernel_rfl) (fun _ _ _ h => h) (Or.inl ⟨by rfl, ?_⟩) hHeld ?_
        rotate_left
        · intro w hSw; (try dsimp only at hSw); go_simp; try (with_reducible rfl)
        try simp only [sq]
        refine wpAnyH_take (i := 1) (v := ?_) rfl (by kernel_rfl) (by kernel_rfl) (by kernel_rfl) (fun _ _ _ h => h) (Or.inl ⟨by rfl, ?_⟩) hHeld ?_
        rotate_left
        · intro w hSw; (try dsimp only at hSw); go_simp; try (with_reducible rfl)
        try simp only [sq]
        refine wpAnyH_take (i := 2) (v := ?_) rfl (by kernel_rfl) (by kernel_rfl) (by kernel_rfl) (fun _ _ _ h => h) (Or.inl ⟨by rfl, ?_⟩) hHeld ?_
        rotate_left
        · intro w hSw; (try dsimp only at hSw); go_simp; try (with_reducible rfl)
        try simp only [sq]
        refine wpAnyH_take (i := 3) (v := ?_) rfl (by kernel_rfl) (by kernel_rfl) (by kernel_rfl) (fun _ _ _ h => h) (Or.inl ⟨by rfl, ?_⟩) hHeld ?_
        rotate_left
        · intro w hSw; (try dsimp only at hSw); go_simp; try (with_reducible rfl)
        try simp only [sq]
        refine wpAnyH_take (i := 4) (v := ?_) rfl (by kernel_rfl) (by kernel_rfl) (by kernel_rfl) (fun _ _ _ h => h) (Or.inl ⟨by rfl, ?_⟩) hHeld ?_
        rotate_left
        · intro w hSw; (try dsimp only at hSw); go_simp; try (with_reducible rfl)
        try simp only [sq]
        refine wpAnyH_take (i := 5) (v := ?_) rfl (by kernel_rfl) (by kernel_rfl) (by kernel_rfl) (fun _ _ _ h => h) (Or.inl ⟨by rfl, ?_⟩) hHeld ?_
        rotate_left
        · intro w hSw; (try dsimp only at hSw); go_simp; try (with_reducible rfl)
        try simp only [sq]
        refine wpAnyH_take (i := 6) (v := ?_) rfl (by kernel_rfl) (by kernel_rfl) (by kernel_rfl) (fun _ _ _ h => h) (Or.inl ⟨by rfl, ?_⟩) hHeld ?_
        rotate_left
        · intro w hSw; (try dsimp only at hSw); go_simp; try (with_reducible rfl)
        try simp only [sq]
        refine wpAnyH_take (i := 7) (v := ?_) rfl (by kernel_rfl) (by kernel_rfl) (by kernel_rfl) (fun _ _ _ h => h) (Or.inl ⟨by rfl, ?_⟩) hHeld ?_
        rotate_left
        · intro w hSw; (try dsimp only at hSw); go_simp; try (with_reducible rfl)
        try simp only [sq]
        refine wpAnyH_take (i := 8) (v := ?_) rfl (by kernel_rfl) (by kernel_rfl) (by kernel_rfl) (fun _ _ _ h => h) (Or.inl ⟨by rfl, ?_⟩) hHeld ?_
        rotate_left
        · intro w hSw; (try dsimp only at hSw); go_simp; try (with_reducible rfl)
        try simp only [sq]
        refine wpAnyH_take (i := 9) (v := ?_) rfl (by kernel_rfl) (by kernel_rfl) (by kernel_rfl) (fun _ _ _ h => h) (Or.inl ⟨by rfl, ?_⟩) hHeld ?_
        rotate_left
        · intro w hSw; (try dsimp only at hSw); go_simp; try (with_reducible rfl)
        try simp only [sq]
        refine wpAnyH_done (by kernel_rfl) ?_ _
        go_wp2_with fail
        go_meet
        exact ⟨rfl, rfl, bdrew (Below.refl _ _)⟩
      · have hz1 : ¬ (f + z - f = 0) := by omega
        have hz2 : ¬ f + z = f := by omega
        have hz3 : ¬ f = f + z := by omega
        refine wp_region_held_drew (S := (fun w' => (convert 58 9 (.slice (some ⟨g, off + f, none⟩) z z)).run Tryz.prog w' = .ok (.string bd) w')) (by kernel_rfl) ?_ (fun hHeld => ?_)
        · exact HC6.out _ (bdrew (Below.refl _ _))
        refine wpAnyH_take (i := 0) (v := ?_) rfl (by kernel_rfl) (by kernel_rfl) (by kernel_rfl) (fun _ _ _ h => h) (Or.inl ⟨by rfl, ?_⟩) hHeld ?_
        rotate_left
        · intro w hSw; (try dsimp only at hSw); go_simp; try (with_reducible rfl)
        try simp only [sq]
        refine wpAnyH_take (i := 1) (v := ?_) rfl (by kernel_rfl) (by kernel_rfl) (by kernel_rfl) (fun _ _ _ h => h) (Or.inl ⟨by rfl, ?_⟩) hHeld ?_
        rotate_left
        · intro w hSw; (try dsimp only at hSw); go_simp; try (with_reducible rfl)
        try simp only [sq]
        refine wpAnyH_take (i := 2) (v := ?_) rfl (by kernel_rfl) (by kernel_rfl) (by kernel_rfl) (fun _ _ _ h => h) (Or.inl ⟨by rfl, ?_⟩) hHeld ?_
        rotate_left
        · intro w hSw; (try dsimp only at hSw); go_simp; try (with_reducible rfl)
        try simp only [sq]
        refine wpAnyH_take (i := 3) (v := ?_) rfl (by kernel_rfl) (by kernel_rfl) (by kernel_rfl) (fun _ _ _ h => h) (Or.inl ⟨by rfl, ?_⟩) hHeld ?_
        rotate_left
        · intro w hSw; (try dsimp only at hSw); go_simp; try (with_reducible rfl)
        try simp only [sq]
        refine wpAnyH_take (i := 4) (v := ?_) rfl (by kernel_rfl) (by kernel_rfl) (by kernel_rfl) (fun _ _ _ h => h) (Or.inl ⟨by rfl, ?_⟩) hHeld ?_
        rotate_left
        · intro w hSw; (try dsimp only at hSw); go_simp; try (with_reducible rfl)
        try simp only [sq]
        refine wpAnyH_take (i := 5) (v := ?_) rfl (by kernel_rfl) (by kernel_rfl) (by kernel_rfl) (fun _ _ _ h => h) (Or.inl ⟨by rfl, ?_⟩) hHeld ?_
        rotate_left
        · intro w hSw; (try dsimp only at hSw); go_simp; try (with_reducible rfl)
        try simp only [sq]
        refine wpAnyH_take (i := 6) (v := ?_) rfl (by kernel_rfl) (by kernel_rfl) (by kernel_rfl) (fun _ _ _ h => h) (Or.inl ⟨by rfl, ?_⟩) hHeld ?_
        rotate_left
        · intro w hSw; (try dsimp only at hSw); go_simp; try (with_reducible rfl)
        try simp only [sq]
        refine wpAnyH_take (i := 7) (v := ?_) rfl (by kernel_rfl) (by kernel_rfl) (by kernel_rfl) (fun _ _ _ h => h) (Or.inl ⟨by rfl, ?_⟩) hHeld ?_
        rotate_left
        · intro w hSw; (try dsimp only at hSw); go_simp; try (with_reducible rfl)
        try simp only [sq]
        refine wpAnyH_take (i := 8) (v := ?_) rfl (by kernel_rfl) (by kernel_rfl) (by kernel_rfl) (fun _ _ _ h => h) (Or.inl ⟨by rfl, ?_⟩) hHeld ?_
        rotate_left
        · intro w hSw; (try dsimp only at hSw); go_simp; try (with_reducible rfl)
        try simp only [sq]
        refine wpAnyH_take (i := 9) (v := ?_) rfl (by kernel_rfl) (by kernel_rfl) (by kernel_rfl) (fun _ _ _ h => h) (Or.inl ⟨by rfl, ?_⟩) hHeld ?_
        rotate_left
        · intro w hSw; (try dsimp only at hSw); go_simp; try (with_reducible rfl)
        try simp only [sq]
        refine wpAnyH_done (by kernel_rfl) ?_ _
        go_wp2_with fail
        go_meet
        exact ⟨rfl, rfl, bdrew (Below.refl _ _)⟩
    case rest =>
      obtain ⟨rfl, rfl, hBc⟩ := hcut
      by_cases hw : t4 = strOfNums (wdL (sum bd))
      · have hww := ba_eq hw
        have HW := hid hw
        clear hw
        generalize strOfNums (wdL (sum bd)) = tw at *
        go_upto_region 7 with fail
        refine wp_region_held_drew (S := (fun w' => (convert 58 9 (.slice (some ⟨g, off, none⟩) 4 4)).run Tryz.prog w' = .ok (.string t4) w')) (by kernel_rfl) ?_ (fun hHeld => ?_)
        · exact HC7.out _ (bdrew hBc)
        refine wpAnyH_take (i := 0) (v := ?_) rfl (by kernel_rfl) (by kernel_rfl) (by kernel_rfl) (fun _ _ _ h => h) (Or.inl ⟨by rfl, ?_⟩) hHeld ?_
        rotate_left
        · intro w hSw; (try dsimp only at hSw); go_simp; try (with_reducible rfl)
        try simp only [sq]
        refine wpAnyH_take (i := 1) (v := ?_) rfl (by kernel_rfl) (by kernel_rfl) (by kernel_rfl) (fun _ _ _ h => h) (Or.inl ⟨by rfl, ?_⟩) hHeld ?_
        rotate_left
        · intro w hSw; (try dsimp only at hSw); go_simp; try (with_reducible rfl)
        try simp only [sq]
        refine wpAnyH_take (i := 2) (v := ?_) rfl (by kernel_rfl) (by kernel_rfl) (by kernel_rfl) (fun _ _ _ h => h) (Or.inl ⟨by rfl, ?_⟩) hHeld ?_
        rotate_left
        · intro w hSw; (try dsimp only at hSw); go_simp; try (with_reducible rfl)
        try simp only [sq]
        refine wpAnyH_ready (rs := [3]) (by kernel_rfl) (by simp) ?_
        refine AllReadyH.cons rfl (fun K hK => ?_) AllReadyH.nil
        try simp only [sq]
        go_simp
        go_at_call 40
        refine (MW.out _).mono ?_
        rintro e2 y5 ⟨rfl, hB5⟩
        go_wp2_with fail
        refine hK.out _ _ ?_ (fun hHeld => ?_)
        · exact HC7.out _ (btrans (bdrew hBc) hB5)
        clear hK K
        try simp only [sq]
        refine wpAnyH_take (i := 4) (v := ?_) rfl (by kernel_rfl) (by kernel_rfl) (by kernel_rfl) (fun _ _ _ h => h) (Or.inl ⟨by rfl, ?_⟩) hHeld ?_
        rotate_left
        · intro w hSw; (try dsimp only at hSw); go_simp; try (with_reducible rfl)
        try simp only [sq]
        refine wpAnyH_done (by kernel_rfl) ?_ _
        have HB6 := hid (btrans (bdrew hBc) hB5)
        replace MC := hid (MC.out _ HB6.out)
        unfold GCA at MC
        cases hgo : go with
        | none =>
          have HQ := hid (HC4.out hgo)
          rw [hgo] at MC
          simp only [Option.getD_none, Option.isSome_none, List.length_nil] at MC
          clear hgo
          go_wp2_with fail
          refine MC.out.mono ?_
          rintro e3 y6 ⟨ga, gc, rfl, hgl, hB6⟩
          have HB7 := hid (btrans HB6.out hB6)
          clear hgl hB6
          go_wp2_with fail
          go_ret2
          exact cra_no HQ.out HB7.out
        | some cs =>
          have HQ := hid (HC5.out cs HW.out hgo)
          rw [hgo] at MC
          simp only [Option.getD_some, Option.isSome_some] at MC
          clear hgo
          go_wp2_with fail
          refine MC.out.mono ?_
          rintro e3 y6 ⟨ga, gc, rfl, hgl, hB6⟩
          have HB7 := hid (btrans HB6.out hB6)
          have HL7 := hid (lc_mono hgl HB6.out.size)
          clear hgl hB6
          go_wp2_with fail
          go_ret2
          exact ⟨HB7.out, .inr ⟨cs, fr + z, ga, gc, HQ.out, by rw [HCZ2.out]; rfl, HL7.out⟩⟩
      · have HQ := hid (HC3.out hw)
        have hww := ba_ne hw
        clear hw
        generalize strOfNums (wdL (sum bd)) = tw at *
        go_upto_region 7 with fail
        refine wp_region_held_drew (S := (fun w' => (convert 58 9 (.slice (some ⟨g, off, none⟩) 4 4)).run Tryz.prog w' = .ok (.string t4) w')) (by kernel_rfl) ?_ (fun hHeld => ?_)
        · exact HC7.out _ (bdrew hBc)
        refine wpAnyH_take (i := 0) (v := ?_) rfl (by kernel_rfl) (by kernel_rfl) (by kernel_rfl) (fun _ _ _ h => h) (Or.inl ⟨by rfl, ?_⟩) hHeld ?_
        rotate_left
        · intro w hSw; (try dsimp only at hSw); go_simp; try (with_reducible rfl)
        try simp only [sq]
        refine wpAnyH_take (i := 1) (v := ?_) rfl (by kernel_rfl) (by kernel_rfl) (by kernel_rfl) (fun _ _ _ h => h) (Or.inl ⟨by rfl, ?_⟩) hHeld ?_
        rotate_left
        · intro w hSw; (try dsimp only at hSw); go_simp; try (with_reducible rfl)
        try simp only [sq]
        refine wpAnyH_take (i := 2) (v := ?_) rfl (by kernel_rfl) (by kernel_rfl) (by kernel_rfl) (fun _ _ _ h => h) (Or.inl ⟨by rfl, ?_⟩) hHeld ?_
        rotate_left
        · intro w hSw; (try dsimp only at hSw); go_simp; try (with_reducible rfl)
        try simp only [sq]
        refine wpAnyH_ready (rs := [3]) (by kernel_rfl) (by simp) ?_
        refine AllReadyH.cons rfl (fun K hK => ?_) AllReadyH.nil
        try simp only [sq]
        go_simp
        go_at_call 40
        refine (MW.out _).mono ?_
        rintro e2 y5 ⟨rfl, hB5⟩
        go_wp2_with fail
        refine hK.out _ _ ?_ (fun hHeld => ?_)
        · exact HC7.out _ (btrans (bdrew hBc) hB5)
        clear hK K
        try simp only [sq]
        refine wpAnyH_take (i := 4) (v := ?_) rfl (by kernel_rfl) (by kernel_rfl) (by kernel_rfl) (fun _ _ _ h => h) (Or.inl ⟨by rfl, ?_⟩) hHeld ?_
        rotate_left
        · intro w hSw; (try dsimp only at hSw); go_simp; try (with_reducible rfl)
        try simp only [sq]
        refine wpAnyH_done (by kernel_rfl) ?_ _
        have HB6 := hid (btrans (bdrew hBc) hB5)
        go_wp2_with fail
        go_ret2
        exact cra_no HQ.out HB6.out
end Go.Proofs.YtfjmbbjcghopgaaGreatDoor
namespace Go.Proofs.YtfjmbbjcghopgaaGreatDoor
open Go.RowKit
set_option linter.unusedSimpArgs false
set_option linter.unusedVariables false
theorem bw_below (w : World) (e : TypeId) (s : ByteArray) : Below w.heap.size w (Lib.bytesWorld w e s) := ⟨rfl, rfl, rfl, by rw [Lib.bytesWorld_size]; omega, fun k hk => Lib.bytesWorld_at_old w e s k hk⟩
theorem bw_bs (w : World) (s : ByteArray) : BS (Lib.bytesWorld w 5 s) w.heap.size 0 s 0 := by
  intro i hi
  rw [Nat.zero_add] at hi
  rw [Nat.zero_add, Lib.bytesWorld_cell w 5 s i hi]
  have h1 := byte_at s i hi
  rw [List.getD_eq_getElem?_getD, h1, ← by8_at s i hi]
  rfl
theorem BS.from {w : World} {g : Nat} {s : ByteArray} {e : Nat} (h : BS w g 0 s 0) : BS w g e s e := fun i hi => by
  have := h (e + i) (by omega)
  simpa using this
theorem BS.none {w : World} {g off : Nat} {s : ByteArray} {e : Nat} (h : s.size ≤ e) : BS w g off s e := fun i hi => absurd hi (by omega)
theorem own_ne {w : World} {B c : Nat} {t T : TypeId} {sz n : Nat} {v : Value} {xs : List Value} {C : Array Value} {F : Nat × Nat} (h : w.ownsRow B t sz v n xs) (hc : w.heap[c]? = some (.cells C T F)) (hT : T ≠ t) : v.ownBlock ≠ some c := by
  intro e
  rcases h.2 with ⟨rfl, hn⟩ | ⟨g, cap, cur, rfl, hb, hgk, hc', _⟩
  · simp [Value.ownBlock] at e
  · simp [Value.ownBlock] at e
    subst e
    rw [hgk] at hc
    cases hc
    exact hT rfl
theorem BS.blk {w w' : World} {g off : Nat} {s : ByteArray} {e : Nat} (h : BS w g off s e) (hb : w'.heap[g]? = w.heap[g]?) : BS w' g off s e := fun i hi => by
  rw [World.cell?_of_block (w := w) hb]; exact h i hi
set_option maxRecDepth 100000 in
set_option maxHeartbeats 8000000 in
theorem impl_Records (s : ByteArray) (hs : s.size ≤ 1048576) (w : World) (hg : w.cell? ⟨0, 0, none⟩ = some (.iface 143 (.agg #[.pointer (some ⟨1, 100, none⟩)]))) : Calls Tryz.prog 12 #[.string s] w fun e w' => GRA w (recs s) e w' := by
  have HI := hid (lx_noneL w w (Nat.le_refl _))
  have HB0 := hid (balloc (Below.refl w.heap.size w) (.cells #[] 35))
  obtain ⟨i0, hi0, hz0, hz1, hz2⟩ := info_parts Tryz.infoCL
  by_cases hgr : 100000 < s.size
  · have HO := hid (recs_great hgr)
    have c0 : (100000 : Int) < (s.size : Int) := by omega
    clear hg
    go_enter Tryz.func12, Tryz.ntmps12
    go_wp2_with fail
    go_ret2
    exact gra_mk HO.out HI.out.lc HB0.out
  have hsm : s.size ≤ 100000 := by omega
  have c0 : ¬ (100000 : Int) < (s.size : Int) := by omega
  have HO := hid (recs_small hsm)
  have HG := hid hg
  clear hgr hg
  generalize recs s = rr at *
  have hcv := Lib.run_convert_string_bytes (P := Tryz.prog) (w.alloc (.cells #[] 35)) 9 58 5 s Tryz.underlying9 Tryz.underlying58 Tryz.underlying5
  have hcge := grownCap_ge (w.alloc (.cells #[] 35)) s.size 0 5
  have hcle : grownCap (w.alloc (.cells #[] 35)) s.size 0 5 ≤ maxLen := grownCap_le_maxLen _ _ _ _ (by unfold maxLen; omega)
  unfold maxLen at hcle
  have hbb := bw_below (w.alloc (.cells #[] 35)) 5 s
  have HBS : Hid (BS (Lib.bytesWorld (w.alloc (.cells #[] 35)) 5 s) (w.heap.size + 1) 0 s 0) := hid (by simpa using bw_bs (w.alloc (.cells #[] 35)) s)
  have HBT : Hid (∃ C F, (Lib.bytesWorld (w.alloc (.cells #[] 35)) 5 s).heap[w.heap.size + 1]? = some (.cells C 5 F)) := hid (by
    have := Lib.bytesWorld_at_new (w.alloc (.cells #[] 35)) 5 s
    rw [show (w.alloc (.cells #[] 35)).heap.size = w.heap.size + 1 by simp] at this
    exact ⟨_, _, this⟩)
  go_enter Tryz.func12, Tryz.ntmps12
  go_wp2_with fail
  replace HI := hid (HI.out.grows hbb)
  replace HB0 := hid (btrans HB0.out hbb)
  clear hbb hcv
  generalize grownCap (w.alloc (.cells #[] 35)) s.size 0 5 = cap at *
  generalize Lib.bytesWorld (w.alloc (.cells #[] 35)) 5 s = W0 at *
  go_loopw [4, 5] (fun tv ti wr => ∃ (a : Nat) (xss : List (List Ch)) (us : List (List Ch × Value)), ti = .int .i64 a ∧ a ≤ s.size ∧ Hid (RR s xss a) ∧ Hid (LX KL 35 w.heap.size wr.heap.size wr tv xss us) ∧ Hid (Below w.heap.size w wr) ∧ Hid (wr.heap[w.heap.size + 1]? = W0.heap[w.heap.size + 1]?)) (fun _ ti _ => s.size - (intOf ti).toNat)
  case atStart => exact ⟨0, [], [], rfl, Nat.zero_le _, hid (RR.zero s), HI, HB0, hid rfl⟩
  case round =>
    clear HI HB0
    obtain ⟨a, xss, us, rfl, ha, HRR, HV, HB, HSK⟩ := hrel
    have HS := hid (HBS.out.blk HSK.out)
    have hxl := HRR.out.len
    obtain ⟨av, cv, ev, hlv, hvr⟩ := HV.out.lc.form
    clear hvr
    subst ev
    have hwX := HB.out.size
    have ca : (a : Int) ≤ (s.size : Int) := by omega
    have ca2 : (a : Int) ≤ (cap : Int) := by omega
    have ca3 : (s.size : Int) ≤ (cap : Int) := by omega
    have HDN := hid (fun (h : rc1 s a = none) => HO.out.trans (HRR.out.done h))
    by_cases hca : cap = a
    · have hsa : s.size = a := by omega
      have HQ := hid (HDN.out (rc1_short (by omega)))
      have HC0 : Hid (Calls Tryz.prog 25 #[.slice (some ⟨w.heap.size + 1, 0, none⟩) 0 0] wr fun en w' => CRA wr (rc1 s a) a en w') := hid (by
        have := cut_one s a (w.heap.size + 1) 0 (cap - a) hsm ha (by omega) (by omega) wr (BS.none (by omega)) (keepcell HB.out HG.out)
        rw [show s.size - a = 0 by omega, show cap - a = 0 by omega] at this
        exact this)
      have HRN := hid (rc1_short (s := s) (a := a) (by omega))
      clear HDN HRR hsa HS HSK
      subst hca
      go_wp2_with fail
      refine HC0.out.mono ?_
      rintro en W4 ⟨hB1, ⟨hno, rfl⟩ | ⟨cs, b, ga, gc, hyes, rfl, hgl⟩⟩
      · go_wp2_with fail
        go_ret2
        exact gra_mk HQ.out (HV.out.below hB1).lc (btrans HB.out hB1)
      · rw [HRN.out] at hyes; cases hyes
    · have HCO := hid (cut_one s a (w.heap.size + 1) a (cap - a) hsm ha (by omega) (by omega) wr HS.out.from (keepcell HB.out HG.out))
      have HRN := hid (fun cs b (h : rc1 s a = some (cs, b)) => HRR.out.next h)
      have HRF := hid (fun cs b (h : rc1 s a = some (cs, b)) => rc1_facts h)
      have hne : ¬ (cap : Int) = (a : Int) := by omega
      clear HRR
      go_wp2_with fail
      refine HCO.out.mono ?_
      rintro en W4 ⟨hB1, ⟨hno, rfl⟩ | ⟨cs, b, ga, gc, hyes, rfl, hgl⟩⟩
      · have HQ := hid (HDN.out hno)
        clear HCO HDN HRN HRF
        go_wp2_with fail
        go_ret2
        exact gra_mk HQ.out (HV.out.below hB1).lc (btrans HB.out hB1)
      · have HRN2 := HRN.out cs b hyes
        obtain ⟨hab, hbs⟩ := HRF.out cs b hyes
        obtain ⟨d, hd⟩ : ∃ d, d = b - a := ⟨_, rfl⟩
        have hd1 : (b : Int) - (a : Int) = (d : Int) := by omega
        have hd2 : 0 < d := by omega
        obtain rfl : b = a + d := by omega
        have HRN3 := hid HRN2
        have hd3 : ¬ (d : Int) = 0 := by omega
        have hd4 : ((d : Int) == 0) = false := by rw [beq_eq_false_iff_ne]; omega
        clear HCO HDN HRN HRF hd hyes HRN2
        rw [hd1]
        clear hd1
        have hz4 := hB1.size
        have HV4 := hid (HV.out.below hB1)
        have HB4 := hid (btrans HB.out hB1)
        have hlt0 : w.heap.size + 1 < wr.heap.size := by
          obtain ⟨C, F, hC⟩ := HBT.out
          exact lt_of_block (HSK.out.trans hC)
        have HK4 := hid ((hB1.block (w.heap.size + 1) hlt0).trans HSK.out)
        have hlt4 : w.heap.size + 1 < W4.heap.size := by omega
        have HS4 : Hid (KL.sub wr.heap.size W4.heap.size W4 (.slice ga cs.length gc) cs) := hid hgl
        clear hB1 hgl HV HB HS HSK
        generalize wr.heap.size = gl at *
        have hgu : W4.heap.size ≤ W4.heap.size := Nat.le_refl _
        go_upto_region 8 with fail
        have hownZ : W4.ownsRow w.heap.size 35 1 (.slice av xss.length cv) xss.length (flatK KL us) := HV4.out.2.1
        have hm := HV4.out.2.2.2.1
        go_wp2_with (at_builtin; (refine wpList_append_lies _ rfl (.tmp 28) (.tmp 30) 30 rfl w.heap.size 35 i0 _ 1 24 Tryz.underlying30 hi0 hz0 hz1 hz2 rfl (by decide) (.slice av xss.length cv) xss.length (flatK KL us) rfl (hownZ.alloc _) ⟨W4.heap.size, 0, none⟩ 1 1 [.slice ga cs.length gc] rfl rfl (World.news_of_block (cs := #[.slice ga cs.length gc]) (t := 35) (fr := (0, 0)) (heap_alloc_new W4 _)) (by simp [Value.oneCell']) (by omega) (by unfold maxLen; omega) (by omega) (by simp; omega) (W4.heap.size + 1) (by simp) ?_; intro gg cq w2 hown2 hgrow hat hlt2))
        have hal2 : Below W4.heap.size W4 (W4.alloc (.cells #[.slice ga cs.length gc] 35)) := balloc (Below.refl _ _) _
        have hsn := LX.snoc (K := KL) (x := cs) (sv := .slice ga cs.length gc) (l := gl) (u := W4.heap.size) (g := gg) (cap := cq) (HV4.out.below hal2) (by omega) (by omega) (KL.frame HS4.out (fun c _ hc => hal2.block c (by have := HS4.out.1; omega)) hal2.size) hown2 hgrow (by simpa using hat) hlt2
        have hbn : Below w.heap.size w w2 := bgrow (balloc HB4.out _) hgrow (fun c e => (World.ownsRow.lt hownZ c e).1)
        have HSN := hid hsn
        have HBSN : Hid (w2.heap[w.heap.size + 1]? = W0.heap[w.heap.size + 1]?) := hid (by
          obtain ⟨C, F, hC⟩ := HBT.out
          have hne2 := own_ne hownZ (HK4.out.trans hC) (by decide)
          exact (hgrow.block (w.heap.size + 1) (by simp; omega) (fun e => hne2 e.symm)).trans ((hal2.block (w.heap.size + 1) hlt4).trans HK4.out))
        have HBN := hid hbn
        clear hsn hbn hown2 hgrow hal2 hownZ
        go_wp2_with fail
        go_roundw
        case rel => exact ⟨a + d, xss ++ [cs], _, by go_num, by omega, HRN3, hid (by simpa using HSN.out), HBN, HBSN⟩
        case measure => simp [intOf]; omega
end Go.Proofs.YtfjmbbjcghopgaaGreatDoor
