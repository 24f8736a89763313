/- Texts of stores, joined: La, Cj, Cr2, Code. -/
import Derived.Test.YtdaheepfmnjadaaGreatDoorJ42
import Derived.Lib.ConvBytes
import Derived.Test.YtdaheepfmnjadaaGreatDoorJ37
import Derived.Lib.BufferWrite
import Derived.Test.YtdaheepfmnjadaaGreatDoorShelfK
import Derived.Test.YtdaheepfmnjadaaGreatDoorJ4
import Derived.ProofKit
import Derived.OpenShut
namespace Go.Proofs.YtdaheepfmnjadaaGreatDoor
open Go.RowKit
set_option linter.unusedSimpArgs false
set_option linter.unusedVariables false
theorem sum_lt (s : ByteArray) : sum s < 4294967296 := by
  have := cs_lt s s.size
  unfold sum
  omega
/-- The four bytes of a sum, the highest first. -/
def wdL (n : Nat) : List Int := [(n : Int) / 16777216, (n : Int) / 65536 % 256, (n : Int) / 256 % 256, (n : Int) % 256]
theorem conv4 (w : World) (z0 z1 z2 z3 : Int) : (convert 22 9 (.slice (some ⟨w.heap.size, 0, none⟩) 4 4)).run Tryz.prog (w.alloc (.cells #[.int .u8 z0, .int .u8 z1, .int .u8 z2, .int .u8 z3] 5)) = .ok (.string (strOfNums [z0, z1, z2, z3])) (w.alloc (.cells #[.int .u8 z0, .int .u8 z1, .int .u8 z2, .int .u8 z3] 5)) := by
  refine run_convert_bytes_arg _ 22 5 Tryz.underlying22 Tryz.underlying5 w.heap.size 0 4 4 [z0, z1, z2, z3] rfl (fun i hi => ?_) 9 Tryz.underlying9
  have hi' : i = 0 ∨ i = 1 ∨ i = 2 ∨ i = 3 := by omega
  rcases hi' with rfl | rfl | rfl | rfl <;> exact newcell _ _ _ _ _ _ rfl rfl
set_option maxRecDepth 100000 in
set_option maxHeartbeats 1000000 in
theorem spec_word (n : Nat) (h : n < 4294967296) (w : World) : Calls Tryz.prog 24 #[.int .u32 n] w fun e w' => e = .returned (.string (strOfNums (wdL n))) ∧ Below w.heap.size w w' := by
  have hcv := conv4 w ((n : Int) / 16777216) ((n : Int) / 65536 % 256) ((n : Int) / 256 % 256) ((n : Int) % 256)
  rw [show strOfNums [(n : Int) / 16777216, (n : Int) / 65536 % 256, (n : Int) / 256 % 256, (n : Int) % 256] = strOfNums (wdL n) from rfl] at hcv
  go_enter Tryz.func24, Tryz.ntmps24
  go_wp2_with fail
  go_ret
  exact ⟨rfl, balloc (Below.refl _ _) _⟩
set_option maxRecDepth 100000 in
set_option maxHeartbeats 1000000 in
theorem impl_word (s : ByteArray) (hs : s.size ≤ maxLen) (w : World) : Calls Tryz.prog 33 #[.string s] w fun e w' => e = .returned (.string (strOfNums (wdL (sum s)))) ∧ Below w.heap.size w w' := by
  have HS := hid (impl_sum s hs w)
  have h := sum_lt s
  generalize sum s = n at *
  have hcv := conv4 w ((n : Int) / 16777216) ((n : Int) / 65536 % 256) ((n : Int) / 256 % 256) ((n : Int) % 256)
  rw [show strOfNums [(n : Int) / 16777216, (n : Int) / 65536 % 256, (n : Int) / 256 % 256, (n : Int) % 256] = strOfNums (wdL n) from rfl] at hcv
  go_enter Tryz.func33, Tryz.ntmps33
  go_wp2_with fail
  refine HS.out.mono ?_
  rintro e z ⟨rfl, hz⟩
  replace hz := hz.symm
  subst hz
  go_wp2_with fail
  go_ret
  exact ⟨rfl, balloc (Below.refl _ _) _⟩
theorem gcS_S2 {s : ByteArray} {cs : List Ch} (h : gcS s = some cs) : chS cs ∧ cs.length ≤ 100 := by
  have := gcS_S s
  rw [h] at this
  exact this
theorem ext_size (s : ByteArray) (a b : Nat) (hb : b ≤ s.size) : (s.extract a b).size = b - a := by
  have e : (s.extract a b).size = (s.extract a b).data.toList.length := by rw [Array.length_toList]; rfl
  have e2 : s.data.toList.length = s.size := Array.length_toList
  rw [e, Lib.extract_data, List.length_take, List.length_drop, e2]
  omega
theorem ext_by8 (s : ByteArray) (a b k : Nat) (hb : b ≤ s.size) (h : a + k < b) : by8 (s.extract a b) k = by8 s (a + k) := by
  have h1 := byte_at s (a + k) (by omega)
  rw [by8_of (s.extract a b) k (s[a + k]'(by omega)) (by rw [Lib.extract_data, List.getElem?_take, if_pos (by omega), List.getElem?_drop]; exact h1)]
  exact by8_at s (a + k) (by omega)
theorem acc_sub (s : ByteArray) (e b : Nat) (hb : b ≤ s.size) : ∀ j, e + 4 + j ≤ b → acc (s.extract e b) 4 j = acc s (e + 4) j
  | 0, _ => rfl
  | j + 1, h => by
    simp only [acc]
    rw [acc_sub s e b hb j (by omega), ext_by8 s e b (4 + j) hb (by omega), show e + (4 + j) = e + 4 + j by omega]
theorem gn_sub (s : ByteArray) (e b : Nat) (hb : b ≤ s.size) (h9 : b = e + 9 ∨ (b = s.size ∧ s.size ≤ e + 9)) (he : e ≤ b) : ∀ f j, j + f ≤ 5 → gn (s.extract e b) 4 f j = (gn s (e + 4) f j).map (fun r => (r.1, r.2 - e))
  | 0, j, _ => rfl
  | f + 1, j, h => by
    have hsz := ext_size s e b hb
    have ih := gn_sub s e b hb h9 he f (j + 1) (by omega)
    simp only [gn]
    by_cases hin : e + 4 + j < s.size
    · have hin2 : e + 4 + j < b := by omega
      rw [if_pos hin, if_pos (by omega), ext_by8 s e b (4 + j) hb (by omega), show e + (4 + j) = e + 4 + j by omega, acc_sub s e b hb (j + 1) (by omega), ih]
      by_cases h1 : by8 s (e + 4 + j) < 128
      · rw [if_pos h1, if_pos h1]
        by_cases h2 : (by8 s (e + 4 + j) = 0 ∧ 0 < j) ∨ 4000000000 < acc s (e + 4) (j + 1)
        · rw [if_pos h2, if_pos h2]; rfl
        · rw [if_neg h2, if_neg h2]
          simp only [Option.map_some, Option.some.injEq, Prod.mk.injEq, true_and]
          omega
      · rw [if_neg h1, if_neg h1]
    · rw [if_neg hin, if_neg (by omega)]; rfl
theorem rd_sub (s : ByteArray) (e b : Nat) (hb : b ≤ s.size) (h9 : b = e + 9 ∨ (b = s.size ∧ s.size ≤ e + 9)) (he : e ≤ b) : rd (s.extract e b) 4 = (rd s ((e : Int) + 4)).map (fun r => (r.1, r.2 - e)) := by
  have hsz := ext_size s e b hb
  by_cases hin : e + 4 < s.size
  · have e1 : rd (s.extract e b) ((4 : Nat) : Int) = gn (s.extract e b) 4 5 0 := rd_in _ 4 (by omega)
    have e2 : rd s (((e + 4 : Nat)) : Int) = gn s (e + 4) 5 0 := rd_in s (e + 4) hin
    show rd (s.extract e b) ((4 : Nat) : Int) = (rd s ((e + 4 : Nat) : Int)).map _
    rw [e1, e2]
    exact gn_sub s e b hb h9 he 5 0 (by omega)
  · rw [rd_out _ 4 (by omega), rd_out s _ (by omega)]; rfl
theorem gn_pos (s : ByteArray) (i : Nat) : ∀ (f j n k : Nat), gn s i f j = some (n, k) → i < k
  | 0, j, n, k, h => by simp [gn] at h
  | f + 1, j, n, k, h => by
    simp only [gn] at h
    split at h
    · split at h
      · split at h
        · cases h
        · simp at h; omega
      · exact gn_pos s i f (j + 1) n k h
    · cases h
theorem rd_pos (s : ByteArray) (i n k : Nat) (h : rd s (i : Int) = some (n, k)) : i < k := by
  unfold rd at h
  split at h
  · exact gn_pos s _ 5 0 n k h
  · cases h
/-- The record that a log has at a. -/
def rc1 (s : ByteArray) (a : Nat) : Option (List Ch × Nat) :=
  match rd s ((a : Int) + 4) with
  | none => none
  | some (n, fr) =>
    if s.size < fr + n then none
    else if s.extract a (a + 4) = strOfNums (wdL (sum (s.extract fr (fr + n)))) then (gcS (s.extract fr (fr + n))).map (fun cs => (cs, fr + n)) else none
def rcs (s : ByteArray) : Nat → Nat → List (List Ch) × Nat
  | 0, a => ([], a)
  | f + 1, a =>
    match rc1 s a with
    | none => ([], a)
    | some (cs, b) => (cs :: (rcs s f b).1, (rcs s f b).2)
theorem rc1_facts {s : ByteArray} {a b : Nat} {cs : List Ch} (h : rc1 s a = some (cs, b)) : a < b ∧ b ≤ s.size := by
  unfold rc1 at h
  split at h
  · cases h
  · rename_i n fr h1
    have h2 := rd_pos s (a + 4) n fr h1
    split at h
    · cases h
    · split at h
      · rw [Option.map_eq_some_iff] at h
        obtain ⟨x, _, hx⟩ := h
        simp only [Prod.mk.injEq] at hx
        omega
      · cases h
theorem rc1_S {s : ByteArray} {a b : Nat} {cs : List Ch} (h : rc1 s a = some (cs, b)) : chS cs ∧ cs.length ≤ 100 := by
  unfold rc1 at h
  split at h
  · cases h
  · split at h
    · cases h
    · split at h
      · rw [Option.map_eq_some_iff] at h
        obtain ⟨x, hx, hx2⟩ := h
        simp only [Prod.mk.injEq] at hx2
        obtain ⟨rfl, _⟩ := hx2
        exact gcS_S2 hx
      · cases h
theorem rcs_fuel (s : ByteArray) : ∀ (f g a : Nat), s.size - a ≤ f → s.size - a ≤ g → rcs s f a = rcs s g a
  | 0, 0, a, _, _ => rfl
  | 0, g + 1, a, h, _ => by
    simp only [rcs]
    cases hr : rc1 s a with
    | none => rfl
    | some r => obtain ⟨cs, b⟩ := r; have := rc1_facts hr; omega
  | f + 1, 0, a, _, h => by
    simp only [rcs]
    cases hr : rc1 s a with
    | none => rfl
    | some r => obtain ⟨cs, b⟩ := r; have := rc1_facts hr; omega
  | f + 1, g + 1, a, h1, h2 => by
    simp only [rcs]
    cases hr : rc1 s a with
    | none => rfl
    | some r =>
      obtain ⟨cs, b⟩ := r
      have := rc1_facts hr
      simp only
      rw [rcs_fuel s f g b (by omega) (by omega)]
theorem rcs_no {s : ByteArray} {a : Nat} (h : rc1 s a = none) : rcs s s.size a = ([], a) := by
  cases hf : s.size with
  | zero => rfl
  | succ f => simp only [rcs, h]
theorem rcs_yes {s : ByteArray} {a b : Nat} {cs : List Ch} (h : rc1 s a = some (cs, b)) : rcs s s.size a = (cs :: (rcs s s.size b).1, (rcs s s.size b).2) := by
  have hb := rc1_facts h
  cases hf : s.size with
  | zero => omega
  | succ f =>
    simp only [rcs, h]
    rw [rcs_fuel s f (f + 1) b (by omega) (by omega)]
    rfl
theorem rcs_len (s : ByteArray) : ∀ (f a : Nat), (rcs s f a).1.length ≤ f ∧ (a ≤ s.size → (rcs s f a).2 ≤ s.size) ∧ ∀ x ∈ (rcs s f a).1, chS x ∧ x.length ≤ 100
  | 0, a => by simp [rcs]
  | f + 1, a => by
    simp only [rcs]
    cases hr : rc1 s a with
    | none => simp
    | some r =>
      obtain ⟨cs, b⟩ := r
      obtain ⟨h1, h2, h3⟩ := rcs_len s f b
      have hb := rc1_facts hr
      simp only [List.length_cons]
      refine ⟨by omega, fun _ => h2 (by omega), fun x hx => ?_⟩
      rcases List.mem_cons.1 hx with rfl | hx
      · exact rc1_S hr
      · exact h3 x hx
/-- What Records tells. -/
def recs (s : ByteArray) : List (List Ch) × Nat := if s.size ≤ 100000 then rcs s s.size 0 else ([], 0)
/-- What is told behind some of them. -/
def RR (s : ByteArray) (xss : List (List Ch)) (a : Nat) : Prop := rcs s s.size 0 = (xss ++ (rcs s s.size a).1, (rcs s s.size a).2)
theorem RR.zero (s : ByteArray) : RR s [] 0 := by unfold RR; simp
theorem RR.done {s : ByteArray} {xss : List (List Ch)} {a : Nat} (h : RR s xss a) (h1 : rc1 s a = none) : rcs s s.size 0 = (xss, a) := by
  unfold RR at h; rw [h, rcs_no h1]; simp
theorem RR.next {s : ByteArray} {xss : List (List Ch)} {a b : Nat} {cs : List Ch} (h : RR s xss a) (h1 : rc1 s a = some (cs, b)) : RR s (xss ++ [cs]) b := by
  unfold RR at h ⊢; rw [h, rcs_yes h1]; simp
theorem rc1_1 {s : ByteArray} {a : Nat} (h : rd s ((a : Int) + 4) = none) : rc1 s a = none := by unfold rc1; rw [h]
theorem rc1_2 {s : ByteArray} {a n fr : Nat} (h : rd s ((a : Int) + 4) = some (n, fr)) (hn : s.size < fr + n) : rc1 s a = none := by unfold rc1; rw [h]; simp only; rw [if_pos hn]
theorem rc1_3 {s : ByteArray} {a n fr : Nat} (h : rd s ((a : Int) + 4) = some (n, fr)) (hn : fr + n ≤ s.size) (hw : s.extract a (a + 4) ≠ strOfNums (wdL (sum (s.extract fr (fr + n))))) : rc1 s a = none := by unfold rc1; rw [h]; simp only; rw [if_neg (by omega), if_neg hw]
theorem rc1_4 {s : ByteArray} {a n fr : Nat} (h : rd s ((a : Int) + 4) = some (n, fr)) (hn : fr + n ≤ s.size) (hg : gcS (s.extract fr (fr + n)) = none) : rc1 s a = none := by
  unfold rc1; rw [h]; simp only; rw [if_neg (by omega)]
  split
  · rw [hg]; rfl
  · rfl
theorem rc1_5 {s : ByteArray} {a n fr : Nat} {cs : List Ch} (h : rd s ((a : Int) + 4) = some (n, fr)) (hn : fr + n ≤ s.size) (hw : s.extract a (a + 4) = strOfNums (wdL (sum (s.extract fr (fr + n))))) (hg : gcS (s.extract fr (fr + n)) = some cs) : rc1 s a = some (cs, fr + n) := by unfold rc1; rw [h]; simp only; rw [if_neg (by omega), if_pos hw, hg]; rfl
theorem rc1_short {s : ByteArray} {a : Nat} (h : s.size ≤ a + 4) : rc1 s a = none := rc1_1 (rd_out s _ (by omega))
end Go.Proofs.YtdaheepfmnjadaaGreatDoor
namespace Go.Proofs.YtdaheepfmnjadaaGreatDoor
open Go.RowKit
set_option linter.unusedSimpArgs false
set_option linter.unusedVariables false
theorem grown_rowJ {w : World} {g : Nat} (cs : Array Value) : w.grownBy (w.setRow g cs) (some g) :=
  ⟨rfl, rfl, rfl, by simp, fun k _ hk => setRow_other _ _ _ _ (fun e => hk (by rw [e]))⟩
theorem wpList_copy_text {P : Program} {w : World} {ops : Array Oper} {rest : List Oper} {o : Oper} {a : Act} {Q : Exit → Act → World → Prop} (hgd : o.guard = none) (d s : Operand) (dT sT : TypeId)
    (ho : o.op = .call { callee := .builtin .copy, args := #[d, s], argTypes := #[dT, sT] }) (elem : TypeId) (hu : P.underlying dT = some (.slice elem)) (hsz : (P.info? elem).map (·.size) = some 1)
    (g off dLen dCap : Nat) (x : ByteArray) (hd : a.eval d = .slice (some ⟨g, off, none⟩) dLen dCap) (hs : a.eval s = .string x)
    (cur : Array Value) (t : TypeId) (hg : w.heap[g]? = some (.cells cur t (0, 0))) (hle : x.size ≤ dLen) (hfit : off + x.size ≤ cur.size)
    (new : Array Value) (hnew : (cur.toList.take off ++ Lib.byteCells x.data.toList ++ cur.toList.drop (off + x.size)).toArray = new)
    (h : ∀ w', Hid (w'.heap[g]? = some (.cells new t (0, 0))) → Hid (w.grownBy w' (some g)) → wpList P ops Q rest (a.put o.dst (goInt x.size)) w') : wpList P ops Q (o :: rest) a w := by
  subst hnew
  refine wpList_plain hgd fun _ hK => ?_
  have hrun := Lib.run_copy_row_string (P := P) w dT sT o.type elem g off dLen dCap x cur t hu hsz hg hle hfit
  unfold Oper.wp execOp
  simp only [ho, resolve, invoke, builtin, Sem.run_bind, Sem.run_pure, Result.andThen_ok, List.map_toArray, List.map_cons, List.map_nil, hd, hs, hrun]
  exact hK _ _ (h _ (hid (setRow_heap w g cur _ t _ hg)) (hid (grown_rowJ _)))
/-- The bytes of the first texts behind each other. -/
def catL (xs : List ByteArray) (i : Nat) : List UInt8 := (xs.take i).flatMap (fun x => x.data.toList)
def catT (xs : List ByteArray) : ByteArray := ⟨(catL xs xs.length).toArray⟩
theorem catL_next {xs : List ByteArray} {i : Nat} (h : i < xs.length) : catL xs (i + 1) = catL xs i ++ xs[i].data.toList := by
  have e : xs.take (i + 1) = xs.take i ++ [xs[i]] := by rw [List.take_add_one, List.getElem?_eq_getElem h]; rfl
  unfold catL
  rw [e, List.flatMap_append]
  simp
theorem catL_len {xs : List ByteArray} {i : Nat} (h : i < xs.length) : (catL xs (i + 1)).length = (catL xs i).length + xs[i].size := by
  rw [catL_next h, List.length_append]
  rfl
theorem catL_mono (xs : List ByteArray) : ∀ d i, (catL xs i).length ≤ (catL xs (i + d)).length
  | 0, i => Nat.le_refl _
  | d + 1, i => by
    have h := catL_mono xs d i
    by_cases q : i + d < xs.length
    · have := catL_len q
      rw [show i + (d + 1) = i + d + 1 from rfl]; omega
    · have e : catL xs (i + (d + 1)) = catL xs (i + d) := by
        unfold catL
        rw [List.take_of_length_le (by omega), List.take_of_length_le (by omega)]
      rw [e]; exact h
theorem Tryz.info5J : (Tryz.prog.info? 5).map (·.size) = some 1 := by kernel_rfl
theorem make_bytes (n : Nat) (hn : n ≤ 1099511627776) (w : World) : (Instr.makeSlice 22 (.int .i64 n) (.int .i64 n)).run Tryz.prog w = .ok (.slice (some ⟨w.heap.size, 0, none⟩) n n) (w.alloc (.cells (madeCells #[.int .u8 0] n) 5)) := by
  obtain ⟨i0, hi, hz0, hz1, hz2⟩ := info_parts Tryz.info5
  have := run_make (P := Tryz.prog) w 22 5 i0 _ Tryz.underlying22 hi hz0 .i64 .i64 n n (by omega) (by omega) (by rw [hz2]; omega) (by omega)
  rw [hz1, Nat.mul_one] at this
  exact this
theorem take_put {cur : List Value} {off : Nat} {bs : List Value} (h : off + bs.length ≤ cur.length) (A : List Value) (hA : cur.take off = A) : (cur.take off ++ bs ++ cur.drop (off + bs.length)).take (off + bs.length) = A ++ bs := by
  have hl : (cur.take off).length = off := by rw [List.length_take]; omega
  rw [List.take_append_of_le_length (by rw [List.length_append, hl]; exact Nat.le_refl _), List.take_of_length_le (by rw [List.length_append, hl]; exact Nat.le_refl _), hA]
theorem conv_bytes (W : World) (g n : Nat) (l : List UInt8) (cur : Array Value) (t : TypeId) (hg : W.heap[g]? = some (.cells cur t (0, 0))) (hn : l.length = n) (h : cur.toList.take n = Lib.byteCells l) : (convert 22 9 (.slice (some ⟨g, 0, none⟩) n n)).run Tryz.prog W = .ok (.string ⟨l.toArray⟩) W := by
  have e : (⟨l.toArray⟩ : ByteArray) = strOfNums (l.map (fun x => (x.toNat : Int))) := by
    apply ByteArray.ext
    apply Array.ext'
    simp only [strOfNums, List.map_map]
    have : l.map ((fun n : Int => UInt8.ofNat n.toNat) ∘ fun x : UInt8 => (x.toNat : Int)) = l := by
      rw [List.map_congr_left (g := id) (fun x _ => by simp)]; simp
    simp [this]
  rw [e]
  refine run_convert_bytes_arg _ 22 5 Tryz.underlying22 Tryz.underlying5 g 0 n n (l.map (fun x => (x.toNat : Int))) (by simpa using hn) (fun i hi => ?_) 9 Tryz.underlying9
  have hi' : i < l.length := by omega
  have h1 : cur.toList[i]? = some (.int .u8 (l[i].toNat : Int)) := by
    have : (cur.toList.take n)[i]? = some (.int .u8 (l[i].toNat : Int)) := by
      rw [h]; unfold Lib.byteCells
      simp [List.getElem?_eq_getElem hi']
    rw [List.getElem?_take_of_lt hi] at this
    exact this
  have h2 : cur[i]? = some (.int .u8 (l[i].toNat : Int)) := by rw [← Array.getElem?_toList]; exact h1
  simp [World.cell?, hg, h2, hi']
/-- The first bytes of a block. -/
def JB (w : World) (g k m : Nat) (l : List UInt8) : Prop := ∃ cur : Array Value, w.heap[g]? = some (.cells cur 5 (0, 0)) ∧ cur.size = k ∧ cur.toList.take m = Lib.byteCells l
set_option maxRecDepth 100000 in
set_option maxHeartbeats 2000000 in
theorem impl_joined (p cap : Nat) (xs : List ByteArray) (w : World) (hn : xs.length ≤ 1000) (hp : p < w.heap.size) (hx : ∀ i (h : i < xs.length), w.cell? ⟨p, i, none⟩ = some (.string xs[i])) (hs : (catL xs xs.length).length ≤ 1099511627776) (hl : ∀ i, i < xs.length → (catL xs i).length < (catL xs xs.length).length) : Calls Tryz.prog 32 #[.slice (some ⟨p, 0, none⟩) xs.length cap] w fun e w' => e = .returned (.string (catT xs)) ∧ Below w.heap.size w w' := by
  have HX := hid hx
  have HN := hid (fun i (h : i < xs.length) => catL_len h)
  have HM := hid (fun i (h : i ≤ xs.length) => (by have := catL_mono xs (xs.length - i) i; rwa [show i + (xs.length - i) = xs.length by omega] at this : (catL xs i).length ≤ (catL xs xs.length).length))
  have HL := hid hl
  have hmk := hid (make_bytes _ hs)
  have HT := hid (show catT xs = ⟨(catL xs xs.length).toArray⟩ from rfl)
  clear hx hl
  generalize catT xs = T at *
  obtain ⟨tot, htot⟩ : ∃ tot, tot = (catL xs xs.length).length := ⟨_, rfl⟩
  rw [← htot] at hs HM HL hmk
  have HTO := hid htot
  clear htot
  go_enter Tryz.func32, Tryz.ntmps32
  go_wp2_with fail
  go_loopw [3, 12] (fun t3 ti wr => ∃ i k : Nat, ti = .int .i64 i ∧ t3 = .int .i64 k ∧ i ≤ xs.length ∧ k ≤ tot ∧ Hid (k = (catL xs i).length) ∧ Hid (wr = w)) (fun _ ti _ => xs.length - (intOf ti).toNat)
  case atStart => exact ⟨0, 0, rfl, rfl, Nat.zero_le _, Nat.zero_le _, hid (by simp [catL]), hid rfl⟩
  case round =>
    obtain ⟨i, k, rfl, rfl, hi, hk, HK, HW⟩ := hrel
    have hw := HW.out.symm
    subst hw
    by_cases hlt : i < xs.length
    · have c1 : (i : Int) < (xs.length : Int) := by omega
      have q0 := HX.out i hlt
      have h1 := HN.out i hlt
      have h2 := HM.out (i + 1) (by omega)
      have hk2 : k + xs[i].size ≤ tot := by have := HK.out; omega
      have HK2 : Hid (k + xs[i].size = (catL xs (i + 1)).length) := hid (by have := HK.out; omega)
      clear h1 h2
      generalize xs[i] = x at *
      go_wp2_with fail
      go_roundw
      case rel => exact ⟨i + 1, k + x.size, by go_num, by go_num, by omega, hk2, HK2, by first | exact hid rfl | exact hid trivial | trivial⟩
      case measure => simp [intOf]; omega
    · have c1 : (xs.length : Int) ≤ (i : Int) := by omega
      have hi2 : i = xs.length := by omega
      have hk3 : k = tot := by have := HK.out; have := HTO.out; subst hi2; omega
      subst hi2
      subst hk3
      clear HK HW hk hlt hi
      have hmk2 := hmk.out w
      have g0 := new_alloc w w.heap.size (.cells (madeCells #[.int .u8 0] k) 5) rfl
      have hB0 : Below w.heap.size w (w.alloc (.cells (madeCells #[.int .u8 0] k) 5)) := balloc (Below.refl _ _) _
      have hsz : (madeCells #[Value.int .u8 0] k).size = k := by simp [madeCells]
      generalize madeCells #[Value.int .u8 0] k = cur0 at *
      go_wp2_with fail
      generalize w.alloc (.cells cur0 5) = W0 at *
      generalize hg : w.heap.size = g at *
      have HG := hid hg
      clear hg
      go_loopw [7, 25] (fun t7 ti wr => ∃ i m : Nat, ti = .int .i64 i ∧ t7 = .int .i64 m ∧ i ≤ xs.length ∧ m ≤ k ∧ Hid (m = (catL xs i).length) ∧ Hid (JB wr g k m (catL xs i)) ∧ Hid (Below g w wr)) (fun _ ti _ => xs.length - (intOf ti).toNat)
      case atStart => exact ⟨0, 0, rfl, rfl, Nat.zero_le _, Nat.zero_le _, hid (by simp [catL]), hid ⟨cur0, g0, hsz, by simp [catL, Lib.byteCells]⟩, hid hB0⟩
      case round =>
        clear g0 hB0 hmk2 hsz
        obtain ⟨i, m, rfl, rfl, hi, hm, HK, HC, HB⟩ := hrel
        obtain ⟨cur, hcg, hcs, hct⟩ := HC.out
        by_cases hlt : i < xs.length
        · have c1 : (i : Int) < (xs.length : Int) := by omega
          have q0 : wr.cell? ⟨p, i, none⟩ = some (.string xs[i]) := (HB.out.cell (p := ⟨p, i, none⟩) (by have := HG.out; dsimp only; omega)).trans (HX.out i hlt)
          have h1 := HN.out i hlt
          have h2 := HM.out (i + 1) (by omega)
          have hk2 : m + xs[i].size ≤ k := by have := HK.out; omega
          have hmk3 : m < k := by have := HK.out; have := HL.out i hlt; omega
          have HK2 : Hid (m + xs[i].size = (catL xs (i + 1)).length) := hid (by have := HK.out; omega)
          have HN2 := hid (catL_next hlt)
          clear h1 h2
          generalize xs[i] = x at *
          have HCG := hid hcg
          have hgl : g ≤ wr.heap.size := Nat.le_of_lt (lt_of_block hcg)
          have HCT := hid hct
          have hbl : (Lib.byteCells x.data.toList).length = x.size := by rw [Lib.byteCells_length]; rfl
          have HTP := hid (take_put (cur := cur.toList) (off := m) (bs := Lib.byteCells x.data.toList) (by rw [hbl, Array.length_toList]; omega) _ hct)
          rw [hbl] at HTP
          obtain ⟨A, hA⟩ : ∃ A, A = (cur.toList.take m ++ Lib.byteCells x.data.toList ++ cur.toList.drop (m + x.size)).toArray := ⟨_, rfl⟩
          have hAs : A.size = k := by rw [hA]; simp [hbl]; omega
          have HAT : Hid (A.toList.take (m + x.size) = Lib.byteCells (catL xs (i + 1))) := hid (by
            rw [hA, List.toList_toArray, HTP.out, HN2.out]
            simp [Lib.byteCells])
          have HA := hid hA.symm
          clear hcg hct hbl HTP HCT hA HC
          go_wp2_with (refine wpList_copy_text rfl (.tmp 32) (.tmp 33) 22 9 rfl 5 Tryz.underlying22 Tryz.info5J g m _ _ x rfl rfl cur 5 HCG.out (by omega) (by omega) A HA.out ?_; intro w1 HG1 HR1)
          go_roundw
          case rel => exact ⟨i + 1, m + x.size, by go_num, by go_num, by omega, hk2, HK2, hid ⟨A, HG1.out, hAs, HAT.out⟩, hid (HB.out.grown HR1.out hgl (fun q e => by cases e; exact Nat.le_refl _))⟩
          case measure => simp [intOf]; omega
        · have c1 : (xs.length : Int) ≤ (i : Int) := by omega
          have hi2 : i = xs.length := by omega
          have hm2 : m = k := by have := HK.out; have := HTO.out; subst hi2; omega
          have hcv := conv_bytes wr g k (catL xs xs.length) cur 5 hcg HTO.out.symm (by rw [← hm2, ← hi2]; exact hct)
          rw [← HT.out] at hcv
          clear hcg hct HC HK
          go_wp2_with fail
          go_ret
          exact ⟨rfl, by rw [HG.out]; exact HB.out⟩
end Go.Proofs.YtdaheepfmnjadaaGreatDoor
namespace Go.Proofs.YtdaheepfmnjadaaGreatDoor
open Go.RowKit
set_option linter.unusedSimpArgs false
set_option linter.unusedVariables false
theorem pcT_size (cs : List Ch) : (pcT cs).size ≤ 61205 ∧ (pcb cs = true → 0 < (pcT cs).size) := by
  unfold pcT
  cases h : pcb cs
  · rw [if_neg (by simp)]; exact ⟨by decide, fun q => by cases q⟩
  · rw [if_pos rfl]
    unfold pcb at h
    rw [Bool.and_eq_true, decide_eq_true_eq] at h
    have h1 := bodyC_len (cgs_all h.1) cs.length (Nat.le_refl _)
    have e : (⟨(bodyC cs cs.length).toArray⟩ : ByteArray).size = (bodyC cs cs.length).length := List.size_toArray
    have h2 : ∀ i, 0 < (bodyC cs i).length := fun i => by
      induction i with
      | zero =>
        have := (put_size cs.length).1
        simp only [bodyC, tx]
        rw [Array.length_toList]; exact this
      | succ i ih => simp only [bodyC, List.length_append]; omega
    have := h2 cs.length
    rw [e]
    exact ⟨by omega, fun _ => this⟩
/-- A record's bytes. -/
def recT (cs : List Ch) : ByteArray := if pcb cs = true then strOfNums (wdL (sum (pcT cs))) ++ strOfNums (G 5 (pcT cs).size) ++ pcT cs else ⟨#[]⟩
theorem bne_of {t : ByteArray} (h : 0 < t.size) : t.toList.isEmpty = false := by
  have e : t.size = t.data.toList.length := by rw [Array.length_toList]; rfl
  rw [ByteArray.toList_eq]
  cases hl : t.data.toList with
  | nil => rw [e, hl] at h; exact absurd h (by simp)
  | cons x r => rfl
theorem recT_size (cs : List Ch) : (recT cs).size ≤ 61300 ∧ (pcb cs = true → 0 < (recT cs).size) := by
  have h1 := pcT_size cs
  have h2 := put_size (pcT cs).size
  unfold recT
  cases h : pcb cs
  · rw [if_neg (by simp)]; exact ⟨by decide, fun q => by cases q⟩
  · rw [if_pos rfl, ByteArray.size_append, ByteArray.size_append, strOfNums_size]
    have : (wdL (sum (pcT cs))).length = 4 := rfl
    rw [this]
    exact ⟨by omega, fun _ => by omega⟩
theorem catT3 (a b c : ByteArray) : catT [a, b, c] = a ++ b ++ c := by
  apply ByteArray.ext
  rw [ByteArray.data_append, ByteArray.data_append]
  apply Array.ext'
  simp [catT, catL]
theorem catT2 (a b : ByteArray) : catT [a, b] = a ++ b := by
  apply ByteArray.ext
  rw [ByteArray.data_append]
  apply Array.ext'
  simp [catT, catL]
theorem joined3 (a b c : ByteArray) (p : Nat) (w : World) (hp : w.heap[p]? = some (.cells #[.string a, .string b, .string c] 9 (0, 0))) (h0 : 0 < c.size) (hs : a.size + b.size + c.size ≤ 1099511627776) : Calls Tryz.prog 32 #[.slice (some ⟨p, 0, none⟩) 3 3] w fun e w' => e = .returned (.string (a ++ b ++ c)) ∧ Below w.heap.size w w' := by
  have l1 : (catL [a, b, c] 1).length = a.size := by have := catL_len (xs := [a, b, c]) (i := 0) (by simp); simp [catL] at this; simp [catL, this]
  have l2 : (catL [a, b, c] 2).length = a.size + b.size := by rw [catL_len (xs := [a, b, c]) (i := 1) (by simp), l1]; rfl
  have l3 : (catL [a, b, c] 3).length = a.size + b.size + c.size := by rw [catL_len (xs := [a, b, c]) (i := 2) (by simp), l2]; rfl
  have l0 : (catL [a, b, c] 0).length = 0 := by simp [catL]
  have := impl_joined p 3 [a, b, c] w (by simp) (lt_of_block hp) (fun i h => by
    have hi : i = 0 ∨ i = 1 ∨ i = 2 := by simp at h; omega
    rcases hi with rfl | rfl | rfl <;> simp [World.cell?, hp]) (by show (catL [a, b, c] 3).length ≤ _; omega) (fun i h => by
    have hi : i = 0 ∨ i = 1 ∨ i = 2 := by simp at h; omega
    show _ < (catL [a, b, c] 3).length
    rcases hi with rfl | rfl | rfl <;> omega)
  rw [catT3] at this
  exact this
theorem joined2 (a b : ByteArray) (p : Nat) (w : World) (hp : w.heap[p]? = some (.cells #[.string a, .string b] 9 (0, 0))) (h0 : 0 < b.size) (hs : a.size + b.size ≤ 1099511627776) : Calls Tryz.prog 32 #[.slice (some ⟨p, 0, none⟩) 2 2] w fun e w' => e = .returned (.string (a ++ b)) ∧ Below w.heap.size w w' := by
  have l1 : (catL [a, b] 1).length = a.size := by have := catL_len (xs := [a, b]) (i := 0) (by simp); simp [catL] at this; simp [catL, this]
  have l2 : (catL [a, b] 2).length = a.size + b.size := by rw [catL_len (xs := [a, b]) (i := 1) (by simp), l1]; rfl
  have l0 : (catL [a, b] 0).length = 0 := by simp [catL]
  have := impl_joined p 2 [a, b] w (by simp) (lt_of_block hp) (fun i h => by
    have hi : i = 0 ∨ i = 1 := by simp at h; omega
    rcases hi with rfl | rfl <;> simp [World.cell?, hp]) (by show (catL [a, b] 2).length ≤ _; omega) (fun i h => by
    have hi : i = 0 ∨ i = 1 := by simp at h; omega
    show _ < (catL [a, b] 2).length
    rcases hi with rfl | rfl <;> omega)
  rw [catT2] at this
  exact this
set_option maxRecDepth 100000 in
set_option maxHeartbeats 2000000 in
theorem spec_Record {N : Nat → Prop} (a : Option Addr) (cap : Nat) (cs : List Ch) (w : World) (hm : cs.length ≤ 1099511627776) (h : Chs N 1099511627776 w a cs) : Calls Tryz.prog 14 #[.slice a cs.length cap] w fun e w' => e = .returned (.string (recT cs)) ∧ Below w.heap.size w w' := by
  have HC := hid (spec_PutChanges a cap cs w hm h)
  have hz := pcT_size cs
  have HS := hid (fun W => spec_sum (pcT cs) (by unfold maxLen; omega) W)
  have HSL := sum_lt (pcT cs)
  have HW := hid (fun W => spec_word (sum (pcT cs)) HSL W)
  have HN := hid (fun W => spec_put (pcT cs).size (by omega) W)
  have hn := put_size (pcT cs).size
  clear h
  unfold recT
  cases hp : pcb cs
  · have hpT : pcT cs = ⟨#[]⟩ := by unfold pcT; rw [hp]; rfl
    rw [if_neg (by simp)]
    rw [hpT] at HC
    clear HS HSL HW HN hn hz hpT hp
    go_enter Tryz.func14, Tryz.ntmps14
    go_wp2_with fail
    refine HC.out.mono ?_
    rintro e y ⟨rfl, hy⟩
    go_wp2_with fail
    go_ret
    exact ⟨rfl, hy⟩
  · rw [if_pos rfl]
    obtain ⟨z1, z2⟩ := hz
    have z3 := z2 hp
    clear z2 hp HSL
    have hwl : (wdL (sum (pcT cs))).length = 4 := rfl
    have hws : (strOfNums (wdL (sum (pcT cs)))).size = 4 := by rw [strOfNums_size]; exact hwl
    clear hwl
    generalize strOfNums (wdL (sum (pcT cs))) = sw at *
    generalize hB : pcT cs = B at *
    generalize strOfNums (G 5 B.size) = sn at *
    clear hB
    have hne := bne_of z3
    have hcat1 : ¬ 9223372036854775807 < sw.size + sn.size := by omega
    have hcat2 : ¬ 9223372036854775807 < sw.size + sn.size + B.size := by omega
    have HWS := hid hws
    clear hws hn
    go_enter Tryz.func14, Tryz.ntmps14
    go_wp2_with fail
    refine HC.out.mono ?_
    rintro e y ⟨rfl, hy⟩
    go_wp2_with fail
    refine (HS.out _).mono ?_
    rintro e z ⟨rfl, hz⟩
    replace hz := hz.symm
    subst hz
    go_wp2_with fail
    refine (HW.out _).mono ?_
    rintro e y2 ⟨rfl, hy2⟩
    replace hy := btrans hy hy2
    go_wp2_with fail
    refine (HN.out _).mono ?_
    rintro e y3 ⟨rfl, hy3⟩
    replace hy := btrans hy hy3
    go_wp2_with fail
    go_ret
    exact ⟨rfl, hy⟩
set_option maxRecDepth 100000 in
set_option maxHeartbeats 2000000 in
theorem impl_Record {N : Nat → Prop} (a : Option Addr) (cap : Nat) (cs : List Ch) (w : World) (hm : cs.length ≤ 1099511627776) (h : Chs N 1099511627776 w a cs) : Calls Tryz.prog 9 #[.slice a cs.length cap] w fun e w' => e = .returned (.string (recT cs)) ∧ Below w.heap.size w w' := by
  have HC := hid (impl_PutChanges a cap cs w hm h)
  have hz := pcT_size cs
  have HW := hid (fun W => impl_word (pcT cs) (by unfold maxLen; omega) W)
  have HN := hid (fun W => impl_put (pcT cs).size (by omega) W)
  have hn := put_size (pcT cs).size
  clear h
  unfold recT
  cases hp : pcb cs
  · have hpT : pcT cs = ⟨#[]⟩ := by unfold pcT; rw [hp]; rfl
    rw [if_neg (by simp)]
    rw [hpT] at HC
    clear HW HN hn hz hpT hp
    go_enter Tryz.func9, Tryz.ntmps9
    go_wp2_with fail
    refine HC.out.mono ?_
    rintro e y ⟨rfl, hy⟩
    go_wp2_with fail
    go_ret
    exact ⟨rfl, hy⟩
  · rw [if_pos rfl]
    obtain ⟨z1, z2⟩ := hz
    have z3 := z2 hp
    clear z2 hp
    have hwl : (wdL (sum (pcT cs))).length = 4 := rfl
    have hws : (strOfNums (wdL (sum (pcT cs)))).size = 4 := by rw [strOfNums_size]; exact hwl
    clear hwl
    generalize strOfNums (wdL (sum (pcT cs))) = sw at *
    generalize hB : pcT cs = B at *
    generalize strOfNums (G 5 B.size) = sn at *
    clear hB
    have hne := bne_of z3
    have HJ := hid (fun (p : Nat) (W : World) hp => joined3 sw sn B p W hp z3 (by omega))
    clear hws hn
    go_enter Tryz.func9, Tryz.ntmps9
    go_wp2_with fail
    refine HC.out.mono ?_
    rintro e y ⟨rfl, hy⟩
    go_wp2_with fail
    refine (HW.out _).mono ?_
    rintro e y2 ⟨rfl, hy2⟩
    replace hy := btrans hy hy2
    go_wp2_with fail
    refine (HN.out _).mono ?_
    rintro e y3 ⟨rfl, hy3⟩
    replace hy := btrans hy hy3
    go_wp2_with fail
    refine (HJ.out _ _ (new_alloc _ _ _ rfl)).mono ?_
    rintro e y4 ⟨rfl, hy4⟩
    replace hy := btrans (balloc hy _) hy4
    go_wp2_with fail
    go_ret
    exact ⟨rfl, hy⟩
/-- Whether a record goes behind a log. -/
def apb (s : ByteArray) (cs : List Ch) : Bool := pcb cs && decide (s.size + (recT cs).size ≤ 100000)
def apT (s : ByteArray) (cs : List Ch) : ByteArray := if apb s cs = true then s ++ recT cs else s
set_option maxRecDepth 100000 in
set_option maxHeartbeats 2000000 in
theorem spec_Append {N : Nat → Prop} (s : ByteArray) (hs : s.size ≤ maxLen) (a : Option Addr) (cap : Nat) (cs : List Ch) (w : World) (hm : cs.length ≤ 1099511627776) (h : Chs N 1099511627776 w a cs) : Calls Tryz.prog 44 #[.string s, .slice a cs.length cap] w fun e w' => e = .returned (.tuple #[.string (apT s cs), .bool (apb s cs)]) ∧ Below w.heap.size w w' := by
  have HC := hid (spec_Record a cap cs w hm h)
  have hz := recT_size cs
  unfold maxLen at hs
  clear h
  unfold apT apb
  cases hp : pcb cs
  · have hpT : recT cs = ⟨#[]⟩ := by unfold recT; rw [hp]; rfl
    rw [if_neg (by simp), Bool.false_and]
    rw [hpT] at HC
    clear hz hpT hp
    go_enter Tryz.func44, Tryz.ntmps44
    go_wp2_with fail
    refine HC.out.mono ?_
    rintro e y ⟨rfl, hy⟩
    go_wp2_with fail
    exact bodyPost_ret (v := .tuple #[.string s, .bool false]) (by simp [results, Tryz.results44, go_sem]) rfl ⟨rfl, hy⟩
  · obtain ⟨z1, z2⟩ := hz
    have z3 := z2 hp
    clear z2 hp
    generalize recT cs = B at *
    have hne := bne_of z3
    by_cases hq : s.size + B.size ≤ 100000
    · have c1 : ¬ ((100000 : Int) - (B.size : Int) < (s.size : Int)) := by omega
      have hcat1 : ¬ 9223372036854775807 < s.size + B.size := by omega
      rw [Bool.true_and, decide_eq_true hq, if_pos rfl]
      go_enter Tryz.func44, Tryz.ntmps44
      go_wp2_with fail
      refine HC.out.mono ?_
      rintro e y ⟨rfl, hy⟩
      go_wp2_with fail
      exact bodyPost_ret (v := .tuple #[.string (s ++ B), .bool true]) (by simp [results, Tryz.results44, go_sem]) rfl ⟨rfl, hy⟩
    · have c1 : (100000 : Int) - (B.size : Int) < (s.size : Int) := by omega
      rw [Bool.true_and, decide_eq_false hq, if_neg (by simp)]
      go_enter Tryz.func44, Tryz.ntmps44
      go_wp2_with fail
      refine HC.out.mono ?_
      rintro e y ⟨rfl, hy⟩
      go_wp2_with fail
      exact bodyPost_ret (v := .tuple #[.string s, .bool false]) (by simp [results, Tryz.results44, go_sem]) rfl ⟨rfl, hy⟩
set_option maxRecDepth 100000 in
set_option maxHeartbeats 2000000 in
theorem impl_Append {N : Nat → Prop} (s : ByteArray) (hs : s.size ≤ 1048576) (a : Option Addr) (cap : Nat) (cs : List Ch) (w : World) (hm : cs.length ≤ 1099511627776) (h : Chs N 1099511627776 w a cs) : Calls Tryz.prog 16 #[.string s, .slice a cs.length cap] w fun e w' => e = .returned (.tuple #[.string (apT s cs), .bool (apb s cs)]) ∧ Below w.heap.size w w' := by
  have HC := hid (impl_Record a cap cs w hm h)
  have HK := hid (fun (W : World) => (Any.stringslite_Clone Tryz.laysM316 s W (by omega) : Calls Tryz.prog 69 #[.string s] W fun e w' => e = .returned (.string s) ∧ Below W.heap.size W w'))
  have hz := recT_size cs
  clear h
  unfold apT apb
  cases hp : pcb cs
  · have hpT : recT cs = ⟨#[]⟩ := by unfold recT; rw [hp]; rfl
    rw [if_neg (by simp), Bool.false_and]
    rw [hpT] at HC
    clear hz hpT hp
    go_enter Tryz.func16, Tryz.ntmps16
    go_wp2_with fail
    refine HC.out.mono ?_
    rintro e y ⟨rfl, hy⟩
    go_wp2_with (go_at_call 43; go_in)
    refine (HK.out _).mono ?_
    rintro e y2 ⟨rfl, hy2⟩
    go_wp2_with fail
    exact bodyPost_ret (v := .tuple #[.string s, .bool false]) (by simp [results, Tryz.results16, go_sem]) rfl ⟨rfl, btrans hy hy2⟩
  · obtain ⟨z1, z2⟩ := hz
    have z3 := z2 hp
    clear z2 hp
    generalize recT cs = B at *
    have hne := bne_of z3
    by_cases hq : s.size + B.size ≤ 100000
    · have c1 : ¬ ((100000 : Int) < (s.size : Int) + (B.size : Int)) := by omega
      have HJ := hid (fun (p : Nat) (W : World) hp => joined2 s B p W hp z3 (by omega))
      rw [Bool.true_and, decide_eq_true hq, if_pos rfl]
      go_enter Tryz.func16, Tryz.ntmps16
      go_wp2_with fail
      refine HC.out.mono ?_
      rintro e y ⟨rfl, hy⟩
      go_wp2_with fail
      refine (HJ.out _ _ (new_alloc _ _ _ rfl)).mono ?_
      rintro e y2 ⟨rfl, hy2⟩
      go_wp2_with fail
      exact bodyPost_ret (v := .tuple #[.string (s ++ B), .bool true]) (by simp [results, Tryz.results16, go_sem]) rfl ⟨rfl, btrans (balloc hy _) hy2⟩
    · have c1 : (100000 : Int) < (s.size : Int) + (B.size : Int) := by omega
      rw [Bool.true_and, decide_eq_false hq, if_neg (by simp)]
      go_enter Tryz.func16, Tryz.ntmps16
      go_wp2_with fail
      refine HC.out.mono ?_
      rintro e y ⟨rfl, hy⟩
      go_wp2_with (go_at_call 43; go_in)
      refine (HK.out _).mono ?_
      rintro e y2 ⟨rfl, hy2⟩
      go_wp2_with fail
      exact bodyPost_ret (v := .tuple #[.string s, .bool false]) (by simp [results, Tryz.results16, go_sem]) rfl ⟨rfl, btrans hy hy2⟩
end Go.Proofs.YtdaheepfmnjadaaGreatDoor
namespace Go.Proofs.YtdaheepfmnjadaaGreatDoor
open Go.RowKit
/-- A slice of integers that came in: nil, or a row of cap numbers each fitting its kind. -/
def IsRow (k : IntKind) (w : World) (a : Option Addr) (len cap : Nat) (zs : List Int) : Prop :=
  (a = none ∧ len = 0 ∧ cap = 0 ∧ zs = []) ∨
  ∃ x, a = some x ∧ len ≤ cap ∧ cap ≤ maxLen ∧ zs.length = cap ∧ (∀ i, i < zs.length → w.cell? (x.add i) = some (.int k (zs.getD i 0))) ∧ ∀ n ∈ zs, (Lit.int k n).wf = true
theorem code_of {w : World} {a : Option Addr} {len cap : Nat} {zs : List Int} (h : IsRow .u8 w a len cap zs) (hl : len ≤ 1048576) : CodeAt w a len w.heap.size := by
  refine ⟨hl, ?_⟩
  rcases h with ⟨_, h, _⟩ | ⟨x, rfl, h1, h2, h3, h4, h5⟩
  · exact .inl h
  · by_cases h0 : len = 0
    · exact .inl h0
    · obtain ⟨b, off, spot⟩ := x
      have hspot : spot = none := by simpa [Addr.add] using World.cell?_spot (h4 0 (by omega))
      subst hspot
      have hb := World.block_lt_of_cell? w _ (h4 0 (by omega))
      refine .inr ⟨b, off, rfl, by simpa [Addr.add] using hb, fun k hk => ?_⟩
      have hk' : k < zs.length := by omega
      have hw := bounds_u8 (h5 zs[k] (List.getElem_mem hk'))
      refine ⟨zs[k], hw.1, hw.2, ?_⟩
      have hc := h4 k hk'
      rw [Addr.add_lit] at hc
      simpa [List.getD, List.getElem?_eq_getElem hk'] using hc
theorem len_of {k : IntKind} {w : World} {a : Option Addr} {len cap : Nat} {zs : List Int} (h : IsRow k w a len cap zs) : len ≤ 9223372036854775807 := by
  rcases h with ⟨_, h, _⟩ | ⟨x, rfl, h1, h2, _⟩
  · omega
  · unfold maxLen at h2; omega
end Go.Proofs.YtdaheepfmnjadaaGreatDoor
