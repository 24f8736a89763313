/- Texts of stores, joined: Rb1, Wt. -/
import Derived.Test.YtjafahhoihlliaaGreatDoorJ30
import Derived.Test.YtjafahhoihlliaaGreatDoorJ36
namespace Go.Proofs.YtjafahhoihlliaaGreatDoor
open Go.RowKit
set_option linter.unusedVariables false
set_option linter.unusedSimpArgs false
/-- The bytes l lie in s from p on. -/
def At (s : ByteArray) (p : Nat) (l : List UInt8) : Prop := ∃ a b, s.data.toList = a ++ (l ++ b) ∧ a.length = p
theorem At.left {s : ByteArray} {p : Nat} {l m : List UInt8} (h : At s p (l ++ m)) : At s p l := by
  obtain ⟨a, b, h1, h2⟩ := h
  exact ⟨a, m ++ b, by rw [h1]; simp, h2⟩
theorem At.right {s : ByteArray} {p : Nat} {l m : List UInt8} (h : At s p (l ++ m)) : At s (p + l.length) m := by
  obtain ⟨a, b, h1, h2⟩ := h
  exact ⟨a ++ l, b, by rw [h1]; simp, by simp [h2]⟩
theorem At.size {s : ByteArray} {p : Nat} {l : List UInt8} (h : At s p l) : p + l.length ≤ s.size := by
  obtain ⟨a, b, h1, h2⟩ := h
  have e : s.data.toList.length = s.size := Array.length_toList
  rw [h1] at e
  simp only [List.length_append] at e
  omega
theorem At.whole (s : ByteArray) : At s 0 s.data.toList := ⟨[], [], by simp, rfl⟩
theorem by8_of (s : ByteArray) (k : Nat) (b : UInt8) (h : s.data.toList[k]? = some b) : by8 s k = b.toNat := by
  have hk : k < s.size := by
    obtain ⟨hlt, _⟩ := List.getElem?_eq_some_iff.1 h
    simpa using hlt
  rw [byte_at s k hk] at h
  rw [← by8_at s k hk]
  simp at h; rw [h]
theorem At.byte {s : ByteArray} {p : Nat} {l : List UInt8} (h : At s p l) (t : Nat) (ht : t < l.length) : by8 s (p + t) = (l[t]).toNat := by
  obtain ⟨a, b, h1, h2⟩ := h
  apply by8_of
  rw [h1, List.getElem?_append_right (by omega), show p + t - a.length = t by omega, List.getElem?_append_left ht, List.getElem?_eq_getElem ht]
theorem G_val : ∀ (f r : Nat), r < 128 ^ f → val ((G f r).map Int.toNat) = r
  | 0, r, h => by simp at h; simp [G, val]; omega
  | f + 1, r, h => by
    by_cases hr : r ≤ 127
    · rw [G_last _ _ hr]; simp [val]; omega
    · rw [G_more _ _ (by omega)]
      have ih := G_val f (r / 128) (by rw [Nat.pow_succ] at h; omega)
      simp only [List.map_cons, val, ih, Int.toNat_natCast]; omega
theorem G_shape : ∀ (f r : Nat), r < 128 ^ (f + 1) → ∃ l d, (G (f + 1) r).map Int.toNat = l ++ [d] ∧ (∀ x ∈ l, 128 ≤ x) ∧ d < 128 ∧ (l = [] ∨ d ≠ 0)
  | 0, r, h => ⟨[], r, by rw [G_last _ _ (by simp at h; omega)]; simp, by simp, by simp at h; omega, .inl rfl⟩
  | f + 1, r, h => by
    by_cases hr : r ≤ 127
    · exact ⟨[], r, by rw [G_last _ _ hr]; simp, by simp, by omega, .inl rfl⟩
    · obtain ⟨l, d, e, h1, h2, h3⟩ := G_shape f (r / 128) (by rw [Nat.pow_succ] at h; omega)
      refine ⟨(128 + r % 128) :: l, d, by rw [G_more _ _ (by omega)]; simp only [List.map_cons, e, Int.toNat_natCast]; rfl, ?_, h2, .inr ?_⟩
      · intro x hx
        rcases List.mem_cons.1 hx with rfl | hx
        · omega
        · exact h1 x hx
      · rcases h3 with rfl | h3
        · intro hd
          subst hd
          have hv := G_val (f + 1) (r / 128) (by rw [Nat.pow_succ] at h; omega)
          rw [e] at hv
          simp [val] at hv
          omega
        · exact h3
theorem gn_read (s : ByteArray) (i len : Nat) (hl : i + len < s.size) (hall : ∀ t, t < len → 128 ≤ by8 s (i + t)) (hd : by8 s (i + len) < 128) (hc : ¬ ((by8 s (i + len) = 0 ∧ 0 < len) ∨ 4000000000 < acc s i (len + 1))) :
    ∀ (f j : Nat), j ≤ len → len + 1 ≤ j + f → gn s i f j = some (acc s i (len + 1), i + len + 1)
  | 0, j, h1, h2 => by omega
  | f + 1, j, h1, h2 => by
    by_cases e : j = len
    · subst e; exact gn_good s i f j hl hd hc
    · rw [gn_go s i f j (by omega) (hall j (by omega))]
      exact gn_read s i len hl hall hd hc f (j + 1) (by omega) (by omega)
theorem tx_list (n : Nat) : tx n = (G 5 n).map fun x => UInt8.ofNat x.toNat := by simp [tx, strOfNums]
/-- A number is read where its bytes lie. -/
theorem rd_tx {s : ByteArray} {p : Nat} (n : Nat) (hn : n ≤ 4000000000) (h : At s p (tx n)) : rd s (p : Int) = some (n, p + (tx n).length) := by
  obtain ⟨l, d, e, h1, h2, h3⟩ := G_shape 4 n (by omega)
  have hv := G_val 5 n (by omega)
  have hlen : (G 5 n).length = l.length + 1 := by have := congrArg List.length e; simpa using this
  have htl : (tx n).length = l.length + 1 := by rw [tx_list, List.length_map, hlen]
  have hin := G_in 5 n
  have hsz := h.size
  have hb : ∀ t (ht : t < (l ++ [d]).length), by8 s (p + t) = (l ++ [d])[t] := by
    intro t ht
    have ht2 : t < l.length + 1 := by simpa using ht
    rw [h.byte t (by omega)]
    have e1 : (tx n)[t]? = ((G 5 n).map fun x => UInt8.ofNat x.toNat)[t]? := by rw [tx_list]
    rw [List.getElem?_eq_getElem (by omega), List.getElem?_map, List.getElem?_eq_getElem (by omega)] at e1
    simp only [Option.map_some, Option.some.injEq] at e1
    have e2 : ((G 5 n).map Int.toNat)[t]? = (l ++ [d])[t]? := by rw [e]
    rw [List.getElem?_map, List.getElem?_eq_getElem (by omega), List.getElem?_eq_getElem ht] at e2
    simp only [Option.map_some, Option.some.injEq] at e2
    have h4 := hin (G 5 n)[t] (List.getElem_mem _)
    rw [e1, ← e2]
    simp only [UInt8.toNat_ofNat']
    omega
  have hseg : seg s p (l.length + 1) = l ++ [d] := by
    apply List.ext_getElem
    · simp [seg]
    · intro t a b
      rw [← hb t b]
      simp [seg]
  have hacc : acc s p (l.length + 1) = n := by rw [acc_val, hseg, ← e, hv]
  have hlast : by8 s (p + l.length) = d := by
    rw [hb l.length (by simp)]; simp
  have hok : ¬ ((d = 0 ∧ 0 < l.length) ∨ 4000000000 < n) := by
    rcases h3 with rfl | h3
    · simp; omega
    · omega
  have hrd := gn_read s p l.length (by omega) (fun t ht => by
    rw [hb t (by simp; omega), List.getElem_append_left ht]
    exact h1 _ (List.getElem_mem ht)) (by omega) (by rw [hlast, hacc]; exact hok) 5 0 (by omega) (by have := G_len 5 n; omega)
  rw [rd_in s p (by omega), hrd, hacc, htl]
  rfl
theorem unf_fold (x : Int) : unf (fold x).toNat = x := by
  unfold unf fold
  split <;> split <;> omega
/-- The bytes of k points from the i-th on. -/
def bodyR (ps : List (Int × Int)) : Nat → Nat → List UInt8
  | i, 0 => []
  | i, k + 1 => tx (stX ps i) ++ (tx (stY ps i) ++ bodyR ps (i + 1) k)
theorem bodyT_R (ps : List (Int × Int)) : ∀ k i, bodyT ps (i + k) = bodyT ps i ++ bodyR ps i k
  | 0, i => by simp [bodyR]
  | k + 1, i => by
    rw [show i + (k + 1) = (i + 1) + k by omega, bodyT_R ps k (i + 1)]
    simp [bodyT, bodyR]
theorem st_small {ps : List (Int × Int)} (ha : allok ps = true) (i : Nat) (hi : i < ps.length) : stX ps i ≤ 200000 ∧ stY ps i ≤ 200000 := by
  obtain ⟨_, _, _, _, b1, b2⟩ := fold_at ha i hi
  obtain ⟨a1, a2⟩ := allok_in ha i hi
  unfold In at *
  unfold stX stY fold
  constructor <;> split <;> omega
theorem rdl_back {s : ByteArray} {ps : List (Int × Int)} (ha : allok ps = true) : ∀ (k i p : Nat), i + k = ps.length → At s p (bodyR ps i k) → rdl s 200000 k (p : Int) (prv ps i).1 (prv ps i).2 = some (ps.drop i, ((p + (bodyR ps i k).length : Nat) : Int))
  | 0, i, p, hk, h => by
    simp [rdl, bodyR]
    omega
  | k + 1, i, p, hk, h => by
    have hi : i < ps.length := by omega
    have h1 := rd_tx (stX ps i) (by have := (st_small ha i hi).1; omega) h.left
    have h2 := rd_tx (stY ps i) (by have := (st_small ha i hi).2; omega) h.right.left
    have h3 := rdl_back ha k (i + 1) _ (by omega) h.right.right
    obtain ⟨c1, c2⟩ := st_small ha i hi
    have ex : (prv ps i).1 + unf (stX ps i) = (ps.getD i (0, 0)).1 := by unfold stX; rw [unf_fold]; omega
    have ey : (prv ps i).2 + unf (stY ps i) = (ps.getD i (0, 0)).2 := by unfold stY; rw [unf_fold]; omega
    rw [rdl_next h1 h2 (by omega), ex, ey]
    have h3' : rdl s 200000 k ((p + (tx (stX ps i)).length + (tx (stY ps i)).length : Nat) : Int) (ps.getD i (0, 0)).1 (ps.getD i (0, 0)).2 = _ := h3
    rw [h3']
    simp only [Option.map_some, Option.some.injEq, Prod.mk.injEq, bodyR, List.length_append]
    refine ⟨?_, by omega⟩
    have e2 : ps.getD i (0, 0) = ps[i] := by simp [List.getD_eq_getElem?_getD, List.getElem?_eq_getElem hi]
    rw [e2]
    exact (List.drop_eq_getElem_cons hi).symm
theorem shok_all {k : Int} {ps : List (Int × Int)} (h : shok k ps = true) : allok ps = true := by
  cases ha : allok ps
  · rw [shok_no ha] at h; cases h
  · rfl
/-- A shape is read where its bytes lie. -/
theorem gso_back {s : ByteArray} {p : Nat} {k : Int} {ps : List (Int × Int)} (hk : shok k ps = true) (h : At s p (psT k ps).data.toList) : gso s 200000 (p : Int) = some (k, ps, ((p + (psT k ps).size : Nat) : Int)) := by
  have ht : (psT k ps).data.toList = kb k :: (tx ps.length ++ bodyT ps ps.length) := by
    unfold psT; rw [if_pos hk]; simp [shl]
  have hz : (psT k ps).size = 1 + ((tx ps.length).length + (bodyT ps ps.length).length) := by
    have e : (psT k ps).data.toList.length = (psT k ps).size := Array.length_toList
    rw [ht] at e
    simp only [List.length_cons, List.length_append] at e
    omega
  rw [ht] at h
  have ha := shok_all hk
  have hl : ps.length ≤ 60 ∧ 0 ≤ k ∧ k ≤ 3 := by rcases shok_kind hk with h | h | h | h <;> omega
  have hb := h.byte 0 (by simp)
  have hR := At.right (l := [kb k]) h
  have hsz := h.size
  have hk8 : (by8 s p : Int) = k := by
    rw [show p = p + 0 by omega, hb]
    simp only [List.getElem_cons_zero, kb, UInt8.toNat_ofNat']
    omega
  have h1 := rd_tx ps.length (by omega) hR.left
  have e0 : bodyT ps ps.length = bodyR ps 0 ps.length := by
    have := bodyT_R ps ps.length 0
    simpa [bodyT] using this
  have h2 := hR.right
  rw [e0] at h2
  have h3 := rdl_back ha ps.length 0 _ (by omega) h2
  rw [gso_in s _ p (by simp at hsz; omega)]
  have h1' : rd s ((p : Int) + 1) = some (ps.length, p + 1 + (tx ps.length).length) := h1
  have h3' : rdl s 200000 ps.length ((p + 1 + (tx ps.length).length : Nat) : Int) 0 0 = some (ps, ((p + 1 + (tx ps.length).length + (bodyR ps 0 ps.length).length : Nat) : Int)) := h3
  rw [h1']
  simp only
  rw [if_neg (by omega)]
  unfold gsh
  rw [h3', hk8]
  simp only [hk, if_true, Option.map_some]
  rw [hz, ← e0]
  congr 4
  omega
end Go.Proofs.YtjafahhoihlliaaGreatDoor
namespace Go.Proofs.YtjafahhoihlliaaGreatDoor
open Go.RowKit
set_option linter.unusedSimpArgs false
set_option linter.unusedVariables false
theorem At.app {s : ByteArray} {p : Nat} {l m : List UInt8} (h : At s p l) (k : At s (p + l.length) m) : At s p (l ++ m) := by
  obtain ⟨a, b, e, hl⟩ := h
  obtain ⟨a', b', e', hl'⟩ := k
  rw [e, ← List.append_assoc] at e'
  obtain ⟨_, e2⟩ := List.append_inj e' (by simp; omega)
  exact ⟨a, b', by rw [e, e2]; simp, hl⟩
theorem gn_inv (s : ByteArray) (i : Nat) : ∀ (f j n k : Nat), (∀ t, t < j → 128 ≤ by8 s (i + t)) → gn s i f j = some (n, k) → ∃ J, J < j + f ∧ i + J < s.size ∧ (∀ t, t < J → 128 ≤ by8 s (i + t)) ∧ by8 s (i + J) < 128 ∧ ¬ ((by8 s (i + J) = 0 ∧ 0 < J) ∨ 4000000000 < acc s i (J + 1)) ∧ n = acc s i (J + 1) ∧ k = i + J + 1
  | 0, j, n, k, _, h => by cases h
  | f + 1, j, n, k, ha, h => by
    rw [gn] at h
    split at h
    · rename_i h1
      split at h
      · rename_i h2
        split at h
        · cases h
        · rename_i h3
          injection h with h
          injection h with e1 e2
          exact ⟨j, by omega, h1, ha, h2, h3, e1.symm, e2.symm⟩
      · rename_i h2
        obtain ⟨J, j1, j2⟩ := gn_inv s i f (j + 1) n k (fun t ht => by
          by_cases e : t = j
          · subst e; omega
          · exact ha t (by omega)) h
        exact ⟨J, by omega, j2⟩
    · cases h
theorem at_seg (s : ByteArray) (i j : Nat) (h : i + j ≤ s.size) : At s i ((seg s i j).map UInt8.ofNat) := by
  have hl : s.data.toList.length = s.size := Array.length_toList
  refine ⟨s.data.toList.take i, s.data.toList.drop (i + j), ?_, by rw [List.length_take]; omega⟩
  rw [← seg_data s i j h, ← List.drop_drop, List.take_append_drop, List.take_append_drop]
/-- What was read as a number is the bytes that are put for it. -/
theorem rd_at {s : ByteArray} {p n q : Nat} (h : rd s (p : Int) = some (n, q)) : At s p (tx n) ∧ q = p + (tx n).length ∧ n ≤ 4000000000 := by
  by_cases hp : p < s.size
  · rw [rd_in s p hp] at h
    obtain ⟨J, h1, h2, h3, h4, h5, rfl, rfl⟩ := gn_inv s p 5 0 n q (fun t ht => absurd ht (by omega)) h
    have hg : G 5 (acc s p (J + 1)) = (seg s p (J + 1)).map (fun (x : Nat) => (x : Int)) := by
      rw [acc_val, seg_next]
      refine G_canon 5 (seg s p J) (by8 s (p + J)) (fun x hx => ?_) h4 ?_ (by rw [seg_length]; omega)
      · simp only [seg, List.mem_map, List.mem_range] at hx
        obtain ⟨t, ht, rfl⟩ := hx
        refine ⟨h3 t ht, ?_⟩
        unfold by8
        split
        · exact UInt8.toNat_lt _
        · omega
      · by_cases hJ : J = 0
        · left; subst hJ; rfl
        · right; intro e; exact h5 (.inl ⟨e, by omega⟩)
    have ht : tx (acc s p (J + 1)) = (seg s p (J + 1)).map UInt8.ofNat := by
      rw [tx_list, hg, List.map_map]
      rfl
    rw [ht]
    refine ⟨at_seg s p (J + 1) (by omega), by rw [List.length_map, seg_length]; omega, ?_⟩
    omega
  · rw [rd_out s p (by omega)] at h; cases h
theorem fold_unfN (n : Nat) : (fold (unf n)).toNat = n := by
  unfold unf fold
  split <;> split <;> omega
/-- The bytes of points behind a point. -/
def bodyL : Int → Int → List (Int × Int) → List UInt8
  | _, _, [] => []
  | x, y, (a, b) :: r => tx (fold (a - x)).toNat ++ (tx (fold (b - y)).toNat ++ bodyL a b r)
theorem rdl_text {s : ByteArray} {m : Nat} : ∀ (k p : Nat) (x y : Int) (l : List (Int × Int)) (q : Int), p ≤ s.size → rdl s m k (p : Int) x y = some (l, q) → At s p (bodyL x y l) ∧ q = ((p + (bodyL x y l).length : Nat) : Int) ∧ l.length = k
  | 0, p, x, y, l, q, hp, h => by
    simp only [rdl, Option.some.injEq, Prod.mk.injEq] at h
    obtain ⟨rfl, rfl⟩ := h
    refine ⟨⟨s.data.toList.take p, s.data.toList.drop p, by simp [bodyL], ?_⟩, by simp [bodyL], rfl⟩
    have hl : s.data.toList.length = s.size := Array.length_toList
    rw [List.length_take]; omega
  | k + 1, p, x, y, l, q, hp, h => by
    rw [rdl] at h
    split at h
    · cases h
    · rename_i dx mid h1
      split at h
      · cases h
      · rename_i dy en h2
        split at h
        · cases h
        · split at h
          · cases h
          rename_i l2 q2 h3
          simp only [Option.some.injEq, Prod.mk.injEq] at h
          obtain ⟨rfl, rfl⟩ := h
          obtain ⟨a1, rfl, _⟩ := rd_at h1
          obtain ⟨a2, rfl, _⟩ := rd_at h2
          have hs2 := a2.size
          obtain ⟨a3, e3, e4⟩ := rdl_text k _ _ _ _ _ hs2 h3
          have ex : (fold (x + unf dx - x)).toNat = dx := by rw [show x + unf dx - x = unf dx by omega]; exact fold_unfN dx
          have ey : (fold (y + unf dy - y)).toNat = dy := by rw [show y + unf dy - y = unf dy by omega]; exact fold_unfN dy
          rw [bodyL, ex, ey]
          refine ⟨a1.app (a2.app a3), ?_, by simp [e4]⟩
          rw [e3]
          simp only [List.length_append]
          omega
theorem bodyL_R (ps : List (Int × Int)) : ∀ (k i : Nat), i + k = ps.length → bodyL (prv ps i).1 (prv ps i).2 (ps.drop i) = bodyR ps i k
  | 0, i, h => by
    rw [List.drop_eq_nil_of_le (by omega)]
    rfl
  | k + 1, i, h => by
    have hi : i < ps.length := by omega
    have e2 : ps.getD i (0, 0) = ps[i] := by simp [List.getD_eq_getElem?_getD, List.getElem?_eq_getElem hi]
    have ih := bodyL_R ps k (i + 1) (by omega)
    rw [List.drop_eq_getElem_cons hi, bodyR]
    have e3 : prv ps (i + 1) = ps[i] := e2
    rw [e3] at ih
    rw [← ih]
    unfold stX stY
    rw [e2]
    rfl
/-- What was read as a shape is the bytes that are put for it. -/
theorem gso_text {s : ByteArray} {m p : Nat} {k q : Int} {l : List (Int × Int)} (h : gso s m (p : Int) = some (k, l, q)) : shok k l = true ∧ At s p (psT k l).data.toList ∧ q = ((p + (psT k l).size : Nat) : Int) := by
  unfold gso at h
  split at h
  · rename_i hp
    split at h
    · cases h
    · rename_i n p2 h1
      split at h
      · cases h
      · rename_i h60
        rw [Option.map_eq_some_iff] at h
        obtain ⟨⟨l2, q2⟩, h2, h3⟩ := h
        simp only [Prod.mk.injEq, Int.toNat_natCast] at h3
        obtain ⟨rfl, rfl, rfl⟩ := h3
        unfold gsh at h2
        split at h2
        · cases h2
        · rename_i l3 q3 h4
          split at h2
          · rename_i hs
            injection h2 with h2
            injection h2 with e1 e2
            subst e1 e2
            rw [Int.toNat_natCast] at hs
            have h1' : rd s ((p + 1 : Nat) : Int) = some (n, p2) := h1
            obtain ⟨a1, rfl, _⟩ := rd_at h1'
            obtain ⟨a2, e3, e4⟩ := rdl_text n _ 0 0 _ _ a1.size h4
            have hb := bodyL_R l3 l3.length 0 (by omega)
            have hb' : bodyL 0 0 l3 = bodyR l3 0 l3.length := hb
            have e0 : bodyT l3 l3.length = bodyR l3 0 l3.length := by
              have := bodyT_R l3 l3.length 0
              simpa [bodyT] using this
            have ht : (psT (by8 s p : Int) l3).data.toList = [kb (by8 s p : Int)] ++ (tx l3.length ++ bodyL 0 0 l3) := by
              unfold psT; rw [if_pos hs, hb', ← e0]; simp [shl]
            have hz : (psT (by8 s p : Int) l3).size = (psT (by8 s p : Int) l3).data.toList.length := Array.length_toList.symm
            refine ⟨hs, ?_, ?_⟩
            · rw [ht]
              have hps : p < s.size := by omega
              refine At.app ?_ (At.app (by rw [e4]; exact a1) (by rw [e4]; exact a2))
              have hk : [kb (by8 s p : Int)] = (seg s p 1).map UInt8.ofNat := by
                simp [kb, seg]
              rw [hk]
              exact at_seg s p 1 (by omega)
            · rw [e3, hz, ht]
              simp only [List.length_append, List.length_cons, List.length_nil, e4]
              omega
          · cases h2
  · cases h
end Go.Proofs.YtjafahhoihlliaaGreatDoor
