/- Texts of stores, joined: Wm, RsK. -/
import Derived.Test.YtenlhgnobfadgaaGreatDoorJ21
set_option maxHeartbeats 2000000
set_option linter.unusedSimpArgs false
set_option linter.unusedVariables false
namespace Go.Proofs.YtenlhgnobfadgaaGreatDoor
open Go.RowKit
def wl : List UInt8 → List (List UInt8)
 | [] => [[]]
 | c :: r => if c = 32 then [] :: wl r else (c :: (wl r).headD []) :: (wl r).tail
def jn : List (List UInt8) → List UInt8
 | [] => []
 | [a] => a
 | a :: b :: r => a ++ 32 :: jn (b :: r)
theorem wl_word : ∀ a : List UInt8, (∀ c ∈ a, c ≠ 32) → wl a = [a]
 | [], _ => rfl
 | c :: r, h => by
  unfold wl
  rw [if_neg (h c (by simp)), wl_word r (fun x hx => h x (by simp [hx]))]
  rfl
theorem wl_app : ∀ (a l : List UInt8), (∀ c ∈ a, c ≠ 32) → wl (a ++ 32 :: l) = a :: wl l
 | [], l, _ => by simp [wl]
 | c :: r, l, h => by
  rw [List.cons_append, wl, if_neg (h c (by simp)), wl_app r l (fun x hx => h x (by simp [hx]))]
  rfl
theorem wl_jn : ∀ ws : List (List UInt8), ws ≠ [] → (∀ a ∈ ws, ∀ c ∈ a, c ≠ 32) → wl (jn ws) = ws
 | [], h, _ => absurd rfl h
 | [a], _, h => wl_word a (h a (by simp))
 | a :: b :: r, _, h => by
  rw [jn, wl_app a _ (h a (by simp)), wl_jn (b :: r) (by simp) (fun x hx => h x (by simp only [List.mem_cons] at hx ⊢; exact .inr hx))]
theorem exl_list (s : ByteArray) (a b : Nat) : (s.extract a b).data.toList = (s.data.toList.drop a).take (b - a) := by
 rw [ByteArray.data_extract, Array.toList_extract, List.extract_eq_take_drop]
theorem ext_push (s : ByteArray) (a i : Nat) (ha : a ≤ i) (hi : i < s.size) : (s.extract a (i + 1)).data.toList = (s.extract a i).data.toList ++ [s.data.toList[i]'hi] := by
 rw [exl_list, exl_list, show i + 1 - a = (i - a) + 1 by omega, List.take_add_one, List.getElem?_drop, show a + (i - a) = i by omega, List.getElem?_eq_getElem hi]
 rfl
theorem rest_wl (s : ByteArray) : ∀ (f fr i : Nat), i + f = s.size → fr ≤ i → ∃ h t, wl (s.data.toList.drop i) = h :: t ∧ (rest s f fr i).map (·.data.toList) = ((s.extract fr i).data.toList ++ h) :: t
 | 0, fr, i, hi, hf => by
  have e : i = s.size := by omega
  subst e
  refine ⟨[], [], ?_, by simp [rest]⟩
  rw [show s.data.toList.drop s.size = [] from List.drop_eq_nil_of_le (Nat.le_of_eq (Array.length_toList))]
  rfl
 | f + 1, fr, i, hi, hf => by
  have hl : i < s.size := by omega
  have hd : s.data.toList.drop i = s.data.toList[i]'hl :: s.data.toList.drop (i + 1) := List.drop_eq_getElem_cons hl
  have hb : by8 s i = (s.data.toList[i]'hl).toNat := by unfold by8; rw [dif_pos hl]; rfl
  rw [hd]
  by_cases h32 : s.data.toList[i]'hl = 32
  ·obtain ⟨h, t, h1, h2⟩ := rest_wl s f (i + 1) (i + 1) (by omega) (Nat.le_refl _)
   refine ⟨[], h :: t, by rw [wl, if_pos h32, h1], ?_⟩
   rw [rest, if_pos (by rw [hb, h32]; rfl), List.map_cons, h2, exl_list s (i + 1) (i + 1)]
   simp
  ·obtain ⟨h, t, h1, h2⟩ := rest_wl s f fr (i + 1) (by omega) (by omega)
   refine ⟨s.data.toList[i]'hl :: h, t, by rw [wl, if_neg h32, h1]; rfl, ?_⟩
   have hn : ¬ by8 s i = 32 := by
    rw [hb]
    intro e
    exact h32 (UInt8.toNat_inj.1 e)
   rw [rest, if_neg hn, h2, ext_push s fr i hf hl]
   simp
theorem rest_words (s : ByteArray) : (rest s s.size 0 0).map (·.data.toList) = wl s.data.toList := by
 obtain ⟨h, t, h1, h2⟩ := rest_wl s s.size 0 0 (by omega) (Nat.le_refl _)
 rw [List.drop_zero] at h1
 rw [h2, h1, exl_list]
 simp
theorem dig_no (u : Nat) : ∀ c ∈ Lib.decDigits u, c ≠ 32 := by
 induction u using Nat.strongRecOn with
 | _ u ih =>
  intro c hc
  have hd : ∀ v : Nat, v < 10 → UInt8.ofNat (48 + v) ≠ 32 := by decide
  by_cases h : u < 10
  ·rw [Lib.decDigits, dif_pos h, List.mem_singleton] at hc
   rw [hc]; exact hd u h
  ·rw [Lib.decDigits, dif_neg h, List.mem_append, List.mem_singleton] at hc
   rcases hc with hc | hc
   ·exact ih (u / 10) (by omega) c hc
   ·rw [hc]; exact hd (u % 10) (by omega)
theorem itoa_no (n : Int) : ∀ c ∈ Lib.itoa n, c ≠ 32 := by
 intro c hc
 unfold Lib.itoa at hc
 split at hc
 ·rcases List.mem_cons.1 hc with rfl | hc
  ·decide
  ·exact dig_no _ c hc
 ·exact dig_no _ c hc
theorem jn_snoc : ∀ (ws : List (List UInt8)) (a : List UInt8), ws ≠ [] → jn (ws ++ [a]) = jn ws ++ 32 :: a
 | [], _, h => absurd rfl h
 | [x], a, _ => by simp [jn]
 | x :: y :: r, a, _ => by
  have := jn_snoc (y :: r) a (by simp)
  simp only [List.cons_append] at this ⊢
  rw [jn, this, jn]
  simp
def wdp (l : List (Int × Int)) : List ByteArray := l.flatMap (fun p => [ia p.1, ia p.2])
theorem wds_flat (k : Nat) (ps : List (Int × Int)) : ∀ i, i ≤ ps.length → wds k ps i = kw k :: wdp (ps.take i)
 | 0, _ => by simp [wds, wdp]
 | i + 1, hi => by
  have e : ps.getD i (0, 0) = ps[i] := by rw [List.getD_eq_getElem?_getD, List.getElem?_eq_getElem (by omega)]; rfl
  rw [wds, wds_flat k ps i (by omega), e, List.take_succ_eq_append_getElem (by omega)]
  unfold wdp
  rw [List.flatMap_append]
  rfl
theorem stx_jn (k : Nat) (ps : List (Int × Int)) : ∀ i, (stx k ps i).data.toList = jn ((wds k ps i).map (·.data.toList))
 | 0 => by simp [stx, wds, jn]
 | i + 1 => by
  have hn : (wds k ps i).map (·.data.toList) ≠ [] := by
   have := wds_len k ps i
   intro e
   have e2 := congrArg List.length e
   rw [List.length_map, this] at e2
   simp at e2
  rw [stx, wds, List.map_append, List.map_cons, List.map_cons, List.map_nil, show ∀ (l : List (List UInt8)) (a b : List UInt8), l ++ [a, b] = (l ++ [a]) ++ [b] by simp, jn_snoc _ _ (by simp), jn_snoc _ _ hn, ← stx_jn k ps i]
  simp [spc]
theorem ba_inj {a b : ByteArray} (h : a.data.toList = b.data.toList) : a = b := by
 cases a; cases b
 congr 1
 exact Array.toList_inj.1 h
theorem kw_no (k : Nat) : ∀ c ∈ (kw k).data.toList, c ≠ 32 := by
 unfold kw; split <;> decide
theorem wds_no (k : Nat) (ps : List (Int × Int)) : ∀ i, ∀ a ∈ (wds k ps i).map (·.data.toList), ∀ c ∈ a, c ≠ 32
 | 0 => by
  intro a ha
  simp only [wds, List.map_cons, List.map_nil, List.mem_singleton] at ha
  rw [ha]; exact kw_no k
 | i + 1 => by
  intro a ha
  rw [wds, List.map_append, List.mem_append] at ha
  rcases ha with ha | ha
  ·exact wds_no k ps i a ha
  ·simp only [List.map_cons, List.map_nil, List.mem_cons, List.not_mem_nil, or_false] at ha
   rcases ha with rfl | rfl <;> exact itoa_no _
theorem maps_inj : ∀ (a b : List ByteArray), a.map (·.data.toList) = b.map (·.data.toList) → a = b
 | [], [], _ => rfl
 | [], _ :: _, h => by simp at h
 | _ :: _, [], h => by simp at h
 | x :: a, y :: b, h => by
  simp only [List.map_cons, List.cons.injEq] at h
  rw [ba_inj h.1, maps_inj a b h.2]
theorem words_stx (k : Nat) (ps : List (Int × Int)) (i : Nat) : rest (stx k ps i) (stx k ps i).size 0 0 = wds k ps i := by
 apply maps_inj
 rw [rest_words, stx_jn, wl_jn _ _ (wds_no k ps i)]
 have := wds_len k ps i
 intro e
 have e2 := congrArg List.length e
 rw [List.length_map, this] at e2
 simp at e2
theorem ri_ia {a : Int} (h1 : -999999999 ≤ a) (h2 : a ≤ 999999999) : ri (ia a) = some a := ri_true (.inl ⟨rfl, rfl, h1, h2⟩)
theorem rdp_wdp : ∀ l : List (Int × Int), (∀ p ∈ l, (-999999999 ≤ p.1 ∧ p.1 ≤ 999999999) ∧ (-999999999 ≤ p.2 ∧ p.2 ≤ 999999999)) → rdp (wdp l) = some l
 | [], _ => by simp [wdp, rdp]
 | (x, y) :: l, h => by
  have hp := h (x, y) (by simp)
  have ih := rdp_wdp l (fun p hp => h p (by simp [hp]))
  have e : wdp ((x, y) :: l) = ia x :: ia y :: wdp l := by simp [wdp]
  rw [e, rdp, ri_ia hp.1.1 hp.1.2, ri_ia hp.2.1 hp.2.2]
  simp [ih]
theorem kw_kwr (m : Nat) : kw m = kwr m := by
 match m with
 | 0 => rfl
 | 1 => rfl
 | 2 => rfl
 | _ + 3 => rfl
theorem rso_txv {k : Int} {ps : List (Int × Int)} (hs : shok k ps = true) : rso (rest (txv k ps) (txv k ps).size 0 0) = some (k, ps) := by
 obtain ⟨m, rfl, hm, _, ha⟩ := kind_nat hs
 have e : txv (m : Int) ps = stx m ps ps.length := by unfold txv; rw [if_pos hs]; rfl
 have hk : kdr (kw m) = some m := (kdr_at _ m hm).1 (kw_kwr m)
 have hr : rdp (wdp ps) = some ps := rdp_wdp ps (fun p hp => by
  rw [allok, List.all_eq_true] at ha
  have := in_of_pok (ha p hp)
  unfold In at this
  omega)
 rw [e, words_stx, wds_flat m ps ps.length (Nat.le_refl _), List.take_length]
 unfold rso
 simp only [List.getD_cons_zero, List.drop_succ_cons, List.drop_zero, hk, hr, hs, if_true]
theorem kw_idx (a b c d : Value) (w : World) : (Instr.index 98 (.agg #[a, b, c, d]) (.int .i64 0)).run Tryz.prog w = .ok a w ∧ (Instr.index 98 (.agg #[a, b, c, d]) (.int .i64 1)).run Tryz.prog w = .ok b w ∧ (Instr.index 98 (.agg #[a, b, c, d]) (.int .i64 2)).run Tryz.prog w = .ok c w ∧ (Instr.index 98 (.agg #[a, b, c, d]) (.int .i64 3)).run Tryz.prog w = .ok d w := ⟨by kernel_rfl, by kernel_rfl, by kernel_rfl, by kernel_rfl⟩
theorem kw_other {x : ByteArray} {m : Nat} (hm : m ≤ 3) (h : kdr x ≠ some m) : ((kwr m).toList == x.toList) = false := by
 rw [str_eq, decide_eq_false_iff_not]
 intro e
 exact h ((kdr_at x m hm).1 e.symm)
theorem kw_same {x : ByteArray} {m : Nat} (hm : m ≤ 3) (h : kdr x = some m) : ((kwr m).toList == x.toList) = true := by
 rw [str_eq, decide_eq_true_iff]
 exact ((kdr_at x m hm).2 h).symm
theorem kind_ok (x : ByteArray) (m : Nat) (hk : kdr x = some m) (w : World) (h : KWr w) : Calls Tryz.prog 138 #[.string x] w fun e w' => e = .returned (.int .i64 m) ∧ w' = w := by
 have hm := kdr_le hk
 have i0 := fun w => (kw_idx (.string (kwr 0)) (.string (kwr 1)) (.string (kwr 2)) (.string (kwr 3)) w).1
 have i1 := fun w => (kw_idx (.string (kwr 0)) (.string (kwr 1)) (.string (kwr 2)) (.string (kwr 3)) w).2.1
 have i2 := fun w => (kw_idx (.string (kwr 0)) (.string (kwr 1)) (.string (kwr 2)) (.string (kwr 3)) w).2.2.1
 have i3 := fun w => (kw_idx (.string (kwr 0)) (.string (kwr 1)) (.string (kwr 2)) (.string (kwr 3)) w).2.2.2
 have c0 := h 0 (by omega)
 have c1 := h 1 (by omega)
 have c2 := h 2 (by omega)
 have c3 := h 3 (by omega)
 obtain rfl | rfl | rfl | rfl : m = 0 ∨ m = 1 ∨ m = 2 ∨ m = 3 := by omega
 ·have q0 := kw_same (x := x) (m := 0) (by omega) hk
  clear h hk hm
  generalize kwr 0 = k0 at *
  generalize kwr 1 = k1 at *
  generalize kwr 2 = k2 at *
  generalize kwr 3 = k3 at *
  go_enter Tryz.func138, Tryz.ntmps138
  go_wp2_with fail
  refine wp_loop_rounds 1 ?_
  rw [rounds_succ]
  go_wp2_with fail
  go_ret
  exact ⟨rfl, rfl⟩
 ·have q0 := kw_other (x := x) (m := 0) (by omega) (by rw [hk]; decide)
  have q1 := kw_same (x := x) (m := 1) (by omega) hk
  clear h hk hm
  generalize kwr 0 = k0 at *
  generalize kwr 1 = k1 at *
  generalize kwr 2 = k2 at *
  generalize kwr 3 = k3 at *
  go_enter Tryz.func138, Tryz.ntmps138
  go_wp2_with fail
  refine wp_loop_rounds 2 ?_
  rw [rounds_succ]
  go_wp2_with fail
  rw [rounds_succ]
  go_wp2_with fail
  go_ret
  exact ⟨rfl, rfl⟩
 ·have q0 := kw_other (x := x) (m := 0) (by omega) (by rw [hk]; decide)
  have q1 := kw_other (x := x) (m := 1) (by omega) (by rw [hk]; decide)
  have q2 := kw_same (x := x) (m := 2) (by omega) hk
  clear h hk hm
  generalize kwr 0 = k0 at *
  generalize kwr 1 = k1 at *
  generalize kwr 2 = k2 at *
  generalize kwr 3 = k3 at *
  go_enter Tryz.func138, Tryz.ntmps138
  go_wp2_with fail
  refine wp_loop_rounds 3 ?_
  rw [rounds_succ]
  go_wp2_with fail
  rw [rounds_succ]
  go_wp2_with fail
  rw [rounds_succ]
  go_wp2_with fail
  go_ret
  exact ⟨rfl, rfl⟩
 ·have q0 := kw_other (x := x) (m := 0) (by omega) (by rw [hk]; decide)
  have q1 := kw_other (x := x) (m := 1) (by omega) (by rw [hk]; decide)
  have q2 := kw_other (x := x) (m := 2) (by omega) (by rw [hk]; decide)
  have q3 := kw_same (x := x) (m := 3) (by omega) hk
  clear h hk hm
  generalize kwr 0 = k0 at *
  generalize kwr 1 = k1 at *
  generalize kwr 2 = k2 at *
  generalize kwr 3 = k3 at *
  go_enter Tryz.func138, Tryz.ntmps138
  go_wp2_with fail
  refine wp_loop_rounds 4 ?_
  rw [rounds_succ]
  go_wp2_with fail
  rw [rounds_succ]
  go_wp2_with fail
  rw [rounds_succ]
  go_wp2_with fail
  rw [rounds_succ]
  go_wp2_with fail
  go_ret
  exact ⟨rfl, rfl⟩
theorem kind_no (x : ByteArray) (hk : kdr x = none) (w : World) (h : KWr w) : Calls Tryz.prog 138 #[.string x] w fun e w' => Refused e ∧ w' = w := by
 have i0 := fun w => (kw_idx (.string (kwr 0)) (.string (kwr 1)) (.string (kwr 2)) (.string (kwr 3)) w).1
 have i1 := fun w => (kw_idx (.string (kwr 0)) (.string (kwr 1)) (.string (kwr 2)) (.string (kwr 3)) w).2.1
 have i2 := fun w => (kw_idx (.string (kwr 0)) (.string (kwr 1)) (.string (kwr 2)) (.string (kwr 3)) w).2.2.1
 have i3 := fun w => (kw_idx (.string (kwr 0)) (.string (kwr 1)) (.string (kwr 2)) (.string (kwr 3)) w).2.2.2
 have c0 := h 0 (by omega)
 have c1 := h 1 (by omega)
 have c2 := h 2 (by omega)
 have c3 := h 3 (by omega)
 have q0 := kw_other (x := x) (m := 0) (by omega) (by rw [hk]; decide)
 have q1 := kw_other (x := x) (m := 1) (by omega) (by rw [hk]; decide)
 have q2 := kw_other (x := x) (m := 2) (by omega) (by rw [hk]; decide)
 have q3 := kw_other (x := x) (m := 3) (by omega) (by rw [hk]; decide)
 clear h hk
 generalize kwr 0 = k0 at *
 generalize kwr 1 = k1 at *
 generalize kwr 2 = k2 at *
 generalize kwr 3 = k3 at *
 go_enter Tryz.func138, Tryz.ntmps138
 go_wp2_with fail
 refine wp_loop_rounds 5 ?_
 rw [rounds_succ]
 go_wp2_with fail
 rw [rounds_succ]
 go_wp2_with fail
 rw [rounds_succ]
 go_wp2_with fail
 rw [rounds_succ]
 go_wp2_with fail
 rw [rounds_succ]
 go_wp2_with fail
 exact ⟨rfl, ⟨_, rfl⟩, rfl⟩
end Go.Proofs.YtenlhgnobfadgaaGreatDoor
