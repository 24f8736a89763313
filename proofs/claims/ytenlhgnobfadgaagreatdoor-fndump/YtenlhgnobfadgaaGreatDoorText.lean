import Derived.Test.YtenlhgnobfadgaaGreatDoorJ17
import Derived.Test.YtenlhgnobfadgaaGreatDoorShelf4
import Derived.Lib.ItoaLen
import Derived.Deep.AppendLies
import Derived.OwnWalk
import Derived.BigQuiet
import Derived.Deep.QuietTactic
set_option maxRecDepth 100000
set_option maxHeartbeats 4000000
set_option linter.unusedSimpArgs false
set_option linter.unusedVariables false
namespace Go.Proofs.YtenlhgnobfadgaaGreatDoor
open Go.RowKit
theorem cell2h {w : World} {p : Nat} {a b : Value} {t : TypeId} (h : w.heap[p]? = some (.cells #[a, b] t (0, 0))) : w.cell? ⟨p, 0, none⟩ = some a ∧ w.cell? ⟨p, 1, none⟩ = some b ∧ w.frozen? ⟨p, 0, none⟩ = false ∧ w.frozen? ⟨p, 1, none⟩ = false := by
 refine ⟨?_, ?_, ?_, ?_⟩ <;> simp [World.cell?, World.frozen?, h]
def BF (y w : World) : Prop := Below y.heap.size y w
theorem BF.below {y w w' : World} (h : BF y w) (hb : Below w.heap.size w w') : BF y w' := btrans h hb
theorem BF.refl (y : World) : BF y y := Below.refl _ _
def kw : Nat → ByteArray
 | 0 => ⟨#[80, 79, 73, 78, 84]⟩
 | 1 => ⟨#[76, 73, 78, 69]⟩
 | 2 => ⟨#[82, 69, 67, 84]⟩
 | _ => ⟨#[80, 79, 76, 89]⟩
def spc : ByteArray := ⟨#[32]⟩
def ia (n : Int) : ByteArray := ⟨(Lib.itoa n).toArray⟩
def stx (k : Nat) (ps : List (Int × Int)) : Nat → ByteArray
 | 0 => kw k
 | i + 1 => stx k ps i ++ spc ++ ia (ps.getD i (0, 0)).1 ++ spc ++ ia (ps.getD i (0, 0)).2
def wds (k : Nat) (ps : List (Int × Int)) : Nat → List ByteArray
 | 0 => [kw k]
 | i + 1 => wds k ps i ++ [ia (ps.getD i (0, 0)).1, ia (ps.getD i (0, 0)).2]
theorem wds_len (k : Nat) (ps : List (Int × Int)) : ∀ i, (wds k ps i).length = 2 * i + 1
 | 0 => rfl
 | i + 1 => by simp [wds, wds_len k ps i]; omega
theorem ba_list (a b : ByteArray) : (a ++ b).data.toList = a.data.toList ++ b.data.toList := by
 rw [ByteArray.data_append]; simp
theorem wds_cons (k : Nat) (ps : List (Int × Int)) : ∀ i, ∃ r, wds k ps i = kw k :: r
 | 0 => ⟨[], rfl⟩
 | i + 1 => by
  obtain ⟨r, hr⟩ := wds_cons k ps i
  exact ⟨r ++ [ia (ps.getD i (0, 0)).1, ia (ps.getD i (0, 0)).2], by simp [wds, hr]⟩
theorem join_wds (k : Nat) (ps : List (Int × Int)) : ∀ i, Lib.join ((wds k ps i).map (·.data.toList)) spc.data.toList = (stx k ps i).data.toList
 | 0 => by simp [wds, stx, Lib.join_one]
 | i + 1 => by
  have ih := join_wds k ps i
  obtain ⟨r, hr⟩ := wds_cons k ps i
  rw [hr] at ih
  rw [wds, hr]
  simp only [List.map_cons, List.cons_append, List.map_append, List.map_nil] at ih ⊢
  rw [Lib.join_cons] at ih ⊢
  unfold Lib.joinTail at ih ⊢
  rw [List.map_append, List.flatten_append, ← List.append_assoc, ih]
  simp only [stx, ba_list, List.map_cons, List.map_nil, List.flatten_cons, List.flatten_nil, List.append_nil, List.append_assoc]
theorem ia_size {n : Int} (h : In n) : (ia n).size ≤ 21 := by
 have := Lib.itoa_length_le n (by unfold In at h; omega) (by unfold In at h; omega)
 simpa [ia, ByteArray.size] using this
theorem kw_size (k : Nat) : (kw k).size ≤ 5 := by unfold kw; split <;> decide
theorem stx_size {k : Nat} {ps : List (Int × Int)} (h : ∀ i, i < ps.length → In (ps.getD i (0, 0)).1 ∧ In (ps.getD i (0, 0)).2) : ∀ i, i ≤ ps.length → (stx k ps i).size ≤ 5 + 44 * i
 | 0, _ => kw_size k
 | i + 1, hi => by
  have ih := stx_size (k := k) h i (by omega)
  obtain ⟨h1, h2⟩ := h i (by omega)
  have a := ia_size h1
  have b := ia_size h2
  have c : spc.size = 1 := rfl
  simp only [stx, ByteArray.size_append]
  omega
theorem in_at {ps : List (Int × Int)} (h : allok ps = true) (i : Nat) (hi : i < ps.length) : In (ps.getD i (0, 0)).1 ∧ In (ps.getD i (0, 0)).2 := by
 rw [allok, List.all_eq_true] at h
 have := h ps[i] (List.getElem_mem hi)
 rw [List.getD_eq_getElem?_getD, List.getElem?_eq_getElem hi]
 exact in_of_pok this
theorem kind_nat {k : Int} {ps : List (Int × Int)} (hs : shok k ps = true) : ∃ m : Nat, k = m ∧ m ≤ 3 ∧ ps.length ≤ 60 ∧ allok ps = true := by
 have ha : allok ps = true := by
  cases ha : allok ps
  ·rw [shok_no ha] at hs; cases hs
  ·rfl
 unfold shok at hs
 split at hs
 ·simp only [Bool.and_eq_true, decide_eq_true_eq] at hs; exact ⟨0, by omega, by omega, by omega, ha⟩
 split at hs
 ·simp only [Bool.and_eq_true, lineb, decide_eq_true_eq] at hs; exact ⟨1, by omega, by omega, by omega, ha⟩
 split at hs
 ·simp only [Bool.and_eq_true, rectb, decide_eq_true_eq] at hs; exact ⟨2, by omega, by omega, by omega, ha⟩
 split at hs
 ·simp only [ringOk, Bool.and_eq_true, decide_eq_true_eq] at hs
  exact ⟨3, by omega, by omega, by omega, ha⟩
 ·cases hs
def txv (k : Int) (ps : List (Int × Int)) : ByteArray := if shok k ps = true then stx k.toNat ps ps.length else ⟨#[]⟩
def KW (w : World) : Prop := ∀ k : Nat, k ≤ 3 → w.cell? ⟨0, k, none⟩ = some (.string (kw k))
theorem KW.below {w w' : World} (h : KW w) (hb : Below w.heap.size w w') : KW w' := fun k hk => keepcell hb (h k hk)
def ItoaOk (w : World) : Prop := ∀ w', Below w.heap.size w w' → ∀ n : Int, In n → Calls Tryz.prog 67 #[.int .i64 n] w' fun e w'' => e = .returned (.string (ia n)) ∧ Below w'.heap.size w' w''
theorem ItoaOk.below {w w' : World} (h : ItoaOk w) (hb : Below w.heap.size w w') : ItoaOk w' := fun w'' h'' => h w'' (btrans hb h'')
theorem impl_dec (n : Int) (hn : In n) (w : World) (h : ItoaOk w) : Calls Tryz.prog 31 #[.int .i64 n] w fun e w' => e = .returned (.string (ia n)) ∧ Below w.heap.size w w' := by
 have HI := hid (h w (Below.refl _ _) n hn)
 clear h
 generalize ia n = s at *
 go_enter Tryz.func31, Tryz.ntmps31
 go_wp2_with fail
 refine HI.out.mono ?_
 rintro e w' ⟨rfl, hb⟩
 go_wp2_with fail
 go_ret
 exact ⟨rfl, hb⟩
theorem spec_decI (n : Int) (hn : In n) (w : World) : Calls Tryz.prog 39 #[.int .i64 n] w fun e w' => e = .returned (.string (ia n)) ∧ Below w.heap.size w w' :=
 (spec_dec n (by unfold In at hn; omega) (by unfold In at hn; omega) w).mono fun e w' ⟨he, hw⟩ => ⟨he, by rw [hw]; exact Below.refl _ _⟩
theorem names_calls (w : World) : Calls Tryz.prog 55 #[] w fun e w' => e = .returned (.slice (some ⟨w.heap.size, 0, none⟩) 4 4) ∧ w' = w.alloc (.cells #[.string (kw 0), .string (kw 1), .string (kw 2), .string (kw 3)] 9) := by
 go_enter Tryz.func55, Tryz.ntmps55
 go_wp2_with fail
 go_ret
 exact ⟨rfl, rfl⟩
theorem join_calls (k : Nat) (ps : List (Int × Int)) (i bk c : Nat) (w : World) (hi : i ≤ ps.length) (h6 : ps.length ≤ 60) (ha : allok ps = true) (hc : 2 * i + 1 ≤ c) (hb : bk < w.heap.size) (h : ∀ (j : Nat) x, (wds k ps i)[j]? = some x → w.cell? ⟨bk, 0 + j, none⟩ = some (.string x)) : Calls Tryz.prog 69 #[.slice (some ⟨bk, 0, none⟩) (2 * i + 1) c, .string spc] w fun e w' => e = .returned (.string (stx k ps i)) ∧ Below w.heap.size w w' := by
 have hl := wds_len k ps i
 have hs := stx_size (k := k) (fun j hj => in_at ha j hj) i hi
 have hz : (stx k ps i).data.toList.length = (stx k ps i).size := by rw [Array.length_toList]; rfl
 have := Any.strings_Join Tryz.lays156 Tryz.Builder_Extra_156 bk 0 c (wds k ps i) spc w h hb (by omega) (by omega) (by rw [join_wds]; omega)
 rw [hl] at this
 rw [join_wds] at this
 exact this
theorem spec_ShapeText (k : Int) (a : Option Addr) (cap : Nat) (ps : List (Int × Int)) (w : World) (hm : ps.length ≤ 1099511627776) (hc : ps.length ≤ cap) (hp : Pts w a ps) : Calls Tryz.prog 43 #[shv k a ps.length cap] w fun e w' => e = .returned (.string (txv k ps)) ∧ Below w.heap.size w w' := by
 have hB := Below.refl w.heap.size w
 have HP := hid hp
 clear hp
 have SO := hid (fun w' (h : Pts w' a ps) => spec_ShapeOk k a cap ps w' hm hc h)
 unfold txv
 cases hs : shok k ps
 ·skip
  rw [hs] at SO
  rw [if_neg (by simp)]
  go_enter Tryz.func43, Tryz.ntmps43
  go_wp2_with fail
  have gS := (new_alloc w (w.heap.size) (.cells #[.int .i64 k, .slice a ps.length cap] 48) (by simp))
  have hal : Below w.heap.size w (w.alloc (.cells #[.int .i64 k, .slice a ps.length cap] 48)) := (balloc (Below.refl _ _) (.cells #[.int .i64 k, .slice a ps.length cap] 48))
  replace HP := hid (HP.out.below hal)
  replace hB := btrans hB hal
  clear hal
  generalize (w.alloc (.cells #[.int .i64 k, .slice a ps.length cap] 48)) = yw1 at *
  refine (SO.out _ HP.out).mono ?_
  rintro e yw2 ⟨rfl, hcl⟩
  replace gS := keepheap hcl gS
  replace HP := hid (HP.out.below hcl)
  replace hB := btrans hB hcl
  clear hcl
  obtain ⟨k1_0, k1_1, _, _⟩ := cell2h gS
  go_wp2_with fail
  go_ret
  exact ⟨rfl, hB⟩
 ·skip
  rw [hs] at SO
  rw [if_pos rfl]
  obtain ⟨m, rfl, hm3, h60, hal⟩ := kind_nat hs
  rw [Int.toNat_natCast]
  have HA := hid (fun i hi => in_at hal i hi)
  have HZ := hid (fun i hi => stx_size (k := m) (fun j hj => in_at hal j hj) i hi)
  clear hs hal
  go_enter Tryz.func43, Tryz.ntmps43
  go_wp2_with fail
  have gS := (new_alloc w (w.heap.size) (.cells #[.int .i64 m, .slice a ps.length cap] 48) (by simp))
  have hal : Below w.heap.size w (w.alloc (.cells #[.int .i64 m, .slice a ps.length cap] 48)) := (balloc (Below.refl _ _) (.cells #[.int .i64 m, .slice a ps.length cap] 48))
  replace HP := hid (HP.out.below hal)
  replace hB := btrans hB hal
  clear hal
  generalize (w.alloc (.cells #[.int .i64 m, .slice a ps.length cap] 48)) = yw1 at *
  refine (SO.out _ HP.out).mono ?_
  rintro e yw2 ⟨rfl, hcl⟩
  replace gS := keepheap hcl gS
  replace HP := hid (HP.out.below hcl)
  replace hB := btrans hB hcl
  clear hcl
  clear SO
  obtain ⟨k1_0, k1_1, _, _⟩ := cell2h gS
  go_wp2_with fail
  clear k1_0 k1_1
  have NM := hid (fun w' => (names_calls w').mono fun e w'' (h : _ ∧ _) => (show ∃ nb, e = .returned (.slice (some ⟨nb, 0, none⟩) 4 4) ∧ w''.cell? ⟨nb, m, none⟩ = some (.string (kw m)) ∧ Below w'.heap.size w' w'' from ⟨w'.heap.size, h.1, by rw [h.2]; refine newcell _ _ _ _ _ _ rfl ?_; rcases (show m = 0 ∨ m = 1 ∨ m = 2 ∨ m = 3 by omega) with e | e | e | e <;> subst e <;> rfl, by rw [h.2]; exact balloc (Below.refl _ _) _⟩))
  have hm4 : (m : Int) < 4 := by omega
  have hm0 : (0 : Int) ≤ (m : Int) := by omega
  go_cut [3] (fun t3 wx => t3 = .string (kw m) ∧ wx.heap[w.heap.size]? = some (.cells #[.int .i64 m, .slice a ps.length cap] 48 (0, 0)) ∧ Hid (Pts wx a ps) ∧ Below w.heap.size w wx)
  case first =>
   refine wp_region_held_drew (S := (fun w' => w'.heap[w.heap.size]? = some (.cells #[.int .i64 m, .slice a ps.length cap] 48 (0, 0)))) (by kernel_rfl) ?_ (fun hHeld => ?_)
   ·exact gS
   replace gS : yw2.drew.heap[w.heap.size]? = some (.cells #[.int .i64 m, .slice a ps.length cap] 48 (0, 0)) := gS
   replace HP : Hid (Pts yw2.drew a ps) := hid (HP.out.below (bdrew (Below.refl _ _)))
   replace hB := bdrew hB
   generalize yw2.drew = yw3 at *
   refine tkR ?_ 1 rfl (fun _ _ _ h => h) hHeld ?_ ?_
   rotate_left
   ·intro w hSw; (try dsimp only at hSw); go_simp; try (with_reducible rfl)
   try simp only [sq]
   refine tkR ?_ 2 rfl (fun _ _ _ h => h) hHeld ?_ ?_
   rotate_left
   ·intro w hSw; (try dsimp only at hSw); obtain ⟨_, _, _, _⟩ := cell2h (hSw); go_simp; try (with_reducible rfl)
   try simp only [sq]
   refine rd1 0 rfl (fun K hK => ?_)
   try simp only [sq]
   go_simp
   go_at_call 55
   refine (NM.out _).mono ?_
   rintro e yw4 ⟨nb, rfl, nc, hcl⟩
   replace gS := keepheap hcl gS
   replace HP := hid (HP.out.below hcl)
   replace hB := btrans hB hcl
   clear hcl
   go_wp2_with fail
   refine hK.out _ _ ?_ (fun hHeld => ?_)
   ·exact gS
   clear hK K
   try simp only [sq]
   refine tkR ?_ 3 rfl (fun _ _ _ h => h) hHeld ?_ ?_
   rotate_left
   ·intro w hSw; (try dsimp only at hSw); go_simp; try (with_reducible rfl)
   try simp only [sq]
   refine rd1 4 rfl (fun K hK => ?_)
   try simp only [sq]
   go_simp
   refine hK.out _ _ ?_ (fun hHeld => ?_)
   ·exact gS
   clear hK K
   try simp only [sq]
   refine tkR ?_ 5 rfl (fun _ _ _ h => h) hHeld ?_ ?_
   rotate_left
   ·intro w hSw; (try dsimp only at hSw); go_simp; try (with_reducible rfl)
   try simp only [sq]
   refine wpAnyH_done (by kernel_rfl) ?_ _
   clear hHeld
   go_wp2_with fail
   go_meet
   exact ⟨rfl, gS, HP, hB⟩
  case rest =>
   clear NM gS HP hB
   obtain ⟨rfl, gS, HP, hB⟩ := hcut
   have GS := hid gS
   have HB := hid hB
   clear gS hB
   go_wp2_with fail
   go_loopw [3, 4] (fun t3 ti wr => ∃ i : Nat, ti = .int .i64 i ∧ i ≤ ps.length ∧ t3 = .string (stx m ps i) ∧ Hid (wr.heap[w.heap.size]? = some (.cells #[.int .i64 m, .slice a ps.length cap] 48 (0, 0))) ∧ Hid (Pts wr a ps) ∧ Hid (Below w.heap.size w wr)) (fun _ ti _ => ps.length - (intOf ti).toNat)
   case atStart => exact ⟨0, rfl, Nat.zero_le _, rfl, GS, HP, HB⟩
   case round =>
    clear GS HP HB
    obtain ⟨i, rfl, hi, rfl, GS, HP, HB⟩ := hrel
    have gS := GS.out
    have hB := HB.out
    clear GS HB
    by_cases hlt : i < ps.length
    ·skip
     have c1 : (i : Int) < (ps.length : Int) := by omega
     have c2 : (0 : Int) ≤ (i : Int) := by omega
     obtain ⟨pb, off, rfl, hbs, hpp⟩ : ∃ b off, a = some ⟨b, off, none⟩ ∧ b < wr.heap.size ∧ PtsAt wr b off ps := by
      rcases HP.out with h | h
      ·rw [h] at hlt; simp at hlt
      ·exact h
     obtain ⟨cx, cy⟩ := hpp i hlt
     obtain ⟨i1, i2⟩ := HA.out i hlt
     have hz := HZ.out i hi
     have e1 : stx m ps (i + 1) = stx m ps i ++ ⟨#[32]⟩ ++ ia (ps.getD i (0, 0)).1 ++ ⟨#[32]⟩ ++ ia (ps.getD i (0, 0)).2 := rfl
     have DX := hid (fun w' => spec_decI (ps.getD i (0, 0)).1 i1 w')
     have DY := hid (fun w' => spec_decI (ps.getD i (0, 0)).2 i2 w')
     have z1 := ia_size i1
     have z2 := ia_size i2
     have E1 := hid e1
     clear e1 i1 i2 hpp
     generalize (ps.getD i (0, 0)).1 = x at *
     generalize (ps.getD i (0, 0)).2 = y at *
     generalize ia x = X at *
     generalize ia y = Y at *
     generalize stx m ps i = S0 at *
     have z3 : (⟨#[32]⟩ : ByteArray).size = 1 := rfl
     have k1 : ¬ 9223372036854775807 < S0.size + (⟨#[32]⟩ : ByteArray).size := by omega
     have k2 : ¬ 9223372036854775807 < (S0 ++ ⟨#[32]⟩).size + X.size := by rw [ByteArray.size_append]; omega
     have k3 : ¬ 9223372036854775807 < (S0 ++ ⟨#[32]⟩ ++ X).size + (⟨#[32]⟩ : ByteArray).size := by rw [ByteArray.size_append, ByteArray.size_append]; omega
     have k4 : ¬ 9223372036854775807 < (S0 ++ ⟨#[32]⟩ ++ X ++ ⟨#[32]⟩).size + Y.size := by rw [ByteArray.size_append, ByteArray.size_append, ByteArray.size_append]; omega
     have k5 : ¬ 9223372036854775807 < S0.size + 1 := by omega
     have k6 : ¬ 9223372036854775807 < S0.size + 1 + X.size := by omega
     have k7 : ¬ 9223372036854775807 < S0.size + 1 + X.size + 1 := by omega
     have k8 : ¬ 9223372036854775807 < S0.size + 1 + X.size + 1 + Y.size := by omega
     obtain ⟨k2_0, k2_1, _, _⟩ := cell2h gS
     go_wp2_with fail
     clear k2_0 k2_1
     refine wp_region_held_drew (S := (fun w' => w'.heap[w.heap.size]? = some (.cells #[.int .i64 m, .slice (some ⟨pb, off, none⟩) ps.length cap] 48 (0, 0)) ∧ w'.cell? ⟨pb, off + i * 2, none⟩ = some (.int .i64 x) ∧ w'.cell? ⟨pb, off + i * 2 + 1, none⟩ = some (.int .i64 y))) (by kernel_rfl) ?_ (fun hHeld => ?_)
     ·exact ⟨gS, cx, cy⟩
     replace gS : wr.drew.heap[w.heap.size]? = some (.cells #[.int .i64 m, .slice (some ⟨pb, off, none⟩) ps.length cap] 48 (0, 0)) := gS
     replace cx : wr.drew.cell? ⟨pb, off + i * 2, none⟩ = some (.int .i64 x) := cx
     replace cy : wr.drew.cell? ⟨pb, off + i * 2 + 1, none⟩ = some (.int .i64 y) := cy
     replace HP : Hid (Pts wr.drew (some ⟨pb, off, none⟩) ps) := hid (HP.out.below (bdrew (Below.refl _ _)))
     replace hB := bdrew hB
     generalize wr.drew = yw3 at *
     refine tkR ?_ 0 rfl (fun _ _ _ h => h) hHeld ?_ ?_
     rotate_left
     ·intro w hSw; (try dsimp only at hSw); go_simp; try (with_reducible rfl)
     try simp only [sq]
     refine tkR ?_ 1 rfl (fun _ _ _ h => h) hHeld ?_ ?_
     rotate_left
     ·intro w hSw; (try dsimp only at hSw); go_simp; try (with_reducible rfl)
     try simp only [sq]
     refine tkR ?_ 2 rfl (fun _ _ _ h => h) hHeld ?_ ?_
     rotate_left
     ·intro w hSw; (try dsimp only at hSw); go_simp; try (with_reducible rfl)
     try simp only [sq]
     refine tkR ?_ 3 rfl (fun _ _ _ h => h) hHeld ?_ ?_
     rotate_left
     ·intro w hSw; (try dsimp only at hSw); obtain ⟨_, _, _, _⟩ := cell2h (hSw.1); go_simp; try (with_reducible rfl)
     try simp only [sq]
     refine tkR ?_ 4 rfl (fun _ _ _ h => h) hHeld ?_ ?_
     rotate_left
     ·intro w hSw; (try dsimp only at hSw); go_simp; try (with_reducible rfl)
     try simp only [sq]
     refine tkR ?_ 5 rfl (fun _ _ _ h => h) hHeld ?_ ?_
     rotate_left
     ·intro w hSw; (try dsimp only at hSw); go_simp; try (with_reducible rfl)
     try simp only [sq]
     refine tkR ?_ 6 rfl (fun _ _ _ h => h) hHeld ?_ ?_
     rotate_left
     ·intro w hSw; (try dsimp only at hSw); go_simp; try (with_reducible rfl)
     try simp only [sq]
     refine tkR ?_ 7 rfl (fun _ _ _ h => h) hHeld ?_ ?_
     rotate_left
     ·intro w hSw; (try dsimp only at hSw); obtain ⟨_, _, _, _⟩ := cell2h (hSw.1); go_simp; try (with_reducible rfl)
     try simp only [sq]
     refine tkR ?_ 11 rfl (fun _ _ _ h => h) hHeld ?_ ?_
     rotate_left
     ·intro w hSw; (try dsimp only at hSw); go_simp; try (with_reducible rfl)
     try simp only [sq]
     refine tkR ?_ 12 rfl (fun _ _ _ h => h) hHeld ?_ ?_
     rotate_left
     ·intro w hSw; (try dsimp only at hSw); obtain ⟨_, _, _, _⟩ := cell2h (hSw.1); go_simp; try (with_reducible rfl)
     try simp only [sq]
     refine tkR ?_ 13 rfl (fun _ _ _ h => h) hHeld ?_ ?_
     rotate_left
     ·intro w hSw; (try dsimp only at hSw); go_simp; try (with_reducible rfl)
     try simp only [sq]
     refine tkR ?_ 14 rfl (fun _ _ _ h => h) hHeld ?_ ?_
     rotate_left
     ·intro w hSw; (try dsimp only at hSw); go_simp; try (with_reducible rfl)
     try simp only [sq]
     refine tkR ?_ 15 rfl (fun _ _ _ h => h) hHeld ?_ ?_
     rotate_left
     ·intro w hSw; (try dsimp only at hSw); go_simp; try (with_reducible rfl)
     try simp only [sq]
     refine tkR ?_ 16 rfl (fun _ _ _ h => h) hHeld ?_ ?_
     rotate_left
     ·intro w hSw; (try dsimp only at hSw); obtain ⟨_, _, _, _⟩ := cell2h (hSw.1); go_simp; try (with_reducible rfl)
     try simp only [sq]
     refine rd1 8 rfl (fun K hK => ?_)
     try simp only [sq]
     go_simp
     go_at_call 39
     refine (DX.out _).mono ?_
     rintro e yw4 ⟨rfl, hcl⟩
     replace gS := keepheap hcl gS
     replace cx := keepcell hcl cx
     replace cy := keepcell hcl cy
     replace HP := hid (HP.out.below hcl)
     replace hB := btrans hB hcl
     clear hcl
     go_wp2_with fail
     refine hK.out _ _ ?_ (fun hHeld => ?_)
     ·exact ⟨gS, cx, cy⟩
     clear hK K
     try simp only [sq]
     refine tkR ?_ 9 rfl (fun _ _ _ h => h) hHeld ?_ ?_
     rotate_left
     ·intro w hSw; (try dsimp only at hSw); go_simp; try (with_reducible rfl)
     try simp only [sq]
     refine tkR ?_ 10 rfl (fun _ _ _ h => h) hHeld ?_ ?_
     rotate_left
     ·intro w hSw; (try dsimp only at hSw); go_simp; try (with_reducible rfl)
     try simp only [sq]
     refine rd1 17 rfl (fun K hK => ?_)
     try simp only [sq]
     go_simp
     go_at_call 39
     refine (DY.out _).mono ?_
     rintro e yw5 ⟨rfl, hcl⟩
     replace gS := keepheap hcl gS
     replace cx := keepcell hcl cx
     replace cy := keepcell hcl cy
     replace HP := hid (HP.out.below hcl)
     replace hB := btrans hB hcl
     clear hcl
     go_wp2_with fail
     refine hK.out _ _ ?_ (fun hHeld => ?_)
     ·exact ⟨gS, cx, cy⟩
     clear hK K
     try simp only [sq]
     refine tkR ?_ 18 rfl (fun _ _ _ h => h) hHeld ?_ ?_
     rotate_left
     ·intro w hSw; (try dsimp only at hSw); go_simp; try (with_reducible rfl)
     try simp only [sq]
     refine tkR ?_ 19 rfl (fun _ _ _ h => h) hHeld ?_ ?_
     rotate_left
     ·intro w hSw; (try dsimp only at hSw); go_simp; try (with_reducible rfl)
     try simp only [sq]
     refine wpAnyH_done (by kernel_rfl) ?_ _
     clear hHeld
     go_wp2_with fail
     go_roundw
     case rel => exact ⟨i + 1, by go_num, by omega, by rw [E1.out], hid gS, HP, hid hB⟩
     case measure => simp [intOf]; omega
    ·skip
     obtain rfl : i = ps.length := by omega
     obtain ⟨k2_0, k2_1, _, _⟩ := cell2h gS
     go_wp2_with fail
     go_ret
     exact ⟨rfl, hB⟩
def Ow (w : World) (B : Nat) (v : Value) (n : Nat) (xs : List Value) : Prop := w.ownsRow B 9 1 v n xs
theorem Ow.below {w w' : World} {B n : Nat} {v : Value} {xs : List Value} (h : Ow w B v n xs) (H : Below w.heap.size w w') : Ow w' B v n xs :=
 World.ownsRow.kept (row := none) h ⟨H.os, H.tape, H.output, H.size, fun k hk _ => H.block k hk⟩ (by
  cases hob : v.ownBlock with
  | none => exact .inl rfl
  | some z => exact .inr (by simp))
theorem Ow.cells {w : World} {B n : Nat} {v : Value} {l : List ByteArray} (h : Ow w B v n (l.map Value.string)) (hn : 0 < n) : ∃ g cap, v = .slice (some ⟨g, 0, none⟩) n cap ∧ n ≤ cap ∧ g < w.heap.size ∧ ∀ (j : Nat) x, l[j]? = some x → w.cell? ⟨g, 0 + j, none⟩ = some (.string x) := by
 obtain ⟨hl, ⟨rfl, h0⟩ | ⟨g, cap, cur, rfl, hB, hg, hc, hm, hs, ht⟩⟩ := h
 ·omega
 ·refine ⟨g, cap, rfl, hc, ?_, fun j x hj => ?_⟩
  ·rcases Nat.lt_or_ge g w.heap.size with h' | h'
   ·exact h'
   ·rw [Array.getElem?_eq_none h'] at hg; cases hg
  ·have h1 : w.cell? ⟨g, 0 + j, none⟩ = cur[j]? := by simp [World.cell?, hg]
   have hjl : j < l.length := by
    rcases Nat.lt_or_ge j l.length with h' | h'
    ·exact h'
    ·rw [List.getElem?_eq_none h'] at hj; cases hj
   have h2 : (cur.toList.take (n * 1))[j]? = cur[j]? := by
    rw [List.getElem?_take, if_pos (by simp at hl; omega)]; simp
   rw [h1, ← h2, ht, List.getElem?_map, hj]; rfl
theorem Tryz.infoStr : (Tryz.prog.info? 9).map (fun i => (i.zero, i.size, i.bytes)) = some (some (.string ⟨#[]⟩), 1, 16) := by kernel_rfl
theorem impl_ShapeText (k : Int) (a : Option Addr) (cap : Nat) (ps : List (Int × Int)) (w : World) (hm : ps.length ≤ 1099511627776) (hc : ps.length ≤ cap) (hp : Pts w a ps) (hio : ItoaOk w) (hkw : KW w) : Calls Tryz.prog 32 #[shv k a ps.length cap] w fun e w' => e = .returned (.string (txv k ps)) ∧ Below w.heap.size w w' := by
 have hB := Below.refl w.heap.size w
 have HP := hid hp
 have HI := hid hio
 have HK := hid hkw
 clear hp hio hkw
 have SO := hid (fun w' (h : Pts w' a ps) => impl_ShapeOk k a cap ps w' hm hc h)
 unfold txv
 cases hs : shok k ps
 ·skip
  rw [hs] at SO
  rw [if_neg (by simp)]
  go_enter Tryz.func32, Tryz.ntmps32
  go_wp2_with fail
  have gS := (new_alloc w (w.heap.size) (.cells #[.int .i64 k, .slice a ps.length cap] 48) (by simp))
  have hal : Below w.heap.size w (w.alloc (.cells #[.int .i64 k, .slice a ps.length cap] 48)) := (balloc (Below.refl _ _) (.cells #[.int .i64 k, .slice a ps.length cap] 48))
  replace HP := hid (HP.out.below hal)
  replace hB := btrans hB hal
  clear hal
  generalize (w.alloc (.cells #[.int .i64 k, .slice a ps.length cap] 48)) = yw1 at *
  refine (SO.out _ HP.out).mono ?_
  rintro e yw2 ⟨rfl, hcl⟩
  replace gS := keepheap hcl gS
  replace HP := hid (HP.out.below hcl)
  replace hB := btrans hB hcl
  clear hcl
  obtain ⟨k1_0, k1_1, _, _⟩ := cell2h gS
  go_wp2_with fail
  go_ret
  exact ⟨rfl, hB⟩
 ·skip
  rw [hs] at SO
  rw [if_pos rfl]
  obtain ⟨m, rfl, hm3, h60, hal⟩ := kind_nat hs
  rw [Int.toNat_natCast]
  have HA := hid (fun i hi => in_at hal i hi)
  have JN := hid (fun bk c w' hc hb h => join_calls m ps ps.length bk c w' (Nat.le_refl _) h60 hal hc hb h)
  have hm4 : (m : Int) < 4 := by omega
  have hm0 : (0 : Int) ≤ (m : Int) := by omega
  clear hs hal
  obtain ⟨i0, hi0, hz0, hz1, hz2⟩ := info_parts Tryz.infoStr
  go_enter Tryz.func32, Tryz.ntmps32
  go_wp2_with fail
  have gS := (new_alloc w (w.heap.size) (.cells #[.int .i64 m, .slice a ps.length cap] 48) (by simp))
  have hal : Below w.heap.size w (w.alloc (.cells #[.int .i64 m, .slice a ps.length cap] 48)) := (balloc (Below.refl _ _) (.cells #[.int .i64 m, .slice a ps.length cap] 48))
  replace HP := hid (HP.out.below hal)
  replace HI := hid (HI.out.below hal)
  replace HK := hid (HK.out.below hal)
  replace hB := btrans hB hal
  clear hal
  generalize (w.alloc (.cells #[.int .i64 m, .slice a ps.length cap] 48)) = yw1 at *
  refine (SO.out _ HP.out).mono ?_
  rintro e yw2 ⟨rfl, hcl⟩
  replace gS := keepheap hcl gS
  replace HP := hid (HP.out.below hcl)
  replace HI := hid (HI.out.below hcl)
  replace HK := hid (HK.out.below hcl)
  replace hB := btrans hB hcl
  clear hcl
  clear SO
  have kc := HK.out m hm3
  obtain ⟨k1_0, k1_1, _, _⟩ := cell2h gS
  have aS := old_alloc (o' := .cells #[.string (kw m)] 9) gS
  obtain ⟨as0, as1, _, _⟩ := cell2h aS
  go_wp2_with fail
  clear k1_0 k1_1
  clear kc HK as0 as1 aS gS
  have HR := hid (show (yw2.alloc (.cells #[.string (kw m)] 9)).ownsRow yw2.heap.size 9 1 (.slice (some ⟨yw2.heap.size, 0, none⟩) 1 1) 1 ((wds m ps 0).map Value.string) from ⟨rfl, Or.inr ⟨yw2.heap.size, 1, #[.string (kw m)], rfl, Nat.le_refl _, heap_alloc_new yw2 _, Nat.le_refl _, by unfold maxLen; omega, rfl, rfl⟩⟩)
  go_loopw [3, 17] (fun v ti wr => ∃ i : Nat, ti = .int .i64 i ∧ i ≤ ps.length ∧ Hid (Ow wr yw2.heap.size v (2 * i + 1) ((wds m ps i).map Value.string)) ∧ Hid (BF yw2 wr)) (fun _ ti _ => ps.length - (intOf ti).toNat)
  case atStart => exact ⟨0, rfl, Nat.zero_le _, HR, hid (BF.below (BF.refl _) (balloc (Below.refl _ _) _))⟩
  case round =>
   obtain ⟨i, rfl, hi, HO, HL⟩ := hrel
   clear HR
   have hcl := HL.out
   unfold BF at hcl
   replace HP := hid (HP.out.below hcl)
   replace HI := hid (HI.out.below hcl)
   replace hB := btrans hB hcl
   clear hcl
   by_cases hlt : i < ps.length
   ·skip
    have c1 : (i : Int) < (ps.length : Int) := by omega
    have c2 : (0 : Int) ≤ (i : Int) := by omega
    obtain ⟨pb, off, rfl, hbs, hpp⟩ : ∃ b off, a = some ⟨b, off, none⟩ ∧ b < wr.heap.size ∧ PtsAt wr b off ps := by
     rcases HP.out with h | h
     ·rw [h] at hlt; simp at hlt
     ·exact h
    obtain ⟨cx, cy⟩ := hpp i hlt
    obtain ⟨i1, i2⟩ := HA.out i hlt
    have e1 : (wds m ps (i + 1)).map Value.string = (wds m ps i).map Value.string ++ [.string (ia (ps.getD i (0, 0)).1), .string (ia (ps.getD i (0, 0)).2)] := by simp [wds]
    have DX := hid (fun w' (h : ItoaOk w') => impl_dec (ps.getD i (0, 0)).1 i1 w' h)
    have DY := hid (fun w' (h : ItoaOk w') => impl_dec (ps.getD i (0, 0)).2 i2 w' h)
    have E1 := hid e1
    clear e1 i1 i2 hpp
    generalize (ps.getD i (0, 0)).1 = x at *
    generalize (ps.getD i (0, 0)).2 = y at *
    generalize ia x = X at *
    generalize ia y = Z at *
    generalize (wds m ps i).map Value.string = xs at *
    have hPlt : ∀ k, u3.ownBlock = some k → k < wr.heap.size := fun k hk => (World.ownsRow.lt HO.out k hk).2
    have acx := keepalloc cx (.cells #[.int .i64 x, .int .i64 y] 91)
    have acy := keepalloc cy (.cells #[.int .i64 x, .int .i64 y] 91)
    go_wp2_with fail
    clear acx acy
    replace cx := (keepalloc cx (.cells #[.int .i64 x, .int .i64 y] 91))
    replace cy := (keepalloc cy (.cells #[.int .i64 x, .int .i64 y] 91))
    have gP := (new_alloc wr (wr.heap.size) (.cells #[.int .i64 x, .int .i64 y] 91) (by simp))
    have hal : Below wr.heap.size wr (wr.alloc (.cells #[.int .i64 x, .int .i64 y] 91)) := (balloc (Below.refl _ _) (.cells #[.int .i64 x, .int .i64 y] 91))
    replace HP := hid (HP.out.below hal)
    replace HI := hid (HI.out.below hal)
    replace HL := hid (HL.out.below hal)
    replace HO := hid (HO.out.below hal)
    replace hB := btrans hB hal
    clear hal
    generalize (wr.alloc (.cells #[.int .i64 x, .int .i64 y] 91)) = yw3 at *
    generalize wr.heap.size = P at *
    clear cx cy
    refine wp_region_held_drew (S := (fun w' => w'.heap[P]? = some (.cells #[.int .i64 x, .int .i64 y] 91 (0, 0)))) (by kernel_rfl) ?_ (fun hHeld => ?_)
    ·exact gP
    replace gP : yw3.drew.heap[P]? = some (.cells #[.int .i64 x, .int .i64 y] 91 (0, 0)) := gP
    replace HP : Hid (Pts yw3.drew (some ⟨pb, off, none⟩) ps) := hid (HP.out.below (bdrew (Below.refl _ _)))
    replace HI : Hid (ItoaOk yw3.drew) := hid (HI.out.below (bdrew (Below.refl _ _)))
    replace HL : Hid (BF yw2 yw3.drew) := hid (HL.out.below (bdrew (Below.refl _ _)))
    replace HO : Hid (Ow yw3.drew yw2.heap.size u3 (2 * i + 1) xs) := hid (HO.out.below (bdrew (Below.refl _ _)))
    replace hB := bdrew hB
    generalize yw3.drew = yw4 at *
    refine tkR ?_ 0 rfl (fun _ _ _ h => h) hHeld ?_ ?_
    rotate_left
    ·intro w hSw; (try dsimp only at hSw); go_simp; try (with_reducible rfl)
    try simp only [sq]
    refine tkR ?_ 1 rfl (fun _ _ _ h => h) hHeld ?_ ?_
    rotate_left
    ·intro w hSw; (try dsimp only at hSw); go_simp; try (with_reducible rfl)
    try simp only [sq]
    refine tkR ?_ 2 rfl (fun _ _ _ h => h) hHeld ?_ ?_
    rotate_left
    ·intro w hSw; (try dsimp only at hSw); obtain ⟨_, _, _, _⟩ := cell2h (hSw); go_simp; try (with_reducible rfl)
    try simp only [sq]
    refine tkR ?_ 4 rfl (fun _ _ _ h => h) hHeld ?_ ?_
    rotate_left
    ·intro w hSw; (try dsimp only at hSw); go_simp; try (with_reducible rfl)
    try simp only [sq]
    refine tkR ?_ 5 rfl (fun _ _ _ h => h) hHeld ?_ ?_
    rotate_left
    ·intro w hSw; (try dsimp only at hSw); obtain ⟨_, _, _, _⟩ := cell2h (hSw); go_simp; try (with_reducible rfl)
    try simp only [sq]
    refine rd1 3 rfl (fun K hK => ?_)
    try simp only [sq]
    go_simp
    go_at_call 31
    refine (DX.out _ HI.out).mono ?_
    rintro e yw5 ⟨rfl, hcl⟩
    replace gP := keepheap hcl gP
    replace HP := hid (HP.out.below hcl)
    replace HI := hid (HI.out.below hcl)
    replace HL := hid (HL.out.below hcl)
    replace HO := hid (HO.out.below hcl)
    replace hB := btrans hB hcl
    clear hcl
    go_wp2_with fail
    refine hK.out _ _ ?_ (fun hHeld => ?_)
    ·exact gP
    clear hK K
    try simp only [sq]
    refine rd1 6 rfl (fun K hK => ?_)
    try simp only [sq]
    go_simp
    go_at_call 31
    refine (DY.out _ HI.out).mono ?_
    rintro e yw6 ⟨rfl, hcl⟩
    replace gP := keepheap hcl gP
    replace HP := hid (HP.out.below hcl)
    replace HI := hid (HI.out.below hcl)
    replace HL := hid (HL.out.below hcl)
    replace HO := hid (HO.out.below hcl)
    replace hB := btrans hB hcl
    clear hcl
    go_wp2_with fail
    refine hK.out _ _ ?_ (fun hHeld => ?_)
    ·exact gP
    clear hK K
    try simp only [sq]
    refine rd1 7 rfl (fun K hK => ?_)
    try simp only [sq]
    go_simp
    refine hK.out _ _ ?_ (fun hHeld => ?_)
    ·exact old_alloc gP
    clear hK K
    try simp only [sq]
    replace gP := (old_alloc (o' := .cells #[.string X, .string Z] 9) gP)
    have gQ := (new_alloc yw6 (yw6.heap.size) (.cells #[.string X, .string Z] 9) (by simp))
    have hal : Below yw6.heap.size yw6 (yw6.alloc (.cells #[.string X, .string Z] 9)) := (balloc (Below.refl _ _) (.cells #[.string X, .string Z] 9))
    replace HP := hid (HP.out.below hal)
    replace HI := hid (HI.out.below hal)
    replace HL := hid (HL.out.below hal)
    replace HO := hid (HO.out.below hal)
    replace hB := btrans hB hal
    clear hal
    generalize (yw6.alloc (.cells #[.string X, .string Z] 9)) = yw7 at *
    generalize yw6.heap.size = Q at *
    refine rd1 8 rfl (fun K hK => ?_)
    have hown := HO.out
    have hszL : yw2.heap.size ≤ yw7.heap.size := by have := HL.out.size; exact this
    unfold Ow at hown
    refine step_append_lies _ (by rfl) _ _ _ (by rfl) yw2.heap.size 9 i0 _ 1 16 Tryz.underlying41 hi0 hz0 hz1 hz2 rfl (by omega) _ (2 * i + 1) xs (by rfl) hown ⟨Q, 0, none⟩ 2 2 [.string X, .string Z] (by rfl) (by rfl) (World.news_of_block (cs := #[.string X, .string Z]) (t := 9) (fr := (0, 0)) gQ) (by simp [Value.oneCell']) (by omega) (by unfold maxLen; omega) (by omega) hszL yw7.heap.size rfl ?_
    intro gg cq s2 hown2 hgrow hat hlt2
    have HL2 : BF yw2 s2 := HL.out.grown hgrow hszL (fun z hz => (hown.lt z hz).1)
    have gP2 : s2.heap[P]? = some (.cells #[.int .i64 x, .int .i64 y] 91 (0, 0)) := (hgrow.block P (lt_of_block gP) (fun e => absurd (hPlt P e.symm) (Nat.lt_irrefl _))).trans gP
    refine hK.out _ _ ?_ (fun hHeld => ?_)
    ·exact gP2
    clear hK K
    try simp only [sq]
    refine tkR ?_ 9 rfl (fun _ _ _ h => h) hHeld ?_ ?_
    rotate_left
    ·intro w hSw; (try dsimp only at hSw); go_simp; try (with_reducible rfl)
    try simp only [sq]
    refine wpAnyH_done (by kernel_rfl) ?_ _
    clear hHeld
    go_wp2_with fail
    go_roundw
    case rel =>
     refine ⟨i + 1, by go_num, by omega, hid ?_, hid HL2⟩
     rw [E1.out, show 2 * (i + 1) + 1 = 2 * i + 1 + 2 by omega]
     exact hown2
    case measure => simp [intOf]; omega
   ·skip
    obtain rfl : i = ps.length := by omega
    obtain ⟨g, gc, rfl, hgc, hgl, hcells⟩ := Ow.cells HO.out (by omega)
    have HC := hid hcells
    clear hcells HO
    go_wp2_with fail
    refine (JN.out g gc _ hgc hgl HC.out).mono ?_
    rintro e yw3 ⟨rfl, hcl⟩
    replace HP := hid (HP.out.below hcl)
    replace HI := hid (HI.out.below hcl)
    replace HL := hid (HL.out.below hcl)
    replace hB := btrans hB hcl
    clear hcl
    go_wp2_with fail
    go_ret
    exact ⟨rfl, hB⟩
end Go.Proofs.YtenlhgnobfadgaaGreatDoor
