/- AskText of both sides. -/
import Derived.Test.YtkifhdkebddnpaaGreatDoorRText
import Derived.Test.YtkifhdkebddnpaaGreatDoorRTileT
import Derived.Test.YtkifhdkebddnpaaGreatDoorRQa
namespace Go.Proofs.YtkifhdkebddnpaaGreatDoorR
open Go.RowKit
set_option linter.unusedVariables false
set_option linter.unusedSimpArgs false
def akw : Nat → ByteArray
  | 0 => ⟨#[66, 69, 71, 73, 78]⟩
  | 1 => ⟨#[67, 79, 77, 77, 73, 84]⟩
  | 2 => ⟨#[82, 79, 76, 76, 66, 65, 67, 75]⟩
  | 3 => ⟨#[80, 85, 84]⟩
  | 4 => ⟨#[67, 85, 84]⟩
  | 5 => ⟨#[71, 69, 84]⟩
  | 6 => ⟨#[77, 69, 69, 84, 83]⟩
  | 7 => ⟨#[73, 78]⟩
  | 8 => ⟨#[67, 79, 85, 78, 84]⟩
  | _ => ⟨#[65, 76, 76]⟩
theorem akw_size (k : Nat) : (akw k).size ≤ 8 := by unfold akw; split <;> decide
def idq (id : Int) : Bool := decide (1 ≤ id) && decide (id ≤ 999999999)
/-- Whether a statement of a kind is as told; its text. -/
def askb (m : Nat) (id kd : Int) (ps : List (Int × Int)) (l c r : Int) : Bool := match m with
  | 3 => idq id && shok kd ps
  | 4 => idq id
  | 5 => idq id
  | 6 => shok kd ps
  | 7 => decide (kd = 2) && shok kd ps
  | 8 => tok l c r
  | _ => true
def askx (m : Nat) (id kd : Int) (ps : List (Int × Int)) (l c r : Int) : ByteArray := match m with
  | 3 => akw 3 ++ spc ++ ia id ++ spc ++ txv kd ps
  | 4 => akw 4 ++ spc ++ ia id
  | 5 => akw 5 ++ spc ++ ia id
  | 6 => akw 6 ++ spc ++ txv kd ps
  | 7 => akw 7 ++ spc ++ txv kd ps
  | 8 => akw 8 ++ spc ++ ia l ++ spc ++ ia c ++ spc ++ ia r
  | m => akw m
def askB (k id kd : Int) (ps : List (Int × Int)) (l c r : Int) : Bool := if 0 ≤ k ∧ k ≤ 9 then askb k.toNat id kd ps l c r else false
def askt (k id kd : Int) (ps : List (Int × Int)) (l c r : Int) : ByteArray := if askB k id kd ps l c r = true then askx k.toNat id kd ps l c r else ⟨#[]⟩
theorem ia_sizeA {n : Int} (h0 : -9223372036854775808 ≤ n) (h1 : n ≤ 9223372036854775807) : (ia n).size ≤ 21 := by
  have := Lib.itoa_length_le n h0 h1
  simpa [ia, ByteArray.size] using this
theorem txv_size (kd : Int) (ps : List (Int × Int)) : (txv kd ps).size ≤ 3000 := by
  unfold txv
  split
  · rename_i hs
    obtain ⟨m, rfl, _, h60, hal⟩ := kind_nat hs
    have := stx_size (k := (m : Int).toNat) (fun j hj => in_at hal j hj) ps.length (Nat.le_refl _)
    omega
  · decide
theorem stx_pos (k : Nat) (ps : List (Int × Int)) : ∀ i, 0 < (stx k ps i).size
  | 0 => by simp only [stx]; unfold kw; split <;> decide
  | i + 1 => by
    have := stx_pos k ps i
    simp only [stx, ByteArray.size_append]
    omega
theorem empty_str {t : ByteArray} : t.toList.isEmpty = decide (t.size = 0) := by
  have e : t.size = t.data.toList.length := by rw [Array.length_toList]; rfl
  rw [ByteArray.toList_eq, e]
  cases t.data.toList with
  | nil => rfl
  | cons x r => simp
theorem txv_empty (kd : Int) (ps : List (Int × Int)) : (txv kd ps).toList.isEmpty = !shok kd ps := by
  rw [empty_str]
  cases hs : shok kd ps
  · have : txv kd ps = ⟨#[]⟩ := by unfold txv; rw [hs]; rfl
    rw [this]; rfl
  · have : txv kd ps = stx kd.toNat ps ps.length := by unfold txv; rw [if_pos hs]
    rw [this]
    have := stx_pos kd.toNat ps ps.length
    have hne : (stx kd.toNat ps ps.length).size ≠ 0 := by omega
    rw [decide_eq_false hne]; rfl
/-- The library's Itoa answers at every int. -/
def ItoaA (w : World) : Prop := ∀ w', Below w.heap.size w w' → ∀ n : Int, -9223372036854775808 ≤ n → n ≤ 9223372036854775807 → Calls Tryz.prog 32 #[.int .i64 n] w' fun e w'' => e = .returned (.string (ia n)) ∧ Below w'.heap.size w' w''
theorem ItoaA.below {w w' : World} (h : ItoaA w) (hb : Below w.heap.size w w') : ItoaA w' := fun w'' h'' => h w'' (btrans hb h'')
theorem ItoaA.ok {w : World} (h : ItoaA w) : ItoaOk w := fun w' hb n hn => h w' hb n (by unfold In at hn; omega) (by unfold In at hn; omega)
theorem impl_decA (n : Int) (h0 : -9223372036854775808 ≤ n) (h1 : n ≤ 9223372036854775807) (w : World) (h : ItoaA w) : Calls Tryz.prog 19 #[.int .i64 n] w fun e w' => e = .returned (.string (ia n)) ∧ Below w.heap.size w w' := by
  have HI := hid (h w (Below.refl _ _) n h0 h1)
  clear h
  generalize ia n = s at *
  go_enter Tryz.func19, Tryz.ntmps19
  go_wp2_with fail
  refine HI.out.mono ?_
  rintro e w' ⟨rfl, hb⟩
  go_wp2_with fail
  go_ret
  exact ⟨rfl, hb⟩
theorem spec_decS (n : Int) (h0 : -9223372036854775808 ≤ n) (h1 : n ≤ 9223372036854775807) (w : World) : Calls Tryz.prog 12 #[.int .i64 n] w fun e w' => e = .returned (.string (ia n)) ∧ w' = w := spec_dec n h0 h1 w
theorem spec_idq (id : Int) (w : World) : Calls Tryz.prog 14 #[.int .i64 id] w fun e w' => e = .returned (.bool (idq id)) ∧ w' = w := by
  go_enter Tryz.func14, Tryz.ntmps14
  go_wp2_with fail
  refine (inn_calls _ _ _ _).mono ?_
  rintro e w1 ⟨rfl, rfl⟩
  go_wp2_with fail
  go_ret
  exact ⟨rfl, rfl⟩
theorem impl_idq (id : Int) (w : World) : Calls Tryz.prog 29 #[.int .i64 id] w fun e w' => e = .returned (.bool (idq id)) ∧ w' = w := by
  unfold idq
  by_cases h : 1 ≤ id
  · go_enter Tryz.func29, Tryz.ntmps29
    go_wp2_with fail
    go_ret
    exact ⟨by first | (simp [h]; done) | (simp; omega), rfl⟩
  · go_enter Tryz.func29, Tryz.ntmps29
    go_wp2_with fail
    go_ret
    exact ⟨by first | (simp [h]; done) | (simp; omega), rfl⟩
theorem words_calls (w : World) : Calls Tryz.prog 11 #[] w fun e w' => e = .returned (.slice (some ⟨w.heap.size, 0, none⟩) 10 10) ∧ w' = w.alloc (.cells #[.string (akw 0), .string (akw 1), .string (akw 2), .string (akw 3), .string (akw 4), .string (akw 5), .string (akw 6), .string (akw 7), .string (akw 8), .string (akw 9)] 9) := by
  go_enter Tryz.func11, Tryz.ntmps11
  go_wp2_with fail
  go_ret
  exact ⟨rfl, rfl⟩
theorem words_at (m : Nat) (hm : m ≤ 9) (w : World) : Calls Tryz.prog 11 #[] w fun e w' => ∃ nb, e = .returned (.slice (some ⟨nb, 0, none⟩) 10 10) ∧ w'.cell? ⟨nb, m, none⟩ = some (.string (akw m)) ∧ Below w.heap.size w w' :=
  (words_calls w).mono fun e w'' (h : _ ∧ _) => ⟨w.heap.size, h.1, by rw [h.2]; refine newcell _ _ _ _ _ _ rfl ?_; rcases (show m = 0 ∨ m = 1 ∨ m = 2 ∨ m = 3 ∨ m = 4 ∨ m = 5 ∨ m = 6 ∨ m = 7 ∨ m = 8 ∨ m = 9 by omega) with e | e | e | e | e | e | e | e | e | e <;> subst e <;> rfl, by rw [h.2]; exact balloc (Below.refl _ _) _⟩
theorem spec_tokB (l c r : Int) (w : World) : Calls Tryz.prog 15 #[.agg #[.int .i64 l, .int .i64 c, .int .i64 r]] w fun e w' => e = .returned (.bool (tok l c r)) ∧ Below w.heap.size w w' := (spec_tileok l c r w).mono fun e w' ⟨he, hw⟩ => ⟨he, by rw [hw]; exact balloc (Below.refl _ _) _⟩
theorem show_drew {w : World} {p : Nat} {o : Obj} (h : w.heap[p]? = some o) : w.drew.heap[p]? = some o := h
theorem spec_decB (n : Int) (h0 : -9223372036854775808 ≤ n) (h1 : n ≤ 9223372036854775807) (w : World) : Calls Tryz.prog 12 #[.int .i64 n] w fun e w' => e = .returned (.string (ia n)) ∧ Below w.heap.size w w' := (spec_decS n h0 h1 w).mono fun e w' ⟨he, hw⟩ => ⟨he, by rw [hw]; exact Below.refl _ _⟩
set_option maxRecDepth 100000 in
set_option maxHeartbeats 4000000 in
theorem spec_askm (m : Nat) (hm9 : m ≤ 9) (id kd : Int) (a : Option Addr) (cap : Nat) (ps : List (Int × Int)) (l c r : Int) (w : World) (hm : ps.length ≤ 1099511627776) (hc : ps.length ≤ cap) (hp : Pts w a ps) (hi0 : -9223372036854775808 ≤ id) (hi1 : id ≤ 9223372036854775807) (hl : (-9223372036854775808 ≤ l ∧ l ≤ 9223372036854775807) ∧ (-9223372036854775808 ≤ c ∧ c ≤ 9223372036854775807) ∧ -9223372036854775808 ≤ r ∧ r ≤ 9223372036854775807) : Calls Tryz.prog 5 #[asv m id kd a ps.length cap l c r] w fun e w' => e = .returned (.string (if askb m id kd ps l c r = true then askx m id kd ps l c r else ⟨#[]⟩)) ∧ Below w.heap.size w w' := by
  have hB := Below.refl w.heap.size w
  have HP := hid hp
  clear hp
  have ST := hid (fun w' (h : Pts w' a ps) => spec_ShapeText kd a cap ps w' hm hc h)
  have DI := hid (fun w' => spec_decB id hi0 hi1 w')
  have DL := hid (fun w' => spec_decB l hl.1.1 hl.1.2 w')
  have DC := hid (fun w' => spec_decB c hl.2.1.1 hl.2.1.2 w')
  have DR := hid (fun w' => spec_decB r hl.2.2.1 hl.2.2.2 w')
  have NM := hid (fun w' => words_at m hm9 w')
  have SI := hid (fun w' => spec_idq id w')
  have TK := hid (fun w' => spec_tokB l c r w')
  have zi := ia_sizeA hi0 hi1
  have zl := ia_sizeA hl.1.1 hl.1.2
  have zc := ia_sizeA hl.2.1.1 hl.2.1.2
  have zr := ia_sizeA hl.2.2.1 hl.2.2.2
  have zt := txv_size kd ps
  have zk := akw_size m
  have hm4 : (m : Int) < 10 := by omega
  have hm5 : (m : Int) ≤ 9 := by omega
  have hm0 : (0 : Int) ≤ (m : Int) := by omega
  have ET := hid (txv_empty kd ps)
  have HX : Hid (∀ q : ByteArray, (if askb m id kd ps l c r = true then askx m id kd ps l c r else ⟨#[]⟩) = q → True) := hid (fun _ _ => trivial)
  clear HX hl hi0 hi1
  obtain ⟨ans, hans⟩ : ∃ ans, ans = (if askb m id kd ps l c r = true then askx m id kd ps l c r else ⟨#[]⟩) := ⟨_, rfl⟩
  rw [← hans]
  have HN := hid hans
  clear hans
  go_enter Tryz.func5, Tryz.ntmps5
  go_wp2_with fail
  have gS := (new_alloc w (w.heap.size) (.cells #[.int .i64 m, .int .i64 id, .int .i64 kd, .slice a ps.length cap, .int .i64 l, .int .i64 c, .int .i64 r] 36) (by simp))
  have hal : Below w.heap.size w (w.alloc (.cells #[.int .i64 m, .int .i64 id, .int .i64 kd, .slice a ps.length cap, .int .i64 l, .int .i64 c, .int .i64 r] 36)) := (balloc (Below.refl _ _) (.cells #[.int .i64 m, .int .i64 id, .int .i64 kd, .slice a ps.length cap, .int .i64 l, .int .i64 c, .int .i64 r] 36))
  replace HP := hid (HP.out.below hal)
  replace hB := btrans hB hal
  clear hal
  generalize (w.alloc (.cells #[.int .i64 m, .int .i64 id, .int .i64 kd, .slice a ps.length cap, .int .i64 l, .int .i64 c, .int .i64 r] 36)) = yw1 at *
  refine (inn_calls _ _ _ _).mono ?_
  rintro e y0 ⟨rfl, hy0⟩
  replace hy0 := hy0.symm
  subst hy0
  obtain ⟨k1_0, k1_1, k1_2, k1_3, k1_4, k1_5, k1_6, _, _, _, _, _, _, _⟩ := cell7 gS
  go_wp2_with fail
  clear k1_0 k1_1 k1_2 k1_3 k1_4 k1_5 k1_6
  refine wp_region_held_drew (S := (fun w' => w'.heap[w.heap.size]? = some (.cells #[.int .i64 m, .int .i64 id, .int .i64 kd, .slice a ps.length cap, .int .i64 l, .int .i64 c, .int .i64 r] 36 (0, 0)))) (by kernel_rfl) ?_ (fun hHeld => ?_)
  · exact gS
  replace gS : yw1.drew.heap[w.heap.size]? = some (.cells #[.int .i64 m, .int .i64 id, .int .i64 kd, .slice a ps.length cap, .int .i64 l, .int .i64 c, .int .i64 r] 36 (0, 0)) := gS
  replace HP : Hid (Pts yw1.drew a ps) := hid (HP.out.below (bdrew (Below.refl _ _)))
  replace hB := bdrew hB
  generalize yw1.drew = yw2 at *
  refine wpAnyH_take (i := 1) (v := ?_) rfl (by kernel_rfl) (by kernel_rfl) (by kernel_rfl) (fun _ _ _ h => h) (Or.inl ⟨by rfl, ?_⟩) hHeld ?_
  rotate_left
  · intro w hSw; (try dsimp only at hSw); go_simp; try (with_reducible rfl)
  try simp only [sq]
  refine wpAnyH_take (i := 2) (v := ?_) rfl (by kernel_rfl) (by kernel_rfl) (by kernel_rfl) (fun _ _ _ h => h) (Or.inl ⟨by rfl, ?_⟩) hHeld ?_
  rotate_left
  · intro w hSw; (try dsimp only at hSw); obtain ⟨_, _, _, _, _, _, _, _, _, _, _, _, _, _⟩ := cell7 (hSw); go_simp; try (with_reducible rfl)
  try simp only [sq]
  refine wpAnyH_ready (rs := [0]) (by kernel_rfl) (by simp) ?_
  refine AllReadyH.cons rfl (fun K hK => ?_) AllReadyH.nil
  try simp only [sq]
  go_simp
  go_at_call 11
  refine (NM.out _).mono ?_
  rintro e yw3 ⟨nb, rfl, nc, hcl⟩
  replace gS := keepheap hcl gS
  replace HP := hid (HP.out.below hcl)
  replace hB := btrans hB hcl
  clear hcl
  go_wp2_with fail
  refine hK.out _ _ ?_ (fun hHeld => ?_)
  · exact gS
  clear hK K
  try simp only [sq]
  refine wpAnyH_take (i := 3) (v := ?_) rfl (by kernel_rfl) (by kernel_rfl) (by kernel_rfl) (fun _ _ _ h => h) (Or.inl ⟨by rfl, ?_⟩) hHeld ?_
  rotate_left
  · intro w hSw; (try dsimp only at hSw); go_simp; try (with_reducible rfl)
  try simp only [sq]
  refine wpAnyH_ready (rs := [4]) (by kernel_rfl) (by simp) ?_
  refine AllReadyH.cons rfl (fun K hK => ?_) AllReadyH.nil
  try simp only [sq]
  go_simp
  refine hK.out _ _ ?_ (fun hHeld => ?_)
  · exact gS
  clear hK K
  try simp only [sq]
  refine wpAnyH_take (i := 5) (v := ?_) rfl (by kernel_rfl) (by kernel_rfl) (by kernel_rfl) (fun _ _ _ h => h) (Or.inl ⟨by rfl, ?_⟩) hHeld ?_
  rotate_left
  · intro w hSw; (try dsimp only at hSw); go_simp; try (with_reducible rfl)
  try simp only [sq]
  refine wpAnyH_done (by kernel_rfl) ?_ _
  clear hHeld
  go_wp2_with fail
  refine wp_region_held_drew (S := (fun w' => w'.heap[w.heap.size]? = some (.cells #[.int .i64 m, .int .i64 id, .int .i64 kd, .slice a ps.length cap, .int .i64 l, .int .i64 c, .int .i64 r] 36 (0, 0)))) (by kernel_rfl) ?_ (fun hHeld => ?_)
  · exact gS
  replace gS : yw3.drew.heap[w.heap.size]? = some (.cells #[.int .i64 m, .int .i64 id, .int .i64 kd, .slice a ps.length cap, .int .i64 l, .int .i64 c, .int .i64 r] 36 (0, 0)) := gS
  replace HP : Hid (Pts yw3.drew a ps) := hid (HP.out.below (bdrew (Below.refl _ _)))
  replace hB := bdrew hB
  generalize yw3.drew = yw4 at *
  refine wpAnyH_take (i := 0) (v := ?_) rfl (by kernel_rfl) (by kernel_rfl) (by kernel_rfl) (fun _ _ _ h => h) (Or.inl ⟨by rfl, ?_⟩) hHeld ?_
  rotate_left
  · intro w hSw; (try dsimp only at hSw); go_simp; try (with_reducible rfl)
  try simp only [sq]
  refine wpAnyH_take (i := 1) (v := ?_) rfl (by kernel_rfl) (by kernel_rfl) (by kernel_rfl) (fun _ _ _ h => h) (Or.inl ⟨by rfl, ?_⟩) hHeld ?_
  rotate_left
  · intro w hSw; (try dsimp only at hSw); obtain ⟨_, _, _, _, _, _, _, _, _, _, _, _, _, _⟩ := cell7 (hSw); go_simp; try (with_reducible rfl)
  try simp only [sq]
  refine wpAnyH_take (i := 3) (v := ?_) rfl (by kernel_rfl) (by kernel_rfl) (by kernel_rfl) (fun _ _ _ h => h) (Or.inl ⟨by rfl, ?_⟩) hHeld ?_
  rotate_left
  · intro w hSw; (try dsimp only at hSw); go_simp; try (with_reducible rfl)
  try simp only [sq]
  refine wpAnyH_take (i := 4) (v := ?_) rfl (by kernel_rfl) (by kernel_rfl) (by kernel_rfl) (fun _ _ _ h => h) (Or.inl ⟨by rfl, ?_⟩) hHeld ?_
  rotate_left
  · intro w hSw; (try dsimp only at hSw); obtain ⟨_, _, _, _, _, _, _, _, _, _, _, _, _, _⟩ := cell7 (hSw); go_simp; try (with_reducible rfl)
  try simp only [sq]
  refine wpAnyH_ready (rs := [2]) (by kernel_rfl) (by simp) ?_
  refine AllReadyH.cons rfl (fun K hK => ?_) AllReadyH.nil
  try simp only [sq]
  go_simp
  go_at_call 12
  refine (DI.out _).mono ?_
  rintro e yw5 ⟨rfl, hcl⟩
  replace gS := keepheap hcl gS
  replace HP := hid (HP.out.below hcl)
  replace hB := btrans hB hcl
  clear hcl
  go_wp2_with fail
  refine hK.out _ _ ?_ (fun hHeld => ?_)
  · exact gS
  clear hK K
  try simp only [sq]
  refine wpAnyH_ready (rs := [5]) (by kernel_rfl) (by simp) ?_
  refine AllReadyH.cons rfl (fun K hK => ?_) AllReadyH.nil
  try simp only [sq]
  go_simp
  go_at_call 13
  refine (ST.out _ HP.out).mono ?_
  rintro e yw6 ⟨rfl, hcl⟩
  replace gS := keepheap hcl gS
  replace HP := hid (HP.out.below hcl)
  replace hB := btrans hB hcl
  clear hcl
  go_wp2_with fail
  refine hK.out _ _ ?_ (fun hHeld => ?_)
  · exact gS
  clear hK K
  try simp only [sq]
  refine wpAnyH_take (i := 6) (v := ?_) rfl (by kernel_rfl) (by kernel_rfl) (by kernel_rfl) (fun _ _ _ h => h) (Or.inl ⟨by rfl, ?_⟩) hHeld ?_
  rotate_left
  · intro w hSw; (try dsimp only at hSw); go_simp; try (with_reducible rfl)
  try simp only [sq]
  refine wpAnyH_take (i := 7) (v := ?_) rfl (by kernel_rfl) (by kernel_rfl) (by kernel_rfl) (fun _ _ _ h => h) (Or.inl ⟨by rfl, ?_⟩) hHeld ?_
  rotate_left
  · intro w hSw; (try dsimp only at hSw); go_simp; try (with_reducible rfl)
  try simp only [sq]
  refine wpAnyH_done (by kernel_rfl) ?_ _
  clear hHeld
  clear NM DI ST HP
  have et := ET.out
  clear ET
  unfold askx at HN
  generalize txv kd ps = tx at *
  generalize hsk : shok kd ps = sk at *
  generalize hdi : idq id = bi at *
  generalize hto : tok l c r = bt at *
  rcases (show m = 0 ∨ m = 1 ∨ m = 2 ∨ m = 3 ∨ m = 4 ∨ m = 5 ∨ m = 6 ∨ m = 7 ∨ m = 8 ∨ m = 9 by omega) with e | e | e | e | e | e | e | e | e | e <;> subst e
  · skip
    obtain ⟨k2_0, k2_1, k2_2, k2_3, k2_4, k2_5, k2_6, _, _, _, _, _, _, _⟩ := cell7 gS
    clear et SI TK DL DC DR
    go_wp2_with fail
    go_ret
    exact ⟨by rw [HN.out]; simp [askb] <;> rfl, hB⟩
  · skip
    obtain ⟨k2_0, k2_1, k2_2, k2_3, k2_4, k2_5, k2_6, _, _, _, _, _, _, _⟩ := cell7 gS
    clear et SI TK DL DC DR
    go_wp2_with fail
    go_ret
    exact ⟨by rw [HN.out]; simp [askb] <;> rfl, hB⟩
  · skip
    obtain ⟨k2_0, k2_1, k2_2, k2_3, k2_4, k2_5, k2_6, _, _, _, _, _, _, _⟩ := cell7 gS
    clear et SI TK DL DC DR
    go_wp2_with fail
    go_ret
    exact ⟨by rw [HN.out]; simp [askb] <;> rfl, hB⟩
  · skip
    obtain ⟨k2_0, k2_1, k2_2, k2_3, k2_4, k2_5, k2_6, _, _, _, _, _, _, _⟩ := cell7 gS
    clear TK DL DC DR
    go_wp2_with fail
    refine (SI.out _).mono ?_
    rintro e yq ⟨rfl, hq⟩
    replace hq := hq.symm
    subst hq
    cases bi
    · skip
      go_wp2_with fail
      go_ret
      exact ⟨by rw [HN.out]; simp [askb, hdi], hB⟩
    · skip
      cases sk
      · skip
        replace et : tx.toList.isEmpty = true := et
        go_wp2_with fail
        go_ret
        exact ⟨by rw [HN.out]; simp [askb, hdi, hsk], hB⟩
      · skip
        replace et : tx.toList.isEmpty = false := et
        have z3 : (⟨#[32]⟩ : ByteArray).size = 1 := rfl
        have zz1 : ¬ 9223372036854775807 < (akw 3).size + (⟨#[32]⟩ : ByteArray).size := by (try simp only [ByteArray.size_append]); omega
        have zw1 : ¬ 9223372036854775807 < (akw 3).size + 1 := by omega
        have zz2 : ¬ 9223372036854775807 < (akw 3 ++ ⟨#[32]⟩).size + (ia id).size := by (try simp only [ByteArray.size_append]); omega
        have zw2 : ¬ 9223372036854775807 < (akw 3).size + 1 + (ia id).size := by omega
        have zz3 : ¬ 9223372036854775807 < (akw 3 ++ ⟨#[32]⟩ ++ ia id).size + (⟨#[32]⟩ : ByteArray).size := by (try simp only [ByteArray.size_append]); omega
        have zw3 : ¬ 9223372036854775807 < (akw 3).size + 1 + (ia id).size + 1 := by omega
        have zz4 : ¬ 9223372036854775807 < (akw 3 ++ ⟨#[32]⟩ ++ ia id ++ ⟨#[32]⟩).size + (tx).size := by (try simp only [ByteArray.size_append]); omega
        have zw4 : ¬ 9223372036854775807 < (akw 3).size + 1 + (ia id).size + 1 + (tx).size := by omega
        go_wp2_with fail
        go_ret
        exact ⟨by rw [HN.out]; simp [askb, hdi, hsk] <;> rfl, hB⟩
  · skip
    obtain ⟨k2_0, k2_1, k2_2, k2_3, k2_4, k2_5, k2_6, _, _, _, _, _, _, _⟩ := cell7 gS
    clear et TK DL DC DR
    go_wp2_with fail
    refine (SI.out _).mono ?_
    rintro e yq ⟨rfl, hq⟩
    replace hq := hq.symm
    subst hq
    cases bi
    · skip
      go_wp2_with fail
      go_ret
      exact ⟨by rw [HN.out]; simp [askb, hdi], hB⟩
    · skip
      have z3 : (⟨#[32]⟩ : ByteArray).size = 1 := rfl
      have zz1 : ¬ 9223372036854775807 < (akw 4).size + (⟨#[32]⟩ : ByteArray).size := by (try simp only [ByteArray.size_append]); omega
      have zw1 : ¬ 9223372036854775807 < (akw 4).size + 1 := by omega
      have zz2 : ¬ 9223372036854775807 < (akw 4 ++ ⟨#[32]⟩).size + (ia id).size := by (try simp only [ByteArray.size_append]); omega
      have zw2 : ¬ 9223372036854775807 < (akw 4).size + 1 + (ia id).size := by omega
      go_wp2_with fail
      go_ret
      exact ⟨by rw [HN.out]; simp [askb, hdi] <;> rfl, hB⟩
  · skip
    obtain ⟨k2_0, k2_1, k2_2, k2_3, k2_4, k2_5, k2_6, _, _, _, _, _, _, _⟩ := cell7 gS
    clear et TK DL DC DR
    go_wp2_with fail
    refine (SI.out _).mono ?_
    rintro e yq ⟨rfl, hq⟩
    replace hq := hq.symm
    subst hq
    cases bi
    · skip
      go_wp2_with fail
      go_ret
      exact ⟨by rw [HN.out]; simp [askb, hdi], hB⟩
    · skip
      have z3 : (⟨#[32]⟩ : ByteArray).size = 1 := rfl
      have zz1 : ¬ 9223372036854775807 < (akw 5).size + (⟨#[32]⟩ : ByteArray).size := by (try simp only [ByteArray.size_append]); omega
      have zw1 : ¬ 9223372036854775807 < (akw 5).size + 1 := by omega
      have zz2 : ¬ 9223372036854775807 < (akw 5 ++ ⟨#[32]⟩).size + (ia id).size := by (try simp only [ByteArray.size_append]); omega
      have zw2 : ¬ 9223372036854775807 < (akw 5).size + 1 + (ia id).size := by omega
      go_wp2_with fail
      go_ret
      exact ⟨by rw [HN.out]; simp [askb, hdi] <;> rfl, hB⟩
  · skip
    obtain ⟨k2_0, k2_1, k2_2, k2_3, k2_4, k2_5, k2_6, _, _, _, _, _, _, _⟩ := cell7 gS
    clear SI TK DL DC DR
    cases sk
    · skip
      replace et : tx.toList.isEmpty = true := et
      go_wp2_with fail
      go_ret
      exact ⟨by rw [HN.out]; simp [askb, hsk], hB⟩
    · skip
      replace et : tx.toList.isEmpty = false := et
      have z3 : (⟨#[32]⟩ : ByteArray).size = 1 := rfl
      have zz1 : ¬ 9223372036854775807 < (akw 6).size + (⟨#[32]⟩ : ByteArray).size := by (try simp only [ByteArray.size_append]); omega
      have zw1 : ¬ 9223372036854775807 < (akw 6).size + 1 := by omega
      have zz2 : ¬ 9223372036854775807 < (akw 6 ++ ⟨#[32]⟩).size + (tx).size := by (try simp only [ByteArray.size_append]); omega
      have zw2 : ¬ 9223372036854775807 < (akw 6).size + 1 + (tx).size := by omega
      go_wp2_with fail
      go_ret
      exact ⟨by rw [HN.out]; simp [askb, hsk] <;> rfl, hB⟩
  · skip
    obtain ⟨k2_0, k2_1, k2_2, k2_3, k2_4, k2_5, k2_6, _, _, _, _, _, _, _⟩ := cell7 gS
    clear SI TK DL DC DR
    cases sk
    · skip
      replace et : tx.toList.isEmpty = true := et
      go_wp2_with fail
      go_ret
      exact ⟨by rw [HN.out]; simp [askb, hsk], hB⟩
    · skip
      replace et : tx.toList.isEmpty = false := et
      by_cases hkd : kd = 2
      · skip
        subst hkd
        have z3 : (⟨#[32]⟩ : ByteArray).size = 1 := rfl
        have zz1 : ¬ 9223372036854775807 < (akw 7).size + (⟨#[32]⟩ : ByteArray).size := by (try simp only [ByteArray.size_append]); omega
        have zw1 : ¬ 9223372036854775807 < (akw 7).size + 1 := by omega
        have zz2 : ¬ 9223372036854775807 < (akw 7 ++ ⟨#[32]⟩).size + (tx).size := by (try simp only [ByteArray.size_append]); omega
        have zw2 : ¬ 9223372036854775807 < (akw 7).size + 1 + (tx).size := by omega
        go_wp2_with fail
        go_ret
        exact ⟨by rw [HN.out]; simp [askb, hsk] <;> rfl, hB⟩
      · skip
        have hkb : (kd != 2) = true := by rw [bne_iff_ne]; exact hkd
        have hkb2 : (kd == 2) = false := by rw [beq_eq_false_iff_ne]; exact hkd
        go_wp2_with fail
        go_ret
        exact ⟨by rw [HN.out]; simp [askb, hsk, hkd], hB⟩
  · skip
    obtain ⟨k2_0, k2_1, k2_2, k2_3, k2_4, k2_5, k2_6, _, _, _, _, _, _, _⟩ := cell7 gS
    clear SI et
    go_wp2_with fail
    refine (TK.out _).mono ?_
    rintro e yw7 ⟨rfl, hcl⟩
    clear k2_0 k2_1 k2_2 k2_3 k2_4 k2_5 k2_6
    replace gS := keepheap hcl gS
    replace hB := btrans hB hcl
    clear hcl
    obtain ⟨k3_0, k3_1, k3_2, k3_3, k3_4, k3_5, k3_6, _, _, _, _, _, _, _⟩ := cell7 gS
    cases bt
    · skip
      go_wp2_with fail
      go_ret
      exact ⟨by rw [HN.out]; simp [askb, hto], hB⟩
    · skip
      have z3 : (⟨#[32]⟩ : ByteArray).size = 1 := rfl
      have zz1 : ¬ 9223372036854775807 < (akw 8).size + (⟨#[32]⟩ : ByteArray).size := by (try simp only [ByteArray.size_append]); omega
      have zw1 : ¬ 9223372036854775807 < (akw 8).size + 1 := by omega
      have zz2 : ¬ 9223372036854775807 < (akw 8 ++ ⟨#[32]⟩).size + (ia l).size := by (try simp only [ByteArray.size_append]); omega
      have zw2 : ¬ 9223372036854775807 < (akw 8).size + 1 + (ia l).size := by omega
      have zz3 : ¬ 9223372036854775807 < (akw 8 ++ ⟨#[32]⟩ ++ ia l).size + (⟨#[32]⟩ : ByteArray).size := by (try simp only [ByteArray.size_append]); omega
      have zw3 : ¬ 9223372036854775807 < (akw 8).size + 1 + (ia l).size + 1 := by omega
      have zz4 : ¬ 9223372036854775807 < (akw 8 ++ ⟨#[32]⟩ ++ ia l ++ ⟨#[32]⟩).size + (ia c).size := by (try simp only [ByteArray.size_append]); omega
      have zw4 : ¬ 9223372036854775807 < (akw 8).size + 1 + (ia l).size + 1 + (ia c).size := by omega
      have zz5 : ¬ 9223372036854775807 < (akw 8 ++ ⟨#[32]⟩ ++ ia l ++ ⟨#[32]⟩ ++ ia c).size + (⟨#[32]⟩ : ByteArray).size := by (try simp only [ByteArray.size_append]); omega
      have zw5 : ¬ 9223372036854775807 < (akw 8).size + 1 + (ia l).size + 1 + (ia c).size + 1 := by omega
      have zz6 : ¬ 9223372036854775807 < (akw 8 ++ ⟨#[32]⟩ ++ ia l ++ ⟨#[32]⟩ ++ ia c ++ ⟨#[32]⟩).size + (ia r).size := by (try simp only [ByteArray.size_append]); omega
      have zw6 : ¬ 9223372036854775807 < (akw 8).size + 1 + (ia l).size + 1 + (ia c).size + 1 + (ia r).size := by omega
      go_wp2_with fail
      clear k3_0 k3_1 k3_2 k3_3 k3_4 k3_5 k3_6
      refine wp_region_held_drew (S := (fun w' => w'.heap[w.heap.size]? = some (.cells #[.int .i64 ((8 : Nat) : Int), .int .i64 id, .int .i64 kd, .slice a ps.length cap, .int .i64 l, .int .i64 c, .int .i64 r] 36 (0, 0)))) (by kernel_rfl) ?_ (fun hHeld => ?_)
      · exact gS
      replace gS : yw7.drew.heap[w.heap.size]? = some (.cells #[.int .i64 ((8 : Nat) : Int), .int .i64 id, .int .i64 kd, .slice a ps.length cap, .int .i64 l, .int .i64 c, .int .i64 r] 36 (0, 0)) := gS
      replace hB := bdrew hB
      generalize yw7.drew = yw8 at *
      refine wpAnyH_take (i := 0) (v := ?_) rfl (by kernel_rfl) (by kernel_rfl) (by kernel_rfl) (fun _ _ _ h => h) (Or.inl ⟨by rfl, ?_⟩) hHeld ?_
      rotate_left
      · intro w hSw; (try dsimp only at hSw); go_simp; try (with_reducible rfl)
      try simp only [sq]
      refine wpAnyH_take (i := 1) (v := ?_) rfl (by kernel_rfl) (by kernel_rfl) (by kernel_rfl) (fun _ _ _ h => h) (Or.inl ⟨by rfl, ?_⟩) hHeld ?_
      rotate_left
      · intro w hSw; (try dsimp only at hSw); go_simp; try (with_reducible rfl)
      try simp only [sq]
      refine wpAnyH_take (i := 2) (v := ?_) rfl (by kernel_rfl) (by kernel_rfl) (by kernel_rfl) (fun _ _ _ h => h) (Or.inl ⟨by rfl, ?_⟩) hHeld ?_
      rotate_left
      · intro w hSw; (try dsimp only at hSw); go_simp; try (with_reducible rfl)
      try simp only [sq]
      refine wpAnyH_take (i := 3) (v := ?_) rfl (by kernel_rfl) (by kernel_rfl) (by kernel_rfl) (fun _ _ _ h => h) (Or.inl ⟨by rfl, ?_⟩) hHeld ?_
      rotate_left
      · intro w hSw; (try dsimp only at hSw); go_simp; try (with_reducible rfl)
      try simp only [sq]
      refine wpAnyH_take (i := 4) (v := ?_) rfl (by kernel_rfl) (by kernel_rfl) (by kernel_rfl) (fun _ _ _ h => h) (Or.inl ⟨by rfl, ?_⟩) hHeld ?_
      rotate_left
      · intro w hSw; (try dsimp only at hSw); obtain ⟨_, _, _, _, _, _, _, _, _, _, _, _, _, _⟩ := cell7 (hSw); go_simp; try (with_reducible rfl)
      try simp only [sq]
      refine wpAnyH_take (i := 8) (v := ?_) rfl (by kernel_rfl) (by kernel_rfl) (by kernel_rfl) (fun _ _ _ h => h) (Or.inl ⟨by rfl, ?_⟩) hHeld ?_
      rotate_left
      · intro w hSw; (try dsimp only at hSw); go_simp; try (with_reducible rfl)
      try simp only [sq]
      refine wpAnyH_take (i := 9) (v := ?_) rfl (by kernel_rfl) (by kernel_rfl) (by kernel_rfl) (fun _ _ _ h => h) (Or.inl ⟨by rfl, ?_⟩) hHeld ?_
      rotate_left
      · intro w hSw; (try dsimp only at hSw); go_simp; try (with_reducible rfl)
      try simp only [sq]
      refine wpAnyH_take (i := 10) (v := ?_) rfl (by kernel_rfl) (by kernel_rfl) (by kernel_rfl) (fun _ _ _ h => h) (Or.inl ⟨by rfl, ?_⟩) hHeld ?_
      rotate_left
      · intro w hSw; (try dsimp only at hSw); obtain ⟨_, _, _, _, _, _, _, _, _, _, _, _, _, _⟩ := cell7 (hSw); go_simp; try (with_reducible rfl)
      try simp only [sq]
      refine wpAnyH_take (i := 14) (v := ?_) rfl (by kernel_rfl) (by kernel_rfl) (by kernel_rfl) (fun _ _ _ h => h) (Or.inl ⟨by rfl, ?_⟩) hHeld ?_
      rotate_left
      · intro w hSw; (try dsimp only at hSw); go_simp; try (with_reducible rfl)
      try simp only [sq]
      refine wpAnyH_take (i := 15) (v := ?_) rfl (by kernel_rfl) (by kernel_rfl) (by kernel_rfl) (fun _ _ _ h => h) (Or.inl ⟨by rfl, ?_⟩) hHeld ?_
      rotate_left
      · intro w hSw; (try dsimp only at hSw); go_simp; try (with_reducible rfl)
      try simp only [sq]
      refine wpAnyH_take (i := 16) (v := ?_) rfl (by kernel_rfl) (by kernel_rfl) (by kernel_rfl) (fun _ _ _ h => h) (Or.inl ⟨by rfl, ?_⟩) hHeld ?_
      rotate_left
      · intro w hSw; (try dsimp only at hSw); obtain ⟨_, _, _, _, _, _, _, _, _, _, _, _, _, _⟩ := cell7 (hSw); go_simp; try (with_reducible rfl)
      try simp only [sq]
      refine wpAnyH_ready (rs := [5]) (by kernel_rfl) (by simp) ?_
      refine AllReadyH.cons rfl (fun K hK => ?_) AllReadyH.nil
      try simp only [sq]
      go_simp
      go_at_call 12
      refine (DL.out _).mono ?_
      rintro e yw9 ⟨rfl, hcl⟩
      replace gS := keepheap hcl gS
      replace hB := btrans hB hcl
      clear hcl
      go_wp2_with fail
      refine hK.out _ _ ?_ (fun hHeld => ?_)
      · exact gS
      clear hK K
      try simp only [sq]
      refine wpAnyH_take (i := 6) (v := ?_) rfl (by kernel_rfl) (by kernel_rfl) (by kernel_rfl) (fun _ _ _ h => h) (Or.inl ⟨by rfl, ?_⟩) hHeld ?_
      rotate_left
      · intro w hSw; (try dsimp only at hSw); go_simp; try (with_reducible rfl)
      try simp only [sq]
      refine wpAnyH_take (i := 7) (v := ?_) rfl (by kernel_rfl) (by kernel_rfl) (by kernel_rfl) (fun _ _ _ h => h) (Or.inl ⟨by rfl, ?_⟩) hHeld ?_
      rotate_left
      · intro w hSw; (try dsimp only at hSw); go_simp; try (with_reducible rfl)
      try simp only [sq]
      refine wpAnyH_ready (rs := [11]) (by kernel_rfl) (by simp) ?_
      refine AllReadyH.cons rfl (fun K hK => ?_) AllReadyH.nil
      try simp only [sq]
      go_simp
      go_at_call 12
      refine (DC.out _).mono ?_
      rintro e yw10 ⟨rfl, hcl⟩
      replace gS := keepheap hcl gS
      replace hB := btrans hB hcl
      clear hcl
      go_wp2_with fail
      refine hK.out _ _ ?_ (fun hHeld => ?_)
      · exact gS
      clear hK K
      try simp only [sq]
      refine wpAnyH_take (i := 12) (v := ?_) rfl (by kernel_rfl) (by kernel_rfl) (by kernel_rfl) (fun _ _ _ h => h) (Or.inl ⟨by rfl, ?_⟩) hHeld ?_
      rotate_left
      · intro w hSw; (try dsimp only at hSw); go_simp; try (with_reducible rfl)
      try simp only [sq]
      refine wpAnyH_take (i := 13) (v := ?_) rfl (by kernel_rfl) (by kernel_rfl) (by kernel_rfl) (fun _ _ _ h => h) (Or.inl ⟨by rfl, ?_⟩) hHeld ?_
      rotate_left
      · intro w hSw; (try dsimp only at hSw); go_simp; try (with_reducible rfl)
      try simp only [sq]
      refine wpAnyH_ready (rs := [17]) (by kernel_rfl) (by simp) ?_
      refine AllReadyH.cons rfl (fun K hK => ?_) AllReadyH.nil
      try simp only [sq]
      go_simp
      go_at_call 12
      refine (DR.out _).mono ?_
      rintro e yw11 ⟨rfl, hcl⟩
      replace gS := keepheap hcl gS
      replace hB := btrans hB hcl
      clear hcl
      go_wp2_with fail
      refine hK.out _ _ ?_ (fun hHeld => ?_)
      · exact gS
      clear hK K
      try simp only [sq]
      refine wpAnyH_take (i := 18) (v := ?_) rfl (by kernel_rfl) (by kernel_rfl) (by kernel_rfl) (fun _ _ _ h => h) (Or.inl ⟨by rfl, ?_⟩) hHeld ?_
      rotate_left
      · intro w hSw; (try dsimp only at hSw); go_simp; try (with_reducible rfl)
      try simp only [sq]
      refine wpAnyH_take (i := 19) (v := ?_) rfl (by kernel_rfl) (by kernel_rfl) (by kernel_rfl) (fun _ _ _ h => h) (Or.inl ⟨by rfl, ?_⟩) hHeld ?_
      rotate_left
      · intro w hSw; (try dsimp only at hSw); go_simp; try (with_reducible rfl)
      try simp only [sq]
      refine wpAnyH_done (by kernel_rfl) ?_ _
      clear hHeld
      go_wp2_with fail
      go_ret
      exact ⟨by rw [HN.out]; simp [askb, hto] <;> rfl, hB⟩
  · skip
    obtain ⟨k2_0, k2_1, k2_2, k2_3, k2_4, k2_5, k2_6, _, _, _, _, _, _, _⟩ := cell7 gS
    clear et SI TK DL DC DR
    go_wp2_with fail
    go_ret
    exact ⟨by rw [HN.out]; simp [askb] <;> rfl, hB⟩
theorem spec_AskText (k : Int) (id kd : Int) (a : Option Addr) (cap : Nat) (ps : List (Int × Int)) (l c r : Int) (w : World) (hm : ps.length ≤ 1099511627776) (hc : ps.length ≤ cap) (hp : Pts w a ps) (hi0 : -9223372036854775808 ≤ id) (hi1 : id ≤ 9223372036854775807) (hl : (-9223372036854775808 ≤ l ∧ l ≤ 9223372036854775807) ∧ (-9223372036854775808 ≤ c ∧ c ≤ 9223372036854775807) ∧ -9223372036854775808 ≤ r ∧ r ≤ 9223372036854775807) : Calls Tryz.prog 5 #[asv k id kd a ps.length cap l c r] w fun e w' => e = .returned (.string (askt k id kd ps l c r)) ∧ Below w.heap.size w w' := by
  by_cases hk : 0 ≤ k ∧ k ≤ 9
  · obtain ⟨m, rfl⟩ := Int.eq_ofNat_of_zero_le hk.1
    have := spec_askm m (by omega) id kd a cap ps l c r w hm hc hp hi0 hi1 hl
    unfold askt askB
    rw [if_pos hk, Int.toNat_natCast]
    exact this
  · have e : askt k id kd ps l c r = ⟨#[]⟩ := by unfold askt askB; rw [if_neg hk]; rfl
    rw [e]
    have hk' : (decide (0 ≤ k) && decide (k ≤ 9)) = false := by
      by_cases h : 0 ≤ k
      · have : ¬ k ≤ 9 := fun h2 => hk ⟨h, h2⟩
        simp [this]
      · simp [h]
    clear hk e
    go_enter Tryz.func5, Tryz.ntmps5
    go_wp2_with fail
    refine (inn_calls _ _ _ _).mono ?_
    rintro e y0 ⟨rfl, hy0⟩
    rw [hk', hy0]
    go_wp2_with fail
    go_ret
    exact ⟨rfl, balloc (Below.refl _ _) _⟩
end Go.Proofs.YtkifhdkebddnpaaGreatDoorR
