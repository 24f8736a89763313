/- Texts of stores, joined: PutN. -/
import Derived.Test.YtfjmbbjcghopgaaGreatDoorJ4
import Derived.Laws.BitsAllLaws
import Derived.Laws.BytesArg
namespace Go.Proofs.YtfjmbbjcghopgaaGreatDoor
open Go.RowKit
set_option linter.unusedVariables false
def G : Nat → Nat → List Int
  | 0, _ => []
  | f + 1, r => if r ≤ 127 then [(r : Int)] else ((128 + r % 128 : Nat) : Int) :: G f (r / 128)
theorem G_last (f r : Nat) (h : r ≤ 127) : G (f + 1) r = [(r : Int)] := by simp [G, h]
theorem G_more (f r : Nat) (h : 127 < r) : G (f + 1) r = ((128 + r % 128 : Nat) : Int) :: G f (r / 128) := by simp [G, show ¬ r ≤ 127 by omega]
theorem conv5 (w : World) (k : Nat) (hk : k ≤ 5) (z0 z1 z2 z3 z4 : Int) :
    (convert 58 9 (.slice (some ⟨w.heap.size, 0, none⟩) k 5)).run Tryz.prog (w.alloc (.cells #[.int .u8 z0, .int .u8 z1, .int .u8 z2, .int .u8 z3, .int .u8 z4] 139)) =
      .ok (.string (strOfNums ([z0, z1, z2, z3, z4].take k))) (w.alloc (.cells #[.int .u8 z0, .int .u8 z1, .int .u8 z2, .int .u8 z3, .int .u8 z4] 139)) := by
  refine run_convert_bytes_arg _ 58 5 Tryz.underlying58 Tryz.underlying5 w.heap.size 0 k 5 _ (by simp; omega) (fun i hi => ?_) 9 Tryz.underlying9
  have : i = 0 ∨ i = 1 ∨ i = 2 ∨ i = 3 ∨ i = 4 := by omega
  rcases this with rfl | rfl | rfl | rfl | rfl <;> simp [go_sem, hi]
theorem or128 (r : Nat) (h : r ≤ 4000000000) : bits .or .u8 (bits .and .u32 (r : Int) 127 % 256) 128 = ((128 + r % 128 : Nat) : Int) := by
  have e1 : bits .and .u32 (r : Int) 127 = ((r % 128 : Nat) : Int) := by
    have := u32_and_nat r 127 (by omega) (by omega)
    rw [nat_mask7] at this; exact this
  have e2 : ((r % 128 : Nat) : Int) % 256 = ((r % 128 : Nat) : Int) := by omega
  have e3 := u8_or_nat (r % 128) 128 (by omega) (by omega)
  rw [Nat.or_comm, nat_join 7 128 (r % 128) (by omega) (by omega)] at e3
  rw [e1, e2]; exact e3
set_option maxHeartbeats 1000000 in
theorem impl_put (n : Nat) (hx : n ≤ 4000000000) (w : World) : Calls Tryz.prog 72 #[.int .i64 n] w fun e w' => e = .returned (.string (strOfNums (G 5 n))) ∧ Below w.heap.size w w' := by
  have d1 : (n:Int) ≤ 4000000000 := by omega
  have c1 := conv5 w 1 (by omega)
  have c2 := conv5 w 2 (by omega)
  have c3 := conv5 w 3 (by omega)
  have c4 := conv5 w 4 (by omega)
  have c5 := conv5 w 5 (by omega)
  go_enter Tryz.func72, Tryz.ntmps72
  go_wp2
  go_loopw [4, 5] (fun tr tm wr => ∃ r : Nat, ∃ m : Int, ∃ z0 z1 z2 z3 z4 : Int, tr = .int .u32 r ∧ tm = .int .i64 m ∧ wr = w.alloc (.cells #[.int .u8 z0, .int .u8 z1, .int .u8 z2, .int .u8 z3, .int .u8 z4] 139) ∧
     Hid ((m = 0 ∧ r ≤ 4000000000 ∧ G 5 n = G 5 r) ∨ (m = 1 ∧ r ≤ 31250000 ∧ G 5 n = [z0] ++ G 4 r) ∨ (m = 2 ∧ r ≤ 244140 ∧ G 5 n = [z0, z1] ++ G 3 r) ∨ (m = 3 ∧ r ≤ 1907 ∧ G 5 n = [z0, z1, z2] ++ G 2 r) ∨ (m = 4 ∧ r ≤ 14 ∧ G 5 n = [z0, z1, z2, z3] ++ G 1 r)))
     (fun tr _ _ => (intOf tr).toNat)
  case atStart => exact ⟨n, 0, 0, 0, 0, 0, 0, rfl, rfl, rfl, .inl ⟨rfl, hx, rfl⟩⟩
  case round =>
    obtain ⟨r, m, z0, z1, z2, z3, z4, rfl, rfl, rfl, H⟩ := hrel
    by_cases hr : r ≤ 127
    · have hr' : (r : Int) ≤ 127 := by omega
      rcases H.out with ⟨rfl, h1, h2⟩ | ⟨rfl, h1, h2⟩ | ⟨rfl, h1, h2⟩ | ⟨rfl, h1, h2⟩ | ⟨rfl, h1, h2⟩
      all_goals
        have H2 := hide h2
        clear H h2
        go_wp2
        go_ret
        rw [H2.out, G_last _ _ hr]
        exact ⟨rfl, (Below.refl _ _).alloc (Nat.le_refl _) _⟩
    · have hr' : 127 < (r : Int) := by omega
      have hc : (r : Int) / 128 = ((r / 128 : Nat) : Int) := by omega
      have Hc := hide hc
      clear hc
      have e := fun h => or128 r h
      have He := hide e
      clear e
      rcases H.out with ⟨rfl, h1, h2⟩ | ⟨rfl, h1, h2⟩ | ⟨rfl, h1, h2⟩ | ⟨rfl, h1, h2⟩ | ⟨rfl, h1, h2⟩
      · have H2 := hide h2
        clear H h2
        have h1' : (r : Int) ≤ 4000000000 := by omega
        go_wp2
        go_roundw
        case rel => exact ⟨r / 128, 1, _, z1, z2, z3, z4, by rw [Hc.out], rfl, rfl, .inr (.inl ⟨rfl, by omega, by rw [He.out (by omega), H2.out, G_more _ _ (by omega)]; rfl⟩)⟩
        case measure => simp [intOf]; omega
      · have H2 := hide h2
        clear H h2
        have h1' : (r : Int) ≤ 4000000000 := by omega
        go_wp2
        go_roundw
        case rel => exact ⟨r / 128, 2, z0, _, z2, z3, z4, by rw [Hc.out], rfl, rfl, .inr (.inr (.inl ⟨rfl, by omega, by rw [He.out (by omega), H2.out, G_more _ _ (by omega)]; rfl⟩))⟩
        case measure => simp [intOf]; omega
      · have H2 := hide h2
        clear H h2
        have h1' : (r : Int) ≤ 4000000000 := by omega
        go_wp2
        go_roundw
        case rel => exact ⟨r / 128, 3, z0, z1, _, z3, z4, by rw [Hc.out], rfl, rfl, .inr (.inr (.inr (.inl ⟨rfl, by omega, by rw [He.out (by omega), H2.out, G_more _ _ (by omega)]; rfl⟩)))⟩
        case measure => simp [intOf]; omega
      · have H2 := hide h2
        clear H h2
        have h1' : (r : Int) ≤ 4000000000 := by omega
        go_wp2
        go_roundw
        case rel => exact ⟨r / 128, 4, z0, z1, z2, _, z4, by rw [Hc.out], rfl, rfl, .inr (.inr (.inr (.inr ⟨rfl, by omega, by rw [He.out (by omega), H2.out, G_more _ _ (by omega)]; rfl⟩)))⟩
        case measure => simp [intOf]; omega
      · omega
theorem Tryz.info5 : (Tryz.prog.info? 5).map (fun i => (i.zero, i.size, i.bytes)) = some (some (.int .u8 0), 1, 1) := by kernel_rfl
theorem own_conv {w : World} {base n : Nat} {v : Value} {xs : List Int} (h : w.ownsRow base 5 1 v n (xs.map (Value.int .u8))) (h0 : 0 < n) :
    ∃ g cap, v = .slice (some ⟨g, 0, none⟩) n cap ∧ (convert 58 9 (.slice (some ⟨g, 0, none⟩) n cap)).run Tryz.prog w = .ok (.string (strOfNums xs)) w := by
  have hl : xs.length = n := by simpa using h.1
  have h' := h
  rcases h.2 with ⟨_, hn⟩ | ⟨g, cap, cur, rfl, _⟩
  · omega
  · refine ⟨g, cap, rfl, ?_⟩
    refine run_convert_bytes_arg _ 58 5 Tryz.underlying58 Tryz.underlying5 g 0 n cap xs hl (fun i hi => ?_) 9 Tryz.underlying9
    have hc := h'.cells (g := g) rfl i (.int .u8 (xs.getD i 0)) (by simp [List.getElem?_map, List.getD, List.getElem?_eq_getElem (show i < xs.length by omega)])
    rw [Addr.add_lit] at hc
    simpa using hc
theorem own_grow {w w0 w1 : World} {B : Nat} {v : Value} {n : Nat} {xs : List Value} {o : Obj} (hown : w0.ownsRow B 5 1 v n xs) (hb : Below B w w0) (hB : B ≤ w0.heap.size) (hg : (w0.alloc o).grownBy w1 v.ownBlock) : Below B w w1 :=
  (hb.alloc hB o).grown hg (by simp; omega) (fun k hk => (hown.lt k hk).1)
set_option maxRecDepth 100000 in
set_option maxHeartbeats 1000000 in
theorem spec_put (n : Nat) (hx : n ≤ 4000000000) (w : World) : Calls Tryz.prog 32 #[.int .i64 n] w fun e w' => e = .returned (.string (strOfNums (G 5 n))) ∧ Below w.heap.size w w' := by
  have d1 : (n:Int) ≤ 4000000000 := by omega
  obtain ⟨i0, hi, hz0, hz1, hz2⟩ := info_parts Tryz.info5
  go_enter Tryz.func32, Tryz.ntmps32
  go_wp2_with (go_at_call 36; refine (inn_calls _ _ _ _).mono ?_; rintro e w' ⟨rfl, hw⟩; replace hw := hw.symm; subst hw)
  go_loopw [0, 3] (fun tn v wr => ∃ r : Nat, ∃ done : List Int, tn = .int .i64 r ∧ wr.ownsRow w.heap.size 5 1 v done.length (done.map (Value.int .u8)) ∧ Below w.heap.size w wr ∧ r ≤ 4000000000 ∧ done.length ≤ 4 ∧
     Hid (∃ f, done.length + f = 4 ∧ G 5 n = done ++ G (f + 1) r ∧ r < 128 ^ (f + 1)))
     (fun tn _ _ => (intOf tn).toNat)
  case atStart =>
    exact ⟨n, [], rfl, World.ownsRow_made _ _ _ (Nat.le_refl _) (by decide) rfl, (Below.refl _ _).alloc (Nat.le_refl _) _, hx, by simp, 4, rfl, rfl, by omega⟩
  case round =>
    obtain ⟨r, done, rfl, hown, hbel, hr4, hdl, H⟩ := hrel
    have hsz := hbel.size
    by_cases hr : r ≤ 127
    · have hr' : (r : Int) ≤ 127 := by omega
      have hfin : strOfNums (G 5 n) = strOfNums (done ++ [(r : Int)]) := by
        obtain ⟨f, _, e, _⟩ := H.out
        rw [e, G_last _ _ hr]
      have Hf := hide hfin
      clear hfin H
      go_wp2_with (at_builtin; refine wpList_append_own _ rfl (.tmp 19) (.tmp 22) 58 rfl w.heap.size 5 i0 (.int .u8 0) 1 1 Tryz.underlying58 hi hz0 hz1 hz2 rfl (by decide) _ _ _ rfl (hown.alloc _) ⟨wr.heap.size, 0, none⟩ 1 1 [.int .u8 r] rfl rfl (cell_one_new _ _ _) (by simp [Value.oneCell']) (by unfold maxLen; omega) (by omega) (by simp; omega) ?_; intro v' w1 hown' hgrow _; have hb1 := own_grow hown hbel hsz hgrow; obtain ⟨g, cap, rfl, hcv⟩ := own_conv (xs := done ++ [(r : Int)]) (by simpa using hown') (by omega))
      go_ret
      exact ⟨by rw [Hf.out]; rfl, hb1⟩
    · have hr' : 127 < (r : Int) := by omega
      have hnext : ∃ f, (done ++ [(128 + (r : Int) % 128)]).length + f = 4 ∧ G 5 n = (done ++ [(128 + (r : Int) % 128)]) ++ G (f + 1) (r / 128) ∧ r / 128 < 128 ^ (f + 1) := by
        obtain ⟨f, e1, e2, e3⟩ := H.out
        match f, e1, e2, e3 with
        | 0, _, _, e3 => simp at e3; omega
        | f + 1, e1, e2, e3 =>
          refine ⟨f, by simp; omega, ?_, ?_⟩
          · rw [e2, G_more _ _ (by omega)]; simp
          · rw [Nat.pow_succ] at e3
            exact Nat.div_lt_of_lt_mul (by rw [Nat.mul_comm]; exact e3)
      have hd3 : done.length + 1 ≤ 4 := by obtain ⟨f, e, _⟩ := hnext; simp at e; omega
      have Hn := hide hnext
      clear hnext H
      go_wp2_with (at_builtin; refine wpList_append_own _ rfl (.tmp 10) (.tmp 15) 58 rfl w.heap.size 5 i0 (.int .u8 0) 1 1 Tryz.underlying58 hi hz0 hz1 hz2 rfl (by decide) _ _ _ rfl (hown.alloc _) ⟨wr.heap.size, 0, none⟩ 1 1 [.int .u8 (128 + (r : Int) % 128)] rfl rfl (cell_one_new _ _ _) (by simp [Value.oneCell']) (by unfold maxLen; omega) (by omega) (by simp; omega) ?_; intro v' w1 hown' hgrow _; have hb1 := own_grow hown hbel hsz hgrow)
      go_roundw
      case rel => exact ⟨r / 128, done ++ [(128 + (r : Int) % 128)], by go_num, by simpa using hown', hb1, by omega, by simpa using hd3, Hn⟩
      case measure => simp [intOf]; omega
theorem spec_put_no (n : Int) (h : n < 0 ∨ 4000000000 < n) (w : World) : Calls Tryz.prog 32 #[.int .i64 n] w fun e w' => e = .returned (.string ⟨#[]⟩) ∧ w' = w := by
  have hx : (decide (0 ≤ n) && decide (n ≤ 4000000000)) = false := by simp; omega
  go_enter Tryz.func32, Tryz.ntmps32
  go_wp2_with (go_at_call 36; refine (inn_calls _ _ _ _).mono ?_; rintro e w' ⟨rfl, rfl⟩)
  all_goals first | (exfalso; omega) | (go_ret; exact ⟨rfl, rfl⟩)
def fold (x : Int) : Int := if x < 0 then -2 * x - 1 else 2 * x
theorem impl_fold (x : Int) (h1 : -200000 ≤ x) (h2 : x ≤ 200000) (w : World) : Calls Tryz.prog 95 #[.int .i64 x] w fun e w' => e = .returned (.int .i64 (fold x)) ∧ w' = w := by
  have a1 : ¬ x < -1000000000 := by omega
  have a2 : ¬ 1000000000 < x := by omega
  have a1d : decide (x < -1000000000) = false := by simpa using a1
  have a2d : decide (1000000000 < x) = false := by simpa using a2
  unfold fold
  by_cases h : x < 0
  · rw [if_pos h]
    go_enter Tryz.func95, Tryz.ntmps95
    go_wp2
    go_ret
    exact ⟨rfl, rfl⟩
  · rw [if_neg h]
    have hd : decide (x < 0) = false := by simpa using h
    have h' : 0 ≤ x := by omega
    go_enter Tryz.func95, Tryz.ntmps95
    go_wp2
    go_ret
    exact ⟨rfl, rfl⟩
theorem spec_fold (x : Int) (h1 : -200000 ≤ x) (h2 : x ≤ 200000) (w : World) : Calls Tryz.prog 61 #[.int .i64 x] w fun e w' => e = .returned (.int .i64 (fold x)) ∧ w' = w := by
  have hin := inn_calls x (-1000000000) 1000000000 w
  have a1 : (decide (-1000000000 ≤ x) && decide (x ≤ 1000000000)) = true := by simp; omega
  rw [a1] at hin
  have HIN := hid hin
  clear hin a1
  unfold fold
  by_cases h : x < 0
  · rw [if_pos h]
    have hd : decide (0 ≤ x) = false := by simp; omega
    go_enter Tryz.func61, Tryz.ntmps61
    go_wp2_with fail
    refine HIN.out.mono ?_
    rintro e w' ⟨rfl, hw⟩
    replace hw := hw.symm
    subst hw
    go_wp2_with fail
    go_ret
    exact ⟨rfl, rfl⟩
  · rw [if_neg h]
    have h' : 0 ≤ x := by omega
    go_enter Tryz.func61, Tryz.ntmps61
    go_wp2_with fail
    refine HIN.out.mono ?_
    rintro e w' ⟨rfl, hw⟩
    replace hw := hw.symm
    subst hw
    go_wp2_with fail
    go_ret
    exact ⟨rfl, rfl⟩
theorem fold_nn (x : Int) (h1 : -200000 ≤ x) (h2 : x ≤ 200000) : ∃ n : Nat, fold x = (n : Int) ∧ n ≤ 4000000000 := by
  unfold fold
  split
  · exact ⟨(-2 * x - 1).toNat, by omega, by omega⟩
  · exact ⟨(2 * x).toNat, by omega, by omega⟩
end Go.Proofs.YtfjmbbjcghopgaaGreatDoor
