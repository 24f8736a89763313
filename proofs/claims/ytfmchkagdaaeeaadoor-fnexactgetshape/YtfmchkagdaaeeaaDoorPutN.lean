/- A number in bytes: the landed PutNum and the specification's; folded numbers. -/
import Derived.Test.YtfmchkagdaaeeaaDoorDrawP
import Derived.Laws.BitsAllLaws
import Derived.Laws.BytesArg
namespace Go.Proofs.YtfmchkagdaaeeaaDoor
open Go.RowKit
set_option linter.unusedVariables false
def G : Nat → Nat → List Int
  | 0, _ => []
  | f + 1, r => if r ≤ 127 then [(r : Int)] else ((128 + r % 128 : Nat) : Int) :: G f (r / 128)
theorem G_last (f r : Nat) (h : r ≤ 127) : G (f + 1) r = [(r : Int)] := by simp [G, h]
theorem G_more (f r : Nat) (h : 127 < r) : G (f + 1) r = ((128 + r % 128 : Nat) : Int) :: G f (r / 128) := by simp [G, show ¬ r ≤ 127 by omega]
theorem Tryd.info5 : (Tryd.prog.info? 5).map (fun i => (i.zero, i.size, i.bytes)) = some (some (.int .u8 0), 1, 1) := by kernel_rfl
theorem own_conv {w : World} {base n : Nat} {v : Value} {xs : List Int} (h : w.ownsRow base 5 1 v n (xs.map (Value.int .u8))) (h0 : 0 < n) :
    ∃ g cap, v = .slice (some ⟨g, 0, none⟩) n cap ∧ (convert 54 9 (.slice (some ⟨g, 0, none⟩) n cap)).run Tryd.prog w = .ok (.string (strOfNums xs)) w := by
  have hl : xs.length = n := by simpa using h.1
  have h' := h
  rcases h.2 with ⟨_, hn⟩ | ⟨g, cap, cur, rfl, _⟩
  · omega
  · refine ⟨g, cap, rfl, ?_⟩
    refine run_convert_bytes_arg _ 54 5 Tryd.underlying54 Tryd.underlying5 g 0 n cap xs hl (fun i hi => ?_) 9 Tryd.underlying9
    have hc := h'.cells (g := g) rfl i (.int .u8 (xs.getD i 0)) (by simp [List.getElem?_map, List.getD, List.getElem?_eq_getElem (show i < xs.length by omega)])
    rw [Addr.add_lit] at hc
    simpa using hc
theorem own_grow {w w0 w1 : World} {B : Nat} {v : Value} {n : Nat} {xs : List Value} {o : Obj} (hown : w0.ownsRow B 5 1 v n xs) (hb : Below B w w0) (hB : B ≤ w0.heap.size) (hg : (w0.alloc o).grownBy w1 v.ownBlock) : Below B w w1 :=
  (hb.alloc hB o).grown hg (by simp; omega) (fun k hk => (hown.lt k hk).1)
set_option maxRecDepth 100000 in
set_option maxHeartbeats 1000000 in
theorem spec_put (n : Nat) (hx : n ≤ 4000000000) (w : World) : Calls Tryd.prog 19 #[.int .i64 n] w fun e w' => e = .returned (.string (strOfNums (G 5 n))) ∧ Below w.heap.size w w' := by
  have d1 : (n:Int) ≤ 4000000000 := by omega
  obtain ⟨i0, hi, hz0, hz1, hz2⟩ := info_parts Tryd.info5
  go_enter Tryd.func19, Tryd.ntmps19
  go_wp2_with (go_at_call 9; refine (inn_calls _ _ _ _).mono ?_; rintro e w' ⟨rfl, hw⟩; replace hw := hw.symm; subst hw)
  go_loopw [0, 3] (fun tn v wr => ∃ r : Nat, ∃ done : List Int, tn = .int .i64 r ∧ wr.ownsRow w.heap.size 5 1 v done.length (done.map (Value.int .u8)) ∧ Below w.heap.size w wr ∧ r ≤ 4000000000 ∧ done.length ≤ 4 ∧
     Hid (∃ f, done.length + f = 4 ∧ G 5 n = done ++ G (f + 1) r ∧ r < 128 ^ (f + 1)))
     (fun tn _ _ => (intOf tn).toNat)
  case atStart =>
    exact ⟨n, [], rfl, World.ownsRow_made _ _ _ (Nat.le_refl _) (by decide) rfl, (Below.refl _ _).alloc (Nat.le_refl _) _, hx, by simp, 4, rfl, rfl, by omega⟩
  case round =>
    obtain ⟨r, done, rfl, hown, hbel, hr4, hdl, H⟩ := hrel
    have hsz := hbel.size
    by_cases hr : r ≤ 127
    · have hr' : (r : Int) ≤ 127 := by omega
      have hfin : strOfNums (G 5 n) = strOfNums (done ++ [(r : Int)]) := by
        obtain ⟨f, _, e, _⟩ := H.out
        rw [e, G_last _ _ hr]
      have Hf := hide hfin
      clear hfin H
      go_wp2_with (at_builtin; refine wpList_append_own _ rfl (.tmp 19) (.tmp 22) 54 rfl w.heap.size 5 i0 (.int .u8 0) 1 1 Tryd.underlying54 hi hz0 hz1 hz2 rfl (by decide) _ _ _ rfl (hown.alloc _) ⟨wr.heap.size, 0, none⟩ 1 1 [.int .u8 r] rfl rfl (cell_one_new _ _ _) (by simp [Value.oneCell']) (by unfold maxLen; omega) (by omega) (by simp; omega) ?_; intro v' w1 hown' hgrow _; have hb1 := own_grow hown hbel hsz hgrow; obtain ⟨g, cap, rfl, hcv⟩ := own_conv (xs := done ++ [(r : Int)]) (by simpa using hown') (by omega))
      go_ret
      exact ⟨by rw [Hf.out]; rfl, hb1⟩
    · have hr' : 127 < (r : Int) := by omega
      have hnext : ∃ f, (done ++ [(128 + (r : Int) % 128)]).length + f = 4 ∧ G 5 n = (done ++ [(128 + (r : Int) % 128)]) ++ G (f + 1) (r / 128) ∧ r / 128 < 128 ^ (f + 1) := by
        obtain ⟨f, e1, e2, e3⟩ := H.out
        match f, e1, e2, e3 with
        | 0, _, _, e3 => simp at e3; omega
        | f + 1, e1, e2, e3 =>
          refine ⟨f, by simp; omega, ?_, ?_⟩
          · rw [e2, G_more _ _ (by omega)]; simp
          · rw [Nat.pow_succ] at e3
            exact Nat.div_lt_of_lt_mul (by rw [Nat.mul_comm]; exact e3)
      have hd3 : done.length + 1 ≤ 4 := by obtain ⟨f, e, _⟩ := hnext; simp at e; omega
      have Hn := hide hnext
      clear hnext H
      go_wp2_with (at_builtin; refine wpList_append_own _ rfl (.tmp 10) (.tmp 15) 54 rfl w.heap.size 5 i0 (.int .u8 0) 1 1 Tryd.underlying54 hi hz0 hz1 hz2 rfl (by decide) _ _ _ rfl (hown.alloc _) ⟨wr.heap.size, 0, none⟩ 1 1 [.int .u8 (128 + (r : Int) % 128)] rfl rfl (cell_one_new _ _ _) (by simp [Value.oneCell']) (by unfold maxLen; omega) (by omega) (by simp; omega) ?_; intro v' w1 hown' hgrow _; have hb1 := own_grow hown hbel hsz hgrow)
      go_roundw
      case rel => exact ⟨r / 128, done ++ [(128 + (r : Int) % 128)], by go_num, by simpa using hown', hb1, by omega, by simpa using hd3, Hn⟩
      case measure => simp [intOf]; omega
theorem spec_put_no (n : Int) (h : n < 0 ∨ 4000000000 < n) (w : World) : Calls Tryd.prog 19 #[.int .i64 n] w fun e w' => e = .returned (.string ⟨#[]⟩) ∧ w' = w := by
  have hx : (decide (0 ≤ n) && decide (n ≤ 4000000000)) = false := by simp; omega
  go_enter Tryd.func19, Tryd.ntmps19
  go_wp2_with (go_at_call 9; refine (inn_calls _ _ _ _).mono ?_; rintro e w' ⟨rfl, rfl⟩)
  all_goals first | (exfalso; omega) | (go_ret; exact ⟨rfl, rfl⟩)
def fold (x : Int) : Int := if x < 0 then -2 * x - 1 else 2 * x
end Go.Proofs.YtfmchkagdaaeeaaDoor
