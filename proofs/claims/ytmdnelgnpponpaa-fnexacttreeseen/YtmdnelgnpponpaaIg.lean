/- The law of how many knots are looked at: the walk. -/
import Derived.Test.YtmdnelgnpponpaaIf
import Derived.Test.YtmdnelgnpponpaaIe
import Derived.Test.YtmdnelgnpponpaaFz
namespace Go.Proofs.Ytmdnelgnpponpaa
open Go.RowKit Go.Shelf
set_option linter.unusedSimpArgs false
set_option linter.unusedVariables false
set_option maxRecDepth 100000 in
set_option maxHeartbeats 8000000 in
theorem treeseen_w (t : KT) (ia : Option Addr) (ic : Nat) (ka : Option Addr) (kc n : Nat) (e0 e1 e2 e3 : Int) (w : World) (h : KnL n w ia ic ka kc t) : Calls Try.prog 6 #[kv t ia ic ka kc, .agg #[.int .i64 e0, .int .i64 e1, .int .i64 e2, .int .i64 e3]] w fun e w' => e = .returned (.bool true) ∧ Below w.heap.size w w' := by
  cases n with
  | zero => exact h.elim
  | succ n =>
  have CZ := hid (fun (W : World) (hb : Below w.heap.size w W) => sz_knot (n + 1) t ia ic ka kc 1048576 W (h.below hb) (by omega) (by omega))
  have CT := hid (fun (W : World) (hb : Below w.heap.size w W) (hz : ksz (n + 1) t ≤ 1048576) => to_knot (n + 1) t ia ic ka kc W (h.below hb) hz)
  have CS := hid (fun (W : World) (lo : Nat) (i k : Option Addr) (hk : Kn lo (n + 1) W i k t) (hz : ksz (n + 1) t ≤ 1048576) => spec_TreeSeen (e0, e1, e2, e3) n lo t i k W hk hz)
  have CI : Hid (∀ (W : World) (lo : Nat) (i k : Option Addr), Kn lo (n + 1) W i k t → ksz (n + 1) t ≤ 1048576 → Calls Try.prog 26 #[kvo t i k, .agg #[.int .i64 e0, .int .i64 e1, .int .i64 e2, .int .i64 e3]] W fun e w' => e = .returned (.int .i64 (if tokS t && bkb (e0, e1, e2, e3) then ((kns (pw (e0, e1, e2, e3)) n t).length : Int) else 0)) ∧ Below W.heap.size W w') := hid (fun W lo i k hk hz => by
    have := impl_TreeSeen (e0, e1, e2, e3) (n + 1) lo t i k W hk hz
    cases hok : tokS t
    · rw [hok] at this; exact this
    · rw [kns_tok (pw (e0, e1, e2, e3)) hok hk]
      rw [hok] at this; exact this)
  have CE := hid (fun (W : World) (lo lo' : Nat) (i k i' k' : Option Addr) (hz : ksz (n + 1) t ≤ 1048576) (hk : Kn lo (n + 1) W i k t) (hk' : Kn lo' (n + 1) W i' k' t) => eq_knot lo lo' (n + 1) t i k i' k' W hz hk hk')
  have CX := hid (fun (W : World) => to_boxb e0 e1 e2 e3 W)
  obtain ⟨b0, b1, b2, b3, b4, ni, nk, hf⟩ := kf t
  rw [kv_of hf] at CZ CT ⊢
  simp only [kvo_of hf] at CT CS CI CE
  have gL := hid (old_alloc (o' := (.cells #[.int .i64 e0, .int .i64 e1, .int .i64 e2, .int .i64 e3] 23)) (new_alloc w w.heap.size (.cells #[.int .i64 b0, .int .i64 b1, .int .i64 b2, .int .i64 b3, .bool b4, .slice ia ni ic, .slice ka nk kc] 27) rfl))
  have gE := hid (new_alloc (w.alloc (.cells #[.int .i64 b0, .int .i64 b1, .int .i64 b2, .int .i64 b3, .bool b4, .slice ia ni ic, .slice ka nk kc] 27)) (w.heap.size + 1) (.cells #[.int .i64 e0, .int .i64 e1, .int .i64 e2, .int .i64 e3] 23) (by simp))
  have B0 := hid (balloc (balloc (Below.refl w.heap.size w) (.cells #[.int .i64 b0, .int .i64 b1, .int .i64 b2, .int .i64 b3, .bool b4, .slice ia ni ic, .slice ka nk kc] 27)) (.cells #[.int .i64 e0, .int .i64 e1, .int .i64 e2, .int .i64 e3] 23))
  clear h hf
  generalize (if tokS t && bkb (e0, e1, e2, e3) then ((kns (pw (e0, e1, e2, e3)) n t).length : Int) else 0) = vv at *
  by_cases hz : ksz (n + 1) t ≤ 1048576
  · have hle : ¬ (szr 1048576 (ksz (n + 1) t)) < 0 := by unfold szr; split <;> omega
    generalize szr 1048576 (ksz (n + 1) t) = zz at *
    go_enter Try.func6, Try.ntmps6
    go_wp2_with fail
    generalize (w.alloc (.cells #[.int .i64 b0, .int .i64 b1, .int .i64 b2, .int .i64 b3, .bool b4, .slice ia ni ic, .slice ka nk kc] 27)).alloc (.cells #[.int .i64 e0, .int .i64 e1, .int .i64 e2, .int .i64 e3] 23) = v0 at *
    refine (CZ.out _ B0.out).mono ?_
    rintro e v1 ⟨rfl, hb1⟩
    replace gL := hid (keepheap hb1 gL.out)
    replace gE := hid (keepheap hb1 gE.out)
    replace B0 := hid (btrans B0.out hb1)
    clear hb1 CZ
    go_upto_region 5 with fail
    have BF := hid (fun (X : World) (hb : Below v1.heap.size v1 X) => btrans B0.out hb)
    obtain ⟨a0, a1, a2, a3, a4, a5, a6, _, _, _, _, _, _, _⟩ := cell7k gL.out
    obtain ⟨y0, y1, y2, y3, _, _, _, _⟩ := cell4b gE.out
    go_region_held3 (fun w' => w'.cell? ⟨w.heap.size, 0, none⟩ = some (.int .i64 b0) ∧ w'.cell? ⟨w.heap.size, 1, none⟩ = some (.int .i64 b1) ∧ w'.cell? ⟨w.heap.size, 2, none⟩ = some (.int .i64 b2) ∧ w'.cell? ⟨w.heap.size, 3, none⟩ = some (.int .i64 b3) ∧ w'.cell? ⟨w.heap.size, 4, none⟩ = some (.bool b4) ∧ w'.cell? ⟨w.heap.size, 5, none⟩ = some (.slice ia ni ic) ∧ w'.cell? ⟨w.heap.size, 6, none⟩ = some (.slice ka nk kc) ∧ w'.cell? ⟨w.heap.size + 1, 0, none⟩ = some (.int .i64 e0) ∧ w'.cell? ⟨w.heap.size + 1, 1, none⟩ = some (.int .i64 e1) ∧ w'.cell? ⟨w.heap.size + 1, 2, none⟩ = some (.int .i64 e2) ∧ w'.cell? ⟨w.heap.size + 1, 3, none⟩ = some (.int .i64 e3)) ((go_split_ands; (repeat' apply And.intro) <;> (repeat (first | with_reducible assumption | with_reducible refine keepdrew ?_ | with_reducible exact keepcell hv3 (by with_reducible assumption) | with_reducible exact keepcell hv2 (by with_reducible assumption) | with_reducible exact keepcell hv1 (by with_reducible assumption)))))
      (first
        | (go_at_call 10; refine (CT.out _ (BF.out _ (bdrew (Below.refl v1.heap.size v1))) hz).mono ?_; rintro e w1 ⟨si, sk, rfl, hK1, hb1⟩; have hv1 : Below v1.heap.size v1 w1 := btrans (bdrew (Below.refl _ _)) hb1)
        | (go_at_call 20; refine (CX.out _).mono ?_; rintro e w2 ⟨rfl, hb2⟩; have hv2 : Below v1.heap.size v1 w2 := btrans hv1 hb2; have hK2 := hK1.below hb2)
        | (go_at_call 25; refine (CS.out _ _ _ _ hK2 hz).mono ?_; rintro e w3 ⟨rfl, hb3⟩; have hv3 : Below v1.heap.size v1 w3 := btrans hv2 hb3))
    replace gL := hid (keepheap hv3 gL.out)
    replace gE := hid (keepheap hv3 gE.out)
    replace B0 := hid (btrans B0.out hv3)
    clear hb1 hb2 hb3 hv1 hv2 hv3 hK1 hK2 CS a0 a1 a2 a3 a4 a5 a6 y0 y1 y2 y3 BF
    obtain ⟨a0, a1, a2, a3, a4, a5, a6, _, _, _, _, _, _, _⟩ := cell7k gL.out
    go_wp2_with fail
    refine (CT.out _ B0.out hz).mono ?_
    rintro e v4 ⟨xi, xk, rfl, hK, hb4⟩
    have hbx := balloc (Below.refl v4.heap.size v4) (.cells #[.int .i64 b0, .int .i64 b1, .int .i64 b2, .int .i64 b3, .bool b4, .slice xi ni ni, .slice xk nk nk] 34)
    have KX := hid (hK.below hbx)
    have gX := hid (new_alloc v4 v4.heap.size (.cells #[.int .i64 b0, .int .i64 b1, .int .i64 b2, .int .i64 b3, .bool b4, .slice xi ni ni, .slice xk nk nk] 34) rfl)
    replace gL := hid (keepheap hbx (keepheap hb4 gL.out))
    replace gE := hid (keepheap hbx (keepheap hb4 gE.out))
    replace B0 := hid (btrans (btrans B0.out hb4) hbx)
    clear hb4 hbx hK a0 a1 a2 a3 a4 a5 a6
    go_upto_region 7 with fail
    generalize v4.alloc (.cells #[.int .i64 b0, .int .i64 b1, .int .i64 b2, .int .i64 b3, .bool b4, .slice xi ni ni, .slice xk nk nk] 34) = v5 at *
    generalize v4.heap.size = xb at *
    have BF := hid (fun (X : World) (hb : Below v5.heap.size v5 X) => btrans B0.out hb)
    obtain ⟨a0, a1, a2, a3, a4, a5, a6, _, _, _, _, _, _, _⟩ := cell7k gX.out
    obtain ⟨y0, y1, y2, y3, _, _, _, _⟩ := cell4b gE.out
    go_region_held3 (fun w' => w'.cell? ⟨xb, 0, none⟩ = some (.int .i64 b0) ∧ w'.cell? ⟨xb, 1, none⟩ = some (.int .i64 b1) ∧ w'.cell? ⟨xb, 2, none⟩ = some (.int .i64 b2) ∧ w'.cell? ⟨xb, 3, none⟩ = some (.int .i64 b3) ∧ w'.cell? ⟨xb, 4, none⟩ = some (.bool b4) ∧ w'.cell? ⟨xb, 5, none⟩ = some (.slice xi ni ni) ∧ w'.cell? ⟨xb, 6, none⟩ = some (.slice xk nk nk) ∧ w'.cell? ⟨w.heap.size + 1, 0, none⟩ = some (.int .i64 e0) ∧ w'.cell? ⟨w.heap.size + 1, 1, none⟩ = some (.int .i64 e1) ∧ w'.cell? ⟨w.heap.size + 1, 2, none⟩ = some (.int .i64 e2) ∧ w'.cell? ⟨w.heap.size + 1, 3, none⟩ = some (.int .i64 e3)) ((go_split_ands; (repeat' apply And.intro) <;> (repeat (first | with_reducible assumption | with_reducible refine keepdrew ?_ | with_reducible exact keepcell hv2 (by with_reducible assumption) | with_reducible exact keepcell hv1 (by with_reducible assumption)))))
      (first
        | (go_at_call 20; refine (CX.out _).mono ?_; rintro e w1 ⟨rfl, hb1⟩; have hv1 : Below v5.heap.size v5 w1 := btrans (bdrew (Below.refl _ _)) hb1; have hK1 := KX.out.below hv1)
        | (go_at_call 26; refine (CI.out _ _ _ _ hK1 hz).mono ?_; rintro e w2 ⟨rfl, hb2⟩; have hv2 : Below v5.heap.size v5 w2 := btrans hv1 hb2))
    replace KX := hid (KX.out.below hv2)
    replace gX := hid (keepheap hv2 gX.out)
    replace gL := hid (keepheap hv2 gL.out)
    replace B0 := hid (btrans B0.out hv2)
    clear hb1 hb2 hv1 hv2 hK1 CI a0 a1 a2 a3 a4 a5 a6 y0 y1 y2 y3 BF gE
    have hvv : (vv != vv) = false := by simp
    go_upto_region 10 with fail
    have BF := hid (fun (X : World) (hb : Below w2.heap.size w2 X) => btrans B0.out hb)
    obtain ⟨a0, a1, a2, a3, a4, a5, a6, _, _, _, _, _, _, _⟩ := cell7k gX.out
    obtain ⟨l0, l1, l2, l3, l4, l5, l6, _, _, _, _, _, _, _⟩ := cell7k gL.out
    go_region_held3 (fun w' => w'.cell? ⟨w.heap.size, 0, none⟩ = some (.int .i64 b0) ∧ w'.cell? ⟨w.heap.size, 1, none⟩ = some (.int .i64 b1) ∧ w'.cell? ⟨w.heap.size, 2, none⟩ = some (.int .i64 b2) ∧ w'.cell? ⟨w.heap.size, 3, none⟩ = some (.int .i64 b3) ∧ w'.cell? ⟨w.heap.size, 4, none⟩ = some (.bool b4) ∧ w'.cell? ⟨w.heap.size, 5, none⟩ = some (.slice ia ni ic) ∧ w'.cell? ⟨w.heap.size, 6, none⟩ = some (.slice ka nk kc) ∧ w'.cell? ⟨xb, 0, none⟩ = some (.int .i64 b0) ∧ w'.cell? ⟨xb, 1, none⟩ = some (.int .i64 b1) ∧ w'.cell? ⟨xb, 2, none⟩ = some (.int .i64 b2) ∧ w'.cell? ⟨xb, 3, none⟩ = some (.int .i64 b3) ∧ w'.cell? ⟨xb, 4, none⟩ = some (.bool b4) ∧ w'.cell? ⟨xb, 5, none⟩ = some (.slice xi ni ni) ∧ w'.cell? ⟨xb, 6, none⟩ = some (.slice xk nk nk)) ((go_split_ands; (repeat' apply And.intro) <;> (repeat (first | with_reducible assumption | with_reducible refine keepdrew ?_ | with_reducible exact keepcell hv2 (by with_reducible assumption) | with_reducible exact keepcell hv1 (by with_reducible assumption)))))
      (first
        | (go_at_call 10; refine (CT.out _ (BF.out _ (bdrew (Below.refl w2.heap.size w2))) hz).mono ?_; rintro e w1 ⟨yi, yk, rfl, hK1, hb1⟩; have hv1 : Below w2.heap.size w2 w1 := btrans (bdrew (Below.refl _ _)) hb1; have KX1 := KX.out.below hv1)
        | (go_at_call 12; refine (CE.out _ _ _ _ _ _ _ hz KX1 hK1).mono ?_; rintro e w3 ⟨rfl, hb3⟩; have hv2 : Below w2.heap.size w2 w3 := btrans hv1 hb3))
    go_wp2_with fail
    go_ret
    exact ⟨rfl, BF.out _ hv2⟩
  · have hle : szr 1048576 (ksz (n + 1) t) < 0 := by unfold szr; split <;> omega
    generalize szr 1048576 (ksz (n + 1) t) = zz at *
    go_enter Try.func6, Try.ntmps6
    go_wp2_with fail
    refine (CZ.out _ B0.out).mono ?_
    rintro e v1 ⟨rfl, hb1⟩
    have BF := hid (btrans B0.out hb1)
    clear hb1
    go_wp2_with fail
    go_ret
    exact ⟨rfl, BF.out⟩
end Go.Proofs.Ytmdnelgnpponpaa
