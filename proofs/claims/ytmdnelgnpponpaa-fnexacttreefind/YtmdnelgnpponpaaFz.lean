/- The laws of a tree that is right, and of its height: the walks. -/
import Derived.Test.YtmdnelgnpponpaaFy
import Derived.Test.YtmdnelgnpponpaaFo
namespace Go.Proofs.Ytmdnelgnpponpaa
open Go.RowKit Go.Shelf
set_option linter.unusedSimpArgs false
set_option linter.unusedVariables false
theorem kv_of {s : KT} {b0 b1 b2 b3 : Int} {b4 : Bool} {ni nk : Nat} (h : KF s b0 b1 b2 b3 b4 ni nk) (ia : Option Addr) (ic : Nat) (ka : Option Addr) (kc : Nat) : kv s ia ic ka kc = .agg #[.int .i64 b0, .int .i64 b1, .int .i64 b2, .int .i64 b3, .bool b4, .slice ia ni ic, .slice ka nk kc] := by
  obtain ⟨rfl, rfl, rfl, rfl, rfl, rfl, rfl⟩ := h
  rfl
set_option maxRecDepth 100000 in
set_option maxHeartbeats 4000000 in
theorem treeok_w (t : KT) (ia : Option Addr) (ic : Nat) (ka : Option Addr) (kc n : Nat) (w : World) (h : KnL n w ia ic ka kc t) : Calls Try.prog 3 #[kv t ia ic ka kc] w fun e w' => e = .returned (.bool true) ∧ Below w.heap.size w w' := by
  have CZ := hid (fun (W : World) (hb : Below w.heap.size w W) => sz_knot n t ia ic ka kc 1048576 W (h.below hb) (by omega) (by omega))
  have CT := hid (fun (W : World) (hb : Below w.heap.size w W) (hz : ksz n t ≤ 1048576) => to_knot n t ia ic ka kc W (h.below hb) hz)
  have CS := hid (fun (W : World) (lo : Nat) (i k : Option Addr) (hk : Kn lo n W i k t) (hz : ksz n t ≤ 1048576) => spec_TreeOk n lo t i k W hk hz)
  have CI := hid (fun (W : World) (lo : Nat) (i k : Option Addr) (hk : Kn lo n W i k t) (hz : ksz n t ≤ 1048576) => impl_TreeOk n lo t i k W hk hz)
  have CE := hid (fun (W : World) (lo lo' : Nat) (i k i' k' : Option Addr) (hz : ksz n t ≤ 1048576) (hk : Kn lo n W i k t) (hk' : Kn lo' n W i' k' t) => eq_knot lo lo' n t i k i' k' W hz hk hk')
  obtain ⟨b0, b1, b2, b3, b4, ni, nk, hf⟩ := kf t
  rw [kv_of hf] at CZ CT ⊢
  simp only [kvo_of hf] at CT CS CI CE
  have gL := hid (new_alloc w w.heap.size (.cells #[.int .i64 b0, .int .i64 b1, .int .i64 b2, .int .i64 b3, .bool b4, .slice ia ni ic, .slice ka nk kc] 27) rfl)
  have B0 := hid (balloc (Below.refl w.heap.size w) (.cells #[.int .i64 b0, .int .i64 b1, .int .i64 b2, .int .i64 b3, .bool b4, .slice ia ni ic, .slice ka nk kc] 27))
  clear h hf
  generalize tokS t = vv at *
  by_cases hz : ksz n t ≤ 1048576
  · have hle : ¬ (szr 1048576 (ksz n t)) < 0 := by unfold szr; split <;> omega
    generalize szr 1048576 (ksz n t) = zz at *
    go_enter Try.func3, Try.ntmps3
    go_wp2_with fail
    generalize w.alloc (.cells #[.int .i64 b0, .int .i64 b1, .int .i64 b2, .int .i64 b3, .bool b4, .slice ia ni ic, .slice ka nk kc] 27) = v0 at *
    refine (CZ.out _ B0.out).mono ?_
    rintro e v1 ⟨rfl, hb1⟩
    replace gL := hid (keepheap hb1 gL.out)
    replace B0 := hid (btrans B0.out hb1)
    clear hb1 CZ
    obtain ⟨a0, a1, a2, a3, a4, a5, a6, _, _, _, _, _, _, _⟩ := cell7k gL.out
    go_wp2_with fail
    refine (CT.out _ B0.out hz).mono ?_
    rintro e v2 ⟨si, sk, rfl, hK, hb2⟩
    have KS0 := hid hK
    replace gL := hid (keepheap hb2 gL.out)
    replace B0 := hid (btrans B0.out hb2)
    clear hb2 hK a0 a1 a2 a3 a4 a5 a6
    go_wp2_with fail
    refine (CS.out _ _ _ _ KS0.out hz).mono ?_
    rintro e v3 ⟨rfl, hb3⟩
    replace gL := hid (keepheap hb3 gL.out)
    replace B0 := hid (btrans B0.out hb3)
    clear hb3 KS0
    obtain ⟨a0, a1, a2, a3, a4, a5, a6, _, _, _, _, _, _, _⟩ := cell7k gL.out
    go_wp2_with fail
    refine (CT.out _ B0.out hz).mono ?_
    rintro e v4 ⟨xi, xk, rfl, hK, hb4⟩
    have hbx := balloc (Below.refl v4.heap.size v4) (.cells #[.int .i64 b0, .int .i64 b1, .int .i64 b2, .int .i64 b3, .bool b4, .slice xi ni ni, .slice xk nk nk] 34)
    have KX := hid (hK.below hbx)
    have gX := hid (new_alloc v4 v4.heap.size (.cells #[.int .i64 b0, .int .i64 b1, .int .i64 b2, .int .i64 b3, .bool b4, .slice xi ni ni, .slice xk nk nk] 34) rfl)
    replace gL := hid (keepheap hbx (keepheap hb4 gL.out))
    replace B0 := hid (btrans (btrans B0.out hb4) hbx)
    clear hb4 hbx hK a0 a1 a2 a3 a4 a5 a6 CS
    obtain ⟨a0, a1, a2, a3, a4, a5, a6, _, _, _, _, _, _, _⟩ := cell7k gX.out
    go_wp2_with fail
    generalize v4.alloc (.cells #[.int .i64 b0, .int .i64 b1, .int .i64 b2, .int .i64 b3, .bool b4, .slice xi ni ni, .slice xk nk nk] 34) = v5 at *
    generalize v4.heap.size = xb at *
    refine (CI.out _ _ _ _ KX.out hz).mono ?_
    rintro e v6 ⟨rfl, hb6⟩
    replace KX := hid (KX.out.below hb6)
    replace gX := hid (keepheap hb6 gX.out)
    replace gL := hid (keepheap hb6 gL.out)
    replace B0 := hid (btrans B0.out hb6)
    clear hb6 CI a0 a1 a2 a3 a4 a5 a6
    have hvv : (vv != vv) = false := by simp
    go_upto_region 10 with fail
    have BF := hid (fun (X : World) (hb : Below v6.heap.size v6 X) => btrans B0.out hb)
    obtain ⟨a0, a1, a2, a3, a4, a5, a6, _, _, _, _, _, _, _⟩ := cell7k gX.out
    obtain ⟨l0, l1, l2, l3, l4, l5, l6, _, _, _, _, _, _, _⟩ := cell7k gL.out
    go_region_held3 (fun w' => w'.cell? ⟨w.heap.size, 0, none⟩ = some (.int .i64 b0) ∧ w'.cell? ⟨w.heap.size, 1, none⟩ = some (.int .i64 b1) ∧ w'.cell? ⟨w.heap.size, 2, none⟩ = some (.int .i64 b2) ∧ w'.cell? ⟨w.heap.size, 3, none⟩ = some (.int .i64 b3) ∧ w'.cell? ⟨w.heap.size, 4, none⟩ = some (.bool b4) ∧ w'.cell? ⟨w.heap.size, 5, none⟩ = some (.slice ia ni ic) ∧ w'.cell? ⟨w.heap.size, 6, none⟩ = some (.slice ka nk kc) ∧ w'.cell? ⟨xb, 0, none⟩ = some (.int .i64 b0) ∧ w'.cell? ⟨xb, 1, none⟩ = some (.int .i64 b1) ∧ w'.cell? ⟨xb, 2, none⟩ = some (.int .i64 b2) ∧ w'.cell? ⟨xb, 3, none⟩ = some (.int .i64 b3) ∧ w'.cell? ⟨xb, 4, none⟩ = some (.bool b4) ∧ w'.cell? ⟨xb, 5, none⟩ = some (.slice xi ni ni) ∧ w'.cell? ⟨xb, 6, none⟩ = some (.slice xk nk nk)) ((go_split_ands; (repeat' apply And.intro) <;> (repeat (first | with_reducible assumption | with_reducible refine keepdrew ?_ | with_reducible exact keepcell hv2 (by with_reducible assumption) | with_reducible exact keepcell hv1 (by with_reducible assumption)))))
      (first
        | (go_at_call 10; refine (CT.out _ (BF.out _ (bdrew (Below.refl v6.heap.size v6))) hz).mono ?_; rintro e w1 ⟨yi, yk, rfl, hK1, hb1⟩; have hv1 : Below v6.heap.size v6 w1 := btrans (bdrew (Below.refl _ _)) hb1; have KX1 := KX.out.below hv1)
        | (go_at_call 12; refine (CE.out _ _ _ _ _ _ _ hz KX1 hK1).mono ?_; rintro e w2 ⟨rfl, hb2⟩; have hv2 : Below v6.heap.size v6 w2 := btrans hv1 hb2))
    go_wp2_with fail
    go_ret
    exact ⟨rfl, BF.out _ hv2⟩
  · have hle : szr 1048576 (ksz n t) < 0 := by unfold szr; split <;> omega
    generalize szr 1048576 (ksz n t) = zz at *
    go_enter Try.func3, Try.ntmps3
    go_wp2_with fail
    refine (CZ.out _ B0.out).mono ?_
    rintro e v1 ⟨rfl, hb1⟩
    have BF := hid (btrans B0.out hb1)
    clear hb1
    go_wp2_with fail
    go_ret
    exact ⟨rfl, BF.out⟩
set_option maxRecDepth 100000 in
set_option maxHeartbeats 4000000 in
theorem treedepth_w (t : KT) (ia : Option Addr) (ic : Nat) (ka : Option Addr) (kc n : Nat) (w : World) (h : KnL n w ia ic ka kc t) : Calls Try.prog 7 #[kv t ia ic ka kc] w fun e w' => e = .returned (.bool true) ∧ Below w.heap.size w w' := by
  have CZ := hid (fun (W : World) (hb : Below w.heap.size w W) => sz_knot n t ia ic ka kc 1048576 W (h.below hb) (by omega) (by omega))
  have CT := hid (fun (W : World) (hb : Below w.heap.size w W) (hz : ksz n t ≤ 1048576) => to_knot n t ia ic ka kc W (h.below hb) hz)
  have CS := hid (fun (W : World) (lo : Nat) (i k : Option Addr) (hk : Kn lo n W i k t) (hz : ksz n t ≤ 1048576) => spec_TreeDepth n lo t i k W hk hz)
  have CI := hid (fun (W : World) (lo : Nat) (i k : Option Addr) (hk : Kn lo n W i k t) (hz : ksz n t ≤ 1048576) => impl_TreeDepth n lo t i k W hk hz)
  have CE := hid (fun (W : World) (lo lo' : Nat) (i k i' k' : Option Addr) (hz : ksz n t ≤ 1048576) (hk : Kn lo n W i k t) (hk' : Kn lo' n W i' k' t) => eq_knot lo lo' n t i k i' k' W hz hk hk')
  obtain ⟨b0, b1, b2, b3, b4, ni, nk, hf⟩ := kf t
  rw [kv_of hf] at CZ CT ⊢
  simp only [kvo_of hf] at CT CS CI CE
  have gL := hid (new_alloc w w.heap.size (.cells #[.int .i64 b0, .int .i64 b1, .int .i64 b2, .int .i64 b3, .bool b4, .slice ia ni ic, .slice ka nk kc] 27) rfl)
  have B0 := hid (balloc (Below.refl w.heap.size w) (.cells #[.int .i64 b0, .int .i64 b1, .int .i64 b2, .int .i64 b3, .bool b4, .slice ia ni ic, .slice ka nk kc] 27))
  clear h hf
  generalize (if tokS t = true then knh 20 true t else 0) = vv at *
  by_cases hz : ksz n t ≤ 1048576
  · have hle : ¬ (szr 1048576 (ksz n t)) < 0 := by unfold szr; split <;> omega
    generalize szr 1048576 (ksz n t) = zz at *
    go_enter Try.func7, Try.ntmps7
    go_wp2_with fail
    generalize w.alloc (.cells #[.int .i64 b0, .int .i64 b1, .int .i64 b2, .int .i64 b3, .bool b4, .slice ia ni ic, .slice ka nk kc] 27) = v0 at *
    refine (CZ.out _ B0.out).mono ?_
    rintro e v1 ⟨rfl, hb1⟩
    replace gL := hid (keepheap hb1 gL.out)
    replace B0 := hid (btrans B0.out hb1)
    clear hb1 CZ
    obtain ⟨a0, a1, a2, a3, a4, a5, a6, _, _, _, _, _, _, _⟩ := cell7k gL.out
    go_wp2_with fail
    refine (CT.out _ B0.out hz).mono ?_
    rintro e v2 ⟨si, sk, rfl, hK, hb2⟩
    have KS0 := hid hK
    replace gL := hid (keepheap hb2 gL.out)
    replace B0 := hid (btrans B0.out hb2)
    clear hb2 hK a0 a1 a2 a3 a4 a5 a6
    go_wp2_with fail
    refine (CS.out _ _ _ _ KS0.out hz).mono ?_
    rintro e v3 ⟨rfl, hb3⟩
    replace gL := hid (keepheap hb3 gL.out)
    replace B0 := hid (btrans B0.out hb3)
    clear hb3 KS0
    obtain ⟨a0, a1, a2, a3, a4, a5, a6, _, _, _, _, _, _, _⟩ := cell7k gL.out
    go_wp2_with fail
    refine (CT.out _ B0.out hz).mono ?_
    rintro e v4 ⟨xi, xk, rfl, hK, hb4⟩
    have hbx := balloc (Below.refl v4.heap.size v4) (.cells #[.int .i64 b0, .int .i64 b1, .int .i64 b2, .int .i64 b3, .bool b4, .slice xi ni ni, .slice xk nk nk] 34)
    have KX := hid (hK.below hbx)
    have gX := hid (new_alloc v4 v4.heap.size (.cells #[.int .i64 b0, .int .i64 b1, .int .i64 b2, .int .i64 b3, .bool b4, .slice xi ni ni, .slice xk nk nk] 34) rfl)
    replace gL := hid (keepheap hbx (keepheap hb4 gL.out))
    replace B0 := hid (btrans (btrans B0.out hb4) hbx)
    clear hb4 hbx hK a0 a1 a2 a3 a4 a5 a6 CS
    obtain ⟨a0, a1, a2, a3, a4, a5, a6, _, _, _, _, _, _, _⟩ := cell7k gX.out
    go_wp2_with fail
    generalize v4.alloc (.cells #[.int .i64 b0, .int .i64 b1, .int .i64 b2, .int .i64 b3, .bool b4, .slice xi ni ni, .slice xk nk nk] 34) = v5 at *
    generalize v4.heap.size = xb at *
    refine (CI.out _ _ _ _ KX.out hz).mono ?_
    rintro e v6 ⟨rfl, hb6⟩
    replace KX := hid (KX.out.below hb6)
    replace gX := hid (keepheap hb6 gX.out)
    replace gL := hid (keepheap hb6 gL.out)
    replace B0 := hid (btrans B0.out hb6)
    clear hb6 CI a0 a1 a2 a3 a4 a5 a6
    have hvv : (vv != vv) = false := by simp
    go_upto_region 10 with fail
    have BF := hid (fun (X : World) (hb : Below v6.heap.size v6 X) => btrans B0.out hb)
    obtain ⟨a0, a1, a2, a3, a4, a5, a6, _, _, _, _, _, _, _⟩ := cell7k gX.out
    obtain ⟨l0, l1, l2, l3, l4, l5, l6, _, _, _, _, _, _, _⟩ := cell7k gL.out
    go_region_held3 (fun w' => w'.cell? ⟨w.heap.size, 0, none⟩ = some (.int .i64 b0) ∧ w'.cell? ⟨w.heap.size, 1, none⟩ = some (.int .i64 b1) ∧ w'.cell? ⟨w.heap.size, 2, none⟩ = some (.int .i64 b2) ∧ w'.cell? ⟨w.heap.size, 3, none⟩ = some (.int .i64 b3) ∧ w'.cell? ⟨w.heap.size, 4, none⟩ = some (.bool b4) ∧ w'.cell? ⟨w.heap.size, 5, none⟩ = some (.slice ia ni ic) ∧ w'.cell? ⟨w.heap.size, 6, none⟩ = some (.slice ka nk kc) ∧ w'.cell? ⟨xb, 0, none⟩ = some (.int .i64 b0) ∧ w'.cell? ⟨xb, 1, none⟩ = some (.int .i64 b1) ∧ w'.cell? ⟨xb, 2, none⟩ = some (.int .i64 b2) ∧ w'.cell? ⟨xb, 3, none⟩ = some (.int .i64 b3) ∧ w'.cell? ⟨xb, 4, none⟩ = some (.bool b4) ∧ w'.cell? ⟨xb, 5, none⟩ = some (.slice xi ni ni) ∧ w'.cell? ⟨xb, 6, none⟩ = some (.slice xk nk nk)) ((go_split_ands; (repeat' apply And.intro) <;> (repeat (first | with_reducible assumption | with_reducible refine keepdrew ?_ | with_reducible exact keepcell hv2 (by with_reducible assumption) | with_reducible exact keepcell hv1 (by with_reducible assumption)))))
      (first
        | (go_at_call 10; refine (CT.out _ (BF.out _ (bdrew (Below.refl v6.heap.size v6))) hz).mono ?_; rintro e w1 ⟨yi, yk, rfl, hK1, hb1⟩; have hv1 : Below v6.heap.size v6 w1 := btrans (bdrew (Below.refl _ _)) hb1; have KX1 := KX.out.below hv1)
        | (go_at_call 12; refine (CE.out _ _ _ _ _ _ _ hz KX1 hK1).mono ?_; rintro e w2 ⟨rfl, hb2⟩; have hv2 : Below v6.heap.size v6 w2 := btrans hv1 hb2))
    go_wp2_with fail
    go_ret
    exact ⟨rfl, BF.out _ hv2⟩
  · have hle : szr 1048576 (ksz n t) < 0 := by unfold szr; split <;> omega
    generalize szr 1048576 (ksz n t) = zz at *
    go_enter Try.func7, Try.ntmps7
    go_wp2_with fail
    refine (CZ.out _ B0.out).mono ?_
    rintro e v1 ⟨rfl, hb1⟩
    have BF := hid (btrans B0.out hb1)
    clear hb1
    go_wp2_with fail
    go_ret
    exact ⟨rfl, BF.out⟩
end Go.Proofs.Ytmdnelgnpponpaa
