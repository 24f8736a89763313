/- The law of a tree's items: the walk. -/
import Derived.Test.YtmdnelgnpponpaaIa
import Derived.Test.YtmdnelgnpponpaaFz
namespace Go.Proofs.Ytmdnelgnpponpaa
open Go.RowKit Go.Shelf
set_option linter.unusedSimpArgs false
set_option linter.unusedVariables false
theorem Mf.blk {lo hi b : Nat} {w w' : World} {o : Obj} (M : Mf lo hi w w') (h : w.heap[b]? = some o) (hb : b < lo ∨ hi ≤ b) : w'.heap[b]? = some o := (M.out b (lt_of_heap h) hb).trans h
theorem Mf.bel {lo hi n : Nat} {w0 w w' : World} (h : Below n w0 w) (M : Mf lo hi w w') (hn : n ≤ lo) (hs : n ≤ w.heap.size) : Below n w0 w' :=
  h.trans ⟨M.os, M.tape, M.output, M.size, fun k hk => M.out k (by omega) (.inl (by omega))⟩
theorem ItR.blk {w w' : World} {b : Nat} {l : List It} (h : ItR w b l) (hs : w.heap.size ≤ w'.heap.size) (e : w'.heap[b]? = w.heap[b]?) : ItR w' b l := ⟨Nat.lt_of_lt_of_le h.1 hs, fun j hj => (h.2 j hj).keep e⟩
theorem ItG.blk {w w' : World} {B g c : Nat} {l : List It} (h : ItG w B g c l) (e : w'.heap[g]? = w.heap[g]?) : ItG w' B g c l := by
  refine ⟨h.1, ?_⟩
  rcases h.2 with hn | ⟨g', c', cur, e', q1, q2, q3⟩
  · exact .inl hn
  · cases e'
    exact .inr ⟨g, c, cur, rfl, q1, e.trans q2, q3⟩
theorem ItG.there {w : World} {B g c : Nat} {l : List It} (h : ItG w B g c l) : w.there g 0 (l.length * 5) := by
  rcases h.2 with ⟨e, _⟩ | ⟨g', c', cur, e, q1, q2, q3, q4, q5, q6⟩
  · cases e
  · cases e
    intro j hj
    have hj' : j < cur.size := by omega
    simp [World.cell?, World.frozen?, q2, hj']
set_option maxRecDepth 100000 in
set_option maxHeartbeats 8000000 in
theorem treeitems_w (t : KT) (ia : Option Addr) (ic : Nat) (ka : Option Addr) (kc n : Nat) (w : World) (h : KnL n w ia ic ka kc t) : Calls Try.prog 4 #[kv t ia ic ka kc] w fun e w' => e = .returned (.bool true) ∧ Below w.heap.size w w' := by
  have CZ := hid (fun (W : World) (hb : Below w.heap.size w W) => sz_knot n t ia ic ka kc 1048576 W (h.below hb) (by omega) (by omega))
  have CT := hid (fun (W : World) (hb : Below w.heap.size w W) (hz : ksz n t ≤ 1048576) => to_knot n t ia ic ka kc W (h.below hb) hz)
  have CS := hid (fun (W : World) (lo : Nat) (i k : Option Addr) (hk : Kn lo n W i k t) (hz : ksz n t ≤ 1048576) => spec_TreeItems n lo t i k W hk hz)
  have CI := hid (fun (W : World) (lo : Nat) (i k : Option Addr) (hk : Kn lo n W i k t) (hz : ksz n t ≤ 1048576) => impl_TreeItems n lo t i k W hk hz)
  have CE := hid (fun (W : World) (lo lo' : Nat) (i k i' k' : Option Addr) (hz : ksz n t ≤ 1048576) (hk : Kn lo n W i k t) (hk' : Kn lo' n W i' k' t) => eq_knot lo lo' n t i k i' k' W hz hk hk')
  have CM := hid (fun (lo : Nat) (i k : Option Addr) (wk W : World) (hk : Kn lo n wk i k t) (hz : ksz n t ≤ 1048576) (hb : Below wk.heap.size wk W) => mark_knot lo n t i k wk W hk hz hb)
  have CL := hid (fun (lo : Nat) (i k : Option Addr) (W : World) (hk : Kn lo n W i k t) => kn_itm n 20 hk)
  obtain ⟨b0, b1, b2, b3, b4, ni, nk, hf⟩ := kf t
  rw [kv_of hf] at CZ CT ⊢
  simp only [kvo_of hf] at CT CS CI CE CM
  have gL := hid (new_alloc w w.heap.size (.cells #[.int .i64 b0, .int .i64 b1, .int .i64 b2, .int .i64 b3, .bool b4, .slice ia ni ic, .slice ka nk kc] 27) rfl)
  have B0 := hid (balloc (Below.refl w.heap.size w) (.cells #[.int .i64 b0, .int .i64 b1, .int .i64 b2, .int .i64 b3, .bool b4, .slice ia ni ic, .slice ka nk kc] 27))
  clear h hf
  generalize itm 20 t = L at *
  by_cases hz : ksz n t ≤ 1048576
  · have hle : ¬ (szr 1048576 (ksz n t)) < 0 := by unfold szr; split <;> omega
    generalize szr 1048576 (ksz n t) = zz at *
    go_enter Try.func4, Try.ntmps4
    go_wp2_with fail
    generalize w.alloc (.cells #[.int .i64 b0, .int .i64 b1, .int .i64 b2, .int .i64 b3, .bool b4, .slice ia ni ic, .slice ka nk kc] 27) = v0 at *
    refine (CZ.out _ B0.out).mono ?_
    rintro e v1 ⟨rfl, hb1⟩
    replace gL := hid (keepheap hb1 gL.out)
    replace B0 := hid (btrans B0.out hb1)
    clear hb1 CZ
    obtain ⟨a0, a1, a2, a3, a4, a5, a6, _, _, _, _, _, _, _⟩ := cell7k gL.out
    go_wp2_with fail
    refine (CT.out _ B0.out hz).mono ?_
    rintro e v2 ⟨si, sk, rfl, hK, hb2⟩
    have KS0 := hid hK
    have hlen : L.length ≤ 1048576 := Nat.le_trans (CL.out _ _ _ _ hK) hz
    replace gL := hid (keepheap hb2 gL.out)
    replace B0 := hid (btrans B0.out hb2)
    clear hb2 hK a0 a1 a2 a3 a4 a5 a6 CL
    go_wp2_with fail
    refine (CS.out _ _ _ _ KS0.out hz).mono ?_
    rintro e v3 ⟨gs, cs, rfl, hG, hb3⟩
    have hgs := hG.lt
    have GS := hid hG.r
    replace gL := hid (keepheap hb3 gL.out)
    replace B0 := hid (btrans B0.out hb3)
    have hgl3 := lt_of_heap gL.out
    clear hb3 KS0 hG
    obtain ⟨a0, a1, a2, a3, a4, a5, a6, _, _, _, _, _, _, _⟩ := cell7k gL.out
    go_wp2_with fail
    refine (CT.out _ B0.out hz).mono ?_
    rintro e v4 ⟨xi, xk, rfl, hK, hb4⟩
    have KX4 := hid hK
    have hs4 := hb4.size
    have hsw := B0.out.size
    have hbx := balloc (Below.refl v4.heap.size v4) (.cells #[.int .i64 b0, .int .i64 b1, .int .i64 b2, .int .i64 b3, .bool b4, .slice xi ni ni, .slice xk nk nk] 34)
    have KX := hid (hK.below hbx)
    have hbx5 := hid hbx
    have hs5 := hbx.size
    have gX := hid (new_alloc v4 v4.heap.size (.cells #[.int .i64 b0, .int .i64 b1, .int .i64 b2, .int .i64 b3, .bool b4, .slice xi ni ni, .slice xk nk nk] 34) rfl)
    replace GS := hid ((GS.out.below hb4).below hbx)
    replace gL := hid (keepheap hbx (keepheap hb4 gL.out))
    replace B0 := hid (btrans (btrans B0.out hb4) hbx)
    have hs5' : v4.heap.size + 1 ≤ (v4.alloc (.cells #[.int .i64 b0, .int .i64 b1, .int .i64 b2, .int .i64 b3, .bool b4, .slice xi ni ni, .slice xk nk nk] 34)).heap.size := by simp
    clear hb4 hbx hK a0 a1 a2 a3 a4 a5 a6 CS
    obtain ⟨a0, a1, a2, a3, a4, a5, a6, _, _, _, _, _, _, _⟩ := cell7k gX.out
    go_wp2_with fail
    generalize v4.alloc (.cells #[.int .i64 b0, .int .i64 b1, .int .i64 b2, .int .i64 b3, .bool b4, .slice xi ni ni, .slice xk nk nk] 34) = v5 at *
    generalize hxb : v4.heap.size = xb at *
    refine (CI.out _ _ _ _ KX.out hz).mono ?_
    rintro e v6 ⟨gi, ci, rfl, hG, hb6⟩
    have GI := hid hG
    have hgi := hG.lt
    replace KX := hid (KX.out.below hb6)
    replace gX := hid (keepheap hb6 gX.out)
    replace gL := hid (keepheap hb6 gL.out)
    replace B0 := hid (btrans B0.out hb6)
    replace GS := hid (GS.out.below hb6)
    have BX : Hid (Below v4.heap.size v4 v6) := hid (by have := hbx5.out; rw [hxb] at *; exact this.trans (hb6.mono (by omega)))
    clear hb6 hG a0 a1 a2 a3 a4 a5 a6 hbx5
    go_wp2_with fail
    refine (eq_items gi gs ci cs L v6 (by omega) GI.out.r GS.out).mono ?_
    rintro e v7 ⟨rfl, hb7⟩
    have hsz67 := hb7.size
    replace KX := hid (KX.out.below hb7)
    replace gX := hid (keepheap hb7 gX.out)
    replace gL := hid (keepheap hb7 gL.out)
    replace B0 := hid (btrans B0.out hb7)
    replace GS := hid (GS.out.below hb7)
    replace GI := hid (GI.out.below hb7)
    replace BX := hid (BX.out.trans (hb7.mono BX.out.size))
    clear hb7
    go_upto_region 10 with fail
    have BF := hid (fun (X : World) (hb : Below v7.heap.size v7 X) => btrans B0.out hb)
    obtain ⟨a0, a1, a2, a3, a4, a5, a6, _, _, _, _, _, _, _⟩ := cell7k gX.out
    obtain ⟨l0, l1, l2, l3, l4, l5, l6, _, _, _, _, _, _, _⟩ := cell7k gL.out
    go_region_held3 (fun w' => w'.cell? ⟨w.heap.size, 0, none⟩ = some (.int .i64 b0) ∧ w'.cell? ⟨w.heap.size, 1, none⟩ = some (.int .i64 b1) ∧ w'.cell? ⟨w.heap.size, 2, none⟩ = some (.int .i64 b2) ∧ w'.cell? ⟨w.heap.size, 3, none⟩ = some (.int .i64 b3) ∧ w'.cell? ⟨w.heap.size, 4, none⟩ = some (.bool b4) ∧ w'.cell? ⟨w.heap.size, 5, none⟩ = some (.slice ia ni ic) ∧ w'.cell? ⟨w.heap.size, 6, none⟩ = some (.slice ka nk kc) ∧ w'.cell? ⟨xb, 0, none⟩ = some (.int .i64 b0) ∧ w'.cell? ⟨xb, 1, none⟩ = some (.int .i64 b1) ∧ w'.cell? ⟨xb, 2, none⟩ = some (.int .i64 b2) ∧ w'.cell? ⟨xb, 3, none⟩ = some (.int .i64 b3) ∧ w'.cell? ⟨xb, 4, none⟩ = some (.bool b4) ∧ w'.cell? ⟨xb, 5, none⟩ = some (.slice xi ni ni) ∧ w'.cell? ⟨xb, 6, none⟩ = some (.slice xk nk nk)) ((go_split_ands; (repeat' apply And.intro) <;> (repeat (first | with_reducible assumption | with_reducible refine keepdrew ?_ | with_reducible exact keepcell hv2 (by with_reducible assumption) | with_reducible exact keepcell hv1 (by with_reducible assumption)))))
      (first
        | (go_at_call 10; refine (CT.out _ (BF.out _ (bdrew (Below.refl v7.heap.size v7))) hz).mono ?_; rintro e w1 ⟨yi, yk, rfl, hK1, hb1⟩; have hv1 : Below v7.heap.size v7 w1 := btrans (bdrew (Below.refl _ _)) hb1; have KX1 := KX.out.below hv1)
        | (go_at_call 12; refine (CE.out _ _ _ _ _ _ _ hz KX1 hK1).mono ?_; rintro e w2 ⟨rfl, hb2⟩; have hv2 : Below v7.heap.size v7 w2 := btrans hv1 hb2))
    replace gX := hid (keepheap hv2 gX.out)
    replace gL := hid (keepheap hv2 gL.out)
    replace B0 := hid (btrans B0.out hv2)
    replace GS := hid (GS.out.below hv2)
    replace GI := hid (GI.out.below hv2)
    replace BX := hid (BX.out.trans (hv2.mono BX.out.size))
    clear hb1 hb2 hv1 hv2 KX1 hK1 KX a0 a1 a2 a3 a4 a5 a6 l0 l1 l2 l3 l4 l5 l6 CE BF
    obtain ⟨a0, a1, a2, a3, a4, a5, a6, _, _, _, _, _, _, _⟩ := cell7k gX.out
    go_wp2_with fail
    refine (CM.out _ _ _ _ _ KX4.out hz BX.out).mono ?_
    rintro e v8 ⟨rfl, hM⟩
    rw [hxb] at hM
    have hk0 : ¬ (1 + 5 * (ksz n t : Int)) < 0 := by omega
    generalize 1 + 5 * (ksz n t : Int) = kk at *
    have hsB := B0.out.size
    replace GS := hid (GS.out.blk hM.size (hM.out _ GS.out.1 (.inl (by omega))))
    replace GI := hid (GI.out.blk (hM.out _ GI.out.lt.2 (.inr (by omega))))
    replace gL := hid (hM.blk gL.out (.inl (by omega)))
    replace B0 := hid (hM.bel B0.out (by omega) hsB)
    clear hM CM KX4 BX gX a0 a1 a2 a3 a4 a5 a6
    go_wp2_with fail
    refine (eq_items gi gs ci cs L v8 (by omega) GI.out.r GS.out).mono ?_
    rintro e v9 ⟨rfl, hb9⟩
    replace gL := hid (keepheap hb9 gL.out)
    replace B0 := hid (btrans B0.out hb9)
    replace GS := hid (GS.out.below hb9)
    replace GI := hid (GI.out.below hb9)
    clear hb9
    go_wp2_with fail
    refine (mark_items gi L.length ci 1 v9 hlen ⟨by omega, by omega⟩ GI.out.there).mono ?_
    rintro e v10 ⟨rfl, hS, hMk, _⟩
    obtain ⟨hg, hgs10⟩ := hS.grown
    have MK := hid hMk
    have hgil := GI.out.lt.2
    replace gL := hid ((hg.block _ (lt_of_heap gL.out) (by simp; omega)).trans gL.out)
    replace GS := hid (GS.out.blk (by omega) (hg.block _ GS.out.1 (by simp; omega)))
    replace B0 := hid (bgrown B0.out hg (by omega))
    clear hS hg hMk GI
    go_wp2_with fail
    refine (held_items gi L.length ci 1 v10 hlen ⟨by omega, by omega⟩ (by omega) MK.out).mono ?_
    rintro e v11 ⟨rfl, hb11⟩
    have hq0 : ¬ (1 + 5 * (L.length : Int)) < 0 := by omega
    generalize hmm : 1 + 5 * (L.length : Int) = mm at *
    have hqq : (mm != mm) = false := by simp
    replace gL := hid (keepheap hb11 gL.out)
    replace B0 := hid (btrans B0.out hb11)
    replace GS := hid (GS.out.below hb11)
    replace MK := hid (MK.out.below (by omega) hb11)
    have hs11 := hb11.size
    have HMM := hid hmm
    clear hb11 hmm
    obtain ⟨a0, a1, a2, a3, a4, a5, a6, _, _, _, _, _, _, _⟩ := cell7k gL.out
    go_wp2_with fail
    refine (CT.out _ B0.out hz).mono ?_
    rintro e v12 ⟨zi, zk, rfl, hK, hb12⟩
    have KZ := hid hK
    replace B0 := hid (btrans B0.out hb12)
    replace GS := hid (GS.out.below hb12)
    replace MK := hid (MK.out.below (by omega) hb12)
    have hs12 := hb12.size
    clear hb12 hK a0 a1 a2 a3 a4 a5 a6 gL CT
    go_wp2_with fail
    refine (CI.out _ _ _ _ KZ.out hz).mono ?_
    rintro e v13 ⟨gh, ch, rfl, hG, hb13⟩
    have GH := hid hG
    replace B0 := hid (btrans B0.out hb13)
    replace GS := hid (GS.out.below hb13)
    replace MK := hid (MK.out.below (by omega) hb13)
    have hs13 := hb13.size
    clear hb13 hG KZ CI
    go_wp2_with fail
    refine (eq_items gh gs ch cs L v13 (by omega) GH.out.r GS.out).mono ?_
    rintro e v14 ⟨rfl, hb14⟩
    replace B0 := hid (btrans B0.out hb14)
    replace MK := hid (MK.out.below (by omega) hb14)
    have hs14 := hb14.size
    clear hb14 GH GS
    go_wp2_with fail
    have CH := hid (held_items gi L.length ci 1 v14 hlen ⟨by omega, by omega⟩ (by omega) MK.out)
    rw [HMM.out] at CH
    refine CH.out.mono ?_
    rintro e v15 ⟨rfl, hb15⟩
    replace B0 := hid (btrans B0.out hb15)
    clear hb15 CH
    go_wp2_with fail
    go_ret
    exact ⟨rfl, B0.out⟩
  · have hle : szr 1048576 (ksz n t) < 0 := by unfold szr; split <;> omega
    generalize szr 1048576 (ksz n t) = zz at *
    go_enter Try.func4, Try.ntmps4
    go_wp2_with fail
    refine (CZ.out _ B0.out).mono ?_
    rintro e v1 ⟨rfl, hb1⟩
    have BF := hid (btrans B0.out hb1)
    clear hb1
    go_wp2_with fail
    go_ret
    exact ⟨rfl, BF.out⟩
end Go.Proofs.Ytmdnelgnpponpaa
