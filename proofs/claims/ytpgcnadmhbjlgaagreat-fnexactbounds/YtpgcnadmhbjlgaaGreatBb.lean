/- Bounds of the landed side. -/
import Derived.Test.YtpgcnadmhbjlgaaGreatBa
import Derived.Test.YtpgcnadmhbjlgaaGreatBb0
namespace Go.Proofs.YtpgcnadmhbjlgaaGreat
open Go.RowKit
set_option linter.unusedSimpArgs false
set_option linter.unusedVariables false
theorem ElsAt.blk {w w' : World} {b off : Nat} {xs : List El} (h : ElsAt w b off xs) (e : w'.heap[b]? = w.heap[b]?) : ElsAt w' b off xs := fun j hj => by
  have hc : ∀ k, w'.cell? ⟨b, k, none⟩ = w.cell? ⟨b, k, none⟩ := fun k => by simp only [World.cell?, e]
  rw [hc, hc, hc, hc, hc]
  exact h j hj
/-- The list of points that is being made, beside the rows' cells and the answer's place. -/
def PB (w : World) (g : Nat) (ys : List El) (ps : List (Int × Int)) (tv : Value) (wr : World) : Prop :=
  ∃ gp c, tv = .slice (some ⟨gp, 0, none⟩) ps.length c ∧ wr.ownsRow w.heap.size 76 2 (.slice (some ⟨gp, 0, none⟩) ps.length c) ps.length (fl2 ps) ∧ gp < wr.heap.size ∧ gp ≠ w.heap.size + 1 ∧ gp ≠ g ∧ g < wr.heap.size ∧ ElsAt wr g 0 ys ∧ wr.heap[w.heap.size + 1]? = some (.cells #[.int .i64 0, .int .i64 0, .int .i64 0, .int .i64 0] 38 (0, 0)) ∧ Below w.heap.size w wr
set_option maxRecDepth 100000 in
set_option maxHeartbeats 2000000 in
theorem impl_Bounds {N : Nat → Prop} (now : Int) (a : Option Addr) (cap : Nat) (rs : List Rw) (t : Int) (w : World) (hm : rs.length ≤ 1099511627776) (h : Rws N w a rs) : Calls Tryz.prog 15 #[.agg #[.int .i64 now, .slice a rs.length cap], .int .i64 t] w fun e w' => BD (bpts rs t (idsb now rs t)) e ∧ Below w.heap.size w w' := by
  obtain ⟨i0, hi0, hz0, hz1, hz2⟩ := info_parts Tryz.infoPC
  have HTA := hid (fun (W : World) (hb : Below w.heap.size w W) => impl_thereAt now a cap rs t w W hm h hb)
  have HSH := hid (fun (id : Int) (h : id ∈ idsb now rs t) => (idsb_row h).2)
  have HIL := hid (idsb_len now rs t)
  clear h
  unfold BD
  generalize hr0 : aX (bpts rs t (idsb now rs t)) = r0
  generalize hr1 : aY (bpts rs t (idsb now rs t)) = r1
  generalize hr2 : bX (bpts rs t (idsb now rs t)) = r2
  generalize hr3 : bY' (bpts rs t (idsb now rs t)) = r3
  generalize hr4 : aok (bpts rs t (idsb now rs t)) = r4
  have HRR := hid (And.intro hr0 (And.intro hr1 (And.intro hr2 (And.intro hr3 hr4))))
  clear hr0 hr1 hr2 hr3 hr4
  generalize idsb now rs t = ids at *
  generalize rs.length = n0 at *
  go_enter Tryz.func15, Tryz.ntmps15
  go_upto_region 2 with fail
  have hBx : Below w.heap.size w (((w.alloc (.cells #[.int .i64 now, .slice a n0 cap] 30)).alloc (.cells #[.int .i64 0, .int .i64 0, .int .i64 0, .int .i64 0] 38)).alloc (.cells #[] 76)) := balloc (balloc (balloc (Below.refl _ _) _) _) _
  have g0 := old_alloc (o' := .cells #[] 76) (old_alloc (o' := .cells #[.int .i64 0, .int .i64 0, .int .i64 0, .int .i64 0] 38) (new_alloc w w.heap.size (.cells #[.int .i64 now, .slice a n0 cap] 30) rfl))
  have g1 := old_alloc (o' := .cells #[] 76) (new_alloc (w.alloc (.cells #[.int .i64 now, .slice a n0 cap] 30)) (w.heap.size + 1) (.cells #[.int .i64 0, .int .i64 0, .int .i64 0, .int .i64 0] 38) (by simp))
  have ho := own_new (w := (w.alloc (.cells #[.int .i64 now, .slice a n0 cap] 30)).alloc (.cells #[.int .i64 0, .int .i64 0, .int .i64 0, .int .i64 0] 38)) (B := w.heap.size) (by simp; omega)
  rw [show ((w.alloc (.cells #[.int .i64 now, .slice a n0 cap] 30)).alloc (.cells #[.int .i64 0, .int .i64 0, .int .i64 0, .int .i64 0] 38)).heap.size = w.heap.size + 2 by simp] at ho
  have hs0 : w.heap.size + 2 < (((w.alloc (.cells #[.int .i64 now, .slice a n0 cap] 30)).alloc (.cells #[.int .i64 0, .int .i64 0, .int .i64 0, .int .i64 0] 38)).alloc (.cells #[] 76)).heap.size := by simp
  generalize ((w.alloc (.cells #[.int .i64 now, .slice a n0 cap] 30)).alloc (.cells #[.int .i64 0, .int .i64 0, .int .i64 0, .int .i64 0] 38)).alloc (.cells #[] 76) = W0 at *
  obtain ⟨d0, d1, _, _⟩ := cell2r g0
  have HO := hid ho
  have HG1 := hid g1
  have HS0 := hid hs0
  clear ho g1 hs0
  go_wp2_with fail
  refine (HTA.out _ hBx).mono ?_
  rintro e W ⟨g, a', cap', ys, rfl, hids, ha', hgW, hgs, hE, hEL, hBW⟩
  have HPB : Hid (PB w g ys [] (.slice (some ⟨w.heap.size + 2, 0, none⟩) 0 0) W) := hid ⟨w.heap.size + 2, 0, rfl, own_frame0 HO.out (fun c hc => by simp [Value.ownBlock] at hc; subst hc; exact hBW.block _ HS0.out), Nat.lt_of_lt_of_le HS0.out hBW.size, by omega, by have := HS0.out; omega, hgs, hE, keepheap2 hBW HG1.out, btrans hBx hBW⟩
  have HEL := hid hEL
  have HIDS := hid hids
  have HA := hid ha'
  clear hids ha' hE hEL hBW hgs hgW d0 d1 g0 hBx HTA HO HG1 HS0
  obtain ⟨n, hn⟩ : ∃ n, n = ys.length := ⟨_, rfl⟩
  have HN := hid hn.symm
  rw [← hn] at HA ⊢
  clear hn
  have hlen : n = ids.length := by have := congrArg List.length HIDS.out; rw [List.length_map, HN.out] at this; exact this
  have HPT := hid (fun i (hi : i ≤ ids.length) => bpts_aok HSH.out i hi)
  have hnm : n ≤ 300 := by rw [hlen]; exact HIL.out
  have HLEN := hid hlen
  clear hlen
  go_wp2_with fail
  go_loopw [6, 14] (fun tv ti wr => ∃ i : Nat, ti = .int .i64 i ∧ i ≤ n ∧ Hid (PB w g ys (bpts rs t (ids.take i)) tv wr)) (fun _ ti _ => n - (intOf ti).toNat)
  case atStart => exact ⟨0, rfl, Nat.zero_le _, HPB⟩
  case round =>
    clear HPB
    obtain ⟨i, rfl, hi, HP⟩ := hrel
    obtain ⟨gp, c, rfl, hown, hgp, hp1, hpg, hgs, hE, hG1, hBW⟩ := HP.out
    have HQ := hid (HPT.out i (by rw [← HLEN.out]; exact hi))
    by_cases hlt : i < n
    · have c1 : (i : Int) < (n : Int) := by omega
      have hiy : i < ys.length := by rw [HN.out]; exact hlt
      have hii : i < ids.length := by rw [← HLEN.out]; exact hlt
      have ea := HA.out (by omega)
      subst ea
      obtain ⟨y0, y1, y2, y3, y4⟩ := hE i hiy
      obtain ⟨e1, e2, e3, e4, e5, e6⟩ := HEL.out ys[i] (List.getElem_mem hiy)
      have eid : ys[i].1 = ids[i] := by have := HIDS.out; subst this; simp
      rw [eid] at e1 e2 e3 e4 e5 e6
      obtain ⟨q1, q2, q3⟩ := shok_aok e6
      have HNX := hid (bpts_next (rs := rs) (t := t) hii)
      simp only [Nat.zero_add] at y0 y1 y2 y3 y4
      rw [e2] at y4
      generalize raP (rat rs ids[i] t) = ps at *
      generalize bpts rs t (ids.take i) = zs at *
      obtain ⟨b, off, ea, hbs, hpa⟩ : ∃ b off, ys[i].2.2.2.2.1 = some ⟨b, off, none⟩ ∧ b < w.heap.size ∧ PtsAt w b off ps := by
        rcases e5 with h | h
        · rw [h] at q2; simp at q2
        · exact h
      rw [ea] at y4
      generalize ys[i].1 = id2 at *
      generalize ys[i].2.1 = fr at *
      generalize ys[i].2.2.1 = te at *
      generalize ys[i].2.2.2.1 = kd at *
      generalize ys[i].2.2.2.2.2.2 = cp at *
      have hzl := HQ.out.1
      have hN := fl2_len ps
      have HF1 := hid (fl2_one ps)
      have HE := hid hE
      have HOW := hid hown
      have HG1 := hid hG1
      have HBW := hid hBW
      have HPA := hid hpa
      clear hE hown hG1 hBW hpa e1 e2 e3 e5 e6 q1 eid ea HP
      go_upto_region 5 with fail
      have hal : Below wr.heap.size wr (wr.alloc (.cells #[.int .i64 id2, .int .i64 fr, .int .i64 te, .int .i64 kd, .slice (some ⟨b, off, none⟩) ps.length cp] 55)) := balloc (Below.refl _ _) _
      have gx := new_alloc wr wr.heap.size (.cells #[.int .i64 id2, .int .i64 fr, .int .i64 te, .int .i64 kd, .slice (some ⟨b, off, none⟩) ps.length cp] 55) rfl
      have hsz : (wr.alloc (.cells #[.int .i64 id2, .int .i64 fr, .int .i64 te, .int .i64 kd, .slice (some ⟨b, off, none⟩) ps.length cp] 55)).heap.size = wr.heap.size + 1 := by simp
      replace HE := hid (HE.out.below hgs hal)
      replace HOW := hid (HOW.out.alloc (.cells #[.int .i64 id2, .int .i64 fr, .int .i64 te, .int .i64 kd, .slice (some ⟨b, off, none⟩) ps.length cp] 55))
      replace HG1 := hid (keepheap2 hal HG1.out)
      replace HBW := hid (btrans HBW.out hal)
      have HNW := hid (fl2_news (HPA.out.below hbs HBW.out))
      clear y0 y1 y2 y3 y4 hal HPA
      generalize wr.alloc (.cells #[.int .i64 id2, .int .i64 fr, .int .i64 te, .int .i64 kd, .slice (some ⟨b, off, none⟩) ps.length cp] 55) = Z at *
      generalize wr.heap.size = X at *
      obtain ⟨⟨x0, x1, x2, x3, x4⟩, _⟩ := cell5g gx
      clear gx
      have hwZ := HBW.out.size
      go_wp2_with (at_builtin; (refine wpList_append_lies _ rfl (.tmp 18) (.tmp 21) 45 rfl w.heap.size 76 i0 _ 2 16 Tryz.underlying45 hi0 hz0 hz1 hz2 rfl (by decide) (.slice (some ⟨gp, 0, none⟩) zs.length c) zs.length (fl2 zs) rfl HOW.out ⟨b, off, none⟩ ps.length cp (fl2 ps) rfl hN HNW.out HF1.out q2 (by unfold maxLen; omega) (by omega) hwZ Z.heap.size rfl ?_; intro gg cq w2 hown2 hgrow hat hlt2))
      have hgrow' : Z.grownBy w2 (some gp) := hgrow
      have h1w : w.heap.size + 1 < Z.heap.size := lt_of_block HG1.out
      have hgg : gg = gp ∨ gg = Z.heap.size := by
        rcases hat with h | h
        · left; simp [Value.ownBlock] at h; exact h.symm
        · exact .inr h
      have HP2 : Hid (PB w g ys (bpts rs t (ids.take (i + 1))) (.slice (some ⟨gg, 0, none⟩) (zs.length + ps.length) cq) w2) := hid (by
        rw [HNX.out]
        refine ⟨gg, cq, by rw [List.length_append], ?_, hlt2, by omega, by omega, Nat.lt_of_lt_of_le (by omega) hgrow'.size, HE.out.blk (hgrow'.block g (by omega) (by simp; omega)), grown_blk hgrow' HG1.out (by omega), bgrown HBW.out hgrow' ?_⟩
        · rw [List.length_append]
          have e : fl2 (zs ++ ps) = fl2 zs ++ fl2 ps := by simp [fl2]
          rw [e]
          exact hown2
        · exact (HOW.out.lt gp rfl).1)
      clear hown2 hgrow hgrow' hat
      go_roundw
      case rel => exact ⟨i + 1, by go_num, by omega, HP2⟩
      case measure => simp [intOf]; omega
    · have c1 : (n : Int) ≤ (i : Int) := by omega
      have hin : i = ids.length := by have := HLEN.out; omega
      have HBA := hid (fun (W : World) (hb : Below wr.heap.size wr W) => impl_BoxAround (some ⟨gp, 0, none⟩) c (bpts rs t (ids.take i)) W (by have := HQ.out.1; omega) (own_pts hown rfl).2.1 (((own_pts hown rfl).2.2.pts).below hb))
      have HE2 : Hid (bpts rs t (ids.take i) = bpts rs t ids) := hid (by rw [hin, List.take_length])
      have HG1 := hid hG1
      have HBW := hid hBW
      clear hown hE hG1 hBW hin HP HQ
      obtain ⟨e0, e1, e2, e3, e4⟩ := HRR.out
      rw [HE2.out, e0, e1, e2, e3, e4] at HBA
      rw [HE2.out]
      clear e0 e1 e2 e3 e4 HRR
      go_wp2_with fail
      refine (HBA.out _ (Below.refl _ _)).mono ?_
      rintro e z ⟨rfl, hz⟩
      have g1 := keepheap2 hz HG1.out
      have HBz := hid (btrans HBW.out hz)
      clear hz HBA
      obtain ⟨gF, bF⟩ := set4 g1 HBz.out (by omega) (.int .i64 r0) (.int .i64 r1) (.int .i64 r2) (.int .i64 r3)
      obtain ⟨v0, v1, v2, v3, u0, u1, u2, u3⟩ := cell4 g1
      go_wp2_with fail
      generalize (((z.setCell ⟨w.heap.size + 1, 0, none⟩ (.int .i64 r0)).setCell ⟨w.heap.size + 1, 1, none⟩ (.int .i64 r1)).setCell ⟨w.heap.size + 1, 2, none⟩ (.int .i64 r2)).setCell ⟨w.heap.size + 1, 3, none⟩ (.int .i64 r3) = wf at *
      obtain ⟨z0, z1, z2, z3, _, _, _, _⟩ := cell4 gF
      exact bodyPost_ret (v := .tuple #[.agg #[.int .i64 r0, .int .i64 r1, .int .i64 r2, .int .i64 r3], .bool r4]) (by simp [results, Tryz.results15, go_sem, z0, z1, z2, z3]) rfl ⟨rfl, bF⟩
end Go.Proofs.YtpgcnadmhbjlgaaGreat
