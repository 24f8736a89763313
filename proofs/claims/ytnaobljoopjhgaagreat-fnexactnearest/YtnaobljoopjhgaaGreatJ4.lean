/- Texts of stores, joined: Ng2, Mark, RwK, Nj, RwO. -/
import Derived.Test.YtnaobljoopjhgaaGreatJ2
import Derived.Test.YtnaobljoopjhgaaGreatAreaM
import Derived.Test.YtnaobljoopjhgaaGreatDrawP
import Derived.Test.YtnaobljoopjhgaaGreatShLaw
import Derived.Test.YtnaobljoopjhgaaGreatRwE
import Derived.Test.YtnaobljoopjhgaaGreatJ3
import Derived.Deep.SlicePairs
namespace Go.Proofs.YtnaobljoopjhgaaGreat
open Go.RowKit
set_option linter.unusedSimpArgs false
set_option linter.unusedVariables false
/-- The list that is being filled: its first i numbers are there. -/
def FI (ib k : Nat) (zs : List Int) (wr : World) : Prop := ∃ cs : Array Value, wr.heap[ib]? = some (.cells cs 3 (0, 0)) ∧ cs.size = k ∧ ∀ j, j < zs.length → cs[j]? = some (.int .i64 (zs.getD j 0))
theorem FI.put {ib k : Nat} {zs : List Int} {z : Int} {wr : World} (h : FI ib k zs wr) (hk : zs.length < k) : FI ib k (zs ++ [z]) (wr.setCell ⟨ib, zs.length, none⟩ (.int .i64 z)) := by
  obtain ⟨cs, h1, h2, h3⟩ := h
  refine ⟨cs.setIfInBounds zs.length (.int .i64 z), set_at h1, by simpa using h2, fun j hj => ?_⟩
  rw [List.length_append] at hj
  simp only [List.length_cons, List.length_nil] at hj
  rw [Array.getElem?_setIfInBounds]
  by_cases e : zs.length = j
  · subst e
    rw [if_pos rfl, if_pos (by omega)]
    simp
  · rw [if_neg e, h3 j (by omega), List.getD_eq_getElem?_getD, List.getD_eq_getElem?_getD, List.getElem?_append_left (by omega)]
theorem FI.own {ib k : Nat} {zs : List Int} {wr : World} (h : FI ib k zs wr) (hk : zs.length = k) : OwnI wr (some ⟨ib, 0, none⟩) zs := by
  obtain ⟨cs, h1, h2, h3⟩ := h
  refine .inr ⟨ib, rfl, lt_of_block h1, fun j hj => ?_, fun j hj => ?_⟩
  · simp only [World.cell?, h1, Nat.zero_add]
    exact h3 j hj
  · refine ⟨?_, by simp [World.frozen?, h1]⟩
    simp only [World.cell?, h1, Nat.zero_add]
    rw [h3 j hj]
    rfl
/-- How the taking stands. -/
def TK (all out rest : List Cn) : Prop := (out ++ rest).Perm all ∧ out.Pairwise lec ∧ (∀ x ∈ out, ∀ y ∈ rest, lec x y) ∧ Hp rest rest.length
theorem TK.next {all out rest rest' : List Cn} (h : TK all out rest) (h1 : (at_ rest 0 :: rest').Perm rest) (h2 : Hp rest' rest'.length) (h3 : ∀ y ∈ rest', lec (at_ rest 0) y) : TK all (out ++ [at_ rest 0]) rest' := by
  obtain ⟨k1, k2, k3, k4⟩ := h
  have hm : at_ rest 0 ∈ rest := h1.mem_iff.1 (by simp)
  refine ⟨?_, ?_, fun x hx y hy => ?_, h2⟩
  · rw [List.append_assoc, List.singleton_append]
    exact (List.Perm.append_left out h1).trans k1
  · rw [List.pairwise_append]
    refine ⟨k2, List.pairwise_singleton _ _, fun x hx y hy => ?_⟩
    simp at hy
    subst hy
    exact k3 x hx _ hm
  · rcases List.mem_append.1 hx with hx | hx
    · exact k3 x hx y (h1.mem_iff.1 (List.mem_cons_of_mem _ hy))
    · simp at hx
      subst hx
      exact h3 y hy
set_option maxRecDepth 100000 in
set_option maxHeartbeats 4000000 in
theorem impl_NearestYes {N : Nat → Prop} (now : Int) (a : Option Addr) (cap : Nat) (rs : List Rw) (t px py most : Int) (w : World) (hm : rs.length ≤ 1099511627776) (h : Rws N w a rs) (hp : pok px py = true) (hm0 : 0 ≤ most) (hm3 : most ≤ 300) : Calls Tryz.prog 8 #[.agg #[.int .i64 now, .slice a rs.length cap], .int .i64 t, .agg #[.int .i64 px, .int .i64 py], .int .i64 most] w fun e w' => IA w (nrb now rs t px py most) e w' := by
  have HTA := hid (fun (W : World) (hb : Below w.heap.size w W) => impl_thereAt now a cap rs t w W hm h hb)
  have HIL := hid (idsb_len now rs t)
  have HRES : Hid (nrb now rs t px py most = near ((idsb now rs t).map (cnd rs t px py)) most.toNat) := hid (by unfold nrb; rw [if_pos ⟨hp, hm0, hm3⟩])
  have hpin : (-30000 ≤ px ∧ px ≤ 30000) ∧ (-30000 ≤ py ∧ py ≤ 30000) := by
    unfold pok cok at hp
    simp only [Bool.and_eq_true, decide_eq_true_eq] at hp
    omega
  rw [HRES.out]
  clear h HRES
  generalize idsb now rs t = ids at *
  obtain ⟨res, hres⟩ : ∃ res, res = near (ids.map (cnd rs t px py)) most.toNat := ⟨_, rfl⟩
  rw [← hres]
  have HRS := hid hres
  clear hres
  generalize rs.length = n0 at *
  have HPIN := hid hpin
  clear hpin
  have hBx : Below w.heap.size w ((w.alloc (.cells #[.int .i64 now, .slice a n0 cap] 32)).alloc (.cells #[.int .i64 px, .int .i64 py] 34)) := balloc (balloc (Below.refl _ _) _) _
  have g0 := old_alloc (o' := .cells #[.int .i64 px, .int .i64 py] 34) (new_alloc w w.heap.size (.cells #[.int .i64 now, .slice a n0 cap] 32) rfl)
  have g1 := new_alloc (w.alloc (.cells #[.int .i64 now, .slice a n0 cap] 32)) (w.heap.size + 1) (.cells #[.int .i64 px, .int .i64 py] 34) (by simp)
  go_enter Tryz.func8, Tryz.ntmps8
  go_upto_region 1 with fail
  generalize (w.alloc (.cells #[.int .i64 now, .slice a n0 cap] 32)).alloc (.cells #[.int .i64 px, .int .i64 py] 34) = W0 at *
  have h0' : decide (most < 0) = false := by simpa using hm0
  have h3' : decide (300 < most) = false := by simpa using hm3
  have HOK := hid (impl_ok px py W0)
  rw [hp] at HOK
  obtain ⟨q0, q1, _, _⟩ := cell2f2 g1
  go_wp2_with fail
  refine HOK.out.mono ?_
  rintro e z ⟨rfl, hz⟩
  have hbz : Below W0.heap.size W0 z := by rw [hz]; exact balloc (Below.refl _ _) _
  replace g0 := keepheapN hbz g0
  replace g1 := keepheapN hbz g1
  replace hBx := btrans hBx hbz
  clear hz hbz q0 q1 HOK h0' h3'
  go_upto_region 4 with fail
  have hb2 : Below z.heap.size z ((z.alloc (.cells #[] 90)).alloc (.cells #[.slice (some ⟨z.heap.size, 0, none⟩) 0 0] 58)) := balloc (balloc (Below.refl _ _) _) _
  have HNH : Hid (NH w.heap.size (z.heap.size + 1) [] ((z.alloc (.cells #[] 90)).alloc (.cells #[.slice (some ⟨z.heap.size, 0, none⟩) 0 0] 58))) := hid (by
    have h1 := World.ownsRow_made (base := w.heap.size) (e := 90) (size := 2) z #[] 0 hBx.size (by decide) rfl
    refine ⟨z.heap.size, 0, new_alloc _ _ _ (by simp), ?_, by have := hBx.size; omega⟩
    have h2 := h1.alloc (.cells #[.slice (some ⟨z.heap.size, 0, none⟩) 0 0] 58)
    simpa [fl2] using h2)
  replace g0 := keepheapN hb2 g0
  have HG1 := hid (keepheapN hb2 g1)
  replace hBx := btrans hBx hb2
  have hnb1 : z.heap.size + 1 ≠ w.heap.size + 1 := by have := lt_of_block g1; omega
  have hnbz : z.heap.size + 1 < ((z.alloc (.cells #[] 90)).alloc (.cells #[.slice (some ⟨z.heap.size, 0, none⟩) 0 0] 58)).heap.size := by simp
  clear hb2 g1
  generalize (z.alloc (.cells #[] 90)).alloc (.cells #[.slice (some ⟨z.heap.size, 0, none⟩) 0 0] 58) = W1 at *
  generalize z.heap.size + 1 = nb at *
  obtain ⟨d0, d1, _, _⟩ := cell2f2 g0
  go_wp2_with fail
  refine (HTA.out _ hBx).mono ?_
  rintro e W ⟨g, a', cap', ys, rfl, hcap, hids, ha', hgW, hgs, hE, hEL, hBW, hkd⟩
  replace HNH := hid (HNH.out.below hBW)
  have HEL := hid hEL
  have HIDS := hid hids
  have HA := hid ha'
  obtain ⟨n, hn⟩ : ∃ n, n = ys.length := ⟨_, rfl⟩
  have HN := hid hn.symm
  rw [← hn] at HA hcap hkd ⊢
  have HS1 : Hid (NS w g n ys px py W) := hid ⟨hkd, fun _ => hE, keepheapN hBW HG1.out, btrans hBx hBW⟩
  have hgn : g ≠ nb := by omega
  clear hn hids ha' hE hEL hBW d0 d1 g0 hBx HTA hkd HG1 hgW hgs
  have hlen : n = ids.length := by have := congrArg List.length HIDS.out; rw [List.length_map, HN.out] at this; exact this
  have hnm : n ≤ 300 := by rw [hlen]; exact HIL.out
  have HLEN := hid hlen
  clear hlen
  go_wp2_with fail
  go_loopw [31] (fun ti wr => ∃ i : Nat, ∃ hs : List Cn, ti = .int .i64 i ∧ i ≤ n ∧ Hid (hs.Perm ((ids.take i).map (cnd rs t px py)) ∧ Hp hs hs.length) ∧ Hid (NH w.heap.size nb hs wr) ∧ Hid (NS w g n ys px py wr)) (fun ti _ => n - (intOf ti).toNat)
  case atStart => exact ⟨0, [], rfl, Nat.zero_le _, hid ⟨by simp, fun k k0 kl => absurd kl (by simp)⟩, HNH, HS1⟩
  case round =>
    clear HNH HS1
    obtain ⟨i, hs, rfl, hi, HPM, HNH, HS0⟩ := hrel
    have hhl : hs.length = i := by
      rw [HPM.out.1.length_eq, List.length_map, List.length_take, ← HLEN.out]
      omega
    by_cases hlt : i < n
    · have c1 : (i : Int) < (n : Int) := by omega
      have hiy : i < ys.length := by rw [HN.out]; exact hlt
      have hii : i < ids.length := by rw [← HLEN.out]; exact hlt
      have ea := HA.out (by omega)
      subst ea
      obtain ⟨y0, y1, y2, y3, y4⟩ := (HS0.out.2.1 (by omega)) i hiy
      obtain ⟨e1, e2, e3, e4, e5, e6⟩ := HEL.out ys[i] (List.getElem_mem hiy)
      have eid : ys[i].1 = ids.getD i 0 := by have := HIDS.out; subst this; simp [hiy]
      rw [eid] at e1 e2 e3 e4 e5 e6 y0
      simp only [Nat.zero_add] at y0 y1 y2 y3 y4
      rw [e2] at y4
      rw [e1] at y3
      have hbd := bx_bd (shok_aok e6).1
      have HNX := hid (cnd_next (rs := rs) (t := t) (px := px) (py := py) hii)
      have HCN : Hid (cnd rs t px py (ids.getD i 0) = (ids.getD i 0, fp px py (raP (rat rs (ids.getD i 0) t)))) := hid rfl
      rw [HCN.out] at HNX
      have HBX := hid (fun (W : World) (hb : Below w.heap.size w W) => impl_rowbox (ids.getD i 0) ys[i].2.1 ys[i].2.2.1 (raK (rat rs (ids.getD i 0) t)) ys[i].2.2.2.2.1 ys[i].2.2.2.2.2.2 (raP (rat rs (ids.getD i 0) t)) W e4 e3 (e5.below hb))
      have HFR := hid (fun (W : World) => impl_farFrom (aX (raP (rat rs (ids.getD i 0) t))) (aY (raP (rat rs (ids.getD i 0) t))) (bX (raP (rat rs (ids.getD i 0) t))) (bY' (raP (rat rs (ids.getD i 0) t))) px py W HPIN.out ⟨hbd.1.1, hbd.1.2.1, hbd.1.2.2.1, hbd.1.2.2.2⟩ hbd.2)
      unfold fp at HNX
      generalize fb px py (aX (raP (rat rs (ids.getD i 0) t))) (aY (raP (rat rs (ids.getD i 0) t))) (bX (raP (rat rs (ids.getD i 0) t))) (bY' (raP (rat rs (ids.getD i 0) t))) = fd at *
      clear e1 e2 e3 e4 e5 e6 eid hbd HCN
      generalize aX (raP (rat rs (ids.getD i 0) t)) = b0 at *
      generalize aY (raP (rat rs (ids.getD i 0) t)) = b1 at *
      generalize bX (raP (rat rs (ids.getD i 0) t)) = b2 at *
      generalize bY' (raP (rat rs (ids.getD i 0) t)) = b3 at *
      generalize (raP (rat rs (ids.getD i 0) t)).length = np at *
      generalize raK (rat rs (ids.getD i 0) t) = kd at *
      generalize ids.getD i 0 = id1 at *
      generalize ys[i].2.1 = fr at *
      generalize ys[i].2.2.1 = te at *
      generalize ys[i].2.2.2.2.1 = a1 at *
      generalize ys[i].2.2.2.2.2.2 = cp at *
      go_upto_region 7 with fail
      have hal : Below wr.heap.size wr (wr.alloc (.cells #[.int .i64 id1, .int .i64 fr, .int .i64 te, .int .i64 kd, .slice a1 np cp] 61)) := balloc (Below.refl _ _) _
      have gx := new_alloc wr wr.heap.size (.cells #[.int .i64 id1, .int .i64 fr, .int .i64 te, .int .i64 kd, .slice a1 np cp] 61) rfl
      have hxn : wr.heap.size ≠ nb := by obtain ⟨_, _, hq, _⟩ := HNH.out; have := lt_of_block hq; omega
      replace HNH := hid (HNH.out.below hal)
      replace HS0 := hid (HS0.out.below hal)
      clear hal y0 y1 y2 y3 y4
      generalize wr.alloc (.cells #[.int .i64 id1, .int .i64 fr, .int .i64 te, .int .i64 kd, .slice a1 np cp] 61) = Z at *
      generalize wr.heap.size = xb at *
      obtain ⟨⟨x0, x1, x2, x3, x4⟩, _⟩ := cell5g gx
      obtain ⟨p0, p1, _, _⟩ := cell2f2 HS0.out.2.2.1
      refine wp_region_held_drew (S := (fun w' => w'.cell? ⟨xb, 0, none⟩ = some (.int .i64 id1) ∧ w'.cell? ⟨xb, 1, none⟩ = some (.int .i64 fr) ∧ w'.cell? ⟨xb, 2, none⟩ = some (.int .i64 te) ∧ w'.cell? ⟨xb, 3, none⟩ = some (.int .i64 kd) ∧ w'.cell? ⟨xb, 4, none⟩ = some (.slice a1 np cp) ∧ w'.cell? ⟨w.heap.size + 1, 0, none⟩ = some (.int .i64 px) ∧ w'.cell? ⟨w.heap.size + 1, 1, none⟩ = some (.int .i64 py))) (by kernel_rfl) ?_ (fun hHeld => ?_)
      · (repeat' apply And.intro) <;> (repeat (first | with_reducible assumption | with_reducible refine keepdrew ?_ | with_reducible refine keepcell (by with_reducible assumption) ?_ | with_reducible refine keepalloc ?_ _))
      refine wpAnyH_take (i := 0) (v := ?_) rfl (by kernel_rfl) (by kernel_rfl) (by kernel_rfl) (fun _ _ _ h => h) (Or.inl ⟨by rfl, ?_⟩) hHeld ?_
      rotate_left
      · intro w hSw; (try dsimp only at hSw); go_simp; try (with_reducible rfl)
      try simp only [sq]
      refine wpAnyH_take (i := 1) (v := ?_) rfl (by kernel_rfl) (by kernel_rfl) (by kernel_rfl) (fun _ _ _ h => h) (Or.inl ⟨by rfl, ?_⟩) hHeld ?_
      rotate_left
      · intro w hSw; (try dsimp only at hSw); go_simp; try (with_reducible rfl)
      try simp only [sq]
      refine wpAnyH_take (i := 2) (v := ?_) rfl (by kernel_rfl) (by kernel_rfl) (by kernel_rfl) (fun _ _ _ h => h) (Or.inl ⟨by rfl, ?_⟩) hHeld ?_
      rotate_left
      · intro w hSw; (try dsimp only at hSw); go_simp; try (with_reducible rfl)
      try simp only [sq]
      refine wpAnyH_take (i := 4) (v := ?_) rfl (by kernel_rfl) (by kernel_rfl) (by kernel_rfl) (fun _ _ _ h => h) (Or.inl ⟨by rfl, ?_⟩) hHeld ?_
      rotate_left
      · intro w hSw; (try dsimp only at hSw); go_simp; try (with_reducible rfl)
      try simp only [sq]
      refine wpAnyH_ready (rs := [3]) (by kernel_rfl) (by simp) ?_
      refine AllReadyH.cons rfl (fun K hK => ?_) AllReadyH.nil
      try simp only [sq]
      go_simp
      (first
          | (go_at_call 25; refine (HBX.out _ (bdrew HS0.out.2.2.2)).mono ?_; rintro e u1 ⟨rfl, hu1⟩))
      go_wp2_with fail
      refine hK.out _ _ ?_ (fun hHeld => ?_)
      · (repeat' apply And.intro) <;> (repeat (first | with_reducible assumption | with_reducible refine keepdrew ?_ | with_reducible refine keepcell (by with_reducible assumption) ?_ | with_reducible refine keepalloc ?_ _))
      clear hK K
      try simp only [sq]
      refine wpAnyH_ready (rs := [5]) (by kernel_rfl) (by simp) ?_
      refine AllReadyH.cons rfl (fun K hK => ?_) AllReadyH.nil
      try simp only [sq]
      go_simp
      (first
          | (go_at_call 26; refine (HFR.out _).mono ?_; rintro e u2 ⟨rfl, hu2⟩))
      go_wp2_with fail
      refine hK.out _ _ ?_ (fun hHeld => ?_)
      · (repeat' apply And.intro) <;> (repeat (first | with_reducible assumption | with_reducible refine keepdrew ?_ | with_reducible refine keepcell (by with_reducible assumption) ?_ | with_reducible refine keepalloc ?_ _))
      clear hK K
      try simp only [sq]
      refine wpAnyH_ready (rs := [6]) (by kernel_rfl) (by simp) ?_
      refine AllReadyH.cons rfl (fun K hK => ?_) AllReadyH.nil
      try simp only [sq]
      go_simp
      (first
          | (go_at_call 24; refine (add_c9 w.heap.size nb hs id1 fd u2 (by omega) ((HNH.out.below (bdrew (Below.refl _ _))).below (btrans hu1 hu2)) HPM.out.2).mono ?_; rintro e u3 ⟨rfl, hs', hv1, hv2, hv3, hv4⟩; have HV := hid (show _ ∧ _ ∧ _ ∧ _ from ⟨hv1, hv2, hv3, hv4⟩); have x0' := ok_keep hv4.2 (keepheapN hu2 (keepheapN hu1 (show Z.drew.heap[xb]? = _ from gx))) hxn (by decide); have p0' := ok_keep hv4.2 (keepheapN hu2 (keepheapN hu1 (show Z.drew.heap[w.heap.size + 1]? = _ from HS0.out.2.2.1))) (fun e => hnb1 e.symm) (by decide); obtain ⟨⟨xx0, xx1, xx2, xx3, xx4⟩, _⟩ := cell5g x0'; obtain ⟨pp0, pp1, _, _⟩ := cell2f2 p0'; clear hv1 hv2 hv3 hv4 x0' p0'))
      go_wp2_with fail
      refine hK.out _ _ ?_ (fun hHeld => ?_)
      · (repeat' apply And.intro) <;> (repeat (first | with_reducible assumption | with_reducible refine keepdrew ?_ | with_reducible refine keepcell (by with_reducible assumption) ?_ | with_reducible refine keepalloc ?_ _))
      clear hK K
      try simp only [sq]
      refine wpAnyH_done (by kernel_rfl) ?_ _
      have HPM2 : Hid (hs'.Perm ((ids.take (i + 1)).map (cnd rs t px py)) ∧ Hp hs' hs'.length) := hid ⟨by rw [HNX.out]; exact HV.out.1.trans (List.Perm.append_right _ HPM.out.1), HV.out.2.1⟩
      have HNH2 := hid HV.out.2.2.1
      have HS2 := hid ((((HS0.out.below (bdrew (Below.refl _ _))).below hu1).below hu2).kept HV.out.2.2.2 hgn hnb1)
      clear HV hHeld xx0 xx1 xx2 xx3 xx4 pp0 pp1 x0 x1 x2 x3 x4 p0 p1
      go_wp2_with fail
      go_roundw
      case rel => exact ⟨i + 1, hs', by go_num, by omega, HPM2, HNH2, HS2⟩
      case measure => simp [intOf]; omega
    · have c1 : (n : Int) ≤ (i : Int) := by omega
      have hin : i = n := by omega
      obtain ⟨mn, hmn⟩ : ∃ mn : Nat, most = (mn : Int) := ⟨most.toNat, by omega⟩
      have HTK : Hid (TK (ids.map (cnd rs t px py)) [] hs) := hid ⟨by rw [List.nil_append]; have := HPM.out.1; rw [hin, HLEN.out, List.take_length] at this; exact this, List.Pairwise.nil, fun x hx => absurd hx (by simp), HPM.out.2⟩
      have hal : (ids.map (cnd rs t px py)).length = n := by rw [List.length_map]; exact HLEN.out.symm
      have HAL := hid hal
      obtain ⟨k, hk⟩ : ∃ k, k = min mn n := ⟨_, rfl⟩
      have HNR : Hid (res = near (ids.map (cnd rs t px py)) k) := hid (by rw [HRS.out, near_min, HAL.out, hk, hmn]; rfl)
      have hkm : min (mn : Int) (n : Int) = (k : Int) := by omega
      have hkl : (near (ids.map (cnd rs t px py)) k).length = k := by rw [near_len, HAL.out]; omega
      have HKL := hid hkl
      have hkn : k ≤ n := by omega
      have hk3 : k ≤ 300 := by omega
      have hmk := fun W => make_intsL k (by omega) W
      clear hal hkl HRS
      subst hmn
      obtain ⟨gh, ch, hb, hown, hBn⟩ := HNH.out
      obtain ⟨k0, k1⟩ := cell1n hb
      have hhn : hs.length = n := by rw [hhl]; exact hin
      rw [hhn] at k0
      clear hb hown k1 hBn hk
      generalize (ids.map (cnd rs t px py)) = all at *
      clear HPM HEL HIDS HA HN HLEN HIL hhl hin hi hlt
      go_wp2_with fail
      refine (len_c _ _ _ _).mono ?_
      rintro e z2 ⟨rfl, hz⟩
      replace hz := hz.symm
      subst hz
      go_upto_region 10 with fail
      have halc : Below wr.heap.size wr (wr.alloc (.cells (madeCells #[.int .i64 0] k) 3)) := balloc (Below.refl _ _) _
      have hib : wr.heap.size ≠ nb := by obtain ⟨_, _, hq, _⟩ := HNH.out; have := lt_of_block hq; omega
      have hibw : w.heap.size ≤ wr.heap.size := HS0.out.2.2.2.size
      have HFI : Hid (FI wr.heap.size k [] (wr.alloc (.cells (madeCells #[.int .i64 0] k) 3))) := hid ⟨_, new_alloc _ _ _ rfl, by rw [size_madeCells], fun j hj => absurd hj (by simp)⟩
      replace HNH := hid (HNH.out.below halc)
      replace HS0 := hid (btrans HS0.out.2.2.2 halc)
      clear halc hmk k0
      generalize wr.alloc (.cells (madeCells #[.int .i64 0] k) 3) = Y at *
      generalize wr.heap.size = ib at *
      go_wp2_with fail
      go_loopw [50] (fun ti wv => ∃ j : Nat, ∃ out rest : List Cn, ti = .int .i64 j ∧ j ≤ k ∧ Hid (out.length = j ∧ rest.length = n - j ∧ TK all out rest) ∧ Hid (NH w.heap.size nb rest wv) ∧ Hid (FI ib k (out.map (fun x => x.1)) wv) ∧ Hid (Below w.heap.size w wv)) (fun ti _ => k - (intOf ti).toNat)
      case atStart => exact ⟨0, [], hs, rfl, Nat.zero_le _, hid ⟨rfl, by rw [hhn]; rfl, HTK.out⟩, HNH, HFI, HS0⟩
      case round =>
        clear HNH HFI HS0 HTK
        obtain ⟨j, out, rest, rfl, hjk, HT, HNH, HFI, HB⟩ := hrel
        have hol := HT.out.1
        by_cases hlj : j < k
        · have c2 : (j : Int) < (k : Int) := by omega
          have cj0 : (0 : Int) ≤ (j : Int) := by omega
          have hrl : rest.length = (n - j - 1) + 1 := by have := HT.out.2.1; omega
          have HTA2 := hid (take_c9 w.heap.size nb rest (n - j - 1) wr hrl (by omega) HNH.out HT.out.2.2.2.2.2)
          have HRL := hid hrl
          clear hrl
          have HOL := hid hol
          clear hol
          go_wp2_with fail
          refine HTA2.out.mono ?_
          rintro e v ⟨rfl, rest', h1, h2, h3, h4, h5⟩
          obtain ⟨cs, f1, f2, f3⟩ := HFI.out
          have f1' := ok_keep h5.2 f1 hib (by decide)
          have HFI2 : Hid (FI ib k (out.map (fun x => x.1)) v) := hid ⟨cs, f1', f2, f3⟩
          have hfr : v.frozen? ⟨ib, j, none⟩ = false := by simp [World.frozen?, f1']
          obtain ⟨ov, hov⟩ : ∃ ov, v.cell? ⟨ib, j, none⟩ = some ov := ⟨_, by simp only [World.cell?, f1']; exact Array.getElem?_eq_getElem (by omega)⟩
          have HT2 : Hid ((out ++ [at_ rest 0]).length = j + 1 ∧ rest'.length = n - (j + 1) ∧ TK all (out ++ [at_ rest 0]) rest') := hid ⟨by rw [List.length_append, HOL.out]; rfl, by have q1 := h1.length_eq; simp only [List.length_cons] at q1; have q2 := HRL.out; omega, HT.out.2.2.next h1 h2 h3⟩
          have HFP := hid (HFI2.out.put (z := (at_ rest 0).1) (by rw [List.length_map, HOL.out]; exact hlj))
          rw [List.length_map, HOL.out] at HFP
          have HNP : Hid (NH w.heap.size nb rest' (v.setCell ⟨ib, j, none⟩ (.int .i64 (at_ rest 0).1))) := hid (by
            obtain ⟨g9, c9, n1, n2, n3⟩ := h4
            obtain ⟨cur9, fz9, n4⟩ := own_kind n2
            have hg9 : g9 ≠ ib := by
              intro e
              subst e
              rw [f1'] at n4
              injection n4 with n4
              injection n4 with _ n4 _
              exact absurd n4 (by decide)
            exact ⟨g9, c9, set_far n1 (fun e => hib e.symm), own_frameN n2 (fun d hd => by simp [Value.ownBlock] at hd; subst hd; exact Below.heap_setCell _ _ _ _ (by dsimp only; exact hg9)), n3⟩)
          have HBP : Hid (Below w.heap.size w (v.setCell ⟨ib, j, none⟩ (.int .i64 (at_ rest 0).1))) := hid ((HB.out.trans h5.1).setCell (p := ⟨ib, j, none⟩) hibw _)
          clear h1 h2 h3 h4 h5 f1 f2 f3 f1' HFI2 HTA2
          have HMP : Hid ((out ++ [at_ rest 0]).map (fun x => x.1) = out.map (fun x => x.1) ++ [(at_ rest 0).1]) := hid (by rw [List.map_append]; rfl)
          rw [← HMP.out] at HFP
          go_wp2_with fail
          go_roundw
          case rel => exact ⟨j + 1, out ++ [at_ rest 0], rest', by go_num, by omega, HT2, HNP, HFP, HBP⟩
          case measure => simp [intOf]; omega
        · have c2 : (k : Int) ≤ (j : Int) := by omega
          have hjk2 : j = k := by omega
          have HR : Hid (out.map (fun x => x.1) = res) := hid (by
            rw [HNR.out, ← hjk2, ← hol]
            exact (near_of HT.out.2.2.1 HT.out.2.2.2.1 HT.out.2.2.2.2.1).symm)
          have HRL : Hid (res.length = k) := hid (by rw [← HR.out, List.length_map, hol, hjk2])
          have HO := hid (HFI.out.own (by rw [List.length_map, hol, hjk2]))
          rw [HR.out] at HO
          clear hol hjk2
          go_wp2_with fail
          go_ret
          exact ⟨some ⟨ib, 0, none⟩, k, by rw [HRL.out]; rfl, HO.out, fun b off e => (by cases e; exact hibw), HB.out⟩
end Go.Proofs.YtnaobljoopjhgaaGreat
namespace Go.Proofs.YtnaobljoopjhgaaGreat
open Go.RowKit
set_option linter.unusedVariables false
set_option linter.unusedSimpArgs false
/-- A list of points that may be written into: nil, or a block of its own. -/
def OwnP (w : World) (a : Option Addr) (ps : List (Int × Int)) : Prop := (a = none ∧ ps = []) ∨ ∃ b, a = some ⟨b, 0, none⟩ ∧ PtsOwn w b ps
theorem OwnP.pts {w : World} {a : Option Addr} {ps : List (Int × Int)} (h : OwnP w a ps) : Pts w a ps := by
  rcases h with ⟨rfl, rfl⟩ | ⟨b, rfl, h⟩
  · exact .inl rfl
  · exact h.pts
theorem OwnP.below {w w' : World} {a : Option Addr} {ps : List (Int × Int)} (h : OwnP w a ps) (H : Below w.heap.size w w') : OwnP w' a ps := by
  rcases h with ⟨rfl, rfl⟩ | ⟨b, rfl, h⟩
  · exact .inl ⟨rfl, rfl⟩
  · exact .inr ⟨b, rfl, h.below H⟩
def mk (j : Nat) : Int × Int := ((1 : Int) + 2 * j, (2 : Int) + 2 * j)
/-- What is marked is another list in the same block; nothing else is turned. -/
def Marked (w w' : World) (a : Option Addr) (n : Nat) : Prop := OwnP w' a (tk mk n) ∧ w.grownBy w' (a.map (·.block))
theorem take_of (f : Nat → Int × Int) (n k : Nat) (h : k ≤ n) : (tk f n).take k = tk f k := by
  unfold tk
  rw [← List.map_take, List.take_range, Nat.min_eq_left h]
theorem put_mark {w : World} {b k n : Nat} (hb : b < w.heap.size) (hk : k < n) (h : PtsAt w b 0 (tk mk k)) (ht : w.there b 0 (n * 2)) :
    PtsAt ((w.setCell ⟨b, k * 2, none⟩ (.int .i64 (1 + 2 * k))).setCell ⟨b, k * 2 + 1, none⟩ (.int .i64 (2 + 2 * k))) b 0 (tk mk (k + 1)) ∧ ((w.setCell ⟨b, k * 2, none⟩ (.int .i64 (1 + 2 * k))).setCell ⟨b, k * 2 + 1, none⟩ (.int .i64 (2 + 2 * k))).there b 0 (n * 2) := by
  have h1 := put_point (ps := tk mk n) (n := n * 2) hb (by rw [tk_len]; exact hk) (by rw [tk_len]) (by rw [take_of _ _ _ (by omega)]; exact h) ht (1 + 2 * k) (2 + 2 * k) (by rw [tk_getD _ _ _ hk]; rfl) (by rw [tk_getD _ _ _ hk]; rfl)
  rw [take_of _ _ _ (by omega)] at h1
  exact h1
theorem grown_setb {w w1 : World} {b k : Nat} (h : w.grownBy w1 (some b)) (u : Value) : w.grownBy (w1.setCell ⟨b, k, none⟩ u) (some b) := grown_trans h (grown_set _ _ _ _)
set_option maxRecDepth 100000 in
set_option maxHeartbeats 1000000 in
theorem mark_pts (w : World) (a : Option Addr) (cap : Nat) (ps : List (Int × Int)) (hm : ps.length ≤ 1099511627776) (hc : ps.length ≤ cap) (h : OwnP w a ps) : Calls Tryz.prog 53 #[.slice a ps.length cap, .int .i64 1] w fun e w' => e = .returned (.int .i64 (1 + 2 * (ps.length : Int))) ∧ Marked w w' a ps.length := by
  rcases h with ⟨rfl, rfl⟩ | ⟨b, rfl, hb, hp, ht⟩
  · go_enter Tryz.func53, Tryz.ntmps53
    go_wp2_with fail
    go_loopw [1, 5] (fun tk' ti wr => tk' = .int .i64 1 ∧ ti = .int .i64 0 ∧ wr = w) (fun _ _ _ => 0)
    case atStart => exact ⟨rfl, rfl, rfl⟩
    case round =>
      obtain ⟨rfl, rfl, rfl⟩ := hrel
      go_wp2_with fail
      go_ret
      exact ⟨by first | rfl | (simp; done) | (show Ending.returned (.int .i64 1) = _; simp), .inl ⟨rfl, rfl⟩, grown_same _ _⟩
  · generalize hn : ps.length = n at *
    clear hp
    go_enter Tryz.func53, Tryz.ntmps53
    go_wp2_with fail
    go_loopw [1, 5] (fun tk' ti wr => ∃ k : Nat, ti = .int .i64 k ∧ tk' = .int .i64 (1 + 2 * (k : Int)) ∧ k ≤ n ∧ Hid (b < wr.heap.size ∧ PtsAt wr b 0 (tk mk k) ∧ wr.there b 0 (n * 2) ∧ w.grownBy wr (some b))) (fun _ ti _ => n - (intOf ti).toNat)
    case atStart => exact ⟨0, rfl, rfl, Nat.zero_le _, hid ⟨hb, fun j hj => by simp [tk] at hj, ht, grown_same _ _⟩⟩
    case round =>
      obtain ⟨k, rfl, rfl, hk, HH⟩ := hrel
      by_cases hlt : k < n
      · have c1 : (k : Int) < (n : Int) := by omega
        obtain ⟨g0, g0'⟩ := HH.out.2.2.1 (k * 2) (by omega)
        obtain ⟨g1, g1'⟩ := HH.out.2.2.1 (k * 2 + 1) (by omega)
        obtain ⟨u0, hu0⟩ := Option.isSome_iff_exists.1 g0
        obtain ⟨u1, hu1⟩ := Option.isSome_iff_exists.1 g1
        simp only [Nat.zero_add, ← Nat.add_assoc] at hu0 hu1 g0' g1'
        have hu1' : (wr.setCell ⟨b, k * 2, none⟩ (.int .i64 (1 + 2 * (k : Int)))).cell? ⟨b, k * 2 + 1, none⟩ = some u1 := by
          rw [World.cell?_setCell_other _ _ _ _ (by simp)]; exact hu1
        have g1'' : (wr.setCell ⟨b, k * 2, none⟩ (.int .i64 (1 + 2 * (k : Int)))).frozen? ⟨b, k * 2 + 1, none⟩ = false := by rw [World.frozen?_setCell]; exact g1'
        clear g0 g1
        go_wp2_with fail
        go_roundw
        case rel =>
          obtain ⟨r1, r2⟩ := put_mark HH.out.1 hlt HH.out.2.1 HH.out.2.2.1
          refine ⟨k + 1, by go_num, by go_num, by omega, ?_⟩
          rw [show (1 : Int) + 2 * (k : Int) + 1 = 2 + 2 * (k : Int) by omega]
          exact hid ⟨by simpa using HH.out.1, r1, r2, grown_setb (grown_setb HH.out.2.2.2 _) _⟩
        case measure => simp [intOf]; omega
      · obtain rfl : k = n := by omega
        go_wp2_with fail
        go_ret
        exact ⟨rfl, .inr ⟨b, rfl, HH.out.1, HH.out.2.1, by rw [tk_len]; exact HH.out.2.2.1⟩, HH.out.2.2.2⟩
end Go.Proofs.YtnaobljoopjhgaaGreat
namespace Go.Proofs.YtnaobljoopjhgaaGreat
open Go.RowKit
set_option linter.unusedSimpArgs false
set_option linter.unusedVariables false
/-- Of what was there only blocks from lo on, below hi, may have turned. -/
def Mid (lo hi : Nat) (w w' : World) : Prop := w'.os = w.os ∧ w'.tape = w.tape ∧ w'.output = w.output ∧ w.heap.size ≤ w'.heap.size ∧ ∀ k, k < w.heap.size → (k < lo ∨ hi ≤ k) → w'.heap[k]? = w.heap[k]?
theorem mid_refl (lo hi : Nat) (w : World) : Mid lo hi w w := ⟨rfl, rfl, rfl, Nat.le_refl _, fun _ _ _ => rfl⟩
theorem mid_trans {lo hi : Nat} {a b c : World} (h : Mid lo hi a b) (k : Mid lo hi b c) : Mid lo hi a c := by
  obtain ⟨h1, h2, h3, h4, h5⟩ := h
  obtain ⟨k1, k2, k3, k4, k5⟩ := k
  exact ⟨k1.trans h1, k2.trans h2, k3.trans h3, Nat.le_trans h4 k4, fun i hi' ho => (k5 i (Nat.lt_of_lt_of_le hi' h4) ho).trans (h5 i hi' ho)⟩
theorem mid_below {lo hi : Nat} {w w' : World} (h : Below w.heap.size w w') : Mid lo hi w w' := ⟨h.os, h.tape, h.output, h.size, fun k hk _ => h.block k hk⟩
theorem mid_set {lo hi b k : Nat} {w w1 : World} (h : Mid lo hi w w1) (h1 : lo ≤ b) (h2 : b < hi) (u : Value) : Mid lo hi w (w1.setCell ⟨b, k, none⟩ u) :=
  mid_trans h ⟨rfl, rfl, rfl, by simp [World.setCell], fun i _ ho => Below.heap_setCell _ _ _ _ (by dsimp only; omega)⟩
theorem mid_grown {lo hi b : Nat} {w w1 w2 : World} (h : Mid lo hi w w1) (g : w1.grownBy w2 (some b)) (h1 : lo ≤ b) (h2 : b < hi) : Mid lo hi w w2 :=
  mid_trans h ⟨g.os, g.tape, g.output, g.size, fun i hi' ho => g.block i hi' (fun e => by cases e; omega)⟩
theorem mid_B {n lo hi : Nat} {w0 w w' : World} (h : Below n w0 w) (k : Mid lo hi w w') (h1 : n ≤ lo) (h2 : n ≤ w.heap.size) : Below n w0 w' := by
  obtain ⟨k1, k2, k3, k4, k5⟩ := k
  exact h.trans ⟨k1, k2, k3, k4, fun i hi' => k5 i (by omega) (by omega)⟩
theorem mid_blk {lo hi c : Nat} {w w' : World} (k : Mid lo hi w w') (hc : c < w.heap.size) (h : c < lo ∨ hi ≤ c) : w'.heap[c]? = w.heap[c]? := k.2.2.2.2 c hc h
theorem mid_cell {lo hi c j : Nat} {v : Value} {w w' : World} (k : Mid lo hi w w') (hv : w.cell? ⟨c, j, none⟩ = some v) (h : c < lo ∨ hi ≤ c) : w'.cell? ⟨c, j, none⟩ = some v := by
  have hc : c < w.heap.size := World.block_lt_of_cell? w _ hv
  simp only [World.cell?, mid_blk k hc h] at hv ⊢
  exact hv
theorem mid_own {lo hi : Nat} {w w' : World} {a : Option Addr} {ps : List (Int × Int)} (k : Mid lo hi w w') (h : OwnP w a ps) (ha : ∀ c off, a = some ⟨c, off, none⟩ → c < lo ∨ hi ≤ c) : OwnP w' a ps := by
  rcases h with ⟨rfl, rfl⟩ | ⟨b, rfl, h⟩
  · exact .inl ⟨rfl, rfl⟩
  · exact .inr ⟨b, rfl, h.of_block (mid_blk k h.1 (ha b 0 rfl)) k.2.2.2.1⟩
/-- A row whose points' list has a block of its own, below hi, that may be written into. -/
def RwO (hi : Nat) (w : World) (B o n : Nat) : Prop := ∃ c, w.cell? ⟨B, o + 4, none⟩ = some (.slice (some ⟨c, 0, none⟩) n n) ∧ B < c ∧ c < hi ∧ w.there c 0 (n * 2)
def RwsO (hi : Nat) (w : World) (B : Nat) (rs : List Rw) : Prop := ∀ j (h : j < rs.length), RwO hi w B (j * 5) rs[j].2.2.2.2.length
theorem RwO.below {hi : Nat} {w w' : World} {B o n : Nat} (h : RwO hi w B o n) (hh : hi ≤ w.heap.size) (H : Below w.heap.size w w') : RwO hi w' B o n := by
  obtain ⟨c, h0, h1, h2, h3⟩ := h
  exact ⟨c, keepcell H h0, h1, h2, there_below h3 (by omega) H⟩
theorem RwO.mono {hi hi' : Nat} {w : World} {B o n : Nat} (h : RwO hi w B o n) (hh : hi ≤ hi') : RwO hi' w B o n := by
  obtain ⟨c, h0, h1, h2, h3⟩ := h
  exact ⟨c, h0, h1, by omega, h3⟩
theorem RwsO.below {hi : Nat} {w w' : World} {B : Nat} {rs : List Rw} (h : RwsO hi w B rs) (hh : hi ≤ w.heap.size) (H : Below w.heap.size w w') : RwsO hi w' B rs := fun j hj => (h j hj).below hh H
theorem there_at {w : World} {b n k : Nat} (h : w.there b 0 n) (hk : k < n) : ∃ v, w.cell? ⟨b, k, none⟩ = some v ∧ w.frozen? ⟨b, k, none⟩ = false := by
  obtain ⟨h1, h2⟩ := h k hk
  obtain ⟨v, hv⟩ := Option.isSome_iff_exists.1 h1
  simp only [Nat.zero_add] at hv h2
  exact ⟨v, hv, h2⟩
theorem there_set {w : World} {b n p k : Nat} (h : w.there b 0 n) (u : Value) : (w.setCell ⟨p, k, none⟩ u).there b 0 n := by
  intro j hj
  obtain ⟨h1, h2⟩ := h j hj
  refine ⟨?_, by rw [World.frozen?_setCell]; exact h2⟩
  obtain ⟨v, hv⟩ := Option.isSome_iff_exists.1 h1
  obtain ⟨v', hv'⟩ := cell?_setCell_some (p := ⟨p, k, none⟩) (x := u) hv
  rw [hv']; rfl
theorem put_own {hi : Nat} {w : World} {B k n b m : Nat} (ht : w.there B 0 (n * 5)) (hk : k < n) (hb : B < b) (hbh : b < hi) (ho : w.there b 0 (m * 2)) (u0 u1 u2 u3 : Value) :
    RwO hi (((((w.setCell ⟨B, k * 5, none⟩ u0).setCell ⟨B, k * 5 + 1, none⟩ u1).setCell ⟨B, k * 5 + 2, none⟩ u2).setCell ⟨B, k * 5 + 3, none⟩ u3).setCell ⟨B, k * 5 + 4, none⟩ (.slice (some ⟨b, 0, none⟩) m m)) B (k * 5) m := by
  obtain ⟨v, hv, _⟩ := there_at (there_set (there_set (there_set (there_set ht u0 (p := B) (k := k * 5)) u1 (p := B) (k := k * 5 + 1)) u2 (p := B) (k := k * 5 + 2)) u3 (p := B) (k := k * 5 + 3)) (show k * 5 + 4 < n * 5 by omega)
  exact ⟨b, World.cell?_setCell_same _ _ _ hv, hb, hbh, there_set (there_set (there_set (there_set (there_set ho _) _) _) _) _⟩
theorem RwO.far {hi : Nat} {w : World} {B o n k : Nat} (h : RwO hi w B o n) (hk : k ≠ o + 4) (u : Value) : RwO hi (w.setCell ⟨B, k, none⟩ u) B o n := by
  obtain ⟨c, h0, h1, h2, h3⟩ := h
  refine ⟨c, ?_, h1, h2, there_set h3 _⟩
  rw [World.cell?_setCell_other _ _ _ _ (by intro q; injection q; omega)]
  exact h0
set_option maxHeartbeats 2000000 in
theorem to_rowSO {N : Nat → Prop} (a : Option Addr) (cap : Nat) (rs : List Rw) (w : World) (hm : rs.length ≤ 1099511627776) (h : Rws N w a rs) : Calls Tryz.prog 21 #[.slice a rs.length cap] w fun e w' => ∃ B, e = .returned (.slice (some ⟨B, 0, none⟩) rs.length rs.length) ∧ w.heap.size ≤ B ∧ B < w'.heap.size ∧ RwsAt (fun c => B < c) w' B 0 rs ∧ w'.there B 0 (rs.length * 5) ∧ RwsO w'.heap.size w' B rs ∧ Below w.heap.size w w' := by
  have HR := hid h
  clear h
  have hmk := make_rows rs.length hm
  obtain ⟨n, hn⟩ : ∃ n, n = rs.length := ⟨_, rfl⟩
  have HN := hid hn.symm
  rw [← hn] at hmk hm ⊢
  clear hn
  go_enter Tryz.func21, Tryz.ntmps21
  go_wp2_with fail
  have hB : Below w.heap.size w (w.alloc (.cells (madeCells #[.int .i64 0, .int .i64 0, .int .i64 0, .int .i64 0, .slice none 0 0] (n * 5)) 61)) := balloc (Below.refl _ _) _
  have hT := made_own5 w n
  have hl : w.heap.size < (w.alloc (.cells (madeCells #[.int .i64 0, .int .i64 0, .int .i64 0, .int .i64 0, .slice none 0 0] (n * 5)) 61)).heap.size := by simp
  generalize w.alloc (.cells (madeCells #[.int .i64 0, .int .i64 0, .int .i64 0, .int .i64 0, .slice none 0 0] (n * 5)) 61) = W at *
  clear hmk
  go_loopw [4] (fun ti wr => ∃ j : Nat, ti = .int .i64 j ∧ j ≤ n ∧ Hid (w.heap.size < wr.heap.size) ∧ Hid (∀ i (hi : i < rs.length), i < j → RwAt (fun c => w.heap.size < c) wr w.heap.size (i * 5) rs[i]) ∧ Hid (wr.there w.heap.size 0 (n * 5)) ∧ Hid (∀ i (hi : i < rs.length), i < j → RwO wr.heap.size wr w.heap.size (i * 5) rs[i].2.2.2.2.length) ∧ Hid (Below w.heap.size w wr)) (fun ti _ => n - (intOf ti).toNat)
  case atStart => exact ⟨0, rfl, Nat.zero_le _, hid hl, hid (fun i hi h => absurd h (by omega)), hid hT, hid (fun i hi h => absurd h (by omega)), hid hB⟩
  case round =>
    clear hB hT hl
    obtain ⟨j, rfl, hj, HL, HP, HT, HOW, HBW⟩ := hrel
    by_cases hlt : j < n
    · have c1 : (j : Int) < (n : Int) := by omega
      have hjr : j < rs.length := by rw [HN.out]; exact hlt
      obtain ⟨b, o, rfl, hbs, hr⟩ := (HR.out.below HBW.out).at j hjr
      obtain ⟨a', cap', k0, k1, k2, k3, k4, k5, k6, k7, k8⟩ := hr
      have TR := hid (to_row rs[j] a' cap' wr k6 k5 k7)
      have HPR := hid (fun (W : World) (bb : Nat) => put_row (N := fun c => w.heap.size < c) (w := W) (B := w.heap.size) (k := j) (n := n) (b := bb) (rs := rs) (fun c hc => by omega) hjr HN.out)
      have HK6 := hid k6
      have HLN : Hid (∀ m, rs[j].2.2.2.2.length = m → ∀ (X : World) (hX : ∀ i (hi : i < rs.length), i < j → RwO X.heap.size X w.heap.size (i * 5) rs[i].2.2.2.2.length) (hY : RwO X.heap.size X w.heap.size (j * 5) m), ∀ i (hi : i < rs.length), i < j + 1 → RwO X.heap.size X w.heap.size (i * 5) rs[i].2.2.2.2.length) := hid (fun m hm X hX hY i hi h => by
        by_cases e : i = j
        · subst e; rw [hm]; exact hY
        · exact hX i hi (by omega))
      unfold rwv at TR
      clear k5 k6 k7 k8
      generalize rs[j].1 = id at *
      generalize rs[j].2.1 = fr at *
      generalize rs[j].2.2.1 = te at *
      generalize rs[j].2.2.2.1 = kd at *
      generalize rs[j].2.2.2.2 = ps at *
      go_wp2_with fail
      refine TR.out.mono ?_
      rintro e w1 ⟨bb, rfl, hbb, ho, hb1⟩
      have hP := fun i (hi : i < rs.length) (h : i < j) => (HP.out i hi h).below hb1
      have hT := there_below HT.out HL.out hb1
      have hB := btrans HBW.out hb1
      have hL : w.heap.size < w1.heap.size := Nat.lt_of_lt_of_le HL.out hb1.size
      have hbl : w.heap.size < bb := Nat.lt_of_lt_of_le HL.out hbb
      have HPUT := hid (HPR.out w1 bb hP hT hbl HK6.out ho)
      have HOLD := hid (fun i (hi : i < rs.length) (h : i < j) => ((HOW.out i hi h).below (Nat.le_refl _) hb1).mono hb1.size)
      have HNEW := hid (fun u0 u1 u2 u3 => put_own (hi := w1.heap.size) hT hlt hbl ho.1 ho.2.2 u0 u1 u2 u3)
      have q := fun i (hi : i < n * 5) => hT i hi
      obtain ⟨x0, y0⟩ := q (j * 5) (by omega)
      obtain ⟨x1, y1⟩ := q (j * 5 + 1) (by omega)
      obtain ⟨x2, y2⟩ := q (j * 5 + 2) (by omega)
      obtain ⟨x3, y3⟩ := q (j * 5 + 3) (by omega)
      obtain ⟨x4, y4⟩ := q (j * 5 + 4) (by omega)
      obtain ⟨v0, z0⟩ := Option.isSome_iff_exists.1 x0
      obtain ⟨v1, z1⟩ := Option.isSome_iff_exists.1 x1
      obtain ⟨v2, z2⟩ := Option.isSome_iff_exists.1 x2
      obtain ⟨v3, z3⟩ := Option.isSome_iff_exists.1 x3
      obtain ⟨v4, z4⟩ := Option.isSome_iff_exists.1 x4
      simp only [Nat.zero_add, ← Nat.add_assoc] at z0 z1 z2 z3 z4 y0 y1 y2 y3 y4
      clear q x0 x1 x2 x3 x4 hP HPR hb1 ho TR
      have HL1 := hid hL
      have HB1 := hid hB
      clear hT
      go_wp2_with fail
      go_roundw
      case rel => exact ⟨j + 1, by go_num, by omega, hid (by simpa using hL), hid HPUT.out.1, hid HPUT.out.2, hid (HLN.out _ rfl _ (fun i hi h => by simpa using ((((((HOLD.out i hi h).far (by omega) _).far (by omega) _).far (by omega) _).far (by omega) _).far (by omega) _)) (by simpa using HNEW.out _ _ _ _)), hid (bset (bset (bset (bset (bset hB (by omega) _) (by omega) _) (by omega) _) (by omega) _) (by omega) _)⟩
      case measure => simp [intOf]; omega
    · obtain rfl : n = j := by omega
      have c1 : (n : Int) ≤ (n : Int) := by omega
      go_wp2_with fail
      go_ret
      exact ⟨w.heap.size, rfl, Nat.le_refl _, HL.out, fun i hi => by have := HP.out i hi (by rw [HN.out] at hi; exact hi); simpa using this, HT.out, fun i hi => HOW.out i hi (by rw [HN.out] at hi; exact hi), HBW.out⟩
theorem RwO.other {hi : Nat} {w : World} {B o n q k : Nat} (h : RwO hi w B o n) (hq : q ≠ B) (u : Value) : RwO hi (w.setCell ⟨q, k, none⟩ u) B o n := by
  obtain ⟨c, h0, h1, h2, h3⟩ := h
  refine ⟨c, ?_, h1, h2, there_set h3 _⟩
  rw [World.cell?_setCell_other _ _ _ _ (by intro e; injection e; omega)]
  exact h0
set_option maxHeartbeats 1000000 in
theorem to_rowsO {N : Nat → Prop} (now : Int) (a : Option Addr) (cap : Nat) (rs : List Rw) (w : World) (hm : rs.length ≤ 1099511627776) (h : Rws N w a rs) : Calls Tryz.prog 6 #[.agg #[.int .i64 now, .slice a rs.length cap]] w fun e w' => ∃ B, e = .returned (.agg #[.int .i64 now, .slice (some ⟨B, 0, none⟩) rs.length rs.length]) ∧ w.heap.size ≤ B ∧ B < w'.heap.size ∧ RwsAt (fun c => B < c) w' B 0 rs ∧ w'.there B 0 (rs.length * 5) ∧ RwsO w'.heap.size w' B rs ∧ Below w.heap.size w w' := by
  have TS := hid (fun (W : World) (hb : Below w.heap.size w W) => to_rowSO a cap rs W hm (h.below hb))
  clear h
  obtain ⟨n, hn⟩ : ∃ n, n = rs.length := ⟨_, rfl⟩
  rw [← hn] at TS ⊢
  clear hn
  go_enter Tryz.func6, Tryz.ntmps6
  go_wp2_with fail
  have hB0 : Below w.heap.size w (((w.alloc (.cells #[.int .i64 now, .slice a n cap] 24)).alloc (.cells #[.int .i64 0, .slice none 0 0] 32)).alloc (.cells #[.int .i64 now, .slice none 0 0] 32)) := balloc (balloc (balloc (Below.refl _ _) _) _) _
  have g2 := old_alloc (o' := .cells #[.int .i64 now, .slice none 0 0] 32) (new_alloc (w.alloc (.cells #[.int .i64 now, .slice a n cap] 24)) (w.heap.size + 1) (.cells #[.int .i64 0, .slice none 0 0] 32) (by simp))
  have g3 := new_alloc ((w.alloc (.cells #[.int .i64 now, .slice a n cap] 24)).alloc (.cells #[.int .i64 0, .slice none 0 0] 32)) (w.heap.size + 1 + 1) (.cells #[.int .i64 now, .slice none 0 0] 32) (by simp)
  generalize (((w.alloc (.cells #[.int .i64 now, .slice a n cap] 24)).alloc (.cells #[.int .i64 0, .slice none 0 0] 32)).alloc (.cells #[.int .i64 now, .slice none 0 0] 32)) = W at *
  have hlW := lt_of_block g3
  refine (TS.out _ hB0).mono ?_
  rintro e w1 ⟨B, rfl, hbb, hbl, ho, ht, hro, hb1⟩
  replace g2 := keepheap2 hb1 g2
  replace g3 := keepheap2 hb1 g3
  have hB := btrans hB0 hb1
  have HO := hid ho
  have HRO := hid hro
  have HTH := hid ht
  clear hb1 hB0 ho ht hro
  obtain ⟨a0, a1, f0, f1⟩ := cell2f g2
  obtain ⟨b0, b1, e0, e1⟩ := cell2f g3
  go_wp2_with fail
  have gF := set2r (set_far (q := w.heap.size + 1 + 1) (k := 1) (u := .slice (some ⟨B, 0, none⟩) n n) g2 (by omega)) (.int .i64 now) (.slice (some ⟨B, 0, none⟩) n n)
  have bF := bset (bset (bset hB (q := w.heap.size + 1 + 1) (k := 1) (by omega) (.slice (some ⟨B, 0, none⟩) n n)) (q := w.heap.size + 1) (k := 0) (by omega) (.int .i64 now)) (q := w.heap.size + 1) (k := 1) (by omega) (.slice (some ⟨B, 0, none⟩) n n)
  have oF := ((HO.out.setR (q := w.heap.size + 1 + 1) (k := 1) (u := .slice (some ⟨B, 0, none⟩) n n) (by omega) (by omega)).setR (q := w.heap.size + 1) (k := 0) (u := .int .i64 now) (by omega) (by omega)).setR (q := w.heap.size + 1) (k := 1) (u := .slice (some ⟨B, 0, none⟩) n n) (by omega) (by omega)
  have lF : B < (((w1.setCell ⟨w.heap.size + 1 + 1, 1, none⟩ (.slice (some ⟨B, 0, none⟩) n n)).setCell ⟨w.heap.size + 1, 0, none⟩ (.int .i64 now)).setCell ⟨w.heap.size + 1, 1, none⟩ (.slice (some ⟨B, 0, none⟩) n n)).heap.size := by simpa using hbl
  have tF : (((w1.setCell ⟨w.heap.size + 1 + 1, 1, none⟩ (.slice (some ⟨B, 0, none⟩) n n)).setCell ⟨w.heap.size + 1, 0, none⟩ (.int .i64 now)).setCell ⟨w.heap.size + 1, 1, none⟩ (.slice (some ⟨B, 0, none⟩) n n)).there B 0 (n * 5) := there_set (there_set (there_set HTH.out _) _) _
  have rF : RwsO (((w1.setCell ⟨w.heap.size + 1 + 1, 1, none⟩ (.slice (some ⟨B, 0, none⟩) n n)).setCell ⟨w.heap.size + 1, 0, none⟩ (.int .i64 now)).setCell ⟨w.heap.size + 1, 1, none⟩ (.slice (some ⟨B, 0, none⟩) n n)).heap.size (((w1.setCell ⟨w.heap.size + 1 + 1, 1, none⟩ (.slice (some ⟨B, 0, none⟩) n n)).setCell ⟨w.heap.size + 1, 0, none⟩ (.int .i64 now)).setCell ⟨w.heap.size + 1, 1, none⟩ (.slice (some ⟨B, 0, none⟩) n n)) B rs := fun j hj => by simpa using (((HRO.out j hj).other (q := w.heap.size + 1 + 1) (k := 1) (by omega) (.slice (some ⟨B, 0, none⟩) n n)).other (q := w.heap.size + 1) (k := 0) (by omega) (.int .i64 now)).other (q := w.heap.size + 1) (k := 1) (by omega) (.slice (some ⟨B, 0, none⟩) n n)
  generalize ((w1.setCell ⟨w.heap.size + 1 + 1, 1, none⟩ (.slice (some ⟨B, 0, none⟩) n n)).setCell ⟨w.heap.size + 1, 0, none⟩ (.int .i64 now)).setCell ⟨w.heap.size + 1, 1, none⟩ (.slice (some ⟨B, 0, none⟩) n n) = wf at *
  obtain ⟨z0, z1, _, _⟩ := cell2f gF
  exact bodyPost_ret (v := .agg #[.int .i64 now, .slice (some ⟨B, 0, none⟩) n n]) (by simp [results, Tryz.results6, go_sem, z0, z1]) rfl ⟨B, rfl, by omega, lF, oF, tF, rF, bF⟩
set_option maxRecDepth 100000 in
set_option maxHeartbeats 1000000 in
theorem mark_ptsN (w : World) (c n : Nat) (k0 : Int) (h0 : 0 ≤ k0) (h1 : k0 ≤ 4611686018427387904) (hn : n ≤ 1048576) (hc : c < w.heap.size) (ht : w.there c 0 (n * 2)) : Calls Tryz.prog 53 #[.slice (some ⟨c, 0, none⟩) n n, .int .i64 k0] w fun e w' => e = .returned (.int .i64 (k0 + 2 * (n : Int))) ∧ w.grownBy w' (some c) ∧ (∀ d m, w.there d 0 m → w'.there d 0 m) := by
  go_enter Tryz.func53, Tryz.ntmps53
  go_wp2_with fail
  go_loopw [1, 5] (fun tk' ti wr => ∃ k : Nat, ti = .int .i64 k ∧ tk' = .int .i64 (k0 + 2 * (k : Int)) ∧ k ≤ n ∧ Hid (w.grownBy wr (some c)) ∧ Hid (∀ d m, w.there d 0 m → wr.there d 0 m)) (fun _ ti _ => n - (intOf ti).toNat)
  case atStart => exact ⟨0, rfl, by simp, Nat.zero_le _, hid (grown_same _ _), hid (fun _ _ h => h)⟩
  case round =>
    obtain ⟨k, rfl, rfl, hk, HG, HT⟩ := hrel
    by_cases hlt : k < n
    · have c1 : (k : Int) < (n : Int) := by omega
      have hT := HT.out _ _ ht
      obtain ⟨u0, hu0, g0'⟩ := there_at hT (show k * 2 < n * 2 by omega)
      obtain ⟨u1, hu1, g1'⟩ := there_at hT (show k * 2 + 1 < n * 2 by omega)
      have hu1' : (wr.setCell ⟨c, k * 2, none⟩ (.int .i64 (k0 + 2 * (k : Int)))).cell? ⟨c, k * 2 + 1, none⟩ = some u1 := by
        rw [World.cell?_setCell_other _ _ _ _ (by simp)]; exact hu1
      have g1'' : (wr.setCell ⟨c, k * 2, none⟩ (.int .i64 (k0 + 2 * (k : Int)))).frozen? ⟨c, k * 2 + 1, none⟩ = false := by rw [World.frozen?_setCell]; exact g1'
      clear hT
      go_wp2_with fail
      go_roundw
      case rel => exact ⟨k + 1, by go_num, by go_num, by omega, hid (grown_setb (grown_setb HG.out _) _), hid (fun d m h => there_set (there_set (HT.out d m h) _) _)⟩
      case measure => simp [intOf]; omega
    · obtain rfl : k = n := by omega
      go_wp2_with fail
      go_ret
      exact ⟨rfl, HG.out, HT.out⟩
set_option maxRecDepth 100000 in
set_option maxHeartbeats 2000000 in
theorem mark_rowS (lo hi B : Nat) (rs : List Rw) (w : World) (hlo : lo ≤ B) (hBh : B < hi) (hih : hi ≤ w.heap.size) (hm : rs.length ≤ 1048576) (hl : ∀ m (h : m < rs.length), rs[m].2.2.2.2.length ≤ 1048576) (ht : w.there B 0 (rs.length * 5)) (ho : RwsO hi w B rs) : Calls Tryz.prog 30 #[.slice (some ⟨B, 0, none⟩) rs.length rs.length, .int .i64 1] w fun e w' => (∃ v : Int, e = .returned (.int .i64 v) ∧ 0 ≤ v) ∧ Mid lo hi w w' := by
  have HL := hid hl
  have HO := hid ho
  clear hl ho
  obtain ⟨n, hn⟩ : ∃ n, n = rs.length := ⟨_, rfl⟩
  have HN := hid hn.symm
  rw [← hn] at hm ht ⊢
  clear hn
  have HTT := hid ht
  clear ht
  go_enter Tryz.func30, Tryz.ntmps30
  go_wp2_with fail
  go_loopw [1, 5] (fun tk' ti wr => ∃ j : Nat, ∃ k : Int, ti = .int .i64 j ∧ tk' = .int .i64 k ∧ j ≤ n ∧ 0 ≤ k ∧ k ≤ 1 + (j : Int) * 2097156 ∧ Hid (Mid lo hi w wr) ∧ Hid (∀ d m, w.there d 0 m → wr.there d 0 m) ∧ Hid (∀ i, j ≤ i → i < n → wr.cell? ⟨B, i * 5 + 4, none⟩ = w.cell? ⟨B, i * 5 + 4, none⟩)) (fun _ ti _ => n - (intOf ti).toNat)
  case atStart => exact ⟨0, 1, rfl, rfl, Nat.zero_le _, by omega, by omega, hid (mid_refl _ _ _), hid (fun _ _ h => h), hid (fun _ _ _ => rfl)⟩
  case round =>
    obtain ⟨j, k, rfl, rfl, hj, hk0, hk1, HM, HT, HC⟩ := hrel
    by_cases hlt : j < n
    · have c1 : (j : Int) < (n : Int) := by omega
      have hjr : j < rs.length := by rw [HN.out]; exact hlt
      obtain ⟨c, q0, q1, q2, q3⟩ := HO.out j hjr
      have hnp := HL.out j hjr
      generalize rs[j].2.2.2.2.length = np at *
      have hk2 : k ≤ 2199027449858 := by omega
      have hT := HT.out _ _ HTT.out
      rw [← HC.out j (Nat.le_refl _) hlt] at q0
      obtain ⟨u0, z0, y0⟩ := there_at hT (show j * 5 < n * 5 by omega)
      obtain ⟨u1, z1, y1⟩ := there_at hT (show j * 5 + 1 < n * 5 by omega)
      obtain ⟨u2, z2, y2⟩ := there_at hT (show j * 5 + 2 < n * 5 by omega)
      obtain ⟨u3, z3, y3⟩ := there_at hT (show j * 5 + 3 < n * 5 by omega)
      have z1' : (wr.setCell ⟨B, j * 5, none⟩ (.int .i64 k)).cell? ⟨B, j * 5 + 1, none⟩ = some u1 := by
        rw [World.cell?_setCell_other _ _ _ _ (by simp)]; exact z1
      have z2' : ((wr.setCell ⟨B, j * 5, none⟩ (.int .i64 k)).setCell ⟨B, j * 5 + 1, none⟩ (.int .i64 (k + 1))).cell? ⟨B, j * 5 + 2, none⟩ = some u2 := by
        rw [World.cell?_setCell_other _ _ _ _ (by simp), World.cell?_setCell_other _ _ _ _ (by simp)]; exact z2
      have z3' : (((wr.setCell ⟨B, j * 5, none⟩ (.int .i64 k)).setCell ⟨B, j * 5 + 1, none⟩ (.int .i64 (k + 1))).setCell ⟨B, j * 5 + 2, none⟩ (.int .i64 (k + 1 + 1))).cell? ⟨B, j * 5 + 3, none⟩ = some u3 := by
        rw [World.cell?_setCell_other _ _ _ _ (by simp), World.cell?_setCell_other _ _ _ _ (by simp), World.cell?_setCell_other _ _ _ _ (by simp)]; exact z3
      have z4' : ((((wr.setCell ⟨B, j * 5, none⟩ (.int .i64 k)).setCell ⟨B, j * 5 + 1, none⟩ (.int .i64 (k + 1))).setCell ⟨B, j * 5 + 2, none⟩ (.int .i64 (k + 1 + 1))).setCell ⟨B, j * 5 + 3, none⟩ (.int .i64 (k + 1 + 1 + 1))).cell? ⟨B, j * 5 + 4, none⟩ = some (.slice (some ⟨c, 0, none⟩) np np) := by
        rw [World.cell?_setCell_other _ _ _ _ (by simp), World.cell?_setCell_other _ _ _ _ (by simp), World.cell?_setCell_other _ _ _ _ (by simp), World.cell?_setCell_other _ _ _ _ (by simp)]; exact q0
      have y1' : (wr.setCell ⟨B, j * 5, none⟩ (.int .i64 k)).frozen? ⟨B, j * 5 + 1, none⟩ = false := by rw [World.frozen?_setCell]; exact y1
      have y2' : ((wr.setCell ⟨B, j * 5, none⟩ (.int .i64 k)).setCell ⟨B, j * 5 + 1, none⟩ (.int .i64 (k + 1))).frozen? ⟨B, j * 5 + 2, none⟩ = false := by rw [World.frozen?_setCell, World.frozen?_setCell]; exact y2
      have y3' : (((wr.setCell ⟨B, j * 5, none⟩ (.int .i64 k)).setCell ⟨B, j * 5 + 1, none⟩ (.int .i64 (k + 1))).setCell ⟨B, j * 5 + 2, none⟩ (.int .i64 (k + 1 + 1))).frozen? ⟨B, j * 5 + 3, none⟩ = false := by rw [World.frozen?_setCell, World.frozen?_setCell, World.frozen?_setCell]; exact y3
      have hsz : c < ((((wr.setCell ⟨B, j * 5, none⟩ (.int .i64 k)).setCell ⟨B, j * 5 + 1, none⟩ (.int .i64 (k + 1))).setCell ⟨B, j * 5 + 2, none⟩ (.int .i64 (k + 1 + 1))).setCell ⟨B, j * 5 + 3, none⟩ (.int .i64 (k + 1 + 1 + 1))).heap.size := by
        have := HM.out.2.2.2.1
        simp only [World.size_setCell]; omega
      have hM4 : Mid lo hi w ((((wr.setCell ⟨B, j * 5, none⟩ (.int .i64 k)).setCell ⟨B, j * 5 + 1, none⟩ (.int .i64 (k + 1))).setCell ⟨B, j * 5 + 2, none⟩ (.int .i64 (k + 1 + 1))).setCell ⟨B, j * 5 + 3, none⟩ (.int .i64 (k + 1 + 1 + 1))) := mid_set (mid_set (mid_set (mid_set HM.out hlo hBh _) hlo hBh _) hlo hBh _) hlo hBh _
      have hT4 : ∀ d m, w.there d 0 m → ((((wr.setCell ⟨B, j * 5, none⟩ (.int .i64 k)).setCell ⟨B, j * 5 + 1, none⟩ (.int .i64 (k + 1))).setCell ⟨B, j * 5 + 2, none⟩ (.int .i64 (k + 1 + 1))).setCell ⟨B, j * 5 + 3, none⟩ (.int .i64 (k + 1 + 1 + 1))).there d 0 m := fun d m h => there_set (there_set (there_set (there_set (HT.out d m h) _) _) _) _
      have hC4 : ∀ i, j + 1 ≤ i → i < n → ((((wr.setCell ⟨B, j * 5, none⟩ (.int .i64 k)).setCell ⟨B, j * 5 + 1, none⟩ (.int .i64 (k + 1))).setCell ⟨B, j * 5 + 2, none⟩ (.int .i64 (k + 1 + 1))).setCell ⟨B, j * 5 + 3, none⟩ (.int .i64 (k + 1 + 1 + 1))).cell? ⟨B, i * 5 + 4, none⟩ = w.cell? ⟨B, i * 5 + 4, none⟩ := fun i h1 h2 => by
        rw [World.cell?_setCell_other _ _ _ _ (by intro e; injection e; omega), World.cell?_setCell_other _ _ _ _ (by intro e; injection e; omega), World.cell?_setCell_other _ _ _ _ (by intro e; injection e; omega), World.cell?_setCell_other _ _ _ _ (by intro e; injection e; omega)]
        exact HC.out i (by omega) h2
      have HM4 := hid hM4
      have HT4 := hid hT4
      have HC4 := hid hC4
      have MP := hid (mark_ptsN _ c np (k + 1 + 1 + 1 + 1) (by omega) (by omega) hnp hsz (hT4 _ _ q3))
      clear hM4 hT4 hC4 q0 q3 hT z1 z2 z3 y1 y2 y3 HM HT HC
      go_wp2_with fail
      refine MP.out.mono ?_
      rintro e w1 ⟨rfl, hg, hth⟩
      have HM5 := hid (mid_grown HM4.out hg (by omega) q2)
      have HT5 := hid (fun d m (h : w.there d 0 m) => hth d m (HT4.out d m h))
      have HC5 : Hid (∀ i, j + 1 ≤ i → i < n → w1.cell? ⟨B, i * 5 + 4, none⟩ = w.cell? ⟨B, i * 5 + 4, none⟩) := hid (fun i h1 h2 => by
        rw [← HC4.out i h1 h2]
        have hBs : B < ((((wr.setCell ⟨B, j * 5, none⟩ (.int .i64 k)).setCell ⟨B, j * 5 + 1, none⟩ (.int .i64 (k + 1))).setCell ⟨B, j * 5 + 2, none⟩ (.int .i64 (k + 1 + 1))).setCell ⟨B, j * 5 + 3, none⟩ (.int .i64 (k + 1 + 1 + 1))).heap.size := by omega
        have := hg.block B hBs (by intro e; injection e; omega)
        simp only [World.cell?, this])
      clear hg hth MP HM4 HT4 HC4 hsz
      go_wp2_with fail
      go_roundw
      case rel => exact ⟨j + 1, _, by go_num, rfl, by omega, by omega, by omega, HM5, HT5, HC5⟩
      case measure => simp [intOf]; omega
    · have c1 : (n : Int) ≤ (j : Int) := by omega
      go_wp2_with fail
      go_ret
      exact ⟨⟨_, rfl, hk0⟩, HM.out⟩
set_option maxHeartbeats 400000 in
theorem mark_rows (lo hi B : Nat) (now : Int) (rs : List Rw) (w : World) (hlo : lo ≤ B) (hBh : B < hi) (hih : hi ≤ w.heap.size) (hm : rs.length ≤ 1048576) (hl : ∀ m (h : m < rs.length), rs[m].2.2.2.2.length ≤ 1048576) (ht : w.there B 0 (rs.length * 5)) (ho : RwsO hi w B rs) : Calls Tryz.prog 11 #[.agg #[.int .i64 now, .slice (some ⟨B, 0, none⟩) rs.length rs.length], .int .i64 1] w fun e w' => (∃ v : Int, e = .returned (.int .i64 v) ∧ 0 ≤ v) ∧ Mid lo hi w w' := by
  have hB : Below w.heap.size w (w.alloc (.cells #[.int .i64 now, .slice (some ⟨B, 0, none⟩) rs.length rs.length] 32)) := balloc (Below.refl _ _) _
  have HM := hid (mark_rowS lo hi B rs _ hlo hBh (Nat.le_trans hih hB.size) hm hl (there_below ht (by omega) hB) (ho.below hih hB))
  clear ht ho hl
  go_enter Tryz.func11, Tryz.ntmps11
  go_wp2_with fail
  refine HM.out.mono ?_
  rintro e w1 ⟨⟨v, rfl, hv⟩, hmid⟩
  have HMM := hid (mid_trans (mid_below hB) hmid)
  clear hmid
  go_wp2_with fail
  go_ret
  exact ⟨⟨_, rfl, hv⟩, HMM.out⟩
end Go.Proofs.YtnaobljoopjhgaaGreat
namespace Go.Proofs.YtnaobljoopjhgaaGreat
open Go.RowKit
set_option linter.unusedVariables false
theorem bgrownr {w a b : World} {r : Option Nat} (h : Below w.heap.size w a) (hg : a.grownBy b r) (hp : ∀ c, r = some c → w.heap.size ≤ c) : Below w.heap.size w b :=
  h.grown hg h.size hp
/-- Rows that may be written into, from block B on, below hi. -/
def Own3 (hi : Nat) (w : World) (B : Nat) (rs : List Rw) : Prop := B < hi ∧ hi ≤ w.heap.size ∧ w.there B 0 (rs.length * 5) ∧ RwsO hi w B rs
theorem Own3.below {hi : Nat} {w w' : World} {B : Nat} {rs : List Rw} (h : Own3 hi w B rs) (H : Below w.heap.size w w') : Own3 hi w' B rs :=
  ⟨h.1, Nat.le_trans h.2.1 H.size, there_below h.2.2.1 (Nat.lt_of_lt_of_le h.1 h.2.1) H, h.2.2.2.below h.2.1 H⟩
theorem mid_ownI {lo hi : Nat} {w w' : World} {a : Option Addr} {zs : List Int} (k : Mid lo hi w w') (h : OwnI w a zs) (ha : ∀ c off, a = some ⟨c, off, none⟩ → c < lo ∨ hi ≤ c) : OwnI w' a zs :=
  h.blk k.2.2.2.1 (fun b off e => mid_blk k (h.lt b off e) (ha b off e))
theorem nrb_len (now : Int) (rs : List Rw) (t px py most : Int) : (nrb now rs t px py most).length ≤ 300 := by
  unfold nrb
  split
  · rename_i h
    rw [near_len]
    omega
  · simp
theorem IAR.ia {w w' : World} {zs : List Int} {e : Ending} (h : IAR w zs e w') : IA w zs e w' := by
  obtain ⟨v, rfl, ⟨g, cap, rfl, h1, h2, h3⟩, hb⟩ := h
  have h4 := own_I h3 rfl
  exact ⟨_, cap, rfl, h4.2.2, (fun b off e => by cases e; exact h4.1), hb⟩
theorem impl_Nearest {N : Nat → Prop} (now : Int) (a : Option Addr) (cap : Nat) (rs : List Rw) (t px py most : Int) (w : World) (hm : rs.length ≤ 1099511627776) (h : Rws N w a rs) : Calls Tryz.prog 8 #[.agg #[.int .i64 now, .slice a rs.length cap], .int .i64 t, .agg #[.int .i64 px, .int .i64 py], .int .i64 most] w fun e w' => IA w (nrb now rs t px py most) e w' := by
  by_cases c : pok px py = true ∧ 0 ≤ most ∧ most ≤ 300
  · exact impl_NearestYes now a cap rs t px py most w hm h c.1 c.2.1 c.2.2
  · exact impl_NearestNo (N := N) now a cap rs t px py most w c
end Go.Proofs.YtnaobljoopjhgaaGreat
namespace Go.Proofs.YtnaobljoopjhgaaGreat
open Go.RowKit
set_option linter.unusedSimpArgs false
set_option linter.unusedVariables false
/-- A row at a place, of any length. -/
def RwL (w : World) (b o : Nat) (r : Rw) : Prop :=
  ∃ a cap, w.cell? ⟨b, o, none⟩ = some (.int .i64 r.1) ∧ w.cell? ⟨b, o + 1, none⟩ = some (.int .i64 r.2.1) ∧ w.cell? ⟨b, o + 2, none⟩ = some (.int .i64 r.2.2.1) ∧ w.cell? ⟨b, o + 3, none⟩ = some (.int .i64 r.2.2.2.1) ∧ w.cell? ⟨b, o + 4, none⟩ = some (.slice a r.2.2.2.2.length cap) ∧ r.2.2.2.2.length ≤ cap ∧ r.2.2.2.2.length ≤ 9223372036854775807 ∧ Pts w a r.2.2.2.2
def RwsL (w : World) (a : Option Addr) (rs : List Rw) : Prop := rs = [] ∨ ∃ b o, a = some ⟨b, o, none⟩ ∧ b < w.heap.size ∧ ∀ j (h : j < rs.length), RwL w b (o + j * 5) rs[j]
theorem RwL.below {w w' : World} {b o : Nat} {r : Rw} (hb : b < w.heap.size) (h : RwL w b o r) (H : Below w.heap.size w w') : RwL w' b o r := by
  obtain ⟨a, cap, h0, h1, h2, h3, h4, h5, h6, h7⟩ := h
  exact ⟨a, cap, keepcell H h0, keepcell H h1, keepcell H h2, keepcell H h3, keepcell H h4, h5, h6, h7.below H⟩
theorem RwsL.below {w w' : World} {a : Option Addr} {rs : List Rw} (h : RwsL w a rs) (H : Below w.heap.size w w') : RwsL w' a rs := by
  rcases h with h | ⟨b, o, h1, h2, h3⟩
  · exact .inl h
  · exact .inr ⟨b, o, h1, Nat.lt_of_lt_of_le h2 H.size, fun j hj => (h3 j hj).below h2 H⟩
theorem RwsL.at {w : World} {a : Option Addr} {rs : List Rw} (h : RwsL w a rs) (j : Nat) (hj : j < rs.length) : ∃ b o, a = some ⟨b, o, none⟩ ∧ b < w.heap.size ∧ RwL w b (o + j * 5) rs[j] := by
  rcases h with h | ⟨b, o, h1, h2, h3⟩
  · subst h; exact absurd hj (by simp)
  · exact ⟨b, o, h1, h2, h3 j hj⟩
theorem RwsL.rws {w : World} {a : Option Addr} {rs : List Rw} (h : RwsL w a rs) (hl : ∀ m (h : m < rs.length), rs[m].2.2.2.2.length ≤ 1048576) : Rws (fun _ => True) w a rs := by
  rcases h with h | ⟨b, o, h1, h2, h3⟩
  · exact .inl h
  · refine .inr ⟨b, o, h1, h2, fun j hj => ?_⟩
    obtain ⟨a, cap, k0, k1, k2, k3, k4, k5, k6, k7⟩ := h3 j hj
    have := hl j hj
    exact ⟨a, cap, k0, k1, k2, k3, k4, k5, by omega, k7, fun _ _ _ => trivial⟩
set_option maxHeartbeats 1000000 in
theorem sz_rowL (r : Rw) (a : Option Addr) (cap : Nat) (left : Int) (w : World) (hm : r.2.2.2.2.length ≤ 9223372036854775807) (h0 : 0 ≤ left) (h1 : left ≤ 1048576) : Calls Tryz.prog 31 #[rwv r a cap, .int .i64 left] w fun e w' => (∃ v : Int, e = .returned (.int .i64 v) ∧ (v = -1 ∨ (0 ≤ v ∧ v ≤ 1048576 ∧ r.2.2.2.2.length ≤ 1048576))) ∧ Below w.heap.size w w' := by
  obtain ⟨id, fr, te, kd, ps⟩ := r
  unfold rwv
  simp only at *
  by_cases h : left < (ps.length : Int)
  · go_enter Tryz.func31, Tryz.ntmps31
    go_wp2_with fail
    refine (szs_big kd a ps.length cap left _ (by omega) h0 h1 h).mono ?_
    rintro e w1 ⟨rfl, hb⟩
    go_wp2_with fail
    go_ret
    exact ⟨⟨_, rfl, .inl rfl⟩, btrans (balloc (Below.refl _ _) _) hb⟩
  · have h2 : ¬ (left - (ps.length : Int) < 0) := by omega
    go_enter Tryz.func31, Tryz.ntmps31
    go_wp2_with fail
    refine (szs_ok kd a ps.length cap left _ h0 h1 (by omega)).mono ?_
    rintro e w1 ⟨rfl, hb⟩
    go_wp2_with fail
    go_ret
    exact ⟨⟨_, rfl, .inr ⟨by omega, by omega, by omega⟩⟩, btrans (balloc (Below.refl _ _) _) hb⟩
set_option maxHeartbeats 1000000 in
theorem sz_rowsL (a : Option Addr) (cap : Nat) (rs : List Rw) (left : Int) (w : World) (hm : rs.length ≤ 9223372036854775807) (h0 : 0 ≤ left) (h1 : left ≤ 1048576) (h : RwsL w a rs) : Calls Tryz.prog 14 #[.slice a rs.length cap, .int .i64 left] w fun e w' => (∃ v : Int, e = .returned (.int .i64 v) ∧ (v = -1 ∨ (0 ≤ v ∧ v ≤ 1048576 ∧ Hid (rs.length ≤ 1048576 ∧ ∀ m (h : m < rs.length), rs[m].2.2.2.2.length ≤ 1048576)))) ∧ Below w.heap.size w w' := by
  have HR := hid h
  clear h
  by_cases hb : left < (rs.length : Int)
  · have h2 : left - (rs.length : Int) < 0 := by omega
    go_enter Tryz.func14, Tryz.ntmps14
    go_wp2_with fail
    go_ret
    exact ⟨⟨_, rfl, .inl rfl⟩, Below.refl _ _⟩
  · have h2 : ¬ (left - (rs.length : Int) < 0) := by omega
    go_enter Tryz.func14, Tryz.ntmps14
    go_wp2_with fail
    go_loopw [5, 1] (fun ti tl wr => ∃ j : Nat, ∃ l : Int, ti = .int .i64 j ∧ tl = .int .i64 l ∧ j ≤ rs.length ∧ 0 ≤ l ∧ l ≤ 1048576 ∧ Hid (∀ m (h : m < rs.length), m < j → rs[m].2.2.2.2.length ≤ 1048576) ∧ Hid (Below w.heap.size w wr)) (fun ti _ _ => rs.length - (intOf ti).toNat)
    case atStart => exact ⟨0, _, rfl, rfl, Nat.zero_le _, by omega, by omega, hid (fun m h hh => absurd hh (by omega)), hid (Below.refl _ _)⟩
    case round =>
      obtain ⟨j, l, rfl, rfl, hj, hl0, hl1, HM, HB⟩ := hrel
      by_cases hlt : j < rs.length
      · have c1 : (j : Int) < (rs.length : Int) := by omega
        obtain ⟨b, o, rfl, hbs, hr⟩ := (HR.out.below HB.out).at j hlt
        have hmr : rs[j].2.2.2.2.length ≤ 9223372036854775807 := by obtain ⟨_, _, _, _, _, _, _, _, h6, _⟩ := hr; exact h6
        have HX : Hid (rs[j].2.2.2.2.length ≤ 1048576 → ∀ m (h : m < rs.length), m < j + 1 → rs[m].2.2.2.2.length ≤ 1048576) := hid (fun hx m h hm => by
          by_cases e : m = j
          · subst e; exact hx
          · exact HM.out m h (by omega))
        obtain ⟨a', cap', k0, k1, k2, k3, k4, k5, k6, k7⟩ := hr
        have S := hid (fun w' => sz_rowL rs[j] a' cap' l w' hmr hl0 hl1)
        unfold rwv at S
        generalize rs[j].1 = id at *
        generalize rs[j].2.1 = fr at *
        generalize rs[j].2.2.1 = te at *
        generalize rs[j].2.2.2.1 = kd at *
        generalize rs[j].2.2.2.2 = ps at *
        clear k7 k5 k6 hmr
        go_wp2_with fail
        refine (S.out _).mono ?_
        rintro e w1 ⟨⟨v, rfl, hv⟩, hb1⟩
        have hB := btrans HB.out hb1
        rcases hv with rfl | ⟨hv0, hv1, hv3⟩
        · go_wp2_with fail
          go_ret
          exact ⟨⟨_, rfl, .inl rfl⟩, hB⟩
        · have hv2 : ¬ v < 0 := by omega
          have HX2 := hid (HX.out hv3)
          clear hv3
          go_wp2_with fail
          go_roundw
          case rel => exact ⟨j + 1, v, by go_num, rfl, by omega, hv0, hv1, HX2, hid hB⟩
          case measure => simp [intOf]; omega
      · have c1 : (rs.length : Int) ≤ (j : Int) := by omega
        go_wp2_with fail
        go_ret
        exact ⟨⟨_, rfl, .inr ⟨hl0, hl1, hid ⟨by omega, fun m h => HM.out m h (by omega)⟩⟩⟩, HB.out⟩
set_option maxHeartbeats 1000000 in
theorem sz_allL (now : Int) (a : Option Addr) (cap : Nat) (rs : List Rw) (w : World) (hm : rs.length ≤ 9223372036854775807) (h : RwsL w a rs) : Calls Tryz.prog 4 #[.agg #[.int .i64 now, .slice a rs.length cap], .int .i64 1048576] w fun e w' => (∃ v : Int, e = .returned (.int .i64 v) ∧ (v = -1 ∨ (0 ≤ v ∧ v ≤ 1048576 ∧ Hid (rs.length ≤ 1048576 ∧ ∀ m (h : m < rs.length), rs[m].2.2.2.2.length ≤ 1048576)))) ∧ Below w.heap.size w w' := by
  have HR := hid (fun (W : World) (hb : Below w.heap.size w W) => sz_rowsL a cap rs 1048576 W hm (by omega) (by omega) (h.below hb))
  clear h
  obtain ⟨G, hG⟩ : ∃ G : Prop, G = (rs.length ≤ 1048576 ∧ ∀ m (h : m < rs.length), rs[m].2.2.2.2.length ≤ 1048576) := ⟨_, rfl⟩
  have HR2 : Hid (∀ (W : World), Below w.heap.size w W → Calls Tryz.prog 14 #[.slice a rs.length cap, .int .i64 1048576] W fun e w' => (∃ v : Int, e = .returned (.int .i64 v) ∧ (v = -1 ∨ (0 ≤ v ∧ v ≤ 1048576 ∧ Hid G))) ∧ Below W.heap.size W w') := hid (by rw [hG]; exact HR.out)
  rw [← hG]
  clear hG HR
  generalize rs.length = n at *
  go_enter Tryz.func4, Tryz.ntmps4
  go_wp2_with fail
  refine (HR2.out _ (balloc (Below.refl _ _) _)).mono ?_
  rintro e w1 ⟨⟨v, rfl, hv⟩, hb⟩
  have hB := btrans (balloc (Below.refl _ w) _) hb
  rcases hv with rfl | ⟨hv0, hv1, HV⟩
  · go_wp2_with fail
    go_ret
    exact ⟨⟨_, rfl, .inl rfl⟩, hB⟩
  · have hv2 : ¬ v < 0 := by omega
    go_wp2_with fail
    go_ret
    exact ⟨⟨_, rfl, .inr ⟨hv0, hv1, HV⟩⟩, hB⟩
theorem cellsRow : Tryz.prog.cellsOf 73 = 5 := by kernel_rfl
theorem cellsShape : Tryz.prog.cellsOf 71 = 2 := by kernel_rfl
theorem cellsPoint : Tryz.prog.cellsOf 26 = 2 := by kernel_rfl
theorem open_points {H : Type} {enc : TypeId × Value → H} {W : World} {base fuel : Nat} {v : Value} {x : DataW H × List MemPlace} (h : DataW.trod enc Tryz.prog W base (fun _ => true) true fuel 69 [v] = some x) : ∃ (a : Option Addr) (cap : Nat) (ps : List (Int × Int)), v = .slice a ps.length cap ∧ PtsIn W a cap ps := by
  rcases Go.Deep.open_slice_pairs Tryz.underlying69 Tryz.underlying26 cellsPoint rfl rfl (by kernel_rfl) (by kernel_rfl) h with ⟨hcs, _⟩ | ⟨x, l, c, m, n, V0, V1, D0, D1, P0, P1, hcs, _, hl, hm, hmm, _, hall⟩
  · simp at hcs
    exact ⟨none, 0, [], hcs, ptsIn_nil _ _⟩
  · simp at hcs
    obtain ⟨ps, hp, hw⟩ := ptsIn_of hl hm (fun j hj => by
      obtain ⟨h1, h2, h3, h4⟩ := hall j (by rw [hmm]; simp; omega)
      obtain ⟨z0, e0, _, y0⟩ := DataW.trod_int Tryz.underlying3 h3
      obtain ⟨z1, e1, _, y1⟩ := DataW.trod_int Tryz.underlying3 h4
      simp at e0 e1
      exact ⟨z0, z1, by rw [h1, e0], by rw [h2, e1], y0, y1⟩)
    exact ⟨some x, c, ps, by rw [hcs, hp], hw⟩
set_option maxRecDepth 100000 in
theorem open_row {H : Type} {enc : TypeId × Value → H} {W : World} {base fuel : Nat} {cs : List Value} {x : DataW H × List MemPlace} (h : DataW.trod enc Tryz.prog W base (fun _ => true) true fuel 73 cs = some x) : ∃ (r : Rw) (a : Option Addr) (cap : Nat), cs = [.int .i64 r.1, .int .i64 r.2.1, .int .i64 r.2.2.1, .int .i64 r.2.2.2.1, .slice a r.2.2.2.2.length cap] ∧ PtsIn W a cap r.2.2.2.2 := by
  obtain ⟨xs, n, _, _, hlen, hxl, hf⟩ := DataW.trod_struct Tryz.underlying73 h
  rw [cellsRow] at hlen
  match xs, hxl, cs, hlen with
  | [y0, y1, y2, y3], _, [v0, v1, v2, v3, v4], _ =>
    have g0 : DataW.trod enc Tryz.prog W base (fun _ => true) true n 3 (([v0, v1, v2, v3, v4].drop 0).take (Tryz.prog.cellsOf 3)) = some y0 := hf 0 _ rfl
    have g1 : DataW.trod enc Tryz.prog W base (fun _ => true) true n 3 (([v0, v1, v2, v3, v4].drop 1).take (Tryz.prog.cellsOf 3)) = some y1 := hf 1 _ rfl
    have g2 : DataW.trod enc Tryz.prog W base (fun _ => true) true n 3 (([v0, v1, v2, v3, v4].drop 2).take (Tryz.prog.cellsOf 3)) = some y2 := hf 2 _ rfl
    have g3 : DataW.trod enc Tryz.prog W base (fun _ => true) true n 71 (([v0, v1, v2, v3, v4].drop 3).take (Tryz.prog.cellsOf 71)) = some y3 := hf 3 _ rfl
    rw [show Tryz.prog.cellsOf 3 = 1 by kernel_rfl] at g0 g1 g2
    rw [cellsShape] at g3
    simp at g0 g1 g2 g3
    obtain ⟨z0, e0, _, _⟩ := DataW.trod_int Tryz.underlying3 g0
    obtain ⟨z1, e1, _, _⟩ := DataW.trod_int Tryz.underlying3 g1
    obtain ⟨z2, e2, _, _⟩ := DataW.trod_int Tryz.underlying3 g2
    obtain ⟨xs', n', _, _, _, hxl', hf'⟩ := DataW.trod_struct Tryz.underlying71 g3
    match xs', hxl' with
    | [u0, u1], _ =>
      have q0 : DataW.trod enc Tryz.prog W base (fun _ => true) true n' 3 (([v3, v4].drop 0).take (Tryz.prog.cellsOf 3)) = some u0 := hf' 0 _ rfl
      have q1 : DataW.trod enc Tryz.prog W base (fun _ => true) true n' 69 (([v3, v4].drop 1).take (Tryz.prog.cellsOf 69)) = some u1 := hf' 1 _ rfl
      rw [show Tryz.prog.cellsOf 3 = 1 by kernel_rfl] at q0
      rw [show Tryz.prog.cellsOf 69 = 1 by kernel_rfl] at q1
      simp at q0 q1
      obtain ⟨z3, e3, _, _⟩ := DataW.trod_int Tryz.underlying3 q0
      obtain ⟨a, cap, ps, e4, hp⟩ := open_points q1
      simp at e0 e1 e2 e3
      exact ⟨(z0, z1, z2, z3, ps), a, cap, by simp [e0, e1, e2, e3, e4], hp⟩
theorem open_rows {H : Type} {enc : TypeId × Value → H} {W : World} {base fuel : Nat} {v : Value} {x : DataW H × List MemPlace} (h : DataW.trod enc Tryz.prog W base (fun _ => true) true fuel 22 [v] = some x) : ∃ (a : Option Addr) (cap : Nat) (rs : List Rw), v = .slice a rs.length cap ∧ rs.length ≤ 9223372036854775807 ∧ RwsL W a rs := by
  rcases Go.Deep.open_slice Tryz.underlying22 h with ⟨hcs, _⟩ | ⟨a, len, cap, m, n, D, Pl, hcs, _, hl, hm, hmm, _, hall⟩
  · simp at hcs
    exact ⟨none, 0, [], hcs, by simp, .inl rfl⟩
  · simp at hcs
    have hlm : len ≤ m := by rw [hmm]; simp; exact hl
    have hM : len ≤ 9223372036854775807 := Nat.le_trans hl hm
    by_cases h0 : len = 0
    · subst h0
      exact ⟨some a, cap, [], hcs, by simp, .inl rfl⟩
    rw [cellsRow] at hall
    have each : ∀ j : Nat, ∃ r : Rw, j < len → ∃ (a' : Option Addr) (cap' : Nat), W.cells? base (a.add (j * 5)) 5 = some [.int .i64 r.1, .int .i64 r.2.1, .int .i64 r.2.2.1, .int .i64 r.2.2.2.1, .slice a' r.2.2.2.2.length cap'] ∧ PtsIn W a' cap' r.2.2.2.2 := by
      intro j
      by_cases hj : j < len
      · obtain ⟨cs', h1, h2⟩ := hall j (by omega)
        obtain ⟨r, a', cap', e, hp⟩ := open_row h2
        subst e
        exact ⟨r, fun _ => ⟨a', cap', h1, hp⟩⟩
      · exact ⟨(0, 0, 0, 0, []), fun h' => absurd h' hj⟩
    have ⟨f, hf⟩ := Classical.axiomOfChoice each
    have hspot : a.spot = none := by
      obtain ⟨_, _, h1, _⟩ := hf 0 (by omega)
      have h00 := (World.cells?_some h1).2.2 0 (by omega)
      simp only [Nat.zero_mul, Addr.add, if_true] at h00
      unfold World.cell? at h00
      split at h00
      · split at h00
        · cases h00
        · rename_i q; simpa using q
      · cases h00
    obtain ⟨b, o, s⟩ := a
    simp only at hspot
    subst hspot
    have hblk : b < W.heap.size := by
      obtain ⟨_, _, h1, _⟩ := hf 0 (by omega)
      have h00 := (World.cells?_some h1).2.2 0 (by omega)
      rw [Go.Deep.add_add, Addr.add_mid] at h00
      exact World.block_lt_of_cell? W _ (h00.trans rfl)
    refine ⟨some ⟨b, o, none⟩, cap, (List.range len).map f, by simpa using hcs, by simpa using hM, .inr ⟨b, o, rfl, hblk, fun j hj => ?_⟩⟩
    simp only [List.length_map, List.length_range] at hj
    have e : ((List.range len).map f)[j]'(by simpa using hj) = f j := by simp
    rw [e]
    obtain ⟨a', cap', h1, hp⟩ := hf j hj
    have hc := (World.cells?_some h1).2.2
    have c0 := hc 0 (by omega)
    have c1 := hc 1 (by omega)
    have c2 := hc 2 (by omega)
    have c3 := hc 3 (by omega)
    have c4 := hc 4 (by omega)
    rw [Go.Deep.add_add, Addr.add_mid] at c0 c1 c2 c3 c4
    exact ⟨a', cap', c0, c1, c2, c3, c4, hp.2.1, Nat.le_trans hp.2.1 hp.2.2, hp.1⟩
end Go.Proofs.YtnaobljoopjhgaaGreat
