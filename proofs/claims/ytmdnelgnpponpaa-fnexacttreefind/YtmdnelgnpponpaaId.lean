/- The specification's walk down a tree. -/
import Derived.Test.YtmdnelgnpponpaaIc
import Derived.BigQuiet
namespace Go.Proofs.Ytmdnelgnpponpaa
open Go.RowKit Go.Shelf
set_option linter.unusedSimpArgs false
set_option linter.unusedVariables false
set_option maxRecDepth 100000 in
set_option maxHeartbeats 8000000 in
theorem walk_step (b : Bx) (n : Nat) (IH : ∀ n', n = n' + 1 → ∀ (lo : Nat) (t : KT) (ia ka : Option Addr) (w : World), Kn lo (n' + 1) w ia ka t → ksz (n' + 1) t ≤ 1048576 → Calls Try.prog 44 #[kvo t ia ka, .agg #[.int .i64 b.1, .int .i64 b.2.1, .int .i64 b.2.2.1, .int .i64 b.2.2.2]] w fun e w' => ∃ g c zs, e = .returned (.tuple #[.slice (some ⟨g, 0, none⟩) zs.length c, .int .i64 (kns (pw b) n' t).length]) ∧ SPx zs ((fnd b (kns (pw b) n' t)).map Prod.fst) ∧ OwI w' w.heap.size g c zs ∧ Below w.heap.size w w')
    (lo : Nat) (t : KT) (ia ka : Option Addr) (w : World) (h : Kn lo (n + 1) w ia ka t) (hz : ksz (n + 1) t ≤ 1048576) : Calls Try.prog 44 #[kvo t ia ka, .agg #[.int .i64 b.1, .int .i64 b.2.1, .int .i64 b.2.2.1, .int .i64 b.2.2.2]] w fun e w' => ∃ g c zs, e = .returned (.tuple #[.slice (some ⟨g, 0, none⟩) zs.length c, .int .i64 (kns (pw b) n t).length]) ∧ SPx zs ((fnd b (kns (pw b) n t)).map Prod.fst) ∧ OwI w' w.heap.size g c zs ∧ Below w.heap.size w w' := by
  have hkl := kns_len b (n + 1) n h
  have hmb : t.its.length ≤ 1048576 ∧ t.kids.length ≤ 1048576 := by
    have e : ksz (n + 1) t = t.its.length + t.kids.length + (t.kids.map (ksz n)).sum := rfl
    omega
  obtain ⟨bi, bk, rfl, rfl, hl1, hl2, hIO, hbk, hth, hKD⟩ := h
  obtain ⟨b0, b1, b2, b3, b4, ni, nk, hf⟩ := kf t
  rw [kvo_of hf]
  rw [hf.its, hf.kids] at hmb
  have HNI := hid hf.its
  have HNK := hid hf.kids
  have HKZ := hid (fun k (hk : k < t.kids.length) => Nat.le_trans (ksz_kid (n := n) (List.getElem_mem hk)) hz)
  have HIO := hid hIO
  have HKD := hid hKD
  have HKL := hid hkl
  have HZ := hid hz
  have HIH := hid IH
  have hfin : 1 + kof (pw b) (n - 1) t t.kids.length = (kns (pw b) n t).length ∧ prt b (n - 1) t t.kids.length = (fnd b (kns (pw b) n t)).map Prod.fst := by
    cases n with
    | zero =>
      have hk0 : t.kids = [] := by
        cases hk : t.kids with
        | nil => rfl
        | cons x r =>
          obtain ⟨_, _, _, hff⟩ := hKD 0 (by rw [hk]; simp)
          exact hff.elim
      unfold kof prt fnd
      rw [hk0]
      simp [kns]
    | succ n => exact ⟨kof_all (pw b) n t, prt_all b n t⟩
  have HFIN := hid hfin
  clear hfin
  obtain ⟨hmb1, hmb2⟩ := hmb
  clear hf hIO hKD hkl hth hz IH
  obtain ⟨e0, e1, e2, e3⟩ := b
  simp only []
  have CB := hid (fun (x : Bx) (W : World) => spec_BoxMeets x.1 x.2.1 x.2.2.1 x.2.2.2 e0 e1 e2 e3 W)
  change Hid (∀ (x : Bx) W, Calls _ _ _ W (fun e' w' => e' = .returned (.bool (btb x (e0, e1, e2, e3))) ∧ Below W.heap.size W w')) at CB
  have gT := hid (old_alloc (o' := (.cells #[.int .i64 e0, .int .i64 e1, .int .i64 e2, .int .i64 e3] 30)) (new_alloc w w.heap.size (.cells #[.int .i64 b0, .int .i64 b1, .int .i64 b2, .int .i64 b3, .bool b4, .slice (some ⟨bi, 0, none⟩) ni ni, .slice (some ⟨bk, 0, none⟩) nk nk] 34) rfl))
  have gB := hid (new_alloc (w.alloc (.cells #[.int .i64 b0, .int .i64 b1, .int .i64 b2, .int .i64 b3, .bool b4, .slice (some ⟨bi, 0, none⟩) ni ni, .slice (some ⟨bk, 0, none⟩) nk nk] 34)) (w.heap.size + 1) (.cells #[.int .i64 e0, .int .i64 e1, .int .i64 e2, .int .i64 e3] 30) (by simp))
  have B0 := hid (balloc (balloc (Below.refl w.heap.size w) (.cells #[.int .i64 b0, .int .i64 b1, .int .i64 b2, .int .i64 b3, .bool b4, .slice (some ⟨bi, 0, none⟩) ni ni, .slice (some ⟨bk, 0, none⟩) nk nk] 34)) (.cells #[.int .i64 e0, .int .i64 e1, .int .i64 e2, .int .i64 e3] 30))
  have hO0 := World.ownsRow_made (base := w.heap.size) (e := 3) (size := 1) ((w.alloc (.cells #[.int .i64 b0, .int .i64 b1, .int .i64 b2, .int .i64 b3, .bool b4, .slice (some ⟨bi, 0, none⟩) ni ni, .slice (some ⟨bk, 0, none⟩) nk nk] 34)).alloc (.cells #[.int .i64 e0, .int .i64 e1, .int .i64 e2, .int .i64 e3] 30)) #[] 0 (by simp; omega) (by decide) rfl
  have O0 : OwI (((w.alloc (.cells #[.int .i64 b0, .int .i64 b1, .int .i64 b2, .int .i64 b3, .bool b4, .slice (some ⟨bi, 0, none⟩) ni ni, .slice (some ⟨bk, 0, none⟩) nk nk] 34)).alloc (.cells #[.int .i64 e0, .int .i64 e1, .int .i64 e2, .int .i64 e3] 30)).alloc (.cells #[] 3)) w.heap.size ((w.alloc (.cells #[.int .i64 b0, .int .i64 b1, .int .i64 b2, .int .i64 b3, .bool b4, .slice (some ⟨bi, 0, none⟩) ni ni, .slice (some ⟨bk, 0, none⟩) nk nk] 34)).alloc (.cells #[.int .i64 e0, .int .i64 e1, .int .i64 e2, .int .i64 e3] 30)).heap.size 0 [] := hO0
  go_enter Try.func44, Try.ntmps44
  go_wp2_with fail
  replace gT := hid (old_alloc (o' := .cells #[] 3) gT.out)
  replace gB := hid (old_alloc (o' := .cells #[] 3) gB.out)
  replace B0 := hid (balloc B0.out (.cells #[] 3))
  have hszz : ((w.alloc (.cells #[.int .i64 b0, .int .i64 b1, .int .i64 b2, .int .i64 b3, .bool b4, .slice (some ⟨bi, 0, none⟩) ni ni, .slice (some ⟨bk, 0, none⟩) nk nk] 34)).alloc (.cells #[.int .i64 e0, .int .i64 e1, .int .i64 e2, .int .i64 e3] 30)).heap.size = w.heap.size + 1 + 1 := by simp
  rw [hszz] at O0
  generalize ((w.alloc (.cells #[.int .i64 b0, .int .i64 b1, .int .i64 b2, .int .i64 b3, .bool b4, .slice (some ⟨bi, 0, none⟩) ni ni, .slice (some ⟨bk, 0, none⟩) nk nk] 34)).alloc (.cells #[.int .i64 e0, .int .i64 e1, .int .i64 e2, .int .i64 e3] 30)).alloc (.cells #[] 3) = v0 at *
  clear hO0 hszz
  go_loopw [6, 8] (fun t6 t8 wr => ∃ (k g c : Nat) (zs : List Int), t8 = .int .i64 k ∧ k ≤ ni ∧ t6 = .slice (some ⟨g, 0, none⟩) zs.length c ∧ Hid (SPx zs (((t.its.take k).filter (fun x => btb x.2 (e0, e1, e2, e3))).map Prod.fst)) ∧ Hid (OwI wr w.heap.size g c zs) ∧ Hid (wr.heap[w.heap.size]? = some (.cells #[.int .i64 b0, .int .i64 b1, .int .i64 b2, .int .i64 b3, .bool b4, .slice (some ⟨bi, 0, none⟩) ni ni, .slice (some ⟨bk, 0, none⟩) nk nk] 34 (0, 0))) ∧ Hid (wr.heap[w.heap.size + 1]? = some (.cells #[.int .i64 e0, .int .i64 e1, .int .i64 e2, .int .i64 e3] 30 (0, 0))) ∧ Hid (Below w.heap.size w wr)) (fun _ t8 _ => ni - (intOf t8).toNat)
  case atStart => exact ⟨0, w.heap.size + 1 + 1, 0, [], rfl, Nat.zero_le _, rfl, hid ⟨List.Pairwise.nil, by simp⟩, hid O0, gT, gB, B0⟩
  case round =>
    clear gT gB B0 O0 v0
    obtain ⟨k, g, c, zs, rfl, hk, rfl, HS, HO, gT, gB, HB⟩ := hrel
    obtain ⟨a0, a1, a2, a3, a4, a5, a6, _, _, _, _, _, _, _⟩ := cell7k gT.out
    obtain ⟨y0, y1, y2, y3, _, _, _, _⟩ := cell4b gB.out
    have hzl : zs.length ≤ 1048576 := by
      have h1 := HS.out.2.length_eq
      rw [List.length_map] at h1
      have h2 := List.length_filter_le (fun x : It => btb x.2 (e0, e1, e2, e3)) (t.its.take k)
      rw [List.length_take] at h2
      omega
    by_cases hlt : k < ni
    · have c1 : (k : Int) < (ni : Int) := by omega
      have hkt : k < t.its.length := by rw [HNI.out]; exact hlt
      obtain ⟨z0, z1, z2, z3, z4⟩ := ((HIO.out.2.1 k hkt).below HIO.out.1 HB.out).item
      have hnx : ((t.its.take (k + 1)).filter (fun x => btb x.2 (e0, e1, e2, e3))).map Prod.fst = ((t.its.take k).filter (fun x => btb x.2 (e0, e1, e2, e3))).map Prod.fst ++ (if btb t.its[k].2 (e0, e1, e2, e3) = true then [t.its[k].1] else []) := by
        rw [List.take_add_one, List.getElem?_eq_getElem hkt, Option.toList_some, List.filter_append, List.map_append]
        by_cases hp : btb t.its[k].2 (e0, e1, e2, e3) = true
        · simp [List.filter_cons, hp]
        · simp [List.filter_cons, hp]
      have HNX := hid hnx
      clear hnx
      generalize ((t.its.take k).filter (fun x => btb x.2 (e0, e1, e2, e3))).map Prod.fst = ids at *
      generalize t.its[k] = xx at *
      obtain ⟨iid, x0, x1, x2, x3⟩ := xx
      simp only [] at z0 z1 z2 z3 z4
      have CX := hid (CB.out (x0, x1, x2, x3))
      simp only [] at HNX
      generalize btb (x0, x1, x2, x3) (e0, e1, e2, e3) = mt at *
      go_upto_region 5 with fail
      go_region_held3 (fun w' => w'.cell? ⟨w.heap.size, 5, none⟩ = some (.slice (some ⟨bi, 0, none⟩) ni ni) ∧ w'.cell? ⟨bi, k * 5 + 1, none⟩ = some (.int .i64 x0) ∧ w'.cell? ⟨bi, k * 5 + 2, none⟩ = some (.int .i64 x1) ∧ w'.cell? ⟨bi, k * 5 + 3, none⟩ = some (.int .i64 x2) ∧ w'.cell? ⟨bi, k * 5 + 4, none⟩ = some (.int .i64 x3) ∧ w'.cell? ⟨w.heap.size + 1, 0, none⟩ = some (.int .i64 e0) ∧ w'.cell? ⟨w.heap.size + 1, 1, none⟩ = some (.int .i64 e1) ∧ w'.cell? ⟨w.heap.size + 1, 2, none⟩ = some (.int .i64 e2) ∧ w'.cell? ⟨w.heap.size + 1, 3, none⟩ = some (.int .i64 e3)) ((go_split_ands; (repeat' apply And.intro) <;> (repeat (first | with_reducible assumption | with_reducible refine keepdrew ?_ | with_reducible exact keepcell hv1 (by with_reducible assumption)))))
        (first
          | (go_at_call 61; refine (CX.out _).mono ?_; rintro e w1 ⟨rfl, hb1⟩; have hv1 : Below wr.heap.size wr w1 := btrans (bdrew (Below.refl _ _)) hb1))
      replace gT := hid (keepheap hv1 gT.out)
      replace gB := hid (keepheap hv1 gB.out)
      replace HO := hid (HO.out.below hv1)
      replace HB := hid (btrans HB.out hv1)
      replace z0 := keepcell hv1 z0
      clear z1 z2 z3 z4 a0 a1 a2 a3 a4 a5 a6 y0 y1 y2 y3 hb1 hv1 CX
      obtain ⟨a0, a1, a2, a3, a4, a5, a6, _, _, _, _, _, _, _⟩ := cell7k gT.out
      cases mt
      · go_wp2_with fail
        go_roundw
        case rel => exact ⟨k + 1, g, c, zs, by go_num, by omega, rfl, hid (by rw [HNX.out]; simpa using HS.out), HO, gT, gB, HB⟩
        case measure => simp [intOf]; omega
      · have CA := hid (add_sp w.heap.size g c zs ids iid w1 (by omega) HO.out HS.out)
        go_wp2_with fail
        refine CA.out.mono ?_
        rintro e w2 ⟨g', c', zs', rfl, hs', hl', ho', hb2⟩
        have hsw := HB.out.size
        have HS' := hid hs'
        have HO' := hid (ho'.base hsw)
        replace gT := hid (keepheap hb2 gT.out)
        replace gB := hid (keepheap hb2 gB.out)
        replace HB := hid (btrans HB.out hb2)
        clear hs' hl' ho' hb2 CA HO HS
        go_wp2_with fail
        go_roundw
        case rel => exact ⟨k + 1, g', c', zs', by go_num, by omega, rfl, hid (by rw [HNX.out]; simpa using HS'.out), HO', gT, gB, HB⟩
        case measure => simp [intOf]; omega
    · have c1 : ¬ (k : Int) < (ni : Int) := by omega
      have hall : t.its.take k = t.its := List.take_of_length_le (by rw [HNI.out]; omega)
      have HS0 : Hid (SPx zs (prt (e0, e1, e2, e3) (n - 1) t 0)) := hid (by rw [prt_zero]; have := HS.out; rw [hall] at this; exact this)
      clear hall HS
      have H0F := HFIN.out
      go_wp2_with fail
      clear a0 a1 a2 a3 a4 a5 a6 y0 y1 y2 y3 hzl
      have hsw0 := HB.out.size
      clear H0F
      go_loopw [6, 7, 9] (fun t6 t7 t9 wr => ∃ (k g c : Nat) (zs : List Int), t9 = .int .i64 k ∧ k ≤ nk ∧ t6 = .slice (some ⟨g, 0, none⟩) zs.length c ∧ t7 = .int .i64 (1 + (kof (pw (e0, e1, e2, e3)) (n - 1) t k : Int)) ∧ Hid (SPx zs (prt (e0, e1, e2, e3) (n - 1) t k)) ∧ Hid (OwI wr w.heap.size g c zs) ∧ Hid (wr.heap[w.heap.size]? = some (.cells #[.int .i64 b0, .int .i64 b1, .int .i64 b2, .int .i64 b3, .bool b4, .slice (some ⟨bi, 0, none⟩) ni ni, .slice (some ⟨bk, 0, none⟩) nk nk] 34 (0, 0))) ∧ Hid (wr.heap[w.heap.size + 1]? = some (.cells #[.int .i64 e0, .int .i64 e1, .int .i64 e2, .int .i64 e3] 30 (0, 0))) ∧ Hid (Below w.heap.size w wr)) (fun _ _ t9 _ => nk - (intOf t9).toNat)
      case atStart => exact ⟨0, g, c, zs, rfl, Nat.zero_le _, rfl, by rw [kof_zero]; rfl, HS0, HO, gT, gB, HB⟩
      case round =>
        clear gT gB HB HO HS0 hsw0 CB
        have CB := hid (fun (x : Bx) (W : World) => spec_BoxMeets x.1 x.2.1 x.2.2.1 x.2.2.2 e0 e1 e2 e3 W)
        change Hid (∀ (x : Bx) W, Calls _ _ _ W (fun e' w' => e' = .returned (.bool (btb x (e0, e1, e2, e3))) ∧ Below W.heap.size W w')) at CB
        obtain ⟨j, g1, c1', z1, rfl, hj, rfl, rfl, HS, HO, gT, gB, HB⟩ := hrel
        obtain ⟨a0, a1, a2, a3, a4, a5, a6, _, _, _, _, _, _, _⟩ := cell7k gT.out
        obtain ⟨y0, y1, y2, y3, _, _, _, _⟩ := cell4b gB.out
        have hsw := HB.out.size
        have hzl1 : z1.length ≤ 1048576 := by
          have h1 := HS.out.2.length_eq
          have h2 := prt_le (e0, e1, e2, e3) (n - 1) t j
          rw [HFIN.out.2, List.length_map] at h2
          have h3 := HKL.out.2
          have h4 := HZ.out
          omega
        by_cases hltj : j < nk
        · have c2 : (j : Int) < (nk : Int) := by omega
          have hjt : j < t.kids.length := by rw [HNK.out]; exact hltj
          obtain ⟨ia', ka', hcs, hkn⟩ := HKD.out j hjt
          obtain ⟨n', hn'⟩ : ∃ n', n = n' + 1 := by
            cases n with
            | zero => exact hkn.elim
            | succ n => exact ⟨n, rfl⟩
          obtain ⟨c0, c1, c2'', c3, c4, mi, mk, hf⟩ := kf t.kids[j]
          obtain ⟨q0, q1, q2, q3, q4, q5, q6⟩ := Cs.kf hf (hcs.below hbk HB.out)
          have hpw : pw (e0, e1, e2, e3) t.kids[j] = btb (c0, c1, c2'', c3) (e0, e1, e2, e3) := by
            unfold pw
            rw [show t.kids[j].box = (c0, c1, c2'', c3) by rw [← hf.x0, ← hf.x1, ← hf.x2, ← hf.x3]]
          have hpn := prt_next (e0, e1, e2, e3) (n - 1) t j hjt
          have hkn2 := kof_next (pw (e0, e1, e2, e3)) (n - 1) t j hjt
          have hkl1 := kof_le (pw (e0, e1, e2, e3)) (n - 1) t (j + 1)
          have hkl2 := HKL.out.1
          have hfi1 := HFIN.out.1
          have hzz := HZ.out
          rw [hpw] at hpn hkn2
          have CX := hid (CB.out (c0, c1, c2'', c3))
          have CW := hid (fun (W : World) (hb : Below w.heap.size w W) => HIH.out n' hn' lo t.kids[j] ia' ka' W (by rw [← hn']; exact hkn.below hb) (by rw [← hn']; exact HKZ.out j hjt))
          rw [kvo_of hf, show n' = n - 1 by omega] at CW
          have HPN := hid hpn
          have HKN := hid hkn2
          have hkb : 1 + kof (pw (e0, e1, e2, e3)) (n - 1) t (j + 1) ≤ 1048577 := by omega
          have HKB := hid hkb
          have HPB : Hid ((prt (e0, e1, e2, e3) (n - 1) t (j + 1)).length ≤ 1048576) := hid (by
            have h2 := prt_le (e0, e1, e2, e3) (n - 1) t (j + 1)
            rw [HFIN.out.2, List.length_map] at h2
            have h3 := HKL.out.2
            omega)
          clear hn' hcs hkn hf hpw hpn hkn2 hkl1 hkl2 hfi1 hkb hzz
          generalize btb (c0, c1, c2'', c3) (e0, e1, e2, e3) = mt at *
          generalize (fnd (e0, e1, e2, e3) (kns (pw (e0, e1, e2, e3)) (n - 1) t.kids[j])).map Prod.fst = ids2 at *
          generalize hkk : kns (pw (e0, e1, e2, e3)) (n - 1) t.kids[j] = KK at *
          clear hkk
          go_upto_region 10 with fail
          go_region_held3 (fun w' => w'.cell? ⟨w.heap.size, 6, none⟩ = some (.slice (some ⟨bk, 0, none⟩) nk nk) ∧ w'.cell? ⟨bk, j * 7, none⟩ = some (.int .i64 c0) ∧ w'.cell? ⟨bk, j * 7 + 1, none⟩ = some (.int .i64 c1) ∧ w'.cell? ⟨bk, j * 7 + 2, none⟩ = some (.int .i64 c2'') ∧ w'.cell? ⟨bk, j * 7 + 3, none⟩ = some (.int .i64 c3) ∧ w'.cell? ⟨w.heap.size + 1, 0, none⟩ = some (.int .i64 e0) ∧ w'.cell? ⟨w.heap.size + 1, 1, none⟩ = some (.int .i64 e1) ∧ w'.cell? ⟨w.heap.size + 1, 2, none⟩ = some (.int .i64 e2) ∧ w'.cell? ⟨w.heap.size + 1, 3, none⟩ = some (.int .i64 e3)) ((go_split_ands; (repeat' apply And.intro) <;> (repeat (first | with_reducible assumption | with_reducible refine keepdrew ?_ | with_reducible exact keepcell hv1 (by with_reducible assumption)))))
            (first
              | (go_at_call 61; refine (CX.out _).mono ?_; rintro e w1 ⟨rfl, hb1⟩; have hv1 : Below wr.heap.size wr w1 := btrans (bdrew (Below.refl _ _)) hb1))
          replace gT := hid (keepheap hv1 gT.out)
          replace gB := hid (keepheap hv1 gB.out)
          replace HO := hid (HO.out.below hv1)
          replace HB := hid (btrans HB.out hv1)
          replace q0 := keepcell hv1 q0
          replace q1 := keepcell hv1 q1
          replace q2 := keepcell hv1 q2
          replace q3 := keepcell hv1 q3
          replace q4 := keepcell hv1 q4
          replace q5 := keepcell hv1 q5
          replace q6 := keepcell hv1 q6
          clear a0 a1 a2 a3 a4 a5 a6 y0 y1 y2 y3 hb1 hv1 CX
          obtain ⟨a0, a1, a2, a3, a4, a5, a6, _, _, _, _, _, _, _⟩ := cell7k gT.out
          obtain ⟨y0, y1, y2, y3, _, _, _, _⟩ := cell4b gB.out
          cases mt
          · clear q0 q1 q2 q3 q4 q5 q6 CW
            go_wp2_with fail
            go_roundw
            case rel => exact ⟨j + 1, g1, c1', z1, by go_num, by omega, rfl, by rw [HKN.out]; simp, hid (by rw [HPN.out]; simpa using HS.out), HO, gT, gB, HB⟩
            case measure => simp [intOf]; omega
          · have hkn3 := HKN.out
            have hkb3 := HKB.out
            simp only [if_true] at hkn3
            have hadd : IntKind.i64.wrap (1 + (kof (pw (e0, e1, e2, e3)) (n - 1) t j : Int) + (KK.length : Int)) = 1 + (kof (pw (e0, e1, e2, e3)) (n - 1) t (j + 1) : Int) := by rw [IntKind.wrap_i64] <;> omega
            clear hkn3 hkb3
            generalize hkf1 : 1 + (kof (pw (e0, e1, e2, e3)) (n - 1) t (j + 1) : Int) = kf1 at *
            have HKF1 := hid hkf1
            clear hkf1
            generalize 1 + (kof (pw (e0, e1, e2, e3)) (n - 1) t j : Int) = kf0 at *
            go_upto_region 11 with fail
            go_region_held3 (fun w' => w'.cell? ⟨w.heap.size, 6, none⟩ = some (.slice (some ⟨bk, 0, none⟩) nk nk) ∧ w'.cell? ⟨bk, j * 7, none⟩ = some (.int .i64 c0) ∧ w'.cell? ⟨bk, j * 7 + 1, none⟩ = some (.int .i64 c1) ∧ w'.cell? ⟨bk, j * 7 + 2, none⟩ = some (.int .i64 c2'') ∧ w'.cell? ⟨bk, j * 7 + 3, none⟩ = some (.int .i64 c3) ∧ w'.cell? ⟨bk, j * 7 + 4, none⟩ = some (.bool c4) ∧ w'.cell? ⟨bk, j * 7 + 5, none⟩ = some (.slice ia' mi mi) ∧ w'.cell? ⟨bk, j * 7 + 6, none⟩ = some (.slice ka' mk mk) ∧ w'.cell? ⟨w.heap.size + 1, 0, none⟩ = some (.int .i64 e0) ∧ w'.cell? ⟨w.heap.size + 1, 1, none⟩ = some (.int .i64 e1) ∧ w'.cell? ⟨w.heap.size + 1, 2, none⟩ = some (.int .i64 e2) ∧ w'.cell? ⟨w.heap.size + 1, 3, none⟩ = some (.int .i64 e3)) ((go_split_ands; (repeat' apply And.intro) <;> (repeat (first | with_reducible assumption | with_reducible refine keepdrew ?_ | with_reducible exact keepcell hv2 (by with_reducible assumption)))))
              (first
                | (go_at_call 44; refine (CW.out _ (btrans HB.out (bdrew (Below.refl w1.heap.size w1)))).mono ?_; rintro e w3 ⟨g2, cc2, z2, rfl, hs2, ho2, hb3⟩; have hv2 : Below w1.heap.size w1 w3 := btrans (bdrew (Below.refl _ _)) hb3))
            replace gT := hid (keepheap hv2 gT.out)
            replace gB := hid (keepheap hv2 gB.out)
            replace HO := hid (HO.out.below hv2)
            have HB1 := HB.out.size
            replace HB := hid (btrans HB.out hv2)
            have HO2 := hid (ho2.base HB1)
            have HS2 := hid hs2
            have hlen : (prt (e0, e1, e2, e3) (n - 1) t j).length + z2.length ≤ 1048576 := by
              have h1 := HPB.out
              rw [HPN.out] at h1
              simp only [if_true, List.length_append] at h1
              have h2 := hs2.2.length_eq
              omega
            have HN1 := hid (HPN.out)
            clear hb3 hv2 ho2 hs2 CW q0 q1 q2 q3 q4 q5 q6 a0 a1 a2 a3 a4 a5 a6 y0 y1 y2 y3 HB1 HPN
            generalize hpj : prt (e0, e1, e2, e3) (n - 1) t j = pj at *
            have HS1 := HS
            clear hpj HS
            have HST : Hid (SPx z1 (pj ++ z2.take 0)) := hid (by rw [List.take_zero, List.append_nil]; exact HS1.out)
            go_wp2_with fail
            go_loopw [6, 12] (fun t6 t12 wr => ∃ (i g c : Nat) (zs : List Int), t12 = .int .i64 i ∧ i ≤ z2.length ∧ t6 = .slice (some ⟨g, 0, none⟩) zs.length c ∧ Hid (SPx zs (pj ++ z2.take i)) ∧ Hid (OwI wr w.heap.size g c zs) ∧ Hid (OwI wr w.heap.size g2 cc2 z2) ∧ Hid (wr.heap[w.heap.size]? = some (.cells #[.int .i64 b0, .int .i64 b1, .int .i64 b2, .int .i64 b3, .bool b4, .slice (some ⟨bi, 0, none⟩) ni ni, .slice (some ⟨bk, 0, none⟩) nk nk] 34 (0, 0))) ∧ Hid (wr.heap[w.heap.size + 1]? = some (.cells #[.int .i64 e0, .int .i64 e1, .int .i64 e2, .int .i64 e3] 30 (0, 0))) ∧ Hid (Below w.heap.size w wr)) (fun _ t12 _ => z2.length - (intOf t12).toNat)
            case atStart => exact ⟨0, g1, c1', z1, rfl, Nat.zero_le _, rfl, HST, HO, HO2, gT, gB, HB⟩
            case round =>
              clear gT gB HB HO HO2 HST HS1
              obtain ⟨i, g3, c3', z3, rfl, hi, rfl, HS3, HO, HO2, gT, gB, HB⟩ := hrel
              have hz3 : z3.length ≤ 1048576 := by
                have h1 := HS3.out.2.length_eq
                rw [List.length_append, List.length_take] at h1
                omega
              by_cases hlti : i < z2.length
              · have c3 : (i : Int) < (z2.length : Int) := by omega
                have hc0 := HO2.out.at i hlti
                have CA := hid (add_sp w.heap.size g3 c3' z3 (pj ++ z2.take i) z2[i] wr (by omega) HO.out HS3.out)
                have HNI2 : Hid (pj ++ z2.take (i + 1) = pj ++ z2.take i ++ [z2[i]]) := hid (by rw [List.take_add_one, List.getElem?_eq_getElem hlti, Option.toList_some, List.append_assoc])
                generalize z2[i] = xi at *
                go_wp2_with fail
                refine CA.out.mono ?_
                rintro e w5 ⟨g', c', zs', rfl, hs', hl', ho', hb5⟩
                have hsw5 := HB.out.size
                have HS' := hid hs'
                have HO' := hid (ho'.base hsw5)
                replace HO2 := hid (HO2.out.below hb5)
                replace gT := hid (keepheap hb5 gT.out)
                replace gB := hid (keepheap hb5 gB.out)
                replace HB := hid (btrans HB.out hb5)
                clear hs' hl' ho' hb5 CA HO hc0
                go_wp2_with fail
                go_roundw
                case rel => exact ⟨i + 1, g', c', zs', by go_num, by omega, rfl, hid (by rw [HNI2.out]; exact HS'.out), HO', HO2, gT, gB, HB⟩
                case measure => simp [intOf]; omega
              · have c3 : ¬ (i : Int) < (z2.length : Int) := by omega
                have hall : z2.take i = z2 := List.take_of_length_le (by omega)
                have HSN : Hid (SPx z3 (prt (e0, e1, e2, e3) (n - 1) t (j + 1))) := hid (by
                  have h1 := HS3.out
                  rw [hall] at h1
                  rw [HN1.out]
                  simp only [if_true]
                  exact ⟨h1.1, h1.2.trans (HS2.out.2.append_left _)⟩)
                clear hall HS3
                go_wp2_with fail
                go_roundw
                case rel => exact ⟨j + 1, g3, c3', z3, by go_num, by omega, rfl, by rw [HKF1.out], HSN, HO, gT, gB, HB⟩
                case measure => simp [intOf]; omega
        · have c2 : ¬ (j : Int) < (nk : Int) := by omega
          have hjn : j = t.kids.length := by rw [HNK.out]; omega
          have HR1 := hid HFIN.out.1
          have HR2 : Hid (SPx z1 ((fnd (e0, e1, e2, e3) (kns (pw (e0, e1, e2, e3)) n t)).map Prod.fst)) := hid (by have := HS.out; rw [hjn, HFIN.out.2] at this; exact this)
          rw [← hjn] at HR1
          clear hjn HS
          go_wp2_with fail
          exact bodyPost_ret (v := .tuple #[.slice (some ⟨g1, 0, none⟩) z1.length c1', .int .i64 (1 + (kof (pw (e0, e1, e2, e3)) (n - 1) t j : Int))]) (by first | exact results_tmp2 rfl _ _ _ | simp [results, Try.results44, go_sem]) rfl ⟨g1, c1', z1, by rw [← HR1.out]; simp, HR2.out, HO.out, HB.out⟩
theorem spec_walk (b : Bx) (n : Nat) : ∀ (lo : Nat) (t : KT) (ia ka : Option Addr) (w : World), Kn lo (n + 1) w ia ka t → ksz (n + 1) t ≤ 1048576 → Calls Try.prog 44 #[kvo t ia ka, .agg #[.int .i64 b.1, .int .i64 b.2.1, .int .i64 b.2.2.1, .int .i64 b.2.2.2]] w fun e w' => ∃ g c zs, e = .returned (.tuple #[.slice (some ⟨g, 0, none⟩) zs.length c, .int .i64 (kns (pw b) n t).length]) ∧ SPx zs ((fnd b (kns (pw b) n t)).map Prod.fst) ∧ OwI w' w.heap.size g c zs ∧ Below w.heap.size w w' := by
  induction n with
  | zero => exact fun lo t ia ka w h hz => walk_step b 0 (fun n' e => by omega) lo t ia ka w h hz
  | succ n IH =>
    refine fun lo t ia ka w h hz => walk_step b (n + 1) (fun n' e => ?_) lo t ia ka w h hz
    have e' : n' = n := by omega
    subst e'
    exact IH
end Go.Proofs.Ytmdnelgnpponpaa
