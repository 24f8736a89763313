import Derived.Test.YtenlhgnobfadgaaGreatDoorJ3
set_option maxRecDepth 100000
set_option maxHeartbeats 2000000
set_option linter.unusedSimpArgs false
set_option linter.unusedVariables false
namespace Go.Proofs.YtenlhgnobfadgaaGreatDoor
open Go.RowKit
theorem keepset4 {w : World} {b q k j : Nat} {v u : Value} (h : w.cell? ⟨b, k, none⟩ = some v) (hne : q ≠ b) : (w.setCell ⟨q, j, none⟩ u).cell? ⟨b, k, none⟩ = some v := keepset3 h hne
theorem fin_shape {w v : World} {p R B len cap : Nat} {a : Option Addr} {o0 o1 vs : Value} {k : Int} {ps : List (Int × Int)} (hp : p < w.heap.size) (hR : w.heap.size ≤ R) (g : v.heap[R]? = some (.cells #[o0, o1] 48 (0, 0))) (hrow : PtRow v B vs ps) (hB : w.heap.size ≤ B) (hne : vs.ownBlock ≠ some R) (hr : Ready v p a len cap) (hg : w.grownBy v (some p)) :
  ∃ v', v' = (v.setCell ⟨R, 0, none⟩ (.int .i64 k)).setCell ⟨R, 1, none⟩ vs ∧ v'.cell? ⟨R, 0, none⟩ = some (.int .i64 k) ∧ v'.cell? ⟨R, 1, none⟩ = some vs ∧ PtRow v' w.heap.size vs ps ∧ Ready v' p a len cap ∧ w.grownBy v' (some p) := by
 obtain ⟨q1, q2⟩ := set2 g (.int .i64 k) vs
 obtain ⟨z0, z1, _, _⟩ := cell2g q1
 have h1 : PtRow (v.setCell ⟨R, 0, none⟩ (.int .i64 k)) B vs ps := World.ownsRow.kept hrow (grown_set _ _ _ _) (Or.inr hne)
 have h2 : PtRow ((v.setCell ⟨R, 0, none⟩ (.int .i64 k)).setCell ⟨R, 1, none⟩ vs) B vs ps := World.ownsRow.kept h1 (grown_set _ _ _ _) (Or.inr hne)
 exact ⟨_, rfl, z0, z1, h2.mono hB, (hr.set (by omega) _).set (by omega) _, grown_setn (grown_setn hg hR _) hR _⟩
theorem PtRow.at' {w : World} {B : Nat} {v : Value} {ps : List (Int × Int)} (h : PtRow w B v ps) (h0 : 0 < ps.length) : ∃ g cap, v = .slice (some ⟨g, 0, none⟩) ps.length cap ∧ B ≤ g ∧ g < w.heap.size ∧ ps.length ≤ cap ∧ PtsAt w g 0 ps := by
 have h' := h
 rcases h.2 with ⟨rfl, hn⟩ | ⟨g, cap, cur, rfl, hb, hg, hc, _⟩
 ·omega
 ·refine ⟨g, cap, rfl, hb, (Array.getElem?_eq_some_iff.1 hg).1, hc, ?_⟩
  intro k hk
  obtain ⟨f0, f1⟩ := flat2_at ps k hk
  have hcs := World.ownsRow.cells h' rfl
  have q0 := hcs _ _ f0
  have q1 := hcs _ _ f1
  rw [Addr.add_mid] at q0 q1
  exact ⟨q0, by rw [Nat.add_assoc]; exact q1⟩
theorem fin_lit {w v : World} {p R len cap n : Nat} {a : Option Addr} {o0 o1 : Value} {k : Int} {cs : Array Value} (ps : List (Int × Int)) (hcs : cs = (flat2 ps).toArray) (hn : n = ps.length) (hl : ps.length ≤ 1000) (hp : p < w.heap.size) (hR : w.heap.size ≤ R) (g : v.heap[R]? = some (.cells #[o0, o1] 48 (0, 0))) (hr : Ready v p a len cap) (hg : w.grownBy v (some p)) :
  ∃ v', v' = ((v.setCell ⟨R, 0, none⟩ (.int .i64 k)).setCell ⟨R, 1, none⟩ (.slice (some ⟨v.heap.size, 0, none⟩) n n)).alloc (.cells cs 91) ∧ v'.cell? ⟨R, 0, none⟩ = some (.int .i64 k) ∧ v'.cell? ⟨R, 1, none⟩ = some (.slice (some ⟨v.heap.size, 0, none⟩) n n) ∧ PtRow v' w.heap.size (.slice (some ⟨v.heap.size, 0, none⟩) n n) ps ∧ Ready v' p a len cap ∧ w.grownBy v' (some p) := by
 subst hcs hn
 obtain ⟨q1, q2⟩ := set2 g (.int .i64 k) (.slice (some ⟨v.heap.size, 0, none⟩) ps.length ps.length)
 have hgs := hg.size
 have hr1 := (hr.set (n := R) (k := 0) (by omega) (.int .i64 k)).set (n := R) (k := 1) (by omega) (.slice (some ⟨v.heap.size, 0, none⟩) ps.length ps.length)
 have hg1 := grown_setn (k := 1) (grown_setn (k := 0) hg hR (.int .i64 k)) hR (.slice (some ⟨v.heap.size, 0, none⟩) ps.length ps.length)
 have hsz : ((v.setCell ⟨R, 0, none⟩ (.int .i64 k)).setCell ⟨R, 1, none⟩ (.slice (some ⟨v.heap.size, 0, none⟩) ps.length ps.length)).heap.size = v.heap.size := by simp
 generalize (v.setCell ⟨R, 0, none⟩ (.int .i64 k)).setCell ⟨R, 1, none⟩ (.slice (some ⟨v.heap.size, 0, none⟩) ps.length ps.length) = v1 at *
 obtain ⟨z0, z1, _, _⟩ := cell2g (old_alloc (o' := .cells (flat2 ps).toArray 91) q1)
 exact ⟨_, rfl, z0, z1, ptrow_lit ps hl (by omega) (new_alloc v1 v.heap.size _ hsz.symm), hr1.alloc _, grown_trans hg1 (grown_alloc _ _ _)⟩
theorem grown_upr {w w0 w1 : World} {r s : Option Nat} (h : w.grownBy w0 s) (k : w0.grownBy w1 r) (hr : ∀ x, r = some x → w.heap.size ≤ x) : w.grownBy w1 s :=
 ⟨k.os.trans h.os, k.tape.trans h.tape, k.output.trans h.output, Nat.le_trans h.size k.size, fun i hi hne => (k.block i (Nat.lt_of_lt_of_le hi h.size) (fun e => by have := hr i e.symm; omega)).trans (h.block i hi hne)⟩
theorem right_r (w : World) (p : Nat) (a : Option Addr) (len cap : Nat) (h : Ready w p a len cap) : Calls Tryz.prog 153 #[.pointer (some ⟨p, 0, none⟩)] w fun e w' => ∃ kd : Int, ∃ ps : List (Int × Int), ∃ v, e = .returned (.agg #[.int .i64 kd, v]) ∧ 1 ≤ ps.length ∧ ps.length ≤ 8 ∧ PtRow w' w.heap.size v ps ∧ Ready w' p a len cap ∧ w.grownBy w' (some p) := by
 have hp := h.lt
 obtain ⟨i0, hi0, hz0, hz1, hz2⟩ := info_parts Tryz.infoP2
 go_enter Tryz.func153, Tryz.ntmps153
 go_wp2_with fail
 have gR := heap_alloc_new w (.cells #[.int .i64 0, .slice none 0 0] 48)
 have hr := h.alloc (.cells #[.int .i64 0, .slice none 0 0] 48)
 have hg := grown_alloc w (.cells #[.int .i64 0, .slice none 0 0] 48) (some p)
 have hz : (w.alloc (.cells #[.int .i64 0, .slice none 0 0] 48)).heap.size = w.heap.size + 1 := by simp
 generalize w.alloc (.cells #[.int .i64 0, .slice none 0 0] 48) = v0 at *
 clear h
 refine (below_r _ p a len cap 4 (by omega) (by omega) hr).mono ?_
 rintro e v1 ⟨x, rfl, x0, x1, hr2, hg2⟩
 replace gR := grown_blk hg2 gR (by omega)
 replace hg := grown_trans hg hg2
 clear hr hg2
 rename Ready v1 p a len cap => hr
 have hz1' : w.heap.size < v1.heap.size := lt_of_block gR
 obtain rfl | rfl | rfl | rfl : x = 0 ∨ x = 1 ∨ x = 2 ∨ x = 3 := by omega
 ·skip
  go_wp2_with fail
  refine (below_r _ p a len cap 21 (by omega) (by omega) hr).mono ?_
  rintro e v2 ⟨y, rfl, y0, y1, hr2, hg2⟩
  replace gR := grown_blk hg2 gR (by omega)
  replace hg := grown_trans hg hg2
  clear hr hg2
  rename Ready v2 p a len cap => hr
  go_wp2_with fail
  refine (below_r _ p a len cap 21 (by omega) (by omega) hr).mono ?_
  rintro e v3 ⟨z, rfl, z0, z1, hr2, hg2⟩
  replace gR := grown_blk hg2 gR (by omega)
  replace hg := grown_trans hg hg2
  clear hr hg2
  rename Ready v3 p a len cap => hr
  have hzf : w.heap.size < v3.heap.size := lt_of_block gR
  obtain ⟨r0, r1, rf0, rf1⟩ := cell2g gR
  obtain ⟨v', ev, z0', z1', hrow', hr', hg'⟩ := fin_lit (k := 0) (n := 1) (cs := #[.int .i64 (y - 10), .int .i64 (z - 10)]) [(y - 10, z - 10)] rfl rfl (by simp) hp (Nat.le_refl _) gR hr hg
  have Hev := hid ev
  have Hrow := hid hrow'
  clear ev gR hrow'
  go_wp2_with fail
  rw [← Hev.out]
  exact bodyPost_ret (v := .agg #[.int .i64 0, .slice (some ⟨v3.heap.size, 0, none⟩) 1 1]) (by simp [results, Tryz.results153, go_sem, z0', z1']) rfl ⟨0, [(y - 10, z - 10)], _, rfl, by simp, by simp, Hrow.out, hr', hg'⟩
 ·skip
  go_wp2_with fail
  refine (below_r _ p a len cap 21 (by omega) (by omega) hr).mono ?_
  rintro e v2 ⟨y, rfl, y0, y1, hr2, hg2⟩
  replace gR := grown_blk hg2 gR (by omega)
  replace hg := grown_trans hg hg2
  clear hr hg2
  rename Ready v2 p a len cap => hr
  go_wp2_with fail
  refine (below_r _ p a len cap 21 (by omega) (by omega) hr).mono ?_
  rintro e v3 ⟨z, rfl, z0, z1, hr2, hg2⟩
  replace gR := grown_blk hg2 gR (by omega)
  replace hg := grown_trans hg hg2
  clear hr hg2
  rename Ready v3 p a len cap => hr
  have hz3 : w.heap.size < v3.heap.size := lt_of_block gR
  go_wp2_with fail
  have hrow := (ptrow_lit (B := v3.heap.size) [(y - 10, z - 10)] (by simp) (Nat.le_refl _) (new_alloc v3 v3.heap.size (.cells #[.int .i64 (y - 10), .int .i64 (z - 10)] 91) rfl))
  replace hrow := World.ownsRow.alloc hrow (.cells #[.int .i64 1, .slice (some ⟨v3.heap.size, 0, none⟩) 1 1] 48)
  have gS := new_alloc (v3.alloc (.cells #[.int .i64 (y - 10), .int .i64 (z - 10)] 91)) (v3.heap.size + 1) (.cells #[.int .i64 1, .slice (some ⟨v3.heap.size, 0, none⟩) 1 1] 48) (by simp)
  replace gR := old_alloc (o' := .cells #[.int .i64 1, .slice (some ⟨v3.heap.size, 0, none⟩) 1 1] 48) (old_alloc (o' := .cells #[.int .i64 (y - 10), .int .i64 (z - 10)] 91) gR)
  replace hr := (hr.alloc (.cells #[.int .i64 (y - 10), .int .i64 (z - 10)] 91)).alloc (.cells #[.int .i64 1, .slice (some ⟨v3.heap.size, 0, none⟩) 1 1] 48)
  replace hg := grown_trans (grown_trans hg (grown_alloc v3 (.cells #[.int .i64 (y - 10), .int .i64 (z - 10)] 91) (some p))) (grown_alloc _ (.cells #[.int .i64 1, .slice (some ⟨v3.heap.size, 0, none⟩) 1 1] 48) (some p))
  generalize (v3.alloc (.cells #[.int .i64 (y - 10), .int .i64 (z - 10)] 91)).alloc (.cells #[.int .i64 1, .slice (some ⟨v3.heap.size, 0, none⟩) 1 1] 48) = v4 at *
  have hne : (Value.slice (some ⟨v3.heap.size, 0, none⟩) 1 1).ownBlock ≠ some (v3.heap.size + 1) := by simp [Value.ownBlock]
  have hpb : p < v3.heap.size := by omega
  generalize hSn : v3.heap.size + 1 = S at *
  have hSS : v3.heap.size < S := by omega
  have Hrow : Hid (PtRow v4 v3.heap.size (.slice (some ⟨v3.heap.size, 0, none⟩) 1 1) [(y - 10, z - 10)]) := hid hrow
  clear hrow hSn
  generalize (Value.slice (some ⟨v3.heap.size, 0, none⟩) 1 1) = sv at *
  generalize v3.heap.size = B at *
  refine (below_r _ p a len cap 4 (by omega) (by omega) hr).mono ?_
  rintro e v5 ⟨m, rfl, m0, m1, hr2, hg2⟩
  replace gR := grown_blk hg2 gR (by omega)
  replace gS := grown_blk hg2 gS (by omega)
  have hrow := World.ownsRow.kept Hrow.out hg2 (Or.inr (fun e => by have := (World.ownsRow.lt Hrow.out p e).1; omega))
  replace hg := grown_trans hg hg2
  clear hr hg2 Hrow
  have HR := hid gR
  have HS := hid gS
  have HO : Hid (PtRow v5 B sv [(y - 10, z - 10)]) := hid hrow
  have Hr := hid hr2
  have Hg := hid hg
  have Hne := hid hne
  clear gR gS hrow hr2 hg hne
  go_wp2_with fail
  go_loopw [5] (fun ti wr => ∃ j : Nat, ∃ sv : Value, ∃ done : List (Int × Int), ti = .int .i64 j ∧ (j : Int) ≤ 1 + m ∧ Hid (done.length = j + 1) ∧ Hid (wr.heap[S]? = some (.cells #[.int .i64 1, sv] 48 (0, 0))) ∧ Hid (wr.heap[w.heap.size]? = some (.cells #[.int .i64 0, .slice none 0 0] 48 (0, 0))) ∧ Hid (PtRow wr B sv done) ∧ Hid (sv.ownBlock ≠ some S) ∧ Hid (Ready wr p a len cap) ∧ Hid (w.grownBy wr (some p))) (fun ti _ => 5 - (intOf ti).toNat)
  case atStart => exact ⟨0, sv, _, rfl, by omega, hid rfl, HS, HR, HO, Hne, Hr, Hg⟩
  case round =>
   clear HS HR HO Hne Hr Hg
   obtain ⟨j, sv', done, rfl, hj, HL, HS, HR, HO, Hne, Hr, Hg⟩ := hrel
   have hdl : done.length = j + 1 := HL.out
   have HDL := hid hdl
   have hdp : 0 < done.length := by omega
   have hd8 : done.length ≤ 5 := by omega
   obtain ⟨g, cp, rfl, hgb, hgl, hcp, hat⟩ := HO.out.at' hdp
   obtain ⟨q0, q1, qf0, qf1⟩ := cell2g HS.out
   have hsS : S < wr.heap.size := lt_of_block HS.out
   have hgS : g ≠ S := fun e => Hne.out (by simp [Value.ownBlock, e])
   by_cases hlt : (j : Int) < 1 + m
   ·obtain ⟨d0, d1⟩ := hat j (by omega)
    simp only [Nat.zero_add] at d0 d1
    have c0 : (0 : Int) ≤ (j : Int) := by omega
    have c1 : (j : Int) < (done.length : Int) := by omega
    generalize (done.getD j (0, 0)).1 = x at *
    generalize (done.getD j (0, 0)).2 = y' at *
    clear hat hdl
    go_wp2_with fail
    have gS := old_alloc (o' := .cells #[.int .i64 x, .int .i64 y'] 91) HS.out
    have gR := old_alloc (o' := .cells #[.int .i64 x, .int .i64 y'] 91) HR.out
    have gP := heap_alloc_new wr (.cells #[.int .i64 x, .int .i64 y'] 91)
    have hown := World.ownsRow.alloc HO.out (.cells #[.int .i64 x, .int .i64 y'] 91)
    have hr := Hr.out.alloc (.cells #[.int .i64 x, .int .i64 y'] 91)
    have hg := grown_trans Hg.out (grown_alloc wr (.cells #[.int .i64 x, .int .i64 y'] 91) (some p))
    have hgp : g < wr.heap.size := hgl
    clear HS HR HO Hr Hg d0 d1 q0 q1 qf0 qf1 hgl
    generalize wr.alloc (.cells #[.int .i64 x, .int .i64 y'] 91) = Y0 at *
    generalize wr.heap.size = P at *
    have hPp : p < P := by omega
    refine wp_region_held_drew (S := (fun w' => w'.cell? ⟨P, 0, none⟩ = some (.int .i64 x) ∧ w'.cell? ⟨P, 1, none⟩ = some (.int .i64 y'))) (by kernel_rfl) ?_ (fun hHeld => ?_)
    ·have := cell2g gP; exact ⟨this.1, this.2.1⟩
    replace gS : Y0.drew.heap[S]? = _ := gS
    replace gR : Y0.drew.heap[w.heap.size]? = _ := gR
    replace gP : Y0.drew.heap[P]? = _ := gP
    replace hown : Y0.drew.ownsRow B 91 2 (.slice (some ⟨g, 0, none⟩) done.length cp) done.length (flat2 done) := hown
    replace hr : Ready Y0.drew p a len cap := hr
    replace hg : w.grownBy Y0.drew (some p) := grown_trans hg (grown_drew (grown_same _ _) 1)
    generalize Y0.drew = y0 at *
    obtain ⟨s0, s1, _, _⟩ := cell2g gP
    obtain ⟨r0, r1, rf0, rf1⟩ := cell2g gS
    refine tkR ?_ 0 rfl (fun _ _ _ h => h) hHeld ?_ ?_
    rotate_left
    ·intro w hSw; (try dsimp only at hSw); go_simp; try (with_reducible rfl)
    try simp only [sq]
    refine tkR ?_ 2 rfl (fun _ _ _ h => h) hHeld ?_ ?_
    rotate_left
    ·intro w hSw; (try dsimp only at hSw); go_simp; try (with_reducible rfl)
    try simp only [sq]
    refine tkR ?_ 3 rfl (fun _ _ _ h => h) hHeld ?_ ?_
    rotate_left
    ·intro w hSw; (try dsimp only at hSw); go_simp; try (with_reducible rfl)
    try simp only [sq]
    refine tkR ?_ 4 rfl (fun _ _ _ h => h) hHeld ?_ ?_
    rotate_left
    ·intro w hSw; (try dsimp only at hSw); go_simp; try (with_reducible rfl)
    try simp only [sq]
    refine tkR ?_ 5 rfl (fun _ _ _ h => h) hHeld ?_ ?_
    rotate_left
    ·intro w hSw; (try dsimp only at hSw); go_simp; try (with_reducible rfl)
    try simp only [sq]
    refine tkR ?_ 8 rfl (fun _ _ _ h => h) hHeld ?_ ?_
    rotate_left
    ·intro w hSw; (try dsimp only at hSw); go_simp; try (with_reducible rfl)
    try simp only [sq]
    refine tkR ?_ 9 rfl (fun _ _ _ h => h) hHeld ?_ ?_
    rotate_left
    ·intro w hSw; (try dsimp only at hSw); go_simp; try (with_reducible rfl)
    try simp only [sq]
    refine tkR ?_ 10 rfl (fun _ _ _ h => h) hHeld ?_ ?_
    rotate_left
    ·intro w hSw; (try dsimp only at hSw); go_simp; try (with_reducible rfl)
    try simp only [sq]
    refine wpAnyH_ready (rs := [1, 6]) (by kernel_rfl) (by simp) ?_
    refine (AllReadyH.cons rfl (fun K hK => ?_) (AllReadyH.cons rfl (fun K hK => ?_) AllReadyH.nil))
    ·skip
     try simp only [sq]
     go_simp
     refine hK.out _ _ ?_ (fun hHeld => ?_)
     ·exact ⟨s0, s1⟩
     clear hK K
     try simp only [sq]
     refine rd1 6 rfl (fun K hK => ?_)
     try simp only [sq]
     go_simp
     go_at_call 38
     refine (below_r _ p a len cap 4 (by omega) (by omega) hr).mono ?_
     rintro e y1 ⟨c6, rfl, c6a, c6b, hr2, hg2⟩
     replace gS := grown_blk hg2 gS (by omega)
     replace gR := grown_blk hg2 gR (by omega)
     replace gP := grown_blk hg2 gP (by omega)
     replace hown := World.ownsRow.kept hown hg2 (Or.inr (fun e => by have := (World.ownsRow.lt hown p e).1; omega))
     replace hg := grown_trans hg hg2
     have hsy1 := hg2.size
     clear hr hg2 s0 s1 r0 r1 rf0 rf1
     rename Ready y1 p a len cap => hr
     obtain ⟨s0, s1, _, _⟩ := cell2g gP
     obtain ⟨r0, r1, rf0, rf1⟩ := cell2g gS
     go_wp2_with fail
     refine hK.out _ _ ?_ (fun hHeld => ?_)
     ·exact ⟨s0, s1⟩
     clear hK K
     try simp only [sq]
     refine tkR ?_ 7 rfl (fun _ _ _ h => h) hHeld ?_ ?_
     rotate_left
     ·intro w hSw; (try dsimp only at hSw); go_simp; try (with_reducible rfl)
     try simp only [sq]
     refine rd1 11 rfl (fun K hK => ?_)
     try simp only [sq]
     go_simp
     go_at_call 38
     refine (below_r _ p a len cap 7 (by omega) (by omega) hr).mono ?_
     rintro e y2 ⟨c11, rfl, c11a, c11b, hr2, hg2⟩
     replace gS := grown_blk hg2 gS (by omega)
     replace gR := grown_blk hg2 gR (by omega)
     replace gP := grown_blk hg2 gP (by omega)
     replace hown := World.ownsRow.kept hown hg2 (Or.inr (fun e => by have := (World.ownsRow.lt hown p e).1; omega))
     replace hg := grown_trans hg hg2
     have hsy2 := hg2.size
     clear hr hg2 s0 s1 r0 r1 rf0 rf1
     rename Ready y2 p a len cap => hr
     obtain ⟨s0, s1, _, _⟩ := cell2g gP
     obtain ⟨r0, r1, rf0, rf1⟩ := cell2g gS
     go_wp2_with fail
     refine hK.out _ _ ?_ (fun hHeld => ?_)
     ·exact ⟨s0, s1⟩
     clear hK K
     try simp only [sq]
     refine tkR ?_ 12 rfl (fun _ _ _ h => h) hHeld ?_ ?_
     rotate_left
     ·intro w hSw; (try dsimp only at hSw); go_simp; try (with_reducible rfl)
     try simp only [sq]
     refine tkR ?_ 13 rfl (fun _ _ _ h => h) hHeld ?_ ?_
     rotate_left
     ·intro w hSw; (try dsimp only at hSw); go_simp; try (with_reducible rfl)
     try simp only [sq]
     refine tkR ?_ 14 rfl (fun _ _ _ h => h) hHeld ?_ ?_
     rotate_left
     ·intro w hSw; (try dsimp only at hSw); go_simp; try (with_reducible rfl)
     try simp only [sq]
     refine rd1 15 rfl (fun K hK => ?_)
     try simp only [sq]
     go_simp
     replace s0 := keepalloc s0 (.cells #[.int .i64 (IntKind.i64.wrap (IntKind.i64.wrap (x + 1) + c6)), .int .i64 (IntKind.i64.wrap (IntKind.i64.wrap (y' + c11) - 3))] 91)
     replace s1 := keepalloc s1 (.cells #[.int .i64 (IntKind.i64.wrap (IntKind.i64.wrap (x + 1) + c6)), .int .i64 (IntKind.i64.wrap (IntKind.i64.wrap (y' + c11) - 3))] 91)
     have b0 := keepalloc r0 (.cells #[.int .i64 (IntKind.i64.wrap (IntKind.i64.wrap (x + 1) + c6)), .int .i64 (IntKind.i64.wrap (IntKind.i64.wrap (y' + c11) - 3))] 91)
     have b1 := keepalloc r1 (.cells #[.int .i64 (IntKind.i64.wrap (IntKind.i64.wrap (x + 1) + c6)), .int .i64 (IntKind.i64.wrap (IntKind.i64.wrap (y' + c11) - 3))] 91)
     refine hK.out _ _ ?_ (fun hHeld => ?_)
     ·exact ⟨s0, s1⟩
     clear hK K
     try simp only [sq]
     refine rd1 16 rfl (fun K hK => ?_)
     have hSW := lt_of_block gS
     refine step_append_lies _ (by rfl) _ _ _ (by rfl) B 91 i0 _ 2 16 Tryz.underlying46 hi0 hz0 hz1 hz2 rfl (by omega) _ done.length (flat2 done) (by rfl) (World.ownsRow.alloc hown _) ⟨y2.heap.size, 0, none⟩ 1 1 [.int .i64 (IntKind.i64.wrap (IntKind.i64.wrap (x + 1) + c6)), .int .i64 (IntKind.i64.wrap (IntKind.i64.wrap (y' + c11) - 3))] (by rfl) (by rfl) (World.news_of_block (cs := #[.int .i64 (IntKind.i64.wrap (IntKind.i64.wrap (x + 1) + c6)), .int .i64 (IntKind.i64.wrap (IntKind.i64.wrap (y' + c11) - 3))]) (t := 91) (fr := (0, 0)) (heap_alloc_new y2 _)) (by simp [Value.oneCell']) (by omega) (by unfold maxLen; omega) (by omega) (by simp; omega) (y2.heap.size + 1) (by simp) ?_
     intro gg cq s2 hown2 hgrow hat hlt2
     have hvS : some S ≠ (Value.slice (some ⟨g, 0, none⟩) done.length cp).ownBlock := by simp [Value.ownBlock]; omega
     have hvR : some w.heap.size ≠ (Value.slice (some ⟨g, 0, none⟩) done.length cp).ownBlock := by simp [Value.ownBlock]; omega
     have hvP : some P ≠ (Value.slice (some ⟨g, 0, none⟩) done.length cp).ownBlock := by simp [Value.ownBlock]; omega
     replace gS := (hgrow.block S (by have := lt_of_block gS; simp; omega) hvS).trans (old_alloc gS)
     replace gR := (hgrow.block _ (by have := lt_of_block gR; simp; omega) hvR).trans (old_alloc gR)
     replace gP := (hgrow.block P (by have := lt_of_block gP; simp; omega) hvP).trans (old_alloc gP)
     clear s0 s1
     obtain ⟨s0, s1, _, _⟩ := cell2g gP
     refine hK.out _ _ ?_ (fun hHeld => ?_)
     ·exact ⟨s0, s1⟩
     clear hK K r0 r1 rf0 rf1
     have hgS2 : gg ≠ S := by
      rcases hat with e | e
      ·simp [Value.ownBlock] at e; omega
      ·have := lt_of_block gS; omega
     replace hr := (hr.alloc _).kept hgrow (fun y hy => by simp [Value.ownBlock] at hy; omega)
     replace hg := grown_upr (grown_trans hg (grown_alloc _ _ _)) hgrow (fun y hy => by simp [Value.ownBlock] at hy; omega)
     obtain ⟨r0, r1, rf0, rf1⟩ := cell2g gS
     try simp only [sq]
     refine tkR ?_ 17 rfl (fun _ _ _ h => h) hHeld ?_ ?_
     rotate_left
     ·intro w hSw; (try dsimp only at hSw); go_simp; try (with_reducible rfl)
     try simp only [sq]
     refine rd1 18 rfl (fun K hK => ?_)
     try simp only [sq]
     go_simp
     refine hK.out _ _ ?_ (fun hHeld => ?_)
     ·exact ⟨keepset4 s0 (by omega), keepset4 s1 (by omega)⟩
     clear hK K
     have hrow := row_self hown2
     try simp only [sq]
     refine wpAnyH_done (by kernel_rfl) ?_ _
     have HS := hid (set_at (k := 1) (u := (.slice (some ⟨gg, 0, none⟩) (done.length + 1) cq)) gS)
     have HR := hid (set_far (q := S) (k := 1) (u := (.slice (some ⟨gg, 0, none⟩) (done.length + 1) cq)) gR (by omega))
     have HO := hid (World.ownsRow.kept hrow (grown_set s2 S 1 (.slice (some ⟨gg, 0, none⟩) (done.length + 1) cq)) (Or.inr (by simp [Value.ownBlock]; omega)))
     have Hr := hid (hr.set (n := S) (k := 1) (by omega) (.slice (some ⟨gg, 0, none⟩) (done.length + 1) cq))
     have Hg := hid (grown_setn (k := 1) hg (n := S) (by omega) (.slice (some ⟨gg, 0, none⟩) (done.length + 1) cq))
     clear gS gR hrow hr hg gP hown2 hgrow hat
     go_wp2_with fail
     go_roundw
     case rel => exact ⟨j + 1, _, _, by go_num, by omega, by have := HDL.out; show _ = _; simp; omega, HS, HR, HO, by show _ ≠ _; simp [Value.ownBlock]; omega, Hr, Hg⟩
     case measure => simp [intOf]; omega
    ·skip
     try simp only [sq]
     go_simp
     go_at_call 38
     refine (below_r _ p a len cap 4 (by omega) (by omega) hr).mono ?_
     rintro e y1 ⟨c6, rfl, c6a, c6b, hr2, hg2⟩
     replace gS := grown_blk hg2 gS (by omega)
     replace gR := grown_blk hg2 gR (by omega)
     replace gP := grown_blk hg2 gP (by omega)
     replace hown := World.ownsRow.kept hown hg2 (Or.inr (fun e => by have := (World.ownsRow.lt hown p e).1; omega))
     replace hg := grown_trans hg hg2
     have hsy1 := hg2.size
     clear hr hg2 s0 s1 r0 r1 rf0 rf1
     rename Ready y1 p a len cap => hr
     obtain ⟨s0, s1, _, _⟩ := cell2g gP
     obtain ⟨r0, r1, rf0, rf1⟩ := cell2g gS
     go_wp2_with fail
     refine hK.out _ _ ?_ (fun hHeld => ?_)
     ·exact ⟨s0, s1⟩
     clear hK K
     try simp only [sq]
     refine tkR ?_ 7 rfl (fun _ _ _ h => h) hHeld ?_ ?_
     rotate_left
     ·intro w hSw; (try dsimp only at hSw); go_simp; try (with_reducible rfl)
     try simp only [sq]
     refine wpAnyH_ready (rs := [1, 11]) (by kernel_rfl) (by simp) ?_
     refine (AllReadyH.cons rfl (fun K hK => ?_) (AllReadyH.cons rfl (fun K hK => ?_) AllReadyH.nil))
     ·skip
      try simp only [sq]
      go_simp
      refine hK.out _ _ ?_ (fun hHeld => ?_)
      ·exact ⟨s0, s1⟩
      clear hK K
      try simp only [sq]
      refine rd1 11 rfl (fun K hK => ?_)
      try simp only [sq]
      go_simp
      go_at_call 38
      refine (below_r _ p a len cap 7 (by omega) (by omega) hr).mono ?_
      rintro e y2 ⟨c11, rfl, c11a, c11b, hr2, hg2⟩
      replace gS := grown_blk hg2 gS (by omega)
      replace gR := grown_blk hg2 gR (by omega)
      replace gP := grown_blk hg2 gP (by omega)
      replace hown := World.ownsRow.kept hown hg2 (Or.inr (fun e => by have := (World.ownsRow.lt hown p e).1; omega))
      replace hg := grown_trans hg hg2
      have hsy2 := hg2.size
      clear hr hg2 s0 s1 r0 r1 rf0 rf1
      rename Ready y2 p a len cap => hr
      obtain ⟨s0, s1, _, _⟩ := cell2g gP
      obtain ⟨r0, r1, rf0, rf1⟩ := cell2g gS
      go_wp2_with fail
      refine hK.out _ _ ?_ (fun hHeld => ?_)
      ·exact ⟨s0, s1⟩
      clear hK K
      try simp only [sq]
      refine tkR ?_ 12 rfl (fun _ _ _ h => h) hHeld ?_ ?_
      rotate_left
      ·intro w hSw; (try dsimp only at hSw); go_simp; try (with_reducible rfl)
      try simp only [sq]
      refine tkR ?_ 13 rfl (fun _ _ _ h => h) hHeld ?_ ?_
      rotate_left
      ·intro w hSw; (try dsimp only at hSw); go_simp; try (with_reducible rfl)
      try simp only [sq]
      refine tkR ?_ 14 rfl (fun _ _ _ h => h) hHeld ?_ ?_
      rotate_left
      ·intro w hSw; (try dsimp only at hSw); go_simp; try (with_reducible rfl)
      try simp only [sq]
      refine rd1 15 rfl (fun K hK => ?_)
      try simp only [sq]
      go_simp
      replace s0 := keepalloc s0 (.cells #[.int .i64 (IntKind.i64.wrap (IntKind.i64.wrap (x + 1) + c6)), .int .i64 (IntKind.i64.wrap (IntKind.i64.wrap (y' + c11) - 3))] 91)
      replace s1 := keepalloc s1 (.cells #[.int .i64 (IntKind.i64.wrap (IntKind.i64.wrap (x + 1) + c6)), .int .i64 (IntKind.i64.wrap (IntKind.i64.wrap (y' + c11) - 3))] 91)
      have b0 := keepalloc r0 (.cells #[.int .i64 (IntKind.i64.wrap (IntKind.i64.wrap (x + 1) + c6)), .int .i64 (IntKind.i64.wrap (IntKind.i64.wrap (y' + c11) - 3))] 91)
      have b1 := keepalloc r1 (.cells #[.int .i64 (IntKind.i64.wrap (IntKind.i64.wrap (x + 1) + c6)), .int .i64 (IntKind.i64.wrap (IntKind.i64.wrap (y' + c11) - 3))] 91)
      refine hK.out _ _ ?_ (fun hHeld => ?_)
      ·exact ⟨s0, s1⟩
      clear hK K
      try simp only [sq]
      refine rd1 16 rfl (fun K hK => ?_)
      have hSW := lt_of_block gS
      refine step_append_lies _ (by rfl) _ _ _ (by rfl) B 91 i0 _ 2 16 Tryz.underlying46 hi0 hz0 hz1 hz2 rfl (by omega) _ done.length (flat2 done) (by rfl) (World.ownsRow.alloc hown _) ⟨y2.heap.size, 0, none⟩ 1 1 [.int .i64 (IntKind.i64.wrap (IntKind.i64.wrap (x + 1) + c6)), .int .i64 (IntKind.i64.wrap (IntKind.i64.wrap (y' + c11) - 3))] (by rfl) (by rfl) (World.news_of_block (cs := #[.int .i64 (IntKind.i64.wrap (IntKind.i64.wrap (x + 1) + c6)), .int .i64 (IntKind.i64.wrap (IntKind.i64.wrap (y' + c11) - 3))]) (t := 91) (fr := (0, 0)) (heap_alloc_new y2 _)) (by simp [Value.oneCell']) (by omega) (by unfold maxLen; omega) (by omega) (by simp; omega) (y2.heap.size + 1) (by simp) ?_
      intro gg cq s2 hown2 hgrow hat hlt2
      have hvS : some S ≠ (Value.slice (some ⟨g, 0, none⟩) done.length cp).ownBlock := by simp [Value.ownBlock]; omega
      have hvR : some w.heap.size ≠ (Value.slice (some ⟨g, 0, none⟩) done.length cp).ownBlock := by simp [Value.ownBlock]; omega
      have hvP : some P ≠ (Value.slice (some ⟨g, 0, none⟩) done.length cp).ownBlock := by simp [Value.ownBlock]; omega
      replace gS := (hgrow.block S (by have := lt_of_block gS; simp; omega) hvS).trans (old_alloc gS)
      replace gR := (hgrow.block _ (by have := lt_of_block gR; simp; omega) hvR).trans (old_alloc gR)
      replace gP := (hgrow.block P (by have := lt_of_block gP; simp; omega) hvP).trans (old_alloc gP)
      clear s0 s1
      obtain ⟨s0, s1, _, _⟩ := cell2g gP
      refine hK.out _ _ ?_ (fun hHeld => ?_)
      ·exact ⟨s0, s1⟩
      clear hK K r0 r1 rf0 rf1
      have hgS2 : gg ≠ S := by
       rcases hat with e | e
       ·simp [Value.ownBlock] at e; omega
       ·have := lt_of_block gS; omega
      replace hr := (hr.alloc _).kept hgrow (fun y hy => by simp [Value.ownBlock] at hy; omega)
      replace hg := grown_upr (grown_trans hg (grown_alloc _ _ _)) hgrow (fun y hy => by simp [Value.ownBlock] at hy; omega)
      obtain ⟨r0, r1, rf0, rf1⟩ := cell2g gS
      try simp only [sq]
      refine tkR ?_ 17 rfl (fun _ _ _ h => h) hHeld ?_ ?_
      rotate_left
      ·intro w hSw; (try dsimp only at hSw); go_simp; try (with_reducible rfl)
      try simp only [sq]
      refine rd1 18 rfl (fun K hK => ?_)
      try simp only [sq]
      go_simp
      refine hK.out _ _ ?_ (fun hHeld => ?_)
      ·exact ⟨keepset4 s0 (by omega), keepset4 s1 (by omega)⟩
      clear hK K
      have hrow := row_self hown2
      try simp only [sq]
      refine wpAnyH_done (by kernel_rfl) ?_ _
      have HS := hid (set_at (k := 1) (u := (.slice (some ⟨gg, 0, none⟩) (done.length + 1) cq)) gS)
      have HR := hid (set_far (q := S) (k := 1) (u := (.slice (some ⟨gg, 0, none⟩) (done.length + 1) cq)) gR (by omega))
      have HO := hid (World.ownsRow.kept hrow (grown_set s2 S 1 (.slice (some ⟨gg, 0, none⟩) (done.length + 1) cq)) (Or.inr (by simp [Value.ownBlock]; omega)))
      have Hr := hid (hr.set (n := S) (k := 1) (by omega) (.slice (some ⟨gg, 0, none⟩) (done.length + 1) cq))
      have Hg := hid (grown_setn (k := 1) hg (n := S) (by omega) (.slice (some ⟨gg, 0, none⟩) (done.length + 1) cq))
      clear gS gR hrow hr hg gP hown2 hgrow hat
      go_wp2_with fail
      go_roundw
      case rel => exact ⟨j + 1, _, _, by go_num, by omega, by have := HDL.out; show _ = _; simp; omega, HS, HR, HO, by show _ ≠ _; simp [Value.ownBlock]; omega, Hr, Hg⟩
      case measure => simp [intOf]; omega
     ·skip
      try simp only [sq]
      go_simp
      go_at_call 38
      refine (below_r _ p a len cap 7 (by omega) (by omega) hr).mono ?_
      rintro e y2 ⟨c11, rfl, c11a, c11b, hr2, hg2⟩
      replace gS := grown_blk hg2 gS (by omega)
      replace gR := grown_blk hg2 gR (by omega)
      replace gP := grown_blk hg2 gP (by omega)
      replace hown := World.ownsRow.kept hown hg2 (Or.inr (fun e => by have := (World.ownsRow.lt hown p e).1; omega))
      replace hg := grown_trans hg hg2
      have hsy2 := hg2.size
      clear hr hg2 s0 s1 r0 r1 rf0 rf1
      rename Ready y2 p a len cap => hr
      obtain ⟨s0, s1, _, _⟩ := cell2g gP
      obtain ⟨r0, r1, rf0, rf1⟩ := cell2g gS
      go_wp2_with fail
      refine hK.out _ _ ?_ (fun hHeld => ?_)
      ·exact ⟨s0, s1⟩
      clear hK K
      try simp only [sq]
      refine tkR ?_ 12 rfl (fun _ _ _ h => h) hHeld ?_ ?_
      rotate_left
      ·intro w hSw; (try dsimp only at hSw); go_simp; try (with_reducible rfl)
      try simp only [sq]
      refine tkR ?_ 13 rfl (fun _ _ _ h => h) hHeld ?_ ?_
      rotate_left
      ·intro w hSw; (try dsimp only at hSw); go_simp; try (with_reducible rfl)
      try simp only [sq]
      refine tkR ?_ 14 rfl (fun _ _ _ h => h) hHeld ?_ ?_
      rotate_left
      ·intro w hSw; (try dsimp only at hSw); go_simp; try (with_reducible rfl)
      try simp only [sq]
      refine wpAnyH_ready (rs := [1, 15]) (by kernel_rfl) (by simp) ?_
      refine (AllReadyH.cons rfl (fun K hK => ?_) (AllReadyH.cons rfl (fun K hK => ?_) AllReadyH.nil))
      ·skip
       try simp only [sq]
       go_simp
       refine hK.out _ _ ?_ (fun hHeld => ?_)
       ·exact ⟨s0, s1⟩
       clear hK K
       try simp only [sq]
       refine rd1 15 rfl (fun K hK => ?_)
       try simp only [sq]
       go_simp
       replace s0 := keepalloc s0 (.cells #[.int .i64 (IntKind.i64.wrap (IntKind.i64.wrap (x + 1) + c6)), .int .i64 (IntKind.i64.wrap (IntKind.i64.wrap (y' + c11) - 3))] 91)
       replace s1 := keepalloc s1 (.cells #[.int .i64 (IntKind.i64.wrap (IntKind.i64.wrap (x + 1) + c6)), .int .i64 (IntKind.i64.wrap (IntKind.i64.wrap (y' + c11) - 3))] 91)
       have b0 := keepalloc r0 (.cells #[.int .i64 (IntKind.i64.wrap (IntKind.i64.wrap (x + 1) + c6)), .int .i64 (IntKind.i64.wrap (IntKind.i64.wrap (y' + c11) - 3))] 91)
       have b1 := keepalloc r1 (.cells #[.int .i64 (IntKind.i64.wrap (IntKind.i64.wrap (x + 1) + c6)), .int .i64 (IntKind.i64.wrap (IntKind.i64.wrap (y' + c11) - 3))] 91)
       refine hK.out _ _ ?_ (fun hHeld => ?_)
       ·exact ⟨s0, s1⟩
       clear hK K
       try simp only [sq]
       refine rd1 16 rfl (fun K hK => ?_)
       have hSW := lt_of_block gS
       refine step_append_lies _ (by rfl) _ _ _ (by rfl) B 91 i0 _ 2 16 Tryz.underlying46 hi0 hz0 hz1 hz2 rfl (by omega) _ done.length (flat2 done) (by rfl) (World.ownsRow.alloc hown _) ⟨y2.heap.size, 0, none⟩ 1 1 [.int .i64 (IntKind.i64.wrap (IntKind.i64.wrap (x + 1) + c6)), .int .i64 (IntKind.i64.wrap (IntKind.i64.wrap (y' + c11) - 3))] (by rfl) (by rfl) (World.news_of_block (cs := #[.int .i64 (IntKind.i64.wrap (IntKind.i64.wrap (x + 1) + c6)), .int .i64 (IntKind.i64.wrap (IntKind.i64.wrap (y' + c11) - 3))]) (t := 91) (fr := (0, 0)) (heap_alloc_new y2 _)) (by simp [Value.oneCell']) (by omega) (by unfold maxLen; omega) (by omega) (by simp; omega) (y2.heap.size + 1) (by simp) ?_
       intro gg cq s2 hown2 hgrow hat hlt2
       have hvS : some S ≠ (Value.slice (some ⟨g, 0, none⟩) done.length cp).ownBlock := by simp [Value.ownBlock]; omega
       have hvR : some w.heap.size ≠ (Value.slice (some ⟨g, 0, none⟩) done.length cp).ownBlock := by simp [Value.ownBlock]; omega
       have hvP : some P ≠ (Value.slice (some ⟨g, 0, none⟩) done.length cp).ownBlock := by simp [Value.ownBlock]; omega
       replace gS := (hgrow.block S (by have := lt_of_block gS; simp; omega) hvS).trans (old_alloc gS)
       replace gR := (hgrow.block _ (by have := lt_of_block gR; simp; omega) hvR).trans (old_alloc gR)
       replace gP := (hgrow.block P (by have := lt_of_block gP; simp; omega) hvP).trans (old_alloc gP)
       clear s0 s1
       obtain ⟨s0, s1, _, _⟩ := cell2g gP
       refine hK.out _ _ ?_ (fun hHeld => ?_)
       ·exact ⟨s0, s1⟩
       clear hK K r0 r1 rf0 rf1
       have hgS2 : gg ≠ S := by
        rcases hat with e | e
        ·simp [Value.ownBlock] at e; omega
        ·have := lt_of_block gS; omega
       replace hr := (hr.alloc _).kept hgrow (fun y hy => by simp [Value.ownBlock] at hy; omega)
       replace hg := grown_upr (grown_trans hg (grown_alloc _ _ _)) hgrow (fun y hy => by simp [Value.ownBlock] at hy; omega)
       obtain ⟨r0, r1, rf0, rf1⟩ := cell2g gS
       try simp only [sq]
       refine tkR ?_ 17 rfl (fun _ _ _ h => h) hHeld ?_ ?_
       rotate_left
       ·intro w hSw; (try dsimp only at hSw); go_simp; try (with_reducible rfl)
       try simp only [sq]
       refine rd1 18 rfl (fun K hK => ?_)
       try simp only [sq]
       go_simp
       refine hK.out _ _ ?_ (fun hHeld => ?_)
       ·exact ⟨keepset4 s0 (by omega), keepset4 s1 (by omega)⟩
       clear hK K
       have hrow := row_self hown2
       try simp only [sq]
       refine wpAnyH_done (by kernel_rfl) ?_ _
       have HS := hid (set_at (k := 1) (u := (.slice (some ⟨gg, 0, none⟩) (done.length + 1) cq)) gS)
       have HR := hid (set_far (q := S) (k := 1) (u := (.slice (some ⟨gg, 0, none⟩) (done.length + 1) cq)) gR (by omega))
       have HO := hid (World.ownsRow.kept hrow (grown_set s2 S 1 (.slice (some ⟨gg, 0, none⟩) (done.length + 1) cq)) (Or.inr (by simp [Value.ownBlock]; omega)))
       have Hr := hid (hr.set (n := S) (k := 1) (by omega) (.slice (some ⟨gg, 0, none⟩) (done.length + 1) cq))
       have Hg := hid (grown_setn (k := 1) hg (n := S) (by omega) (.slice (some ⟨gg, 0, none⟩) (done.length + 1) cq))
       clear gS gR hrow hr hg gP hown2 hgrow hat
       go_wp2_with fail
       go_roundw
       case rel => exact ⟨j + 1, _, _, by go_num, by omega, by have := HDL.out; show _ = _; simp; omega, HS, HR, HO, by show _ ≠ _; simp [Value.ownBlock]; omega, Hr, Hg⟩
       case measure => simp [intOf]; omega
      ·skip
       try simp only [sq]
       go_simp
       replace s0 := keepalloc s0 (.cells #[.int .i64 (IntKind.i64.wrap (IntKind.i64.wrap (x + 1) + c6)), .int .i64 (IntKind.i64.wrap (IntKind.i64.wrap (y' + c11) - 3))] 91)
       replace s1 := keepalloc s1 (.cells #[.int .i64 (IntKind.i64.wrap (IntKind.i64.wrap (x + 1) + c6)), .int .i64 (IntKind.i64.wrap (IntKind.i64.wrap (y' + c11) - 3))] 91)
       have b0 := keepalloc r0 (.cells #[.int .i64 (IntKind.i64.wrap (IntKind.i64.wrap (x + 1) + c6)), .int .i64 (IntKind.i64.wrap (IntKind.i64.wrap (y' + c11) - 3))] 91)
       have b1 := keepalloc r1 (.cells #[.int .i64 (IntKind.i64.wrap (IntKind.i64.wrap (x + 1) + c6)), .int .i64 (IntKind.i64.wrap (IntKind.i64.wrap (y' + c11) - 3))] 91)
       refine hK.out _ _ ?_ (fun hHeld => ?_)
       ·exact ⟨s0, s1⟩
       clear hK K
       try simp only [sq]
       refine rd1 1 rfl (fun K hK => ?_)
       try simp only [sq]
       go_simp
       refine hK.out _ _ ?_ (fun hHeld => ?_)
       ·exact ⟨s0, s1⟩
       clear hK K
       try simp only [sq]
       refine rd1 16 rfl (fun K hK => ?_)
       have hSW := lt_of_block gS
       refine step_append_lies _ (by rfl) _ _ _ (by rfl) B 91 i0 _ 2 16 Tryz.underlying46 hi0 hz0 hz1 hz2 rfl (by omega) _ done.length (flat2 done) (by rfl) (World.ownsRow.alloc hown _) ⟨y2.heap.size, 0, none⟩ 1 1 [.int .i64 (IntKind.i64.wrap (IntKind.i64.wrap (x + 1) + c6)), .int .i64 (IntKind.i64.wrap (IntKind.i64.wrap (y' + c11) - 3))] (by rfl) (by rfl) (World.news_of_block (cs := #[.int .i64 (IntKind.i64.wrap (IntKind.i64.wrap (x + 1) + c6)), .int .i64 (IntKind.i64.wrap (IntKind.i64.wrap (y' + c11) - 3))]) (t := 91) (fr := (0, 0)) (heap_alloc_new y2 _)) (by simp [Value.oneCell']) (by omega) (by unfold maxLen; omega) (by omega) (by simp; omega) (y2.heap.size + 1) (by simp) ?_
       intro gg cq s2 hown2 hgrow hat hlt2
       have hvS : some S ≠ (Value.slice (some ⟨g, 0, none⟩) done.length cp).ownBlock := by simp [Value.ownBlock]; omega
       have hvR : some w.heap.size ≠ (Value.slice (some ⟨g, 0, none⟩) done.length cp).ownBlock := by simp [Value.ownBlock]; omega
       have hvP : some P ≠ (Value.slice (some ⟨g, 0, none⟩) done.length cp).ownBlock := by simp [Value.ownBlock]; omega
       replace gS := (hgrow.block S (by have := lt_of_block gS; simp; omega) hvS).trans (old_alloc gS)
       replace gR := (hgrow.block _ (by have := lt_of_block gR; simp; omega) hvR).trans (old_alloc gR)
       replace gP := (hgrow.block P (by have := lt_of_block gP; simp; omega) hvP).trans (old_alloc gP)
       clear s0 s1
       obtain ⟨s0, s1, _, _⟩ := cell2g gP
       refine hK.out _ _ ?_ (fun hHeld => ?_)
       ·exact ⟨s0, s1⟩
       clear hK K r0 r1 rf0 rf1
       have hgS2 : gg ≠ S := by
        rcases hat with e | e
        ·simp [Value.ownBlock] at e; omega
        ·have := lt_of_block gS; omega
       replace hr := (hr.alloc _).kept hgrow (fun y hy => by simp [Value.ownBlock] at hy; omega)
       replace hg := grown_upr (grown_trans hg (grown_alloc _ _ _)) hgrow (fun y hy => by simp [Value.ownBlock] at hy; omega)
       obtain ⟨r0, r1, rf0, rf1⟩ := cell2g gS
       try simp only [sq]
       refine tkR ?_ 17 rfl (fun _ _ _ h => h) hHeld ?_ ?_
       rotate_left
       ·intro w hSw; (try dsimp only at hSw); go_simp; try (with_reducible rfl)
       try simp only [sq]
       refine rd1 18 rfl (fun K hK => ?_)
       try simp only [sq]
       go_simp
       refine hK.out _ _ ?_ (fun hHeld => ?_)
       ·exact ⟨keepset4 s0 (by omega), keepset4 s1 (by omega)⟩
       clear hK K
       have hrow := row_self hown2
       try simp only [sq]
       refine wpAnyH_done (by kernel_rfl) ?_ _
       have HS := hid (set_at (k := 1) (u := (.slice (some ⟨gg, 0, none⟩) (done.length + 1) cq)) gS)
       have HR := hid (set_far (q := S) (k := 1) (u := (.slice (some ⟨gg, 0, none⟩) (done.length + 1) cq)) gR (by omega))
       have HO := hid (World.ownsRow.kept hrow (grown_set s2 S 1 (.slice (some ⟨gg, 0, none⟩) (done.length + 1) cq)) (Or.inr (by simp [Value.ownBlock]; omega)))
       have Hr := hid (hr.set (n := S) (k := 1) (by omega) (.slice (some ⟨gg, 0, none⟩) (done.length + 1) cq))
       have Hg := hid (grown_setn (k := 1) hg (n := S) (by omega) (.slice (some ⟨gg, 0, none⟩) (done.length + 1) cq))
       clear gS gR hrow hr hg gP hown2 hgrow hat
       go_wp2_with fail
       go_roundw
       case rel => exact ⟨j + 1, _, _, by go_num, by omega, by have := HDL.out; show _ = _; simp; omega, HS, HR, HO, by show _ ≠ _; simp [Value.ownBlock]; omega, Hr, Hg⟩
       case measure => simp [intOf]; omega
   ·have hge : 1 + m ≤ (j : Int) := by omega
    obtain ⟨r0, r1, rf0, rf1⟩ := cell2g HR.out
    have hzf : w.heap.size < wr.heap.size := lt_of_block HR.out
    obtain ⟨v', ev, z0', z1', hrow', hr', hg'⟩ := fin_shape (k := 1) hp (Nat.le_refl _) HR.out HO.out (by omega) (by simp [Value.ownBlock]; omega) Hr.out Hg.out
    have Hev := hid ev
    have Hrow := hid hrow'
    clear ev hrow' hat hdl
    go_wp2_with fail
    rw [← Hev.out]
    exact bodyPost_ret (v := .agg #[.int .i64 1, .slice (some ⟨g, 0, none⟩) done.length cp]) (by simp [results, Tryz.results153, go_sem, z0', z1']) rfl ⟨1, done, _, rfl, hdp, by omega, Hrow.out, hr', hg'⟩
 ·skip
  go_wp2_with fail
  refine (below_r _ p a len cap 21 (by omega) (by omega) hr).mono ?_
  rintro e v2 ⟨y, rfl, y0, y1, hr2, hg2⟩
  replace gR := grown_blk hg2 gR (by omega)
  replace hg := grown_trans hg hg2
  clear hr hg2
  rename Ready v2 p a len cap => hr
  go_wp2_with fail
  refine (below_r _ p a len cap 21 (by omega) (by omega) hr).mono ?_
  rintro e v3 ⟨z, rfl, z0, z1, hr2, hg2⟩
  replace gR := grown_blk hg2 gR (by omega)
  replace hg := grown_trans hg hg2
  clear hr hg2
  rename Ready v3 p a len cap => hr
  go_wp2_with fail
  refine (below_r _ p a len cap 7 (by omega) (by omega) hr).mono ?_
  rintro e v4 ⟨y', rfl, y'0, y'1, hr2, hg2⟩
  replace gR := grown_blk hg2 gR (by omega)
  replace hg := grown_trans hg hg2
  clear hr hg2
  rename Ready v4 p a len cap => hr
  go_wp2_with fail
  refine (below_r _ p a len cap 7 (by omega) (by omega) hr).mono ?_
  rintro e v5 ⟨z', rfl, z'0, z'1, hr2, hg2⟩
  replace gR := grown_blk hg2 gR (by omega)
  replace hg := grown_trans hg hg2
  clear hr hg2
  rename Ready v5 p a len cap => hr
  have hzf : w.heap.size < v5.heap.size := lt_of_block gR
  obtain ⟨r0, r1, rf0, rf1⟩ := cell2g gR
  obtain ⟨v', ev, z0', z1', hrow', hr', hg'⟩ := fin_lit (k := 2) (n := 2) (cs := #[.int .i64 (y - 10), .int .i64 (z - 10), .int .i64 (y - 10 + y'), .int .i64 (z - 10 + z')]) [(y - 10, z - 10), (y - 10 + y', z - 10 + z')] rfl rfl (by simp) hp (Nat.le_refl _) gR hr hg
  have Hev := hid ev
  have Hrow := hid hrow'
  clear ev gR hrow'
  go_wp2_with fail
  rw [← Hev.out]
  exact bodyPost_ret (v := .agg #[.int .i64 2, .slice (some ⟨v5.heap.size, 0, none⟩) 2 2]) (by simp [results, Tryz.results153, go_sem, z0', z1']) rfl ⟨2, [(y - 10, z - 10), (y - 10 + y', z - 10 + z')], _, rfl, by simp, by simp, Hrow.out, hr', hg'⟩
 ·skip
  go_wp2_with fail
  refine (ring7_r _ p a len cap hr).mono ?_
  rintro e v2 ⟨ps, vs, rfl, hl1, hl2, hrow, hr2, hg2⟩
  replace gR := grown_blk hg2 gR (by omega)
  replace hg := grown_trans hg hg2
  clear hr hg2
  obtain ⟨r0, r1, rf0, rf1⟩ := cell2g gR
  have hzf : w.heap.size < v2.heap.size := lt_of_block gR
  obtain ⟨g, cp, rfl, hgb, hgl, hcp, hat⟩ := hrow.at' (by omega)
  clear hat
  obtain ⟨v', ev, z0', z1', hrow', hr', hg'⟩ := fin_shape (k := 3) hp (Nat.le_refl _) gR hrow (by omega) (fun e => by have := (World.ownsRow.lt hrow _ e).1; omega) hr2 hg
  have Hev := hid ev
  have Hrow := hid hrow'
  clear ev gR hrow' hrow
  go_wp2_with fail
  rw [← Hev.out]
  exact bodyPost_ret (v := .agg #[.int .i64 3, .slice (some ⟨g, 0, none⟩) ps.length cp]) (by simp [results, Tryz.results153, go_sem, z0', z1']) rfl ⟨3, ps, _, rfl, hl1, hl2, Hrow.out, hr', hg'⟩
end Go.Proofs.YtenlhgnobfadgaaGreatDoor
