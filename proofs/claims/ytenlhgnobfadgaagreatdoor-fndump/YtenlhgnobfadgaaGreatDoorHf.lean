import Derived.Test.YtenlhgnobfadgaaGreatDoorJ10
import Derived.Test.YtenlhgnobfadgaaGreatDoorHa
set_option maxRecDepth 100000
set_option maxHeartbeats 32000000
set_option linter.unusedSimpArgs false
set_option linter.unusedVariables false
namespace Go.Proofs.YtenlhgnobfadgaaGreatDoor
open Go.RowKit
theorem flat5_at4 {xs : List El} {j : Nat} {r : Rw} {c cp : Nat} (h : xs[j]? = some (elR r c cp)) : (flat5 xs)[j * 5 + 4]? = some (.slice (some ⟨c, 0, none⟩) r.2.2.2.2.length cp) := by
 obtain ⟨hj, e⟩ := List.getElem?_eq_some_iff.1 h
 have := (flat5_at xs j hj).2.2.2.2
 rw [this, e]
 rfl
theorem RowsX.rwsG {base hi : Nat} {w : World} {ra : Option Addr} {n rc : Nat} {rs : List Rw} {xs : List El} (h : RowsX base hi w (.slice ra n rc) rs xs) : RwsG w ra rs := by
 by_cases h0 : rs.length = 0
 ·exact .inl (List.length_eq_zero_iff.1 h0)
 ·right
  have hr := h.rws
  obtain ⟨h1, h2, h3, h4, c, cp, h5, h6⟩ := h
  rcases h2.2 with ⟨q, hn⟩ | ⟨g, cc, cur, e, hb, hg, hc, hx⟩
  ·exact absurd hn h0
  ·cases e
   refine ⟨g, rfl, lt_of_block hg, fun j hj => ?_⟩
   obtain ⟨a1, a2, a3, a4, a5, a6, a7⟩ := h5 j hj
   rcases hr with q | ⟨b, o, e, _, hat⟩
   ·rw [q] at hj; simp at hj
   ·cases e
    obtain ⟨a', c', k0, k1, k2, k3, k4, k5, k6, k7, k8⟩ := hat j hj
    rw [Nat.zero_add] at k0 k1 k2 k3 k4
    have hx4 : w.cell? ⟨g, j * 5 + 4, none⟩ = some (.slice (some ⟨c j, 0, none⟩) rs[j].2.2.2.2.length (cp j)) := by
     have hfl := flat5_at4 a1
     have hlt : j * 5 + 4 < rs.length * 5 := by omega
     have := World.ownsRow.cellAt h2 (j * 5 + 4) hlt
     rw [this, hfl]
    exact ⟨c j, cp j, by omega, k0, k1, k2, k3, hx4, a3, a7.pts⟩
def RG (w : World) (p : Nat) (a : Option Addr) (len cap : Nat) (now : Int) (v : Value) (rs : List Rw) (xs : List El) (wr : World) : Prop :=
 wr.heap[w.heap.size]? = some (.cells #[.int .i64 0, .slice none 0 0] 32 (0, 0)) ∧ wr.heap[w.heap.size + 1]? = some (.cells #[.int .i64 now, v] 32 (0, 0)) ∧ RowsX (w.heap.size + 2) wr.heap.size wr v rs xs ∧ Ready wr p a len cap ∧ w.grownBy wr (some p) ∧ p < w.heap.size
theorem RowsX.grown {base hi p : Nat} {w w' : World} {v : Value} {rs : List Rw} {xs : List El} (h : RowsX base hi w v rs xs) (hg : w.grownBy w' (some p)) (hp : p < base) : RowsX base hi w' v rs xs :=
 h.frame (fun c h1 h2 => hg.block c (by have := h.2.2.2.1; omega) (fun e => by injection e with e; omega)) hg.size
theorem RG.grown {w : World} {p : Nat} {a : Option Addr} {len cap : Nat} {now : Int} {v : Value} {rs : List Rw} {xs : List El} {wr wr' : World} (h : RG w p a len cap now v rs xs wr) (hr : Ready wr' p a len cap) (hg : wr.grownBy wr' (some p)) : RG w p a len cap now v rs xs wr' := by
 obtain ⟨h1, h2, h3, h4, h5, h6⟩ := h
 exact ⟨grown_blk hg h1 (by omega), grown_blk hg h2 (by omega), (h3.grown hg (by omega)).mono (Nat.le_refl _) hg.size (Nat.le_refl _), hr, grown_trans h5 hg, h6⟩
theorem RG.bel {w : World} {p : Nat} {a : Option Addr} {len cap : Nat} {now : Int} {v : Value} {rs : List Rw} {xs : List El} {wr wr' : World} (h : RG w p a len cap now v rs xs wr) (hb : Below wr.heap.size wr wr') : RG w p a len cap now v rs xs wr' := by
 obtain ⟨h1, h2, h3, h4, h5, h6⟩ := h
 exact ⟨keepheap2 hb h1, keepheap2 hb h2, (h3.below hb).mono (Nat.le_refl _) hb.size (Nat.le_refl _), h4.bel hb, grown_bel h5 hb, h6⟩
theorem RG.setn {w : World} {p : Nat} {a : Option Addr} {len cap : Nat} {now : Int} {v : Value} {rs : List Rw} {xs : List El} {wr : World} (h : RG w p a len cap now v rs xs wr) (now' : Int) : RG w p a len cap now' v rs xs (wr.setCell ⟨w.heap.size + 1, 0, none⟩ (.int .i64 now')) := by
 obtain ⟨h1, h2, h3, h4, h5, h6⟩ := h
 exact ⟨set_far h1 (by omega), set_at h2, (h3.frame (fun c c1 _ => Below.heap_setCell _ _ _ _ (by dsimp only; omega)) (by simp)).mono (Nat.le_refl _) (by simp) (Nat.le_refl _), h4.set (by omega) _, grown_setn h5 (by omega) _, h6⟩
theorem RG.next {w : World} {p : Nat} {a : Option Addr} {len cap : Nat} {now : Int} {v : Value} {rs : List Rw} {xs : List El} {wr : World} (h : RG w p a len cap now v rs xs wr) {xb b hh : Nat} {now' : Int} {v' : Value} {rs' : List Rw} {xs' : List El} (hX : RowsX b hh wr v' rs' xs') (hb : w.heap.size + 2 ≤ b) (hxb : xb < b ∨ hh ≤ xb) (hxw : w.heap.size + 2 ≤ xb) :
  RG w p a len cap now' v' rs' xs' ((((wr.setCell ⟨xb, 0, none⟩ (.int .i64 now')).setCell ⟨xb, 1, none⟩ v').setCell ⟨w.heap.size + 1, 0, none⟩ (.int .i64 now')).setCell ⟨w.heap.size + 1, 1, none⟩ v') := by
 obtain ⟨h1, h2, h3, h4, h5, h6⟩ := h
 refine ⟨set_far (set_far (set_far (set_far h1 (by omega)) (by omega)) (by omega)) (by omega), set_at (set_at (set_far (set_far h2 (by omega)) (by omega))), (hX.frame (fun c c1 c2 => ?_) (by simp)).mono hb (by simpa using hX.2.2.2.1) (Nat.le_refl _), (((h4.set (by omega) _).set (by omega) _).set (by omega) _).set (by omega) _, grown_setn (grown_setn (grown_setn (grown_setn h5 (by omega) _) (by omega) _) (by omega) _) (by omega) _, h6⟩
 rw [Below.heap_setCell _ _ _ _ (by dsimp only; omega), Below.heap_setCell _ _ _ _ (by dsimp only; omega), Below.heap_setCell _ _ _ _ (by dsimp only; omega), Below.heap_setCell _ _ _ _ (by dsimp only; omega)]
theorem RG.to {w : World} {p : Nat} {a : Option Addr} {len cap : Nat} {now : Int} {rs : List Rw} {xs : List El} {wr : World} {g n c : Nat} (h : RG w p a len cap now (.slice (some ⟨g, 0, none⟩) n c) rs xs wr) (h0 : 0 < rs.length) (t : Int) : ∃ rs' xs', rs'.length = rs.length ∧ RG w p a len cap now (.slice (some ⟨g, 0, none⟩) n c) rs' xs' (wr.setCell ⟨g, 2, none⟩ (.int .i64 t)) := by
 obtain ⟨h1, h2, h3, h4, h5, h6⟩ := h
 have hg := (h3.2.1.lt g rfl).1
 have := h3.setTo (j := 0) h0 t
 rw [show 0 * 5 + 2 = 2 from rfl] at this
 exact ⟨_, _, by simp, set_far h1 (by omega), set_far h2 (by omega), this.mono (Nat.le_refl _) (by simp) (Nat.le_refl _), h4.set (by omega) _, grown_setn h5 (by omega) _, h6⟩
theorem RG.fin {w : World} {p : Nat} {a : Option Addr} {len cap : Nat} {now : Int} {v : Value} {rs : List Rw} {xs : List El} {wr : World} (h : RG w p a len cap now v rs xs wr) : ((wr.setCell ⟨w.heap.size, 0, none⟩ (.int .i64 now)).setCell ⟨w.heap.size, 1, none⟩ v).heap[w.heap.size]? = some (.cells #[.int .i64 now, v] 32 (0, 0)) ∧ RowsX w.heap.size ((wr.setCell ⟨w.heap.size, 0, none⟩ (.int .i64 now)).setCell ⟨w.heap.size, 1, none⟩ v).heap.size ((wr.setCell ⟨w.heap.size, 0, none⟩ (.int .i64 now)).setCell ⟨w.heap.size, 1, none⟩ v) v rs xs ∧ Ready ((wr.setCell ⟨w.heap.size, 0, none⟩ (.int .i64 now)).setCell ⟨w.heap.size, 1, none⟩ v) p a len cap ∧ w.grownBy ((wr.setCell ⟨w.heap.size, 0, none⟩ (.int .i64 now)).setCell ⟨w.heap.size, 1, none⟩ v) (some p) := by
 obtain ⟨h1, h2, h3, h4, h5, h6⟩ := h
 refine ⟨set2r h1 _ _, (h3.frame (fun c c1 _ => ?_) (by simp)).mono (by omega) (by simp) (Nat.le_refl _), (h4.set h6 _).set h6 _, grown_setn (grown_setn h5 (Nat.le_refl _) _) (Nat.le_refl _) _⟩
 rw [Below.heap_setCell _ _ _ _ (by dsimp only; omega), Below.heap_setCell _ _ _ _ (by dsimp only; omega)]
theorem apnow_le (now : Int) (rs : List Rw) (cs : List Ch) : now ≤ apnow now rs cs ∧ apnow now rs cs ≤ now + 1 := by
 unfold apnow; split <;> omega
theorem aprs_le (now : Int) (rs : List Rw) (cs : List Ch) (h : rs.length ≤ 300) : (aprs now rs cs).length ≤ 300 := by
 unfold aprs
 split
 ·rename_i e
  unfold apb at e
  simp only [Bool.and_eq_true, decide_eq_true_eq] at e
  rw [apl_len]; exact e.1.2
 ·exact h
theorem cell1_of {base hi : Nat} {w : World} {g n rc : Nat} {rs : List Rw} {xs : List El} (h : RowsX base hi w (.slice (some ⟨g, 0, none⟩) n rc) rs xs) (h0 : 0 < rs.length) : w.cell? ⟨g, 1, none⟩ = some (.int .i64 rs[0].2.1) := by
 rcases h.rws with q | ⟨b, o, e, _, hat⟩
 ·rw [q] at h0; simp at h0
 ·cases e
  obtain ⟨a', c', k0, k1, _⟩ := hat 0 h0
  simpa using k1
theorem cell2_of {base hi : Nat} {w : World} {g n rc : Nat} {rs : List Rw} {xs : List El} (h : RowsX base hi w (.slice (some ⟨g, 0, none⟩) n rc) rs xs) (h0 : 0 < rs.length) : ∃ u, w.cell? ⟨g, 2, none⟩ = some u ∧ w.frozen? ⟨g, 2, none⟩ = false := by
 have h2 := h.2.1
 rcases h.rws with q | ⟨b, o, e, _, hat⟩
 ·rw [q] at h0; simp at h0
 ·cases e
  obtain ⟨a', c', k0, k1, k2, _⟩ := hat 0 h0
  refine ⟨_, by simpa using k2, ?_⟩
  have hn : n = rs.length := by
   rcases h2.2 with ⟨q, _⟩ | ⟨g', c', cur, e, _⟩
   ·cases q
   ·injection e with _ e _
  subst hn
  exact World.ownsRow.frozenAt h2 2
theorem own_pt {w : World} {b : Nat} {t : TypeId} (h : w.heap[b]? = some (.cells #[.int .i64 1, .int .i64 1] t (0, 0))) : PtsOwn w b [(1, 1)] := by
 obtain ⟨k0, k1, f0, f1⟩ := cell2f h
 refine ⟨lt_of_block h, fun j hj => ?_, fun j hj => ?_⟩
 ·have : j = 0 := by simp at hj; omega
  subst this
  exact ⟨k0, k1⟩
 ·simp at hj
  rw [Nat.zero_add]
  rcases (show j = 0 ∨ j = 1 by omega) with e | e <;> subst e
  ·exact ⟨by rw [k0]; rfl, f0⟩
  ·exact ⟨by rw [k1]; rfl, f1⟩
theorem RG.app {w : World} {p : Nat} {a : Option Addr} {len cap : Nat} {now : Int} {v : Value} {rs : List Rw} {xs : List El} {y W w2 : World} (h : RG w p a len cap now v rs xs y) (hW : Below y.heap.size y W) {v' : Value} {rs' : List Rw} {xs' : List El} (hX : RowsX (w.heap.size + 2) w2.heap.size w2 v' rs' xs') (hg : W.grownBy w2 v.ownBlock) : RG w p a len cap now v' rs' xs' (w2.setCell ⟨w.heap.size + 1, 1, none⟩ v') := by
 obtain ⟨h1, h2, h3, h4, h5, h6⟩ := h.bel hW
 have hne : ∀ k, k < w.heap.size + 2 → v.ownBlock ≠ some k := fun k hk e => by have := (h3.2.1.lt k e).1; omega
 have b1 := lt_of_block h1
 have b2 := lt_of_block h2
 have hgn : w.grownBy w2 (some p) := ⟨hg.os.trans h5.os, hg.tape.trans h5.tape, hg.output.trans h5.output, Nat.le_trans h5.size hg.size, fun k hk hkp => (hg.block k (by omega) (fun e => hne k (by omega) e.symm)).trans (h5.block k hk hkp)⟩
 have hrd : Ready w2 p a len cap := by
  obtain ⟨⟨j, xx, hj, hh⟩, hc⟩ := h4
  exact ⟨⟨j, xx, hj, (hg.block p (lt_of_block hh) (fun e => hne p (by omega) e.symm)).trans hh⟩, hc.below ⟨hg.os, hg.tape, hg.output, by have := hg.size; have := lt_of_block hh; omega, fun k hk => hg.block k (by have := lt_of_block hh; omega) (fun e => hne k (by omega) e.symm)⟩⟩
 exact ⟨set_far ((hg.block _ b1 (fun e => hne _ (by omega) e.symm)).trans h1) (by omega), set_at ((hg.block _ b2 (fun e => hne _ (by omega) e.symm)).trans h2), (hX.frame (fun c c1 _ => Below.heap_setCell _ _ _ _ (by dsimp only; omega)) (by simp)).mono (Nat.le_refl _) (by simp) (Nat.le_refl _), hrd.set (by omega) _, grown_setn hgn (by omega) _, h6⟩
def DR (w : World) (p : Nat) (a : Option Addr) (len cap : Nat) (e : Ending) (w' : World) : Prop := ∃ (now : Int) (v : Value) (rs : List Rw) (xs : List El), e = .returned (.agg #[.int .i64 now, v]) ∧ (-1 ≤ now ∧ now ≤ 20) ∧ rs.length ≤ 301 ∧ RowsX w.heap.size w'.heap.size w' v rs xs ∧ Ready w' p a len cap ∧ w.grownBy w' (some p)
theorem DR.mk {w w' : World} {p : Nat} {a : Option Addr} {len cap : Nat} {now : Int} {v : Value} {rs : List Rw} {xs : List El} (h0 : -1 ≤ now) (h1 : now ≤ 20) (h2 : rs.length ≤ 301) (h3 : RowsX w.heap.size w'.heap.size w' v rs xs) (h4 : Ready w' p a len cap) (h5 : w.grownBy w' (some p)) : DR w p a len cap (.returned (.agg #[.int .i64 now, v])) w' := ⟨now, v, rs, xs, rfl, ⟨h0, h1⟩, h2, h3, h4, h5⟩
theorem rows_r (w : World) (p : Nat) (a : Option Addr) (len cap : Nat) (h : Ready w p a len cap) : Calls Tryz.prog 35 #[.pointer (some ⟨p, 0, none⟩)] w fun e w' => DR w p a len cap e w' := by
 obtain ⟨i0, hi0, hz0, hz1, hz2⟩ := info_parts Tryz.infoRow
 have hp := h.lt
 have H : Hid (RG w p a len cap 0 (.slice none 0 0) [] [] ((w.alloc (.cells #[.int .i64 0, .slice none 0 0] 32)).alloc (.cells #[.int .i64 0, .slice none 0 0] 32))) := hid (by
  have e1 : (w.alloc (.cells #[.int .i64 0, .slice none 0 0] 32)).heap.size = w.heap.size + 1 := by simp
  have g1 := heap_alloc_new (w.alloc (.cells #[.int .i64 0, .slice none 0 0] 32)) (.cells #[.int .i64 0, .slice none 0 0] 32)
  rw [e1] at g1
  exact ⟨old_alloc (heap_alloc_new w _), g1, RowsX.nil own_nilR (fun g e => by cases e) (by simp), (h.alloc _).alloc _, grown_trans (grown_alloc _ _ _) (grown_alloc _ _ _), hp⟩)
 clear h
 go_enter Tryz.func35, Tryz.ntmps35
 go_upto_region 2 with fail
 generalize (w.alloc (.cells #[.int .i64 0, .slice none 0 0] 32)).alloc (.cells #[.int .i64 0, .slice none 0 0] 32) = W0 at *
 go_wp2_with fail
 refine (below_r _ p a len cap 8 (by omega) (by omega) H.out.2.2.2.1).mono ?_
 rintro e W1 ⟨n, rfl, hn0, hn1, hr, hg⟩
 replace H := hid (H.out.grown hr hg)
 clear hr hg
 obtain ⟨m, rfl⟩ := Int.eq_ofNat_of_zero_le hn0
 go_wp2_with fail
 go_loopw [5] (fun ti wr => ∃ (i : Nat) (now : Int) (v : Value) (rs : List Rw) (xs : List El), ti = .int .i64 i ∧ i ≤ m ∧ 0 ≤ now ∧ now ≤ i ∧ rs.length ≤ 300 ∧ Hid (RG w p a len cap now v rs xs wr)) (fun ti _ => m - (intOf ti).toNat)
 case atStart => exact ⟨0, 0, _, [], [], rfl, Nat.zero_le _, Int.le_refl _, Int.le_refl _, by simp, H⟩
 case round =>
  clear H
  obtain ⟨i, now, v, rs, xs, rfl, hi, hw0, hwi, hrl, H⟩ := hrel
  obtain ⟨ra, rc, ev⟩ := kept_form H.out.2.2.1
  subst ev
  by_cases hlt : i < m
  ·have c1 : (i : Int) < (m : Int) := by omega
   obtain ⟨q0, q1, _, _⟩ := cell2f H.out.2.1
   go_upto_region 6 with fail
   refine wp_region_held_drew (S := (fun w' => w'.cell? ⟨(w.heap.size + 1), 0, none⟩ = some (.int .i64 now) ∧ w'.cell? ⟨(w.heap.size + 1), 1, none⟩ = some (.slice ra rs.length rc))) (by kernel_rfl) ?_ (fun hHeld => ?_)
   ·(repeat' apply And.intro) <;> (first | exact q0 | exact q1 | with_reducible assumption)
   replace H := hid (H.out.bel (bdrew (Below.refl _ _)))
   generalize wr.drew = V0 at *
   refine tkR ?_ 0 rfl (fun _ _ _ h => h) hHeld ?_ ?_
   rotate_left
   ·intro w hSw; (try dsimp only at hSw); go_simp; try (with_reducible rfl)
   try simp only [sq]
   refine tkR ?_ 1 rfl (fun _ _ _ h => h) hHeld ?_ ?_
   rotate_left
   ·intro w hSw; (try dsimp only at hSw); go_simp; try (with_reducible rfl)
   try simp only [sq]
   refine tkR ?_ 2 rfl (fun _ _ _ h => h) hHeld ?_ ?_
   rotate_left
   ·intro w hSw; (try dsimp only at hSw); go_simp; try (with_reducible rfl)
   try simp only [sq]
   refine wpAnyH_ready (rs := [3, 10]) (by kernel_rfl) (by simp) ?_
   refine (AllReadyH.cons rfl (fun K hK => ?_) (AllReadyH.cons rfl (fun K hK => ?_) AllReadyH.nil))
   ·skip
    try simp only [sq]
    go_simp
    go_at_call 38
    refine (below_r _ p a len cap 3 (by omega) (by omega) H.out.2.2.2.1).mono ?_
    rintro e y1 ⟨x, rfl, hx0, hx1, hr, hg⟩
    replace H := hid (H.out.grown hr hg)
    obtain ⟨k, hk⟩ : ∃ k : Nat, 1 + x = (k : Int) := ⟨(1 + x).toNat, by omega⟩
    have hwk : IntKind.i64.wrap (1 + x) = (k : Int) := by rw [IntKind.wrap_i64]; omega
    have hk8 : k ≤ 8 := by omega
    clear hr hg hk hx0 hx1
    go_wp2_with fail
    refine hK.out _ _ ?_ (fun hHeld => ?_)
    ·(go_split_ands; (repeat' apply And.intro) <;> (repeat (first | with_reducible assumption | exact (cell2f H.out.2.1).1 | exact (cell2f H.out.2.1).2.1 | with_reducible refine keepset ?_ (by dsimp only; omega))))
    clear hK K
    try simp only [sq]
    refine tkR ?_ 4 rfl (fun _ _ _ h => h) hHeld ?_ ?_
    rotate_left
    ·intro w hSw; (try dsimp only at hSw); go_simp; try (with_reducible rfl)
    try simp only [sq]
    refine wpAnyH_ready (rs := [5, 10]) (by kernel_rfl) (by simp) ?_
    refine (AllReadyH.cons rfl (fun K hK => ?_) (AllReadyH.cons rfl (fun K hK => ?_) AllReadyH.nil))
    ·skip
     try simp only [sq]
     go_simp
     go_at_call 71
     refine (changes_r _ p a len cap k hk8 H.out.2.2.2.1).mono ?_
     rintro e y2 ⟨cs, ca, cc, rfl, hcl, hch, _, hr, hg⟩
     replace H := hid (H.out.grown hr hg)
     have HCH := hid hch
     clear hr hg hch
     go_wp2_with fail
     refine hK.out _ _ ?_ (fun hHeld => ?_)
     ·(go_split_ands; (repeat' apply And.intro) <;> (repeat (first | with_reducible assumption | exact (cell2f H.out.2.1).1 | exact (cell2f H.out.2.1).2.1 | with_reducible refine keepset ?_ (by dsimp only; omega))))
     clear hK K
     try simp only [sq]
     refine wpAnyH_ready (rs := [6, 10]) (by kernel_rfl) (by simp) ?_
     refine (AllReadyH.cons rfl (fun K hK => ?_) (AllReadyH.cons rfl (fun K hK => ?_) AllReadyH.nil))
     ·skip
      try simp only [sq]
      go_simp
      go_at_call 70
      refine (spec_ApplyG now ra rc rs ca cc cs _ (by omega) H.out.2.2.1.rwsG H.out.2.2.1.rws (by omega) HCH.out).mono ?_
      rintro e y3 ⟨v', xs', rfl, hX, hy⟩
      obtain ⟨va, vc, hve⟩ := kept_form hX
      subst hve
      have hws : w.heap.size + 2 ≤ y2.heap.size := lt_of_block H.out.2.1
      replace H := hid (H.out.bel hy)
      have HX := hid hX
      have hys := hy.size
      clear hX hy HCH
      go_wp2_with fail
      refine hK.out _ _ ?_ (fun hHeld => ?_)
      ·(go_split_ands; (repeat' apply And.intro) <;> (repeat (first | with_reducible assumption | exact (cell2f H.out.2.1).1 | exact (cell2f H.out.2.1).2.1 | with_reducible refine keepset ?_ (by dsimp only; omega))))
      clear hK K
      try simp only [sq]
      refine tkR ?_ 7 rfl (fun _ _ _ h => h) hHeld ?_ ?_
      rotate_left
      ·intro w hSw; (try dsimp only at hSw); go_simp; try (with_reducible rfl)
      try simp only [sq]
      refine tkR ?_ 8 rfl (fun _ _ _ h => h) hHeld ?_ ?_
      rotate_left
      ·intro w hSw; (try dsimp only at hSw); go_simp; try (with_reducible rfl)
      try simp only [sq]
      refine tkR ?_ 9 rfl (fun _ _ _ h => h) hHeld ?_ ?_
      rotate_left
      ·intro w hSw; (try dsimp only at hSw); go_simp; try (with_reducible rfl)
      try simp only [sq]
      refine rd1 10 rfl (fun K hK => ?_)
      try simp only [sq]
      go_simp
      have hws0 : w.heap.size + 2 ≤ y3.heap.size := lt_of_block H.out.2.1
      have gX := heap_alloc_new y3 (.cells #[.int .i64 0, .slice none 0 0] 32)
      have hal : Below y3.heap.size y3 (y3.alloc (.cells #[.int .i64 0, .slice none 0 0] 32)) := balloc (Below.refl _ _) _
      replace H := hid (H.out.bel hal)
      replace HX := hid (HX.out.below hal)
      refine hK.out _ _ ?_ (fun hHeld => ?_)
      ·(go_split_ands; (repeat' apply And.intro) <;> (repeat (first | with_reducible assumption | exact (cell2f H.out.2.1).1 | exact (cell2f H.out.2.1).2.1 | with_reducible refine keepset ?_ (by dsimp only; omega))))
      clear hK K
      try simp only [sq]
      clear hal
      generalize y3.alloc (.cells #[.int .i64 0, .slice none 0 0] 32) = Z at *
      generalize y3.heap.size = xb at *
      refine rd1 11 rfl (fun K hK => ?_)
      obtain ⟨v0, v1, s0, s1⟩ := cell2f gX
      try simp only [sq]
      go_simp
      refine hK.out _ _ ?_ (fun hHeld => ?_)
      ·(go_split_ands; (repeat' apply And.intro) <;> (repeat (first | with_reducible assumption | exact (cell2f H.out.2.1).1 | exact (cell2f H.out.2.1).2.1 | with_reducible refine keepset ?_ (by dsimp only; omega))))
      clear hK K
      try simp only [sq]
      refine tkR ?_ 12 rfl (fun _ _ _ h => h) hHeld ?_ ?_
      rotate_left
      ·intro w hSw; (try dsimp only at hSw); go_simp; try (with_reducible rfl)
      try simp only [sq]
      refine wpAnyH_done (by kernel_rfl) ?_ _
      clear v0 v1 s0 s1 hHeld q0 q1
      have gX2 := set2r gX (.int .i64 (apnow now rs cs)) (.slice va (aprs now rs cs).length vc)
      have gQ2 := set_far (q := xb) (k := 1) (u := (.slice va (aprs now rs cs).length vc)) (set_far (q := xb) (k := 0) (u := .int .i64 (apnow now rs cs)) H.out.2.1 (by omega)) (by omega)
      have hN := H.out.next (xb := xb) (now' := apnow now rs cs) HX.out (by omega) (by omega) hws0
      have hl := aprs_le now rs cs hrl
      have hna := apnow_le now rs cs
      have HN := hid hN
      clear hN gX HX H
      generalize (Z.setCell ⟨xb, 0, none⟩ (.int .i64 (apnow now rs cs))).setCell ⟨xb, 1, none⟩ (.slice va (aprs now rs cs).length vc) = Y at *
      generalize apnow now rs cs = now' at *
      generalize aprs now rs cs = rs' at *
      obtain ⟨v0, v1, _, _⟩ := cell2f gX2
      obtain ⟨_, _, s0, s1⟩ := cell2f gQ2
      go_wp2_with fail
      go_roundw
      case rel => exact ⟨i + 1, now', _, rs', _, by go_num, by omega, by omega, by omega, hl, HN⟩
      case measure => simp [intOf]; omega
     ·skip
      try simp only [sq]
      go_simp
      have hws0 : w.heap.size + 2 ≤ y2.heap.size := lt_of_block H.out.2.1
      have gX := heap_alloc_new y2 (.cells #[.int .i64 0, .slice none 0 0] 32)
      have hal : Below y2.heap.size y2 (y2.alloc (.cells #[.int .i64 0, .slice none 0 0] 32)) := balloc (Below.refl _ _) _
      replace H := hid (H.out.bel hal)
      replace HCH := hid (HCH.out.below hal)
      refine hK.out _ _ ?_ (fun hHeld => ?_)
      ·(go_split_ands; (repeat' apply And.intro) <;> (repeat (first | with_reducible assumption | exact (cell2f H.out.2.1).1 | exact (cell2f H.out.2.1).2.1 | with_reducible refine keepset ?_ (by dsimp only; omega))))
      clear hK K
      try simp only [sq]
      clear hal
      generalize y2.alloc (.cells #[.int .i64 0, .slice none 0 0] 32) = Z at *
      generalize y2.heap.size = xb at *
      refine rd1 6 rfl (fun K hK => ?_)
      try simp only [sq]
      go_simp
      go_at_call 70
      refine (spec_ApplyG now ra rc rs ca cc cs _ (by omega) H.out.2.2.1.rwsG H.out.2.2.1.rws (by omega) HCH.out).mono ?_
      rintro e y3 ⟨v', xs', rfl, hX, hy⟩
      obtain ⟨va, vc, hve⟩ := kept_form hX
      subst hve
      have hws : w.heap.size + 2 ≤ Z.heap.size := lt_of_block H.out.2.1
      replace H := hid (H.out.bel hy)
      have hxb := lt_of_block gX
      replace gX := keepheap2 hy gX
      have HX := hid hX
      have hys := hy.size
      clear hX hy HCH
      go_wp2_with fail
      refine hK.out _ _ ?_ (fun hHeld => ?_)
      ·(go_split_ands; (repeat' apply And.intro) <;> (repeat (first | with_reducible assumption | exact (cell2f H.out.2.1).1 | exact (cell2f H.out.2.1).2.1 | with_reducible refine keepset ?_ (by dsimp only; omega))))
      clear hK K
      try simp only [sq]
      refine tkR ?_ 7 rfl (fun _ _ _ h => h) hHeld ?_ ?_
      rotate_left
      ·intro w hSw; (try dsimp only at hSw); go_simp; try (with_reducible rfl)
      try simp only [sq]
      refine tkR ?_ 8 rfl (fun _ _ _ h => h) hHeld ?_ ?_
      rotate_left
      ·intro w hSw; (try dsimp only at hSw); go_simp; try (with_reducible rfl)
      try simp only [sq]
      refine tkR ?_ 9 rfl (fun _ _ _ h => h) hHeld ?_ ?_
      rotate_left
      ·intro w hSw; (try dsimp only at hSw); go_simp; try (with_reducible rfl)
      try simp only [sq]
      refine rd1 11 rfl (fun K hK => ?_)
      obtain ⟨v0, v1, s0, s1⟩ := cell2f gX
      try simp only [sq]
      go_simp
      refine hK.out _ _ ?_ (fun hHeld => ?_)
      ·(go_split_ands; (repeat' apply And.intro) <;> (repeat (first | with_reducible assumption | exact (cell2f H.out.2.1).1 | exact (cell2f H.out.2.1).2.1 | with_reducible refine keepset ?_ (by dsimp only; omega))))
      clear hK K
      try simp only [sq]
      refine tkR ?_ 12 rfl (fun _ _ _ h => h) hHeld ?_ ?_
      rotate_left
      ·intro w hSw; (try dsimp only at hSw); go_simp; try (with_reducible rfl)
      try simp only [sq]
      refine wpAnyH_done (by kernel_rfl) ?_ _
      clear v0 v1 s0 s1 hHeld q0 q1
      have gX2 := set2r gX (.int .i64 (apnow now rs cs)) (.slice va (aprs now rs cs).length vc)
      have gQ2 := set_far (q := xb) (k := 1) (u := (.slice va (aprs now rs cs).length vc)) (set_far (q := xb) (k := 0) (u := .int .i64 (apnow now rs cs)) H.out.2.1 (by omega)) (by omega)
      have hN := H.out.next (xb := xb) (now' := apnow now rs cs) HX.out (by omega) (by omega) hws0
      have hl := aprs_le now rs cs hrl
      have hna := apnow_le now rs cs
      have HN := hid hN
      clear hN gX HX H
      generalize (y3.setCell ⟨xb, 0, none⟩ (.int .i64 (apnow now rs cs))).setCell ⟨xb, 1, none⟩ (.slice va (aprs now rs cs).length vc) = Y at *
      generalize apnow now rs cs = now' at *
      generalize aprs now rs cs = rs' at *
      obtain ⟨v0, v1, _, _⟩ := cell2f gX2
      obtain ⟨_, _, s0, s1⟩ := cell2f gQ2
      go_wp2_with fail
      go_roundw
      case rel => exact ⟨i + 1, now', _, rs', _, by go_num, by omega, by omega, by omega, hl, HN⟩
      case measure => simp [intOf]; omega
    ·skip
     try simp only [sq]
     go_simp
     have hws0 : w.heap.size + 2 ≤ y1.heap.size := lt_of_block H.out.2.1
     have gX := heap_alloc_new y1 (.cells #[.int .i64 0, .slice none 0 0] 32)
     have hal : Below y1.heap.size y1 (y1.alloc (.cells #[.int .i64 0, .slice none 0 0] 32)) := balloc (Below.refl _ _) _
     replace H := hid (H.out.bel hal)
     refine hK.out _ _ ?_ (fun hHeld => ?_)
     ·(go_split_ands; (repeat' apply And.intro) <;> (repeat (first | with_reducible assumption | exact (cell2f H.out.2.1).1 | exact (cell2f H.out.2.1).2.1 | with_reducible refine keepset ?_ (by dsimp only; omega))))
     clear hK K
     try simp only [sq]
     clear hal
     generalize y1.alloc (.cells #[.int .i64 0, .slice none 0 0] 32) = Z at *
     generalize y1.heap.size = xb at *
     refine rd1 5 rfl (fun K hK => ?_)
     try simp only [sq]
     go_simp
     go_at_call 71
     refine (changes_r _ p a len cap k hk8 H.out.2.2.2.1).mono ?_
     rintro e y2 ⟨cs, ca, cc, rfl, hcl, hch, _, hr, hg⟩
     replace H := hid (H.out.grown hr hg)
     replace gX := grown_blk hg gX (by omega)
     have HCH := hid hch
     clear hr hg hch
     go_wp2_with fail
     refine hK.out _ _ ?_ (fun hHeld => ?_)
     ·(go_split_ands; (repeat' apply And.intro) <;> (repeat (first | with_reducible assumption | exact (cell2f H.out.2.1).1 | exact (cell2f H.out.2.1).2.1 | with_reducible refine keepset ?_ (by dsimp only; omega))))
     clear hK K
     try simp only [sq]
     refine rd1 6 rfl (fun K hK => ?_)
     try simp only [sq]
     go_simp
     go_at_call 70
     refine (spec_ApplyG now ra rc rs ca cc cs _ (by omega) H.out.2.2.1.rwsG H.out.2.2.1.rws (by omega) HCH.out).mono ?_
     rintro e y3 ⟨v', xs', rfl, hX, hy⟩
     obtain ⟨va, vc, hve⟩ := kept_form hX
     subst hve
     have hws : w.heap.size + 2 ≤ y2.heap.size := lt_of_block H.out.2.1
     replace H := hid (H.out.bel hy)
     have hxb := lt_of_block gX
     replace gX := keepheap2 hy gX
     have HX := hid hX
     have hys := hy.size
     clear hX hy HCH
     go_wp2_with fail
     refine hK.out _ _ ?_ (fun hHeld => ?_)
     ·(go_split_ands; (repeat' apply And.intro) <;> (repeat (first | with_reducible assumption | exact (cell2f H.out.2.1).1 | exact (cell2f H.out.2.1).2.1 | with_reducible refine keepset ?_ (by dsimp only; omega))))
     clear hK K
     try simp only [sq]
     refine tkR ?_ 7 rfl (fun _ _ _ h => h) hHeld ?_ ?_
     rotate_left
     ·intro w hSw; (try dsimp only at hSw); go_simp; try (with_reducible rfl)
     try simp only [sq]
     refine tkR ?_ 8 rfl (fun _ _ _ h => h) hHeld ?_ ?_
     rotate_left
     ·intro w hSw; (try dsimp only at hSw); go_simp; try (with_reducible rfl)
     try simp only [sq]
     refine tkR ?_ 9 rfl (fun _ _ _ h => h) hHeld ?_ ?_
     rotate_left
     ·intro w hSw; (try dsimp only at hSw); go_simp; try (with_reducible rfl)
     try simp only [sq]
     refine rd1 11 rfl (fun K hK => ?_)
     obtain ⟨v0, v1, s0, s1⟩ := cell2f gX
     try simp only [sq]
     go_simp
     refine hK.out _ _ ?_ (fun hHeld => ?_)
     ·(go_split_ands; (repeat' apply And.intro) <;> (repeat (first | with_reducible assumption | exact (cell2f H.out.2.1).1 | exact (cell2f H.out.2.1).2.1 | with_reducible refine keepset ?_ (by dsimp only; omega))))
     clear hK K
     try simp only [sq]
     refine tkR ?_ 12 rfl (fun _ _ _ h => h) hHeld ?_ ?_
     rotate_left
     ·intro w hSw; (try dsimp only at hSw); go_simp; try (with_reducible rfl)
     try simp only [sq]
     refine wpAnyH_done (by kernel_rfl) ?_ _
     clear v0 v1 s0 s1 hHeld q0 q1
     have gX2 := set2r gX (.int .i64 (apnow now rs cs)) (.slice va (aprs now rs cs).length vc)
     have gQ2 := set_far (q := xb) (k := 1) (u := (.slice va (aprs now rs cs).length vc)) (set_far (q := xb) (k := 0) (u := .int .i64 (apnow now rs cs)) H.out.2.1 (by omega)) (by omega)
     have hN := H.out.next (xb := xb) (now' := apnow now rs cs) HX.out (by omega) (by omega) hws0
     have hl := aprs_le now rs cs hrl
     have hna := apnow_le now rs cs
     have HN := hid hN
     clear hN gX HX H
     generalize (y3.setCell ⟨xb, 0, none⟩ (.int .i64 (apnow now rs cs))).setCell ⟨xb, 1, none⟩ (.slice va (aprs now rs cs).length vc) = Y at *
     generalize apnow now rs cs = now' at *
     generalize aprs now rs cs = rs' at *
     obtain ⟨v0, v1, _, _⟩ := cell2f gX2
     obtain ⟨_, _, s0, s1⟩ := cell2f gQ2
     go_wp2_with fail
     go_roundw
     case rel => exact ⟨i + 1, now', _, rs', _, by go_num, by omega, by omega, by omega, hl, HN⟩
     case measure => simp [intOf]; omega
   ·skip
    try simp only [sq]
    go_simp
    have hws0 : w.heap.size + 2 ≤ V0.heap.size := lt_of_block H.out.2.1
    have gX := heap_alloc_new V0 (.cells #[.int .i64 0, .slice none 0 0] 32)
    have hal : Below V0.heap.size V0 (V0.alloc (.cells #[.int .i64 0, .slice none 0 0] 32)) := balloc (Below.refl _ _) _
    replace H := hid (H.out.bel hal)
    refine hK.out _ _ ?_ (fun hHeld => ?_)
    ·(go_split_ands; (repeat' apply And.intro) <;> (repeat (first | with_reducible assumption | exact (cell2f H.out.2.1).1 | exact (cell2f H.out.2.1).2.1 | with_reducible refine keepset ?_ (by dsimp only; omega))))
    clear hK K
    try simp only [sq]
    clear hal
    generalize V0.alloc (.cells #[.int .i64 0, .slice none 0 0] 32) = Z at *
    generalize V0.heap.size = xb at *
    refine rd1 3 rfl (fun K hK => ?_)
    try simp only [sq]
    go_simp
    go_at_call 38
    refine (below_r _ p a len cap 3 (by omega) (by omega) H.out.2.2.2.1).mono ?_
    rintro e y1 ⟨x, rfl, hx0, hx1, hr, hg⟩
    replace H := hid (H.out.grown hr hg)
    replace gX := grown_blk hg gX (by omega)
    obtain ⟨k, hk⟩ : ∃ k : Nat, 1 + x = (k : Int) := ⟨(1 + x).toNat, by omega⟩
    have hwk : IntKind.i64.wrap (1 + x) = (k : Int) := by rw [IntKind.wrap_i64]; omega
    have hk8 : k ≤ 8 := by omega
    clear hr hg hk hx0 hx1
    go_wp2_with fail
    refine hK.out _ _ ?_ (fun hHeld => ?_)
    ·(go_split_ands; (repeat' apply And.intro) <;> (repeat (first | with_reducible assumption | exact (cell2f H.out.2.1).1 | exact (cell2f H.out.2.1).2.1 | with_reducible refine keepset ?_ (by dsimp only; omega))))
    clear hK K
    try simp only [sq]
    refine tkR ?_ 4 rfl (fun _ _ _ h => h) hHeld ?_ ?_
    rotate_left
    ·intro w hSw; (try dsimp only at hSw); go_simp; try (with_reducible rfl)
    try simp only [sq]
    refine rd1 5 rfl (fun K hK => ?_)
    try simp only [sq]
    go_simp
    go_at_call 71
    refine (changes_r _ p a len cap k hk8 H.out.2.2.2.1).mono ?_
    rintro e y2 ⟨cs, ca, cc, rfl, hcl, hch, _, hr, hg⟩
    replace H := hid (H.out.grown hr hg)
    replace gX := grown_blk hg gX (by omega)
    have HCH := hid hch
    clear hr hg hch
    go_wp2_with fail
    refine hK.out _ _ ?_ (fun hHeld => ?_)
    ·(go_split_ands; (repeat' apply And.intro) <;> (repeat (first | with_reducible assumption | exact (cell2f H.out.2.1).1 | exact (cell2f H.out.2.1).2.1 | with_reducible refine keepset ?_ (by dsimp only; omega))))
    clear hK K
    try simp only [sq]
    refine rd1 6 rfl (fun K hK => ?_)
    try simp only [sq]
    go_simp
    go_at_call 70
    refine (spec_ApplyG now ra rc rs ca cc cs _ (by omega) H.out.2.2.1.rwsG H.out.2.2.1.rws (by omega) HCH.out).mono ?_
    rintro e y3 ⟨v', xs', rfl, hX, hy⟩
    obtain ⟨va, vc, hve⟩ := kept_form hX
    subst hve
    have hws : w.heap.size + 2 ≤ y2.heap.size := lt_of_block H.out.2.1
    replace H := hid (H.out.bel hy)
    have hxb := lt_of_block gX
    replace gX := keepheap2 hy gX
    have HX := hid hX
    have hys := hy.size
    clear hX hy HCH
    go_wp2_with fail
    refine hK.out _ _ ?_ (fun hHeld => ?_)
    ·(go_split_ands; (repeat' apply And.intro) <;> (repeat (first | with_reducible assumption | exact (cell2f H.out.2.1).1 | exact (cell2f H.out.2.1).2.1 | with_reducible refine keepset ?_ (by dsimp only; omega))))
    clear hK K
    try simp only [sq]
    refine tkR ?_ 7 rfl (fun _ _ _ h => h) hHeld ?_ ?_
    rotate_left
    ·intro w hSw; (try dsimp only at hSw); go_simp; try (with_reducible rfl)
    try simp only [sq]
    refine tkR ?_ 8 rfl (fun _ _ _ h => h) hHeld ?_ ?_
    rotate_left
    ·intro w hSw; (try dsimp only at hSw); go_simp; try (with_reducible rfl)
    try simp only [sq]
    refine tkR ?_ 9 rfl (fun _ _ _ h => h) hHeld ?_ ?_
    rotate_left
    ·intro w hSw; (try dsimp only at hSw); go_simp; try (with_reducible rfl)
    try simp only [sq]
    refine rd1 11 rfl (fun K hK => ?_)
    obtain ⟨v0, v1, s0, s1⟩ := cell2f gX
    try simp only [sq]
    go_simp
    refine hK.out _ _ ?_ (fun hHeld => ?_)
    ·(go_split_ands; (repeat' apply And.intro) <;> (repeat (first | with_reducible assumption | exact (cell2f H.out.2.1).1 | exact (cell2f H.out.2.1).2.1 | with_reducible refine keepset ?_ (by dsimp only; omega))))
    clear hK K
    try simp only [sq]
    refine tkR ?_ 12 rfl (fun _ _ _ h => h) hHeld ?_ ?_
    rotate_left
    ·intro w hSw; (try dsimp only at hSw); go_simp; try (with_reducible rfl)
    try simp only [sq]
    refine wpAnyH_done (by kernel_rfl) ?_ _
    clear v0 v1 s0 s1 hHeld q0 q1
    have gX2 := set2r gX (.int .i64 (apnow now rs cs)) (.slice va (aprs now rs cs).length vc)
    have gQ2 := set_far (q := xb) (k := 1) (u := (.slice va (aprs now rs cs).length vc)) (set_far (q := xb) (k := 0) (u := .int .i64 (apnow now rs cs)) H.out.2.1 (by omega)) (by omega)
    have hN := H.out.next (xb := xb) (now' := apnow now rs cs) HX.out (by omega) (by omega) hws0
    have hl := aprs_le now rs cs hrl
    have hna := apnow_le now rs cs
    have HN := hid hN
    clear hN gX HX H
    generalize (y3.setCell ⟨xb, 0, none⟩ (.int .i64 (apnow now rs cs))).setCell ⟨xb, 1, none⟩ (.slice va (aprs now rs cs).length vc) = Y at *
    generalize apnow now rs cs = now' at *
    generalize aprs now rs cs = rs' at *
    obtain ⟨v0, v1, _, _⟩ := cell2f gX2
    obtain ⟨_, _, s0, s1⟩ := cell2f gQ2
    go_wp2_with fail
    go_roundw
    case rel => exact ⟨i + 1, now', _, rs', _, by go_num, by omega, by omega, by omega, hl, HN⟩
    case measure => simp [intOf]; omega
  ·have c1 : (m : Int) ≤ (i : Int) := by omega
   have him : i = m := by omega
   have hi8 : now ≤ 8 := by omega
   clear hi hwi hlt hn0 him
   go_wp2_with fail
   refine (below_r _ p a len cap 20 (by omega) (by omega) H.out.2.2.2.1).mono ?_
   rintro e W2 ⟨x, rfl, hx0, hx1, hr, hg⟩
   replace H := hid (H.out.grown hr hg)
   clear hr hg
   by_cases hxa : x = 0
   ·subst hxa
    have hr := H.out.2.2.2.1
    have hpv := hr.lt
    have hw5 : IntKind.i64.wrap (now + 5) = now + 5 := by rw [IntKind.wrap_i64]; omega
    obtain ⟨q0, q1, _, _⟩ := cell2f H.out.2.1
    go_wp2_with fail
    refine (pick_p (fun z => -1 ≤ z ∧ z ≤ 20) _ p a len cap _ 3 (by omega) (by omega) (by omega) (intsP_new (fun z => -1 ≤ z ∧ z ≤ 20) W2 [-1, 0, now + 5] 3 (by intro z hz; simp at hz; omega)) (hr.alloc _)).mono ?_
    rintro e W3 ⟨now', rfl, hn', hr2, hg2⟩
    replace H := hid (H.out.grown hr2 (grown_trans (grown_alloc _ _ _) hg2))
    clear hr hpv hr2 hg2 q0 q1
    obtain ⟨q0, q1, s0, s1⟩ := cell2f H.out.2.1
    go_upto_region 18 with fail
    replace H := hid (H.out.setn now')
    clear q0 q1 s0 s1
    generalize W3.setCell ⟨w.heap.size + 1, 0, none⟩ (.int .i64 now') = W4 at *
    obtain ⟨_, _, s0, s1⟩ := cell2f H.out.1
    obtain ⟨q0, q1, _, _⟩ := cell2f H.out.2.1
    obtain ⟨gF, xF, rF, wF⟩ := H.out.fin
    have HX := hid xF
    clear xF H
    go_wp2_with fail
    generalize (W4.setCell ⟨w.heap.size, 0, none⟩ (.int .i64 now')).setCell ⟨w.heap.size, 1, none⟩ (.slice ra rs.length rc) = wf at *
    obtain ⟨z0, z1, _, _⟩ := cell2f gF
    exact bodyPost_ret (v := .agg #[.int .i64 now', .slice ra rs.length rc]) (by simp [results, Tryz.results35, go_sem, z0, z1]) rfl (DR.mk (by omega) (by omega) (by omega) HX.out rF wF)
   by_cases hxb : x = 1
   ·subst hxb
    obtain ⟨q0, q1, _, _⟩ := cell2f H.out.2.1
    by_cases hr0 : 0 < rs.length
    ·have c2 : (0 : Int) < (rs.length : Int) := by omega
     go_upto_region 13 with fail
     obtain ⟨g, hra⟩ : ∃ g, ra = some ⟨g, 0, none⟩ := by
      rcases H.out.2.2.1.rwsG.at hr0 with ⟨B, e, _⟩
      exact ⟨B, e⟩
     subst hra
     have hgQ := (H.out.2.2.1.2.1.lt g rfl).1
     have hfr := cell1_of H.out.2.2.1 hr0
     have hw1 : IntKind.i64.wrap (now + 1) = now + 1 := by rw [IntKind.wrap_i64]; omega
     refine wp_region_held_drew (S := (fun w' => w'.cell? ⟨(w.heap.size + 1), 0, none⟩ = some (.int .i64 now) ∧ w'.cell? ⟨(w.heap.size + 1), 1, none⟩ = some (.slice (some ⟨g, 0, none⟩) rs.length rc) ∧ w'.cell? ⟨g, 1, none⟩ = some (.int .i64 rs[0].2.1))) (by kernel_rfl) ?_ (fun hHeld => ?_)
     ·(repeat' apply And.intro) <;> (repeat (first | with_reducible assumption | with_reducible refine keepset9 ?_ (by simp; try omega) | with_reducible refine keepalloc ?_ _ | exact (cell2f H.out.2.1).1 | exact (cell2f H.out.2.1).2.1 | exact cell1_of H.out.2.2.1 hr0 | with_reducible refine keepdrew ?_))
     replace H := hid (H.out.bel (bdrew (Below.refl _ _)))
     generalize W2.drew = V0 at *
     refine tkR ?_ 0 rfl (fun _ _ _ h => h) hHeld ?_ ?_
     rotate_left
     ·intro w hSw; (try dsimp only at hSw); go_simp; try (with_reducible rfl)
     try simp only [sq]
     refine tkR ?_ 1 rfl (fun _ _ _ h => h) hHeld ?_ ?_
     rotate_left
     ·intro w hSw; (try dsimp only at hSw); go_simp; try (with_reducible rfl)
     try simp only [sq]
     refine tkR ?_ 2 rfl (fun _ _ _ h => h) hHeld ?_ ?_
     rotate_left
     ·intro w hSw; (try dsimp only at hSw); go_simp; try (with_reducible rfl)
     try simp only [sq]
     refine tkR ?_ 3 rfl (fun _ _ _ h => h) hHeld ?_ ?_
     rotate_left
     ·intro w hSw; (try dsimp only at hSw); go_simp; try (with_reducible rfl)
     try simp only [sq]
     refine tkR ?_ 4 rfl (fun _ _ _ h => h) hHeld ?_ ?_
     rotate_left
     ·intro w hSw; (try dsimp only at hSw); go_simp; try (with_reducible rfl)
     try simp only [sq]
     refine tkR ?_ 5 rfl (fun _ _ _ h => h) hHeld ?_ ?_
     rotate_left
     ·intro w hSw; (try dsimp only at hSw); go_simp; try (with_reducible rfl)
     try simp only [sq]
     refine tkR ?_ 6 rfl (fun _ _ _ h => h) hHeld ?_ ?_
     rotate_left
     ·intro w hSw; (try dsimp only at hSw); go_simp; try (with_reducible rfl)
     try simp only [sq]
     refine tkR ?_ 7 rfl (fun _ _ _ h => h) hHeld ?_ ?_
     rotate_left
     ·intro w hSw; (try dsimp only at hSw); go_simp; try (with_reducible rfl)
     try simp only [sq]
     refine tkR ?_ 8 rfl (fun _ _ _ h => h) hHeld ?_ ?_
     rotate_left
     ·intro w hSw; (try dsimp only at hSw); go_simp; try (with_reducible rfl)
     try simp only [sq]
     refine tkR ?_ 9 rfl (fun _ _ _ h => h) hHeld ?_ ?_
     rotate_left
     ·intro w hSw; (try dsimp only at hSw); go_simp; try (with_reducible rfl)
     try simp only [sq]
     refine tkR ?_ 10 rfl (fun _ _ _ h => h) hHeld ?_ ?_
     rotate_left
     ·intro w hSw; (try dsimp only at hSw); go_simp; try (with_reducible rfl)
     try simp only [sq]
     refine tkR ?_ 11 rfl (fun _ _ _ h => h) hHeld ?_ ?_
     rotate_left
     ·intro w hSw; (try dsimp only at hSw); go_simp; try (with_reducible rfl)
     try simp only [sq]
     refine tkR ?_ 12 rfl (fun _ _ _ h => h) hHeld ?_ ?_
     rotate_left
     ·intro w hSw; (try dsimp only at hSw); go_simp; try (with_reducible rfl)
     try simp only [sq]
     refine rd1 13 rfl (fun K hK => ?_)
     try simp only [sq]
     go_simp
     refine hK.out _ _ ?_ (fun hHeld => ?_)
     ·(repeat' apply And.intro) <;> (repeat (first | with_reducible assumption | with_reducible refine keepset9 ?_ (by simp; try omega) | with_reducible refine keepalloc ?_ _ | exact (cell2f H.out.2.1).1 | exact (cell2f H.out.2.1).2.1 | exact cell1_of H.out.2.2.1 hr0 | with_reducible refine keepdrew ?_))
     clear hK K
     try simp only [sq]
     refine rd1 14 rfl (fun K hK => ?_)
     try simp only [sq]
     go_simp
     (first
       | (go_at_call 72; refine (pick_p (fun _ => True) _ p a len cap _ 4 (by omega) (by omega) (by have := H.out.2.2.2.1.lt; omega) (intsP_new (fun _ => True) V0 [0, rs[0].2.1, now, now + 1] 3 (fun _ _ => trivial)) (H.out.2.2.2.1.alloc _)).mono ?_; rintro e y ⟨tt, rfl, _, hr, hg⟩; replace H := hid (H.out.grown hr (grown_trans (grown_alloc _ _ _) hg)); clear hr hg q0 q1 hfr))
     go_wp2_with fail
     refine hK.out _ _ ?_ (fun hHeld => ?_)
     ·(repeat' apply And.intro) <;> (repeat (first | with_reducible assumption | with_reducible refine keepset9 ?_ (by simp; try omega) | with_reducible refine keepalloc ?_ _ | exact (cell2f H.out.2.1).1 | exact (cell2f H.out.2.1).2.1 | exact cell1_of H.out.2.2.1 hr0 | with_reducible refine keepdrew ?_))
     clear hK K
     try simp only [sq]
     refine tkR ?_ 15 rfl (fun _ _ _ h => h) hHeld ?_ ?_
     rotate_left
     ·intro w hSw; (try dsimp only at hSw); go_simp; try (with_reducible rfl)
     try simp only [sq]
     refine tkR ?_ 16 rfl (fun _ _ _ h => h) hHeld ?_ ?_
     rotate_left
     ·intro w hSw; (try dsimp only at hSw); go_simp; try (with_reducible rfl)
     try simp only [sq]
     obtain ⟨u2, hu2, hf2⟩ := cell2_of H.out.2.2.1 hr0
     refine rd1 17 rfl (fun K hK => ?_)
     try simp only [sq]
     go_simp
     refine hK.out _ _ ?_ (fun hHeld => ?_)
     ·(repeat' apply And.intro) <;> (repeat (first | with_reducible assumption | with_reducible refine keepset9 ?_ (by simp; try omega) | with_reducible refine keepalloc ?_ _ | exact (cell2f H.out.2.1).1 | exact (cell2f H.out.2.1).2.1 | exact cell1_of H.out.2.2.1 hr0 | with_reducible refine keepdrew ?_))
     clear hK K
     try simp only [sq]
     refine wpAnyH_done (by kernel_rfl) ?_ _
     obtain ⟨rs', xs', hl', hRG⟩ := H.out.to hr0 tt
     replace H := hid hRG
     clear hRG hu2 hf2 hHeld
     generalize y.setCell ⟨g, 2, none⟩ (.int .i64 tt) = W4 at *
     go_upto_region 18 with fail
     obtain ⟨_, _, s0, s1⟩ := cell2f H.out.1
     obtain ⟨q0, q1, _, _⟩ := cell2f H.out.2.1
     obtain ⟨gF, xF, rF, wF⟩ := H.out.fin
     have HX := hid xF
     clear xF H
     go_wp2_with fail
     generalize (W4.setCell ⟨w.heap.size, 0, none⟩ (.int .i64 now)).setCell ⟨w.heap.size, 1, none⟩ (.slice (some ⟨g, 0, none⟩) rs.length rc) = wf at *
     obtain ⟨z0, z1, _, _⟩ := cell2f gF
     exact bodyPost_ret (v := .agg #[.int .i64 now, .slice (some ⟨g, 0, none⟩) rs.length rc]) (by simp [results, Tryz.results35, go_sem, z0, z1]) rfl (DR.mk (by omega) (by omega) (by omega) HX.out rF wF)
    ·have c2 : ¬ ((0 : Int) < (rs.length : Int)) := by omega
     go_upto_region 18 with fail
     clear q0 q1
     obtain ⟨_, _, s0, s1⟩ := cell2f H.out.1
     obtain ⟨q0, q1, _, _⟩ := cell2f H.out.2.1
     obtain ⟨gF, xF, rF, wF⟩ := H.out.fin
     have HX := hid xF
     clear xF H
     go_wp2_with fail
     generalize (W2.setCell ⟨w.heap.size, 0, none⟩ (.int .i64 now)).setCell ⟨w.heap.size, 1, none⟩ (.slice ra rs.length rc) = wf at *
     obtain ⟨z0, z1, _, _⟩ := cell2f gF
     exact bodyPost_ret (v := .agg #[.int .i64 now, .slice ra rs.length rc]) (by simp [results, Tryz.results35, go_sem, z0, z1]) rfl (DR.mk (by omega) (by omega) (by omega) HX.out rF wF)
   by_cases hxc : x = 2
   ·subst hxc
    obtain ⟨q0, q1, s0, s1⟩ := cell2f H.out.2.1
    go_wp2_with fail
    replace H := hid (H.out.setn 1)
    clear q0 q1 s0 s1 hw0 hi8
    generalize W2.setCell ⟨w.heap.size + 1, 0, none⟩ (.int .i64 1) = W3 at *
    obtain ⟨o1, ho1⟩ : ∃ o : Int, o = 1 := ⟨1, rfl⟩
    rw [← ho1] at H
    have ho2 : -1 ≤ o1 := by omega
    have ho3 : o1 ≤ 20 := by omega
    clear ho1
    have hr1 : rs.length ≤ 301 := by omega
    clear hrl
    go_loopw [70] (fun _ wr => ∃ (vt : Value) (rt : List Rw) (xt : List El), rt.length ≤ 301 ∧ Hid (RG w p a len cap o1 vt rt xt wr)) (fun _ wr => 302 - lenAt (w.heap.size + 1) wr)
    case atStart => exact ⟨_, rs, xs, hr1, H⟩
    case round =>
     clear H hr1
     obtain ⟨vt, rt, xt, hrt, H⟩ := hrel
     obtain ⟨ra2, rc2, ev⟩ := kept_form H.out.2.2.1
     subst ev
     obtain ⟨q0, q1, _, _⟩ := cell2f H.out.2.1
     have hlen : lenAt (w.heap.size + 1) wr = rt.length := lenAt_of q1
     go_upto_region 16 with fail
     refine wp_region_held_drew (S := (fun w' => w'.cell? ⟨(w.heap.size + 1), 1, none⟩ = some (.slice ra2 rt.length rc2))) (by kernel_rfl) ?_ (fun hHeld => ?_)
     ·(repeat' apply And.intro) <;> (repeat (first | with_reducible assumption | exact (cell2f H.out.2.1).1 | exact (cell2f H.out.2.1).2.1))
     replace H := hid (H.out.bel (bdrew (Below.refl _ _)))
     generalize wr.drew = V2 at *
     refine tkR ?_ 0 rfl (fun _ _ _ h => h) hHeld ?_ ?_
     rotate_left
     ·intro w hSw; (try dsimp only at hSw); go_simp; try (with_reducible rfl)
     try simp only [sq]
     refine tkR ?_ 1 rfl (fun _ _ _ h => h) hHeld ?_ ?_
     rotate_left
     ·intro w hSw; (try dsimp only at hSw); go_simp; try (with_reducible rfl)
     try simp only [sq]
     refine tkR ?_ 2 rfl (fun _ _ _ h => h) hHeld ?_ ?_
     rotate_left
     ·intro w hSw; (try dsimp only at hSw); go_simp; try (with_reducible rfl)
     try simp only [sq]
     refine tkR ?_ 3 rfl (fun _ _ _ h => h) hHeld ?_ ?_
     rotate_left
     ·intro w hSw; (try dsimp only at hSw); go_simp; try (with_reducible rfl)
     try simp only [sq]
     refine rd1 4 rfl (fun K hK => ?_)
     try simp only [sq]
     go_simp
     (first
       | (go_at_call 38; refine (below_r _ p a len cap 2 (by omega) (by omega) H.out.2.2.2.1).mono ?_; rintro e y ⟨x, rfl, hx0, hx1, hr, hg⟩; replace H := hid (H.out.grown hr hg); clear hr hg))
     go_wp2_with fail
     refine hK.out _ _ ?_ (fun hHeld => ?_)
     ·(repeat' apply And.intro) <;> (repeat (first | with_reducible assumption | exact (cell2f H.out.2.1).1 | exact (cell2f H.out.2.1).2.1))
     clear hK K
     try simp only [sq]
     refine tkR ?_ 5 rfl (fun _ _ _ h => h) hHeld ?_ ?_
     rotate_left
     ·intro w hSw; (try dsimp only at hSw); go_simp; try (with_reducible rfl)
     try simp only [sq]
     refine tkR ?_ 6 rfl (fun _ _ _ h => h) hHeld ?_ ?_
     rotate_left
     ·intro w hSw; (try dsimp only at hSw); go_simp; try (with_reducible rfl)
     try simp only [sq]
     refine wpAnyH_done (by kernel_rfl) ?_ _
     clear q0 q1
     replace hHeld := hHeld
     have hw3 : IntKind.i64.wrap (300 + x) = 300 + x := by rw [IntKind.wrap_i64]; omega
     clear hHeld
     by_cases hc : (rt.length : Int) < 300 + x
     ·have hw4 : IntKind.i64.wrap (1000 + (rt.length : Int)) = 1000 + (rt.length : Int) := by rw [IntKind.wrap_i64]; omega
      have hrl2 : rt.length ≤ 300 := by omega
      obtain ⟨q0, q1, _, _⟩ := cell2f H.out.2.1
      have hownZ : y.ownsRow (w.heap.size + 2) 65 5 (.slice ra2 rt.length rc2) rt.length (flat5 xt) := H.out.2.2.1.2.1
      have e1 : (y.alloc (.cells #[.int .i64 1, .int .i64 1] 91)).heap.size = y.heap.size + 1 := by simp
      have gRow := heap_alloc_new (y.alloc (.cells #[.int .i64 1, .int .i64 1] 91)) (.cells #[.int .i64 (1000 + (rt.length : Int)), .int .i64 1, .int .i64 0, .int .i64 0, .slice (some ⟨y.heap.size, 0, none⟩) 1 1] 65)
      rw [e1] at gRow
      have hws : w.heap.size + 2 ≤ y.heap.size := lt_of_block H.out.2.1
      have hal : Below y.heap.size y ((y.alloc (.cells #[.int .i64 1, .int .i64 1] 91)).alloc (.cells #[.int .i64 (1000 + (rt.length : Int)), .int .i64 1, .int .i64 0, .int .i64 0, .slice (some ⟨y.heap.size, 0, none⟩) 1 1] 65)) := balloc (balloc (Below.refl _ _) _) _
      have HQ := hid (keepheap2 hal H.out.2.1)
      have hvb : (Value.slice ra2 rt.length rc2).ownBlock ≠ some (w.heap.size + 1) := fun e => by have := (hownZ.lt _ e).1; omega
      have gPt : ((y.alloc (.cells #[.int .i64 1, .int .i64 1] 91)).alloc (.cells #[.int .i64 (1000 + (rt.length : Int)), .int .i64 1, .int .i64 0, .int .i64 0, .slice (some ⟨y.heap.size, 0, none⟩) 1 1] 65)).heap[y.heap.size]? = some (.cells #[.int .i64 1, .int .i64 1] 91 (0, 0)) := old_alloc (heap_alloc_new y _)
      go_wp2_with (at_builtin; (refine wpList_append_lies _ rfl (.tmp 72) (.tmp 81) 30 rfl (w.heap.size + 2) 65 i0 _ 5 56 Tryz.underlying30 hi0 hz0 hz1 hz2 rfl (by decide) (.slice ra2 rt.length rc2) rt.length (flat5 xt) rfl ((hownZ.alloc _).alloc _) ⟨y.heap.size + 1, 0, none⟩ 1 1 (ev (elR (1000 + (rt.length : Int), 1, 0, 0, [(1, 1)]) y.heap.size 1)) rfl rfl (World.news_of_block (cs := #[.int .i64 (1000 + (rt.length : Int)), .int .i64 1, .int .i64 0, .int .i64 0, .slice (some ⟨y.heap.size, 0, none⟩) 1 1]) (t := 65) (fr := (0, 0)) gRow) (by simp [ev, elR, Value.oneCell']) (by omega) (by unfold maxLen; omega) (by omega) (by simp; omega) (y.heap.size + 2) (by simp) ?_; intro gg cq w2 hown2 hgrow hat hlt2; have g2 := (hgrow.block (w.heap.size + 1) (lt_of_block HQ.out) (fun e => hvb e.symm)).trans HQ.out; obtain ⟨t0, t1, s0, s1⟩ := cell2f g2))
      have hsn := RowsX.snoc (r := (1000 + (rt.length : Int), 1, 0, 0, [(1, 1)])) (c := y.heap.size) (cp := 1) (H.out.2.2.1.below hal) hws (Nat.le_refl _) (by simp; omega) (by simp) (by simp) (own_pt gPt) hown2 hgrow (by simpa using hat) hlt2
      have hN := H.out.app hal hsn hgrow
      have HN := hid hN
      have hm2 : lenAt (w.heap.size + 1) (w2.setCell ⟨w.heap.size + 1, 1, none⟩ (.slice (some ⟨gg, 0, none⟩) (rt.length + 1) cq)) = rt.length + 1 := lenAt_of (cell2f hN.2.1).2.1
      clear hsn hN hown2 hgrow hat hlt2 t0 t1 s0 s1 g2 gPt gRow HQ hownZ
      go_roundw
      case rel => exact ⟨_, rt ++ [(1000 + (rt.length : Int), 1, 0, 0, [(1, 1)])], _, by simp; omega, HN⟩
      case measure => simp only [hm2, hlen]; omega
     ·have hc2 : 300 + x ≤ (rt.length : Int) := by omega
      clear hlen
      go_upto_region 18 with fail
      obtain ⟨_, _, s0, s1⟩ := cell2f H.out.1
      obtain ⟨q0, q1, _, _⟩ := cell2f H.out.2.1
      obtain ⟨gF, xF, rF, wF⟩ := H.out.fin
      have HX := hid xF
      clear xF H
      go_wp2_with fail
      generalize (y.setCell ⟨w.heap.size, 0, none⟩ (.int .i64 o1)).setCell ⟨w.heap.size, 1, none⟩ (.slice ra2 rt.length rc2) = wf at *
      obtain ⟨z0, z1, _, _⟩ := cell2f gF
      exact bodyPost_ret (v := .agg #[.int .i64 o1, .slice ra2 rt.length rc2]) (by simp [results, Tryz.results35, go_sem, z0, z1]) rfl (DR.mk (by omega) (by omega) (by omega) HX.out rF wF)
   ·go_upto_region 18 with fail
    obtain ⟨_, _, s0, s1⟩ := cell2f H.out.1
    obtain ⟨q0, q1, _, _⟩ := cell2f H.out.2.1
    obtain ⟨gF, xF, rF, wF⟩ := H.out.fin
    have HX := hid xF
    clear xF H
    go_wp2_with fail
    generalize (W2.setCell ⟨w.heap.size, 0, none⟩ (.int .i64 now)).setCell ⟨w.heap.size, 1, none⟩ (.slice ra rs.length rc) = wf at *
    obtain ⟨z0, z1, _, _⟩ := cell2f gF
    exact bodyPost_ret (v := .agg #[.int .i64 now, .slice ra rs.length rc]) (by simp [results, Tryz.results35, go_sem, z0, z1]) rfl (DR.mk (by omega) (by omega) (by omega) HX.out rF wF)
end Go.Proofs.YtenlhgnobfadgaaGreatDoor
