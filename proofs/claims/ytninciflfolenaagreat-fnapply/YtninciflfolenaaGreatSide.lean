/- Sides: of a ring, in memory, and whether they keep apart. -/
import Derived.Test.YtninciflfolenaaGreatJ5
namespace Go.Proofs.YtninciflfolenaaGreat
open Go.RowKit
set_option linter.unusedSimpArgs false
set_option linter.unusedVariables false
/-- A side: from, to. -/
abbrev Sd : Type := Int × Int × Int × Int
def SdAt (w : World) (b off : Nat) (qs : List Sd) : Prop :=
  ∀ k, k < qs.length → w.cell? ⟨b, off + k * 4, none⟩ = some (.int .i64 (qs.getD k (0, 0, 0, 0)).1) ∧ w.cell? ⟨b, off + k * 4 + 1, none⟩ = some (.int .i64 (qs.getD k (0, 0, 0, 0)).2.1) ∧ w.cell? ⟨b, off + k * 4 + 2, none⟩ = some (.int .i64 (qs.getD k (0, 0, 0, 0)).2.2.1) ∧ w.cell? ⟨b, off + k * 4 + 3, none⟩ = some (.int .i64 (qs.getD k (0, 0, 0, 0)).2.2.2)
def SdIn (q : Sd) : Prop := In q.1 ∧ In q.2.1 ∧ In q.2.2.1 ∧ In q.2.2.2
theorem SdAt.below {w w' : World} {b off : Nat} {qs : List Sd} (h : SdAt w b off qs) (hb : b < w.heap.size) (H : Below w.heap.size w w') : SdAt w' b off qs := by
  intro k hk
  obtain ⟨h1, h2, h3, h4⟩ := h k hk
  exact ⟨by rw [H.cell hb]; exact h1, by rw [H.cell hb]; exact h2, by rw [H.cell hb]; exact h3, by rw [H.cell hb]; exact h4⟩
theorem side_has (fx fy tx ty px py : Int) (h1 : In fx) (h2 : In fy) (h3 : In tx) (h4 : In ty) (h5 : In px) (h6 : In py) (w : World) : Calls Tryz.prog 157 #[.agg #[.int .i64 fx, .int .i64 fy, .int .i64 tx, .int .i64 ty], .agg #[.int .i64 px, .int .i64 py]] w fun e w' => e = .returned (.bool (onb px py fx fy tx ty)) ∧ Below w.heap.size w w' := by
  go_enter Tryz.func157, Tryz.ntmps157
  go_wp2_with fail
  refine (impl_onside _ _ _ _ _ _ h5 h6 h1 h2 h3 h4 _).mono ?_
  rintro e w1 ⟨rfl, hb1⟩
  go_wp2_with fail
  go_ret
  exact ⟨rfl, by (repeat (first | exact Below.refl _ _ | (refine btrans ?_ (by with_reducible assumption)) | refine bdrew ?_ | refine balloc ?_ _))⟩
def meetq (p q : Sd) : Bool := smeet p.1 p.2.1 p.2.2.1 p.2.2.2 q.1 q.2.1 q.2.2.1 q.2.2.2
def foldq (p q : Sd) : Bool := onb q.2.2.1 q.2.2.2 p.1 p.2.1 p.2.2.1 p.2.2.2 || onb p.1 p.2.1 q.1 q.2.1 q.2.2.1 q.2.2.2
theorem side_meets (afx afy atx aty bfx bfy btx bty : Int) (ah1 : In afx) (ah2 : In afy) (ah3 : In atx) (ah4 : In aty) (bh1 : In bfx) (bh2 : In bfy) (bh3 : In btx) (bh4 : In bty) (w : World) : Calls Tryz.prog 156 #[.agg #[.int .i64 afx, .int .i64 afy, .int .i64 atx, .int .i64 aty], .agg #[.int .i64 bfx, .int .i64 bfy, .int .i64 btx, .int .i64 bty]] w fun e w' => e = .returned (.bool (smeet afx afy atx aty bfx bfy btx bty)) ∧ Below w.heap.size w w' := by
  go_enter Tryz.func156, Tryz.ntmps156
  go_wp2_with fail
  refine (impl_sidesmeet _ _ _ _ _ _ _ _ ah1 ah2 ah3 ah4 bh1 bh2 bh3 bh4 _).mono ?_
  rintro e w1 ⟨rfl, hb1⟩
  go_wp2_with fail
  go_ret
  exact ⟨rfl, by (repeat (first | exact Below.refl _ _ | (refine btrans ?_ (by with_reducible assumption)) | refine bdrew ?_ | refine balloc ?_ _))⟩
set_option maxHeartbeats 1000000 in
theorem side_folds (afx afy atx aty bfx bfy btx bty : Int) (ah1 : In afx) (ah2 : In afy) (ah3 : In atx) (ah4 : In aty) (bh1 : In bfx) (bh2 : In bfy) (bh3 : In btx) (bh4 : In bty) (w : World) : Calls Tryz.prog 155 #[.agg #[.int .i64 afx, .int .i64 afy, .int .i64 atx, .int .i64 aty], .agg #[.int .i64 bfx, .int .i64 bfy, .int .i64 btx, .int .i64 bty]] w fun e w' => e = .returned (.bool (foldq (afx, afy, atx, aty) (bfx, bfy, btx, bty))) ∧ Below w.heap.size w w' := by
  have ha := fun w' => side_has afx afy atx aty btx bty ah1 ah2 ah3 ah4 bh3 bh4 w'
  have hb := fun w' => side_has bfx bfy btx bty afx afy bh1 bh2 bh3 bh4 ah1 ah2 w'
  unfold foldq
  dsimp only
  generalize onb btx bty afx afy atx aty = u at *
  generalize onb afx afy bfx bfy btx bty = v at *
  have Ha := hid ha
  have Hb := hid hb
  clear ha hb
  cases u
  · go_enter Tryz.func155, Tryz.ntmps155
    go_wp2_with fail
    refine (Ha.out _).mono ?_
    rintro e w1 ⟨rfl, hb1⟩
    have q0 : w1.cell? ⟨w.heap.size, 0, none⟩ = some (.int .i64 afx) := by (repeat (first | with_reducible assumption | (refine newcell _ _ _ _ _ _ ?_ rfl; simp; done) | refine keepcell (by with_reducible assumption) ?_ | refine keepdrew ?_ | refine keepalloc ?_ _))
    have q1 : w1.cell? ⟨w.heap.size, 1, none⟩ = some (.int .i64 afy) := by (repeat (first | with_reducible assumption | (refine newcell _ _ _ _ _ _ ?_ rfl; simp; done) | refine keepcell (by with_reducible assumption) ?_ | refine keepdrew ?_ | refine keepalloc ?_ _))
    have q2 : w1.cell? ⟨w.heap.size, 2, none⟩ = some (.int .i64 atx) := by (repeat (first | with_reducible assumption | (refine newcell _ _ _ _ _ _ ?_ rfl; simp; done) | refine keepcell (by with_reducible assumption) ?_ | refine keepdrew ?_ | refine keepalloc ?_ _))
    have q3 : w1.cell? ⟨w.heap.size, 3, none⟩ = some (.int .i64 aty) := by (repeat (first | with_reducible assumption | (refine newcell _ _ _ _ _ _ ?_ rfl; simp; done) | refine keepcell (by with_reducible assumption) ?_ | refine keepdrew ?_ | refine keepalloc ?_ _))
    have q4 : w1.cell? ⟨w.heap.size + 1, 0, none⟩ = some (.int .i64 bfx) := by (repeat (first | with_reducible assumption | (refine newcell _ _ _ _ _ _ ?_ rfl; simp; done) | refine keepcell (by with_reducible assumption) ?_ | refine keepdrew ?_ | refine keepalloc ?_ _))
    have q5 : w1.cell? ⟨w.heap.size + 1, 1, none⟩ = some (.int .i64 bfy) := by (repeat (first | with_reducible assumption | (refine newcell _ _ _ _ _ _ ?_ rfl; simp; done) | refine keepcell (by with_reducible assumption) ?_ | refine keepdrew ?_ | refine keepalloc ?_ _))
    have q6 : w1.cell? ⟨w.heap.size + 1, 2, none⟩ = some (.int .i64 btx) := by (repeat (first | with_reducible assumption | (refine newcell _ _ _ _ _ _ ?_ rfl; simp; done) | refine keepcell (by with_reducible assumption) ?_ | refine keepdrew ?_ | refine keepalloc ?_ _))
    have q7 : w1.cell? ⟨w.heap.size + 1, 3, none⟩ = some (.int .i64 bty) := by (repeat (first | with_reducible assumption | (refine newcell _ _ _ _ _ _ ?_ rfl; simp; done) | refine keepcell (by with_reducible assumption) ?_ | refine keepdrew ?_ | refine keepalloc ?_ _))
    go_wp2_with fail
    refine (Hb.out _).mono ?_
    rintro e w2 ⟨rfl, hb2⟩
    go_wp2_with fail
    go_ret
    exact ⟨rfl, by (repeat (first | exact Below.refl _ _ | (refine btrans ?_ (by with_reducible assumption)) | refine bdrew ?_ | refine balloc ?_ _))⟩
  · go_enter Tryz.func155, Tryz.ntmps155
    go_wp2_with fail
    refine (Ha.out _).mono ?_
    rintro e w1 ⟨rfl, hb1⟩
    go_wp2_with fail
    go_ret
    exact ⟨rfl, by (repeat (first | exact Below.refl _ _ | (refine btrans ?_ (by with_reducible assumption)) | refine bdrew ?_ | refine balloc ?_ _))⟩
theorem Tryz.infoSd : (Tryz.prog.info? 184).map (fun i => (i.zero, i.size, i.bytes)) = some (some (.agg #[.int .i64 0, .int .i64 0, .int .i64 0, .int .i64 0]), 4, 32) := by kernel_rfl
theorem make_sides (n : Nat) (hn : n ≤ 1099511627776) (w : World) : (Instr.makeSlice 179 (.int .i64 n) (.int .i64 n)).run Tryz.prog w = .ok (.slice (some ⟨w.heap.size, 0, none⟩) n n) (w.alloc (.cells (madeCells #[.int .i64 0, .int .i64 0, .int .i64 0, .int .i64 0] (n * 4)) 184)) := by
  obtain ⟨i0, hi, hz0, hz1, hz2⟩ := info_parts Tryz.infoSd
  have := run_make (P := Tryz.prog) w 179 184 i0 _ Tryz.underlying179 hi hz0 .i64 .i64 n n (by omega) (by omega) (by rw [hz2]; omega) (by omega)
  rw [hz1] at this
  exact this
theorem made_at4 (n j : Nat) (h : j < n * 4) : (madeCells #[.int .i64 0, .int .i64 0, .int .i64 0, .int .i64 0] (n * 4))[j]? = some (.int .i64 0) := by
  unfold madeCells
  rw [Array.getElem?_map, Array.getElem?_range, if_pos h]
  have : j % 4 = 0 ∨ j % 4 = 1 ∨ j % 4 = 2 ∨ j % 4 = 3 := by omega
  rcases this with e | e | e | e <;> simp [e]
theorem made_own4 (w : World) (n : Nat) : (w.alloc (.cells (madeCells #[.int .i64 0, .int .i64 0, .int .i64 0, .int .i64 0] (n * 4)) 184)).there w.heap.size 0 (n * 4) := by
  intro j hj
  simp only [Nat.zero_add]
  refine ⟨?_, World.frozen?_alloc_new w _ _ j⟩
  rw [World.cell?_alloc_new, made_at4 n j hj]; rfl
/-- Four cells of a block are written: those of one side more. -/
theorem put_side {w : World} {b k n : Nat} {qs : List Sd} (hk : k < qs.length) (hn : n = qs.length * 4) (h : SdAt w b 0 (qs.take k)) (ht : w.there b 0 n) (x y u v : Int) (hq : qs.getD k (0, 0, 0, 0) = (x, y, u, v)) :
    SdAt ((((w.setCell ⟨b, k * 4, none⟩ (.int .i64 x)).setCell ⟨b, k * 4 + 1, none⟩ (.int .i64 y)).setCell ⟨b, k * 4 + 2, none⟩ (.int .i64 u)).setCell ⟨b, k * 4 + 3, none⟩ (.int .i64 v)) b 0 (qs.take (k + 1)) ∧ ((((w.setCell ⟨b, k * 4, none⟩ (.int .i64 x)).setCell ⟨b, k * 4 + 1, none⟩ (.int .i64 y)).setCell ⟨b, k * 4 + 2, none⟩ (.int .i64 u)).setCell ⟨b, k * 4 + 3, none⟩ (.int .i64 v)).there b 0 n := by
  subst hn
  have e : (((w.setCell ⟨b, k * 4, none⟩ (.int .i64 x)).setCell ⟨b, k * 4 + 1, none⟩ (.int .i64 y)).setCell ⟨b, k * 4 + 2, none⟩ (.int .i64 u)).setCell ⟨b, k * 4 + 3, none⟩ (.int .i64 v) = w.setCells b (k * 4) [.int .i64 x, .int .i64 y, .int .i64 u, .int .i64 v] := rfl
  rw [e]
  have hth : w.there b (k * 4) 4 := by
    intro j hj
    have := ht (k * 4 + j) (by omega)
    rwa [Nat.zero_add] at this
  have hr := World.rangeAt_setCells_same w b (k * 4) [.int .i64 x, .int .i64 y, .int .i64 u, .int .i64 v] hth
  refine ⟨?_, World.there_setCells ht _ _ _⟩
  intro j hj
  simp only [List.length_take] at hj
  simp only [Nat.zero_add]
  by_cases ej : j = k
  · subst ej
    have g : (qs.take (j + 1)).getD j (0, 0, 0, 0) = (x, y, u, v) := by
      rw [← hq]; simp [List.getD_eq_getElem?_getD, List.getElem?_take]
    rw [g]
    exact ⟨by simpa using hr 0 _ rfl, hr 1 _ rfl, hr 2 _ rfl, hr 3 _ rfl⟩
  · have g : (qs.take (k + 1)).getD j (0, 0, 0, 0) = (qs.take k).getD j (0, 0, 0, 0) := by
      simp only [List.getD_eq_getElem?_getD, List.getElem?_take]
      rw [if_pos (by omega), if_pos (by omega)]
    rw [g]
    obtain ⟨h1, h2, h3, h4⟩ := h j (by simp; omega)
    simp only [Nat.zero_add] at h1 h2 h3 h4
    have far : ∀ i, i < 4 → (w.setCells b (k * 4) [.int .i64 x, .int .i64 y, .int .i64 u, .int .i64 v]).cell? ⟨b, j * 4 + i, none⟩ = w.cell? ⟨b, j * 4 + i, none⟩ := by
      intro i hi
      exact World.cell?_setCells_out b _ (k * 4) w ⟨b, j * 4 + i, none⟩ (fun _ _ => by left; show j * 4 + i < k * 4; omega)
    exact ⟨by have := far 0 (by omega); simp only [Nat.add_zero] at this; rw [this]; exact h1, by rw [far 1 (by omega)]; exact h2, by rw [far 2 (by omega)]; exact h3, by rw [far 3 (by omega)]; exact h4⟩
def ringSides (ps : List (Int × Int)) : List Sd := (List.range ps.length).map fun k => ((ps.getD k (0, 0)).1, (ps.getD k (0, 0)).2, (nxt ps k).1, (nxt ps k).2)
theorem ringSides_len (ps : List (Int × Int)) : (ringSides ps).length = ps.length := by simp [ringSides]
theorem ringSides_at (ps : List (Int × Int)) (k : Nat) (hk : k < ps.length) : (ringSides ps).getD k (0, 0, 0, 0) = ((ps.getD k (0, 0)).1, (ps.getD k (0, 0)).2, (nxt ps k).1, (nxt ps k).2) := by
  simp [ringSides, List.getD_eq_getElem?_getD, List.getElem?_map, List.getElem?_range hk]
set_option maxHeartbeats 1000000 in
theorem sides_around (a : Option Addr) (cap : Nat) (ps : List (Int × Int)) (w : World) (hm : ps.length ≤ 1099511627776) (hc : ps.length ≤ cap) (h : Pts w a ps) : Calls Tryz.prog 152 #[.slice a ps.length cap] w fun e w' => ∃ b, e = .returned (.slice (some ⟨b, 0, none⟩) ps.length ps.length) ∧ w.heap.size ≤ b ∧ b < w'.heap.size ∧ SdAt w' b 0 (ringSides ps) ∧ Below w.heap.size w w' := by
  have hmk := make_sides ps.length hm
  have Hh := hid h
  clear h
  go_enter Tryz.func152, Tryz.ntmps152
  go_wp2_with fail
  go_loopw [11] (fun ti wr => ∃ k : Nat, ti = .int .i64 k ∧ k ≤ ps.length ∧ Below w.heap.size w wr ∧ w.heap.size < wr.heap.size ∧ SdAt wr w.heap.size 0 ((ringSides ps).take k) ∧ wr.there w.heap.size 0 (ps.length * 4)) (fun ti _ => ps.length - (intOf ti).toNat)
  case atStart => exact ⟨0, rfl, Nat.zero_le _, (Below.refl _ _).alloc (Nat.le_refl _) _, by simp, fun j hj => by simp at hj, made_own4 w ps.length⟩
  case round =>
    clear hmk
    obtain ⟨k, rfl, hk, hb, hB, hp, ht⟩ := hrel
    by_cases hlt : k < ps.length
    · have hbh : ∀ w', Pts w' a ps → Calls Tryz.prog 154 #[.slice a ps.length cap, .int .i64 k] w' fun e w'' => e = .returned (.agg #[.int .i64 (nxt ps k).1, .int .i64 (nxt ps k).2]) ∧ Below w'.heap.size w' w'' := fun w' hw' => impl_behind a cap ps k w' hm hc hlt hw'
      have hq := ringSides_at ps k hlt
      obtain ⟨b, off, rfl, hbs, hps⟩ : ∃ b off, a = some ⟨b, off, none⟩ ∧ b < wr.heap.size ∧ PtsAt wr b off ps := by
        rcases Hh.out.below hb with h | h
        · rw [h] at hlt; simp at hlt
        · exact h
      obtain ⟨c0, c1⟩ := hps k hlt
      generalize (ps.getD k (0, 0)).1 = x at *
      generalize (ps.getD k (0, 0)).2 = y at *
      generalize (nxt ps k).1 = u at *
      generalize (nxt ps k).2 = v at *
      have Hps := hid hps
      have Hbh := hid hbh
      have Hq := hid hq
      have Hp := hid hp
      have Ht := hid ht
      clear hps hbh hq hp ht
      have hk0 : (0 : Int) ≤ (k : Int) := by omega
      have hk1 : (k : Int) < (ps.length : Int) := by omega
      go_wp2_with fail
      have sx0 : (wr.alloc (.cells #[.int .i64 x, .int .i64 y] 66)).cell? ⟨wr.heap.size, 0, none⟩ = some (.int .i64 x) := by (repeat (first | with_reducible assumption | (refine newcell _ _ _ _ _ _ ?_ rfl; simp; done) | refine keepcell (by with_reducible assumption) ?_ | refine keepdrew ?_ | refine keepalloc ?_ _))
      have sx1 : (wr.alloc (.cells #[.int .i64 x, .int .i64 y] 66)).cell? ⟨wr.heap.size, 1, none⟩ = some (.int .i64 y) := by (repeat (first | with_reducible assumption | (refine newcell _ _ _ _ _ _ ?_ rfl; simp; done) | refine keepcell (by with_reducible assumption) ?_ | refine keepdrew ?_ | refine keepalloc ?_ _))
      have hBW : Below wr.heap.size wr (wr.alloc (.cells #[.int .i64 x, .int .i64 y] 66)) := by (repeat (first | exact Below.refl _ _ | (refine btrans ?_ (by with_reducible assumption)) | refine bdrew ?_ | refine balloc ?_ _))
      have hsz : wr.heap.size < (wr.alloc (.cells #[.int .i64 x, .int .i64 y] 66)).heap.size := by simp
      generalize (wr.alloc (.cells #[.int .i64 x, .int .i64 y] 66)) = W at *
      refine wp_region_held_drew (S := (fun w' => w'.cell? ⟨wr.heap.size, 0, none⟩ = some (.int .i64 x) ∧ w'.cell? ⟨wr.heap.size, 1, none⟩ = some (.int .i64 y))) (by kernel_rfl) ?_ (fun hHeld => ?_)
      · (repeat' apply And.intro) <;> (repeat (first | with_reducible assumption | with_reducible refine keepset ?_ (by dsimp only; omega) | with_reducible refine keepdrew ?_ | with_reducible refine keepcell (by with_reducible assumption) ?_ | with_reducible refine keepalloc ?_ _))
      refine wpAnyH_take (i := 0) (v := ?_) rfl (by kernel_rfl) (by kernel_rfl) (by kernel_rfl) (fun _ _ _ h => h) (Or.inl ⟨by rfl, ?_⟩) hHeld ?_
      rotate_left
      · intro w hSw; (try dsimp only at hSw); go_simp; try (with_reducible rfl)
      try simp only [sq]
      refine wpAnyH_take (i := 1) (v := ?_) rfl (by kernel_rfl) (by kernel_rfl) (by kernel_rfl) (fun _ _ _ h => h) (Or.inl ⟨by rfl, ?_⟩) hHeld ?_
      rotate_left
      · intro w hSw; (try dsimp only at hSw); go_simp; try (with_reducible rfl)
      try simp only [sq]
      refine wpAnyH_take (i := 2) (v := ?_) rfl (by kernel_rfl) (by kernel_rfl) (by kernel_rfl) (fun _ _ _ h => h) (Or.inl ⟨by rfl, ?_⟩) hHeld ?_
      rotate_left
      · intro w hSw; (try dsimp only at hSw); go_simp; try (with_reducible rfl)
      try simp only [sq]
      refine wpAnyH_take (i := 3) (v := ?_) rfl (by kernel_rfl) (by kernel_rfl) (by kernel_rfl) (fun _ _ _ h => h) (Or.inl ⟨by rfl, ?_⟩) hHeld ?_
      rotate_left
      · intro w hSw; (try dsimp only at hSw); go_simp; try (with_reducible rfl)
      try simp only [sq]
      refine wpAnyH_take (i := 4) (v := ?_) rfl (by kernel_rfl) (by kernel_rfl) (by kernel_rfl) (fun _ _ _ h => h) (Or.inl ⟨by rfl, ?_⟩) hHeld ?_
      rotate_left
      · intro w hSw; (try dsimp only at hSw); go_simp; try (with_reducible rfl)
      try simp only [sq]
      refine wpAnyH_ready (rs := [5]) (by kernel_rfl) (by simp) ?_
      refine AllReadyH.cons rfl (fun K hK => ?_) AllReadyH.nil
      try simp only [sq]
      go_simp
      (first
          | (go_at_call 154; refine (Hbh.out _ ?_).mono ?_; exact Hh.out.below (btrans hb (by (repeat (first | exact Below.refl _ _ | (refine btrans ?_ (by with_reducible assumption)) | refine bdrew ?_ | refine balloc ?_ _)))); rintro e w1 ⟨rfl, hb1⟩))
      go_wp2_with fail
      refine hK.out _ _ ?_ (fun hHeld => ?_)
      · (repeat' apply And.intro) <;> (repeat (first | with_reducible assumption | with_reducible refine keepset ?_ (by dsimp only; omega) | with_reducible refine keepdrew ?_ | with_reducible refine keepcell (by with_reducible assumption) ?_ | with_reducible refine keepalloc ?_ _))
      clear hK K
      try simp only [sq]
      refine wpAnyH_take (i := 6) (v := ?_) rfl (by kernel_rfl) (by kernel_rfl) (by kernel_rfl) (fun _ _ _ h => h) (Or.inl ⟨by rfl, ?_⟩) hHeld ?_
      rotate_left
      · intro w hSw; (try dsimp only at hSw); go_simp; try (with_reducible rfl)
      try simp only [sq]
      refine wpAnyH_take (i := 7) (v := ?_) rfl (by kernel_rfl) (by kernel_rfl) (by kernel_rfl) (fun _ _ _ h => h) (Or.inl ⟨by rfl, ?_⟩) hHeld ?_
      rotate_left
      · intro w hSw; (try dsimp only at hSw); go_simp; try (with_reducible rfl)
      try simp only [sq]
      have hBel1 := btrans (bdrew hBW) hb1
      have ht1 := there_below Ht.out hB hBel1
      have hz1 : wr.heap.size < w1.heap.size := Nat.lt_of_lt_of_le hsz hb1.size
      obtain ⟨g0, g0'⟩ := ht1 (k * 4) (by omega)
      obtain ⟨g1, g1'⟩ := ht1 (k * 4 + 1) (by omega)
      obtain ⟨g2, g2'⟩ := ht1 (k * 4 + 2) (by omega)
      obtain ⟨g3, g3'⟩ := ht1 (k * 4 + 3) (by omega)
      obtain ⟨u0, hu0⟩ := Option.isSome_iff_exists.1 g0
      obtain ⟨u1, hu1⟩ := Option.isSome_iff_exists.1 g1
      obtain ⟨u2, hu2⟩ := Option.isSome_iff_exists.1 g2
      obtain ⟨u3, hu3⟩ := Option.isSome_iff_exists.1 g3
      simp only [Nat.zero_add, ← Nat.add_assoc] at hu0 hu1 hu2 hu3 g0' g1' g2' g3'
      have hp1 := hid (Hp.out.below hB hBel1)
      have Ht1 := hid ht1
      have sy0 := keepcell hb1 (keepdrew sx0)
      have sy1 := keepcell hb1 (keepdrew sx1)
      have HBel1 := hid hBel1
      clear ht1 g0 g1 g2 g3 hBel1
      refine wpAnyH_ready (rs := [8]) (by kernel_rfl) (by simp) ?_
      refine AllReadyH.cons rfl (fun K hK => ?_) AllReadyH.nil
      try simp only [sq]
      go_simp
      refine hK.out _ _ ?_ (fun hHeld => ?_)
      · (repeat' apply And.intro) <;> (repeat (first | with_reducible assumption | with_reducible refine keepset ?_ (by dsimp only; omega) | with_reducible refine keepdrew ?_ | with_reducible refine keepcell (by with_reducible assumption) ?_ | with_reducible refine keepalloc ?_ _))
      clear hK K
      try simp only [sq]
      refine wpAnyH_done (by kernel_rfl) ?_ _
      have hBel1 := HBel1.out
      go_wp2_with fail
      go_roundw
      case rel =>
        obtain ⟨r1, r2⟩ := put_side (by rw [ringSides_len]; exact hlt) (by rw [ringSides_len]) hp1.out Ht1.out x y u v Hq.out
        exact ⟨k + 1, by go_num, by omega, ((((hb.trans (hBel1.mono hb.size)).setCell (Nat.le_refl _) _).setCell (Nat.le_refl _) _).setCell (Nat.le_refl _) _).setCell (Nat.le_refl _) _, by simp; omega, r1, r2⟩
      case measure => simp [intOf]; omega
    · obtain rfl : k = ps.length := by omega
      have Hp := hid hp
      clear hp
      go_wp2_with fail
      go_ret
      exact ⟨w.heap.size, rfl, Nat.le_refl _, hB, by have := Hp.out; rwa [List.take_of_length_le (by rw [ringSides_len]; exact Nat.le_refl _)] at this, hb⟩
end Go.Proofs.YtninciflfolenaaGreat
