/- Texts of stores, joined: Rw, RwE, RwK. -/
import Derived.Test.YtenlhgnobfadgaaGreatDoorJ29
import Derived.Test.YtenlhgnobfadgaaGreatDoorJ35
import Derived.Deep.RegionHeld3
namespace Go.Proofs.YtenlhgnobfadgaaGreatDoor
open Go.RowKit
set_option linter.unusedSimpArgs false
set_option linter.unusedVariables false
theorem Tryz.infoRow : (Tryz.prog.info? 65).map (fun i => (i.zero, i.size, i.bytes)) = some (some (.agg #[.int .i64 0, .int .i64 0, .int .i64 0, .int .i64 0, .slice none 0 0]), 5, 56) := by kernel_rfl
theorem make_rows (n : Nat) (hn : n ≤ 1099511627776) (w : World) : (Instr.makeSlice 30 (.int .i64 n) (.int .i64 n)).run Tryz.prog w = .ok (.slice (some ⟨w.heap.size, 0, none⟩) n n) (w.alloc (.cells (madeCells #[.int .i64 0, .int .i64 0, .int .i64 0, .int .i64 0, .slice none 0 0] (n * 5)) 65)) := by
  obtain ⟨i0, hi, hz0, hz1, hz2⟩ := info_parts Tryz.infoRow
  have := run_make (P := Tryz.prog) w 30 65 i0 _ Tryz.underlying30 hi hz0 .i64 .i64 n n (by omega) (by omega) (by rw [hz2]; omega) (by omega)
  rw [hz1] at this
  exact this
theorem made_own5 (w : World) (n : Nat) : (w.alloc (.cells (madeCells #[.int .i64 0, .int .i64 0, .int .i64 0, .int .i64 0, .slice none 0 0] (n * 5)) 65)).there w.heap.size 0 (n * 5) := by
  intro j hj
  simp only [Nat.zero_add]
  refine ⟨?_, World.frozen?_alloc_new w _ _ j⟩
  rw [World.cell?_alloc_new]
  have hs := size_madeCells #[.int .i64 0, .int .i64 0, .int .i64 0, .int .i64 0, .slice none 0 0] (n * 5)
  rw [Array.getElem?_eq_getElem (by rw [hs]; exact hj)]
  rfl
/-- Five cells of a block are written: those of one row more. -/
theorem put_row {N : Nat → Prop} {w : World} {B k n b : Nat} {rs : List Rw} (hN : ∀ c, N c → c ≠ B) (hk : k < rs.length) (hn : rs.length = n) (h : ∀ j (hj : j < rs.length), j < k → RwAt N w B (j * 5) rs[j]) (ht : w.there B 0 (n * 5)) (hb : N b) (hm : rs[k].2.2.2.2.length ≤ 1099511627776) (ho : PtsOwn w b rs[k].2.2.2.2) :
    (∀ j (hj : j < rs.length), j < k + 1 → RwAt N (((((w.setCell ⟨B, k * 5, none⟩ (.int .i64 rs[k].1)).setCell ⟨B, k * 5 + 1, none⟩ (.int .i64 rs[k].2.1)).setCell ⟨B, k * 5 + 2, none⟩ (.int .i64 rs[k].2.2.1)).setCell ⟨B, k * 5 + 3, none⟩ (.int .i64 rs[k].2.2.2.1)).setCell ⟨B, k * 5 + 4, none⟩ (.slice (some ⟨b, 0, none⟩) rs[k].2.2.2.2.length rs[k].2.2.2.2.length)) B (j * 5) rs[j]) ∧
    (((((w.setCell ⟨B, k * 5, none⟩ (.int .i64 rs[k].1)).setCell ⟨B, k * 5 + 1, none⟩ (.int .i64 rs[k].2.1)).setCell ⟨B, k * 5 + 2, none⟩ (.int .i64 rs[k].2.2.1)).setCell ⟨B, k * 5 + 3, none⟩ (.int .i64 rs[k].2.2.2.1)).setCell ⟨B, k * 5 + 4, none⟩ (.slice (some ⟨b, 0, none⟩) rs[k].2.2.2.2.length rs[k].2.2.2.2.length)).there B 0 (n * 5) := by
  subst hn
  have e : ((((w.setCell ⟨B, k * 5, none⟩ (.int .i64 rs[k].1)).setCell ⟨B, k * 5 + 1, none⟩ (.int .i64 rs[k].2.1)).setCell ⟨B, k * 5 + 2, none⟩ (.int .i64 rs[k].2.2.1)).setCell ⟨B, k * 5 + 3, none⟩ (.int .i64 rs[k].2.2.2.1)).setCell ⟨B, k * 5 + 4, none⟩ (.slice (some ⟨b, 0, none⟩) rs[k].2.2.2.2.length rs[k].2.2.2.2.length) = w.setCells B (k * 5) [.int .i64 rs[k].1, .int .i64 rs[k].2.1, .int .i64 rs[k].2.2.1, .int .i64 rs[k].2.2.2.1, .slice (some ⟨b, 0, none⟩) rs[k].2.2.2.2.length rs[k].2.2.2.2.length] := rfl
  have hblk : ∀ c, c ≠ B → (w.setCells B (k * 5) [.int .i64 rs[k].1, .int .i64 rs[k].2.1, .int .i64 rs[k].2.2.1, .int .i64 rs[k].2.2.2.1, .slice (some ⟨b, 0, none⟩) rs[k].2.2.2.2.length rs[k].2.2.2.2.length]).heap[c]? = w.heap[c]? := by
    intro c hc
    rw [← e]
    rw [Below.heap_setCell _ _ _ _ (by dsimp only; omega), Below.heap_setCell _ _ _ _ (by dsimp only; omega), Below.heap_setCell _ _ _ _ (by dsimp only; omega), Below.heap_setCell _ _ _ _ (by dsimp only; omega), Below.heap_setCell _ _ _ _ (by dsimp only; omega)]
  have hsz : (w.setCells B (k * 5) [.int .i64 rs[k].1, .int .i64 rs[k].2.1, .int .i64 rs[k].2.2.1, .int .i64 rs[k].2.2.2.1, .slice (some ⟨b, 0, none⟩) rs[k].2.2.2.2.length rs[k].2.2.2.2.length]).heap.size = w.heap.size := by
    rw [← e]; simp
  rw [e]
  have hth : w.there B (k * 5) 5 := by
    intro j hj
    have := ht (k * 5 + j) (by omega)
    rwa [Nat.zero_add] at this
  have hr := World.rangeAt_setCells_same w B (k * 5) [.int .i64 rs[k].1, .int .i64 rs[k].2.1, .int .i64 rs[k].2.2.1, .int .i64 rs[k].2.2.2.1, .slice (some ⟨b, 0, none⟩) rs[k].2.2.2.2.length rs[k].2.2.2.2.length] hth
  refine ⟨?_, World.there_setCells ht _ _ _⟩
  intro j hj hjk
  by_cases ej : j = k
  · subst ej
    refine ⟨some ⟨b, 0, none⟩, rs[j].2.2.2.2.length, by simpa using hr 0 _ rfl, hr 1 _ rfl, hr 2 _ rfl, hr 3 _ rfl, hr 4 _ rfl, Nat.le_refl _, hm, (ho.of_block (hblk b (hN b hb)) (by omega)).pts, fun c off e => by cases e; exact hb⟩
  · obtain ⟨a, cap, h0, h1, h2, h3, h4, h5, h6, h7, h8⟩ := h j hj (by omega)
    have far : ∀ i, i < 5 → (w.setCells B (k * 5) [.int .i64 rs[k].1, .int .i64 rs[k].2.1, .int .i64 rs[k].2.2.1, .int .i64 rs[k].2.2.2.1, .slice (some ⟨b, 0, none⟩) rs[k].2.2.2.2.length rs[k].2.2.2.2.length]).cell? ⟨B, j * 5 + i, none⟩ = w.cell? ⟨B, j * 5 + i, none⟩ := by
      intro i hi
      exact World.cell?_setCells_out B _ (k * 5) w ⟨B, j * 5 + i, none⟩ (fun _ _ => by left; show j * 5 + i < k * 5; omega)
    refine ⟨a, cap, ?_, ?_, ?_, ?_, ?_, h5, h6, ?_, h8⟩
    · have := far 0 (by omega); simp only [Nat.add_zero] at this; rw [this]; exact h0
    · rw [far 1 (by omega)]; exact h1
    · rw [far 2 (by omega)]; exact h2
    · rw [far 3 (by omega)]; exact h3
    · rw [far 4 (by omega)]; exact h4
    · rcases h7 with h7 | ⟨c, off, ea, hc, hp⟩
      · exact .inl h7
      · refine .inr ⟨c, off, ea, by omega, fun i hi => ?_⟩
        have hcb := hblk c (hN c (h8 c off ea))
        have hcc : ∀ q, (w.setCells B (k * 5) [.int .i64 rs[k].1, .int .i64 rs[k].2.1, .int .i64 rs[k].2.2.1, .int .i64 rs[k].2.2.2.1, .slice (some ⟨b, 0, none⟩) rs[k].2.2.2.2.length rs[k].2.2.2.2.length]).cell? ⟨c, q, none⟩ = w.cell? ⟨c, q, none⟩ := fun q => by simp only [World.cell?, hcb]
        rw [hcc, hcc]
        exact hp i hi
end Go.Proofs.YtenlhgnobfadgaaGreatDoor
namespace Go.Proofs.YtenlhgnobfadgaaGreatDoor
open Go.RowKit
set_option linter.unusedSimpArgs false
set_option linter.unusedVariables false
end Go.Proofs.YtenlhgnobfadgaaGreatDoor
namespace Go.Proofs.YtenlhgnobfadgaaGreatDoor
open Go.RowKit
set_option linter.unusedSimpArgs false
set_option linter.unusedVariables false
/-- Of what was there only blocks from lo on, below hi, may have turned. -/
def Mid (lo hi : Nat) (w w' : World) : Prop := w'.os = w.os ∧ w'.tape = w.tape ∧ w'.output = w.output ∧ w.heap.size ≤ w'.heap.size ∧ ∀ k, k < w.heap.size → (k < lo ∨ hi ≤ k) → w'.heap[k]? = w.heap[k]?
theorem mid_refl (lo hi : Nat) (w : World) : Mid lo hi w w := ⟨rfl, rfl, rfl, Nat.le_refl _, fun _ _ _ => rfl⟩
theorem mid_trans {lo hi : Nat} {a b c : World} (h : Mid lo hi a b) (k : Mid lo hi b c) : Mid lo hi a c := by
  obtain ⟨h1, h2, h3, h4, h5⟩ := h
  obtain ⟨k1, k2, k3, k4, k5⟩ := k
  exact ⟨k1.trans h1, k2.trans h2, k3.trans h3, Nat.le_trans h4 k4, fun i hi' ho => (k5 i (Nat.lt_of_lt_of_le hi' h4) ho).trans (h5 i hi' ho)⟩
theorem mid_below {lo hi : Nat} {w w' : World} (h : Below w.heap.size w w') : Mid lo hi w w' := ⟨h.os, h.tape, h.output, h.size, fun k hk _ => h.block k hk⟩
theorem mid_set {lo hi b k : Nat} {w w1 : World} (h : Mid lo hi w w1) (h1 : lo ≤ b) (h2 : b < hi) (u : Value) : Mid lo hi w (w1.setCell ⟨b, k, none⟩ u) :=
  mid_trans h ⟨rfl, rfl, rfl, by simp [World.setCell], fun i _ ho => Below.heap_setCell _ _ _ _ (by dsimp only; omega)⟩
theorem mid_grown {lo hi b : Nat} {w w1 w2 : World} (h : Mid lo hi w w1) (g : w1.grownBy w2 (some b)) (h1 : lo ≤ b) (h2 : b < hi) : Mid lo hi w w2 :=
  mid_trans h ⟨g.os, g.tape, g.output, g.size, fun i hi' ho => g.block i hi' (fun e => by cases e; omega)⟩
theorem mid_B {n lo hi : Nat} {w0 w w' : World} (h : Below n w0 w) (k : Mid lo hi w w') (h1 : n ≤ lo) (h2 : n ≤ w.heap.size) : Below n w0 w' := by
  obtain ⟨k1, k2, k3, k4, k5⟩ := k
  exact h.trans ⟨k1, k2, k3, k4, fun i hi' => k5 i (by omega) (by omega)⟩
theorem mid_blk {lo hi c : Nat} {w w' : World} (k : Mid lo hi w w') (hc : c < w.heap.size) (h : c < lo ∨ hi ≤ c) : w'.heap[c]? = w.heap[c]? := k.2.2.2.2 c hc h
theorem mid_cell {lo hi c j : Nat} {v : Value} {w w' : World} (k : Mid lo hi w w') (hv : w.cell? ⟨c, j, none⟩ = some v) (h : c < lo ∨ hi ≤ c) : w'.cell? ⟨c, j, none⟩ = some v := by
  have hc : c < w.heap.size := World.block_lt_of_cell? w _ hv
  simp only [World.cell?, mid_blk k hc h] at hv ⊢
  exact hv
theorem mid_own {lo hi : Nat} {w w' : World} {a : Option Addr} {ps : List (Int × Int)} (k : Mid lo hi w w') (h : OwnP w a ps) (ha : ∀ c off, a = some ⟨c, off, none⟩ → c < lo ∨ hi ≤ c) : OwnP w' a ps := by
  rcases h with ⟨rfl, rfl⟩ | ⟨b, rfl, h⟩
  · exact .inl ⟨rfl, rfl⟩
  · exact .inr ⟨b, rfl, h.of_block (mid_blk k h.1 (ha b 0 rfl)) k.2.2.2.1⟩
/-- A row whose points' list has a block of its own, below hi, that may be written into. -/
def RwO (hi : Nat) (w : World) (B o n : Nat) : Prop := ∃ c, w.cell? ⟨B, o + 4, none⟩ = some (.slice (some ⟨c, 0, none⟩) n n) ∧ B < c ∧ c < hi ∧ w.there c 0 (n * 2)
def RwsO (hi : Nat) (w : World) (B : Nat) (rs : List Rw) : Prop := ∀ j (h : j < rs.length), RwO hi w B (j * 5) rs[j].2.2.2.2.length
theorem RwO.below {hi : Nat} {w w' : World} {B o n : Nat} (h : RwO hi w B o n) (hh : hi ≤ w.heap.size) (H : Below w.heap.size w w') : RwO hi w' B o n := by
  obtain ⟨c, h0, h1, h2, h3⟩ := h
  exact ⟨c, keepcell H h0, h1, h2, there_below h3 (by omega) H⟩
theorem RwO.mono {hi hi' : Nat} {w : World} {B o n : Nat} (h : RwO hi w B o n) (hh : hi ≤ hi') : RwO hi' w B o n := by
  obtain ⟨c, h0, h1, h2, h3⟩ := h
  exact ⟨c, h0, h1, by omega, h3⟩
theorem RwsO.below {hi : Nat} {w w' : World} {B : Nat} {rs : List Rw} (h : RwsO hi w B rs) (hh : hi ≤ w.heap.size) (H : Below w.heap.size w w') : RwsO hi w' B rs := fun j hj => (h j hj).below hh H
theorem there_at {w : World} {b n k : Nat} (h : w.there b 0 n) (hk : k < n) : ∃ v, w.cell? ⟨b, k, none⟩ = some v ∧ w.frozen? ⟨b, k, none⟩ = false := by
  obtain ⟨h1, h2⟩ := h k hk
  obtain ⟨v, hv⟩ := Option.isSome_iff_exists.1 h1
  simp only [Nat.zero_add] at hv h2
  exact ⟨v, hv, h2⟩
theorem there_set {w : World} {b n p k : Nat} (h : w.there b 0 n) (u : Value) : (w.setCell ⟨p, k, none⟩ u).there b 0 n := by
  intro j hj
  obtain ⟨h1, h2⟩ := h j hj
  refine ⟨?_, by rw [World.frozen?_setCell]; exact h2⟩
  obtain ⟨v, hv⟩ := Option.isSome_iff_exists.1 h1
  obtain ⟨v', hv'⟩ := cell?_setCell_some (p := ⟨p, k, none⟩) (x := u) hv
  rw [hv']; rfl
theorem put_own {hi : Nat} {w : World} {B k n b m : Nat} (ht : w.there B 0 (n * 5)) (hk : k < n) (hb : B < b) (hbh : b < hi) (ho : w.there b 0 (m * 2)) (u0 u1 u2 u3 : Value) :
    RwO hi (((((w.setCell ⟨B, k * 5, none⟩ u0).setCell ⟨B, k * 5 + 1, none⟩ u1).setCell ⟨B, k * 5 + 2, none⟩ u2).setCell ⟨B, k * 5 + 3, none⟩ u3).setCell ⟨B, k * 5 + 4, none⟩ (.slice (some ⟨b, 0, none⟩) m m)) B (k * 5) m := by
  obtain ⟨v, hv, _⟩ := there_at (there_set (there_set (there_set (there_set ht u0 (p := B) (k := k * 5)) u1 (p := B) (k := k * 5 + 1)) u2 (p := B) (k := k * 5 + 2)) u3 (p := B) (k := k * 5 + 3)) (show k * 5 + 4 < n * 5 by omega)
  exact ⟨b, World.cell?_setCell_same _ _ _ hv, hb, hbh, there_set (there_set (there_set (there_set (there_set ho _) _) _) _) _⟩
theorem RwO.far {hi : Nat} {w : World} {B o n k : Nat} (h : RwO hi w B o n) (hk : k ≠ o + 4) (u : Value) : RwO hi (w.setCell ⟨B, k, none⟩ u) B o n := by
  obtain ⟨c, h0, h1, h2, h3⟩ := h
  refine ⟨c, ?_, h1, h2, there_set h3 _⟩
  rw [World.cell?_setCell_other _ _ _ _ (by intro q; injection q; omega)]
  exact h0
theorem RwO.other {hi : Nat} {w : World} {B o n q k : Nat} (h : RwO hi w B o n) (hq : q ≠ B) (u : Value) : RwO hi (w.setCell ⟨q, k, none⟩ u) B o n := by
  obtain ⟨c, h0, h1, h2, h3⟩ := h
  refine ⟨c, ?_, h1, h2, there_set h3 _⟩
  rw [World.cell?_setCell_other _ _ _ _ (by intro e; injection e; omega)]
  exact h0
set_option maxRecDepth 100000 in
set_option maxHeartbeats 1000000 in
theorem mark_ptsN (w : World) (c n : Nat) (k0 : Int) (h0 : 0 ≤ k0) (h1 : k0 ≤ 4611686018427387904) (hn : n ≤ 1048576) (hc : c < w.heap.size) (ht : w.there c 0 (n * 2)) : Calls Tryz.prog 26 #[.slice (some ⟨c, 0, none⟩) n n, .int .i64 k0] w fun e w' => e = .returned (.int .i64 (k0 + 2 * (n : Int))) ∧ w.grownBy w' (some c) ∧ (∀ d m, w.there d 0 m → w'.there d 0 m) := by
  go_enter Tryz.func26, Tryz.ntmps26
  go_wp2_with fail
  go_loopw [1, 5] (fun tk' ti wr => ∃ k : Nat, ti = .int .i64 k ∧ tk' = .int .i64 (k0 + 2 * (k : Int)) ∧ k ≤ n ∧ Hid (w.grownBy wr (some c)) ∧ Hid (∀ d m, w.there d 0 m → wr.there d 0 m)) (fun _ ti _ => n - (intOf ti).toNat)
  case atStart => exact ⟨0, rfl, by simp, Nat.zero_le _, hid (grown_same _ _), hid (fun _ _ h => h)⟩
  case round =>
    obtain ⟨k, rfl, rfl, hk, HG, HT⟩ := hrel
    by_cases hlt : k < n
    · have c1 : (k : Int) < (n : Int) := by omega
      have hT := HT.out _ _ ht
      obtain ⟨u0, hu0, g0'⟩ := there_at hT (show k * 2 < n * 2 by omega)
      obtain ⟨u1, hu1, g1'⟩ := there_at hT (show k * 2 + 1 < n * 2 by omega)
      have hu1' : (wr.setCell ⟨c, k * 2, none⟩ (.int .i64 (k0 + 2 * (k : Int)))).cell? ⟨c, k * 2 + 1, none⟩ = some u1 := by
        rw [World.cell?_setCell_other _ _ _ _ (by simp)]; exact hu1
      have g1'' : (wr.setCell ⟨c, k * 2, none⟩ (.int .i64 (k0 + 2 * (k : Int)))).frozen? ⟨c, k * 2 + 1, none⟩ = false := by rw [World.frozen?_setCell]; exact g1'
      clear hT
      go_wp2_with fail
      go_roundw
      case rel => exact ⟨k + 1, by go_num, by go_num, by omega, hid (grown_setb (grown_setb HG.out _) _), hid (fun d m h => there_set (there_set (HT.out d m h) _) _)⟩
      case measure => simp [intOf]; omega
    · obtain rfl : k = n := by omega
      go_wp2_with fail
      go_ret
      exact ⟨rfl, HG.out, HT.out⟩
end Go.Proofs.YtenlhgnobfadgaaGreatDoor
