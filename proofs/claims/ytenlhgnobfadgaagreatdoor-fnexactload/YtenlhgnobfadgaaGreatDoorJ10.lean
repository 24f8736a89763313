/- Texts of stores, joined: Geo4. -/
import Derived.Test.YtenlhgnobfadgaaGreatDoorJ9
import Derived.Deep.CutRange
namespace Go.Proofs.YtenlhgnobfadgaaGreatDoor
open Go.RowKit
set_option linter.unusedSimpArgs false
set_option linter.unusedVariables false
def hasb (a b c d x y : Int) : Bool := decide (a ≤ x) && decide (x ≤ c) && decide (b ≤ y) && decide (y ≤ d)
set_option maxHeartbeats 1000000 in
theorem impl_has (a b c d x y : Int) (w : World) : Calls Tryz.prog 266 #[.agg #[.int .i64 a, .int .i64 b, .int .i64 c, .int .i64 d], .agg #[.int .i64 x, .int .i64 y]] w fun e w' => e = .returned (.bool (hasb a b c d x y)) ∧ Below w.heap.size w w' := by
  unfold hasb
  cases h1 : decide (a ≤ x)
  · go_enter Tryz.func266, Tryz.ntmps266
    go_wp2_with fail
    go_ret
    exact ⟨by simp, by (repeat (first | exact Below.refl _ _ | (refine btrans ?_ (by assumption)) | refine bdrew ?_ | refine balloc ?_ _))⟩
  · cases h2 : decide (x ≤ c)
    · go_enter Tryz.func266, Tryz.ntmps266
      go_wp2_with fail
      go_ret
      exact ⟨by simp, by (repeat (first | exact Below.refl _ _ | (refine btrans ?_ (by assumption)) | refine bdrew ?_ | refine balloc ?_ _))⟩
    · cases h3 : decide (b ≤ y)
      · go_enter Tryz.func266, Tryz.ntmps266
        go_wp2_with fail
        go_ret
        exact ⟨by simp, by (repeat (first | exact Below.refl _ _ | (refine btrans ?_ (by assumption)) | refine bdrew ?_ | refine balloc ?_ _))⟩
      · go_enter Tryz.func266, Tryz.ntmps266
        go_wp2_with fail
        go_ret
        exact ⟨by simp, by (repeat (first | exact Below.refl _ _ | (refine btrans ?_ (by assumption)) | refine bdrew ?_ | refine balloc ?_ _))⟩
theorem cell4 {w : World} {p : Nat} {a b c d : Value} {t : TypeId} (h : w.heap[p]? = some (.cells #[a, b, c, d] t (0, 0))) :
    w.cell? ⟨p, 0, none⟩ = some a ∧ w.cell? ⟨p, 1, none⟩ = some b ∧ w.cell? ⟨p, 2, none⟩ = some c ∧ w.cell? ⟨p, 3, none⟩ = some d ∧ w.frozen? ⟨p, 0, none⟩ = false ∧ w.frozen? ⟨p, 1, none⟩ = false ∧ w.frozen? ⟨p, 2, none⟩ = false ∧ w.frozen? ⟨p, 3, none⟩ = false := by
  simp [World.cell?, World.frozen?, h]
theorem cell2 {w : World} {p : Nat} {a b : Value} {t : TypeId} (h : w.heap[p]? = some (.cells #[a, b] t (0, 0))) : w.cell? ⟨p, 0, none⟩ = some a ∧ w.cell? ⟨p, 1, none⟩ = some b := by
  simp [World.cell?, h]
def upto (f : Int → Int × Int → Int) (x : Int) (ps : List (Int × Int)) (k : Nat) : Int := (ps.take k).foldl f x
theorem upto_zero (f : Int → Int × Int → Int) (x : Int) (ps : List (Int × Int)) : upto f x ps 0 = x := rfl
theorem upto_next (f : Int → Int × Int → Int) (x : Int) (ps : List (Int × Int)) (k : Nat) (h : k < ps.length) : upto f x ps (k + 1) = f (upto f x ps k) (ps.getD k (0, 0)) := by
  unfold upto
  rw [List.take_add_one, List.getElem?_eq_getElem h, List.foldl_append, List.getD_eq_getElem?_getD, List.getElem?_eq_getElem h]
  rfl
theorem upto_all (f : Int → Int × Int → Int) (x : Int) (ps : List (Int × Int)) (k : Nat) (h : ps.length ≤ k) : upto f x ps k = ps.foldl f x := by
  unfold upto
  rw [List.take_of_length_le h]
theorem set_at {w : World} {p k : Nat} {cs : Array Value} {t : TypeId} {fr : Nat × Nat} {u : Value} (h : w.heap[p]? = some (.cells cs t fr)) : (w.setCell ⟨p, k, none⟩ u).heap[p]? = some (.cells (cs.setIfInBounds k u) t fr) := by
  have hlt := lt_of_block h
  have h' : w.heap[p] = .cells cs t fr := by simpa [Array.getElem?_eq_getElem hlt] using h
  show (w.heap.modify p _)[p]? = _
  rw [Array.getElem?_eq_getElem (by simpa using hlt), Array.getElem_modify_self, h']
  rfl
theorem set_far {w : World} {p q k : Nat} {o : Obj} {u : Value} (h : w.heap[p]? = some o) (hne : p ≠ q) : (w.setCell ⟨q, k, none⟩ u).heap[p]? = some o := by
  rw [Below.heap_setCell w ⟨q, k, none⟩ u p hne]; exact h
theorem old_alloc {w : World} {p : Nat} {o o' : Obj} (h : w.heap[p]? = some o) : (w.alloc o').heap[p]? = some o := by
  rw [Below.heap_alloc w o' p (lt_of_block h)]; exact h
theorem new_alloc (w : World) (p : Nat) (o : Obj) (h : p = w.heap.size) : (w.alloc o).heap[p]? = some o := by
  rw [h]; exact heap_alloc_new w o
theorem ite_min (a b : Int) : (if b < a then b else a) = min a b := by
  split <;> omega
theorem ite_max (a b : Int) : (if a < b then b else a) = max a b := by
  split <;> omega
theorem bset {w a : World} (h : Below w.heap.size w a) {q k : Nat} (hq : w.heap.size ≤ q) (u : Value) : Below w.heap.size w (a.setCell ⟨q, k, none⟩ u) := h.setCell hq u
set_option maxHeartbeats 4000000 in
theorem impl_boxof (x y : Int) (a : Option Addr) (cap : Nat) (ps : List (Int × Int)) (w : World) (hm : ps.length ≤ 1099511627776) (hc : ps.length ≤ cap) (h : Pts w a ps) : Calls Tryz.prog 265 #[.agg #[.int .i64 x, .int .i64 y], .slice a ps.length cap] w fun e w' => e = .returned (.agg #[.int .i64 (ps.foldl (fun m p => min m p.1) x), .int .i64 (ps.foldl (fun m p => min m p.2) y), .int .i64 (ps.foldl (fun m p => max m p.1) x), .int .i64 (ps.foldl (fun m p => max m p.2) y)]) ∧ Below w.heap.size w w' := by
  go_enter Tryz.func265, Tryz.ntmps265
  go_wp2_with fail
  go_loopw [19] (fun ti wr => ∃ k : Nat, ∃ a0 b0 a1 b1 : Int, ti = .int .i64 k ∧ k ≤ ps.length ∧ Below w.heap.size w wr ∧ wr.heap[w.heap.size + 1]? = some (.cells #[.int .i64 0, .int .i64 0, .int .i64 0, .int .i64 0] 284 (0, 0)) ∧ wr.heap[w.heap.size + 1 + 1]? = some (.cells #[.int .i64 a0, .int .i64 b0, .int .i64 a1, .int .i64 b1] 284 (0, 0)) ∧
      Hid (a0 = upto (fun m p => min m p.1) x ps k ∧ b0 = upto (fun m p => min m p.2) y ps k ∧ a1 = upto (fun m p => max m p.1) x ps k ∧ b1 = upto (fun m p => max m p.2) y ps k)) (fun ti _ => ps.length - (intOf ti).toNat)
  case atStart => 
    refine ⟨0, x, y, x, y, rfl, Nat.zero_le _, by (repeat (first | exact Below.refl _ _ | (refine btrans ?_ (by assumption)) | refine bdrew ?_ | refine balloc ?_ _)), ?_, ?_, hid ⟨rfl, rfl, rfl, rfl⟩⟩
    · exact old_alloc (new_alloc _ _ _ (by simp))
    · exact new_alloc _ _ _ (by simp)
  case round =>
    obtain ⟨k, a0, b0, a1, b1, rfl, hk, hb, g4, g5, H⟩ := hrel
    by_cases hlt : k < ps.length
    · rcases h with rfl | ⟨b, off, rfl, hbs, hp⟩
      · simp at hlt
      obtain ⟨c0, c1⟩ := hp.below hbs hb k hlt
      generalize hx : (ps.getD k (0, 0)).1 = px at c0
      generalize hy : (ps.getD k (0, 0)).2 = py at c1
      have Hx := hid hx
      have Hy := hid hy
      have Hp := hid hp
      clear hx hy hp
      obtain ⟨d0, d1, d2, d3, f0, f1, f2, f3⟩ := cell4 g5
      have hl : w.heap.size + 1 + 1 < wr.heap.size := World.block_lt_of_cell? wr _ d0
      have hl2 : w.heap.size + 1 < wr.heap.size := by omega
      have G5 := hid g5
      have G4 := hid g4
      clear g5 g4
      go_wp2_with fail
      go_cut [19] from 19 to 47 (fun t19 wx => t19 = .int .i64 k ∧ ∃ A0 B0 : Int, Below w.heap.size w wx ∧ wx.heap[w.heap.size + 1]? = some (.cells #[.int .i64 0, .int .i64 0, .int .i64 0, .int .i64 0] 284 (0, 0)) ∧ wx.heap[w.heap.size + 1 + 1]? = some (.cells #[.int .i64 A0, .int .i64 B0, .int .i64 a1, .int .i64 b1] 284 (0, 0)) ∧ wx.heap[wr.heap.size]? = some (.cells #[.int .i64 px, .int .i64 py] 91 (0, 0)) ∧ Hid (A0 = min a0 px ∧ B0 = min b0 py))
      case first =>
        go_region
        generalize hA : (if px < a0 then px else a0) = A0
        generalize hB : (if py < b0 then py else b0) = B0
        have HA := hid hA
        have HB := hid hB
        clear hA hB
        go_wp2_with fail
        go_meet
        refine ⟨rfl, A0, B0, bdrew (balloc (bset (bset hb (by omega) _) (by omega) _) _), ?_, ?_, ?_, hid ⟨?_, ?_⟩⟩
        · exact old_alloc (set_far (set_far G4.out (by omega)) (by omega))
        · exact old_alloc (set_at (set_at G5.out))
        · exact new_alloc _ _ _ (by simp)
        · rw [← HA.out, ite_min]
        · rw [← HB.out, ite_min]
      case rest =>
        obtain ⟨rfl, A0, B0, hbx, g4, g5, gp, HAB⟩ := hcut
        clear d0 d1 d2 d3 f0 f1 f2 f3 G5 G4 c0 c1 hb
        obtain ⟨d0, d1, d2, d3, f0, f1, f2, f3⟩ := cell4 g5
        obtain ⟨p0, p1⟩ := cell2 gp
        have G5 := hid g5
        have G4 := hid g4
        clear g5 g4 gp
        go_wp2_with fail
        go_region
        generalize hC : (if a1 < px then px else a1) = A1
        generalize hD : (if b1 < py then py else b1) = B1
        have HC := hid hC
        have HD := hid hD
        clear hC hD
        go_wp2_with fail
        go_roundw
        case rel =>
          refine ⟨k + 1, A0, B0, A1, B1, by go_num, by omega, ?_, ?_, ?_, hid ?_⟩
          · exact bdrew (bset (bset hbx (by omega) _) (by omega) _)
          · exact set_far (set_far G4.out (by omega)) (by omega)
          · exact set_at (set_at G5.out)
          · obtain ⟨e1, e2, e3, e4⟩ := H.out
            obtain ⟨e5, e6⟩ := HAB.out
            rw [upto_next _ _ _ _ hlt, upto_next _ _ _ _ hlt, upto_next _ _ _ _ hlt, upto_next _ _ _ _ hlt, ← e1, ← e2, ← e3, ← e4, Hx.out, Hy.out, e5, e6, ← HC.out, ← HD.out, ite_max, ite_max]
            exact ⟨rfl, rfl, rfl, rfl⟩
        case measure => simp [intOf]; omega
    · have hk' : k = ps.length := by omega
      obtain ⟨d0, d1, d2, d3, f0, f1, f2, f3⟩ := cell4 g5
      obtain ⟨i0, i1, i2, i3, j0, j1, j2, j3⟩ := cell4 g4
      have G5 := hid g5
      have G4 := hid g4
      clear g5 g4
      go_wp2_with fail
      have gF : (((((wr.setCell ⟨w.heap.size + 1, 0, none⟩ (.int .i64 a0)).setCell ⟨w.heap.size + 1, 1, none⟩ (.int .i64 b0)).setCell ⟨w.heap.size + 1, 2, none⟩ (.int .i64 a1)).setCell ⟨w.heap.size + 1, 3, none⟩ (.int .i64 b1))).heap[w.heap.size + 1]? = some (.cells #[.int .i64 a0, .int .i64 b0, .int .i64 a1, .int .i64 b1] 284 (0, 0)) := set_at (set_at (set_at (set_at G4.out)))
      have hbF : Below w.heap.size w (((((wr.setCell ⟨w.heap.size + 1, 0, none⟩ (.int .i64 a0)).setCell ⟨w.heap.size + 1, 1, none⟩ (.int .i64 b0)).setCell ⟨w.heap.size + 1, 2, none⟩ (.int .i64 a1)).setCell ⟨w.heap.size + 1, 3, none⟩ (.int .i64 b1))) := bset (bset (bset (bset hb (by omega) _) (by omega) _) (by omega) _) (by omega) _
      generalize ((((wr.setCell ⟨w.heap.size + 1, 0, none⟩ (.int .i64 a0)).setCell ⟨w.heap.size + 1, 1, none⟩ (.int .i64 b0)).setCell ⟨w.heap.size + 1, 2, none⟩ (.int .i64 a1)).setCell ⟨w.heap.size + 1, 3, none⟩ (.int .i64 b1)) = wf at gF hbF ⊢
      obtain ⟨z0, z1, z2, z3, _, _, _, _⟩ := cell4 gF
      refine bodyPost_ret (v := .agg #[.int .i64 a0, .int .i64 b0, .int .i64 a1, .int .i64 b1]) (by simp [results, Tryz.results265, go_sem, z0, z1, z2, z3]) rfl ⟨?_, hbF⟩
      obtain ⟨e1, e2, e3, e4⟩ := H.out
      rw [upto_all _ _ _ _ (by omega)] at e1 e2 e3 e4
      rw [e1, e2, e3, e4]
end Go.Proofs.YtenlhgnobfadgaaGreatDoor
