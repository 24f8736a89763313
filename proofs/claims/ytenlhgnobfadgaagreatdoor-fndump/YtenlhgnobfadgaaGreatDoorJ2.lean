/- Texts of stores, joined: Geo4, DrawP, DrawT, DrawL, Pts, Pts2. -/
import Derived.Test.YtenlhgnobfadgaaGreatDoorJ1
import Derived.Deep.CutRange
import Derived.OwnWalk
import Derived.Deep.AppendLies
import Derived.Laws.MakeOwn
import Derived.Deep.MidRow
set_option maxRecDepth 100000
set_option maxHeartbeats 4000000
set_option linter.unusedSimpArgs false
set_option linter.unusedVariables false
namespace Go.Proofs.YtenlhgnobfadgaaGreatDoor
open Go.RowKit
def hasb (a b c d x y : Int) : Bool := decide (a ≤ x) && decide (x ≤ c) && decide (b ≤ y) && decide (y ≤ d)
theorem impl_has (a b c d x y : Int) (w : World) : Calls Tryz.prog 266 #[.agg #[.int .i64 a, .int .i64 b, .int .i64 c, .int .i64 d], .agg #[.int .i64 x, .int .i64 y]] w fun e w' => e = .returned (.bool (hasb a b c d x y)) ∧ Below w.heap.size w w' := by
 unfold hasb
 cases h1 : decide (a ≤ x)
 ·go_enter Tryz.func266, Tryz.ntmps266
  go_wp2_with fail
  go_ret
  exact ⟨by simp, by (repeat (first | exact Below.refl _ _ | (refine btrans ?_ (by assumption)) | refine bdrew ?_ | refine balloc ?_ _))⟩
 ·cases h2 : decide (x ≤ c)
  ·go_enter Tryz.func266, Tryz.ntmps266
   go_wp2_with fail
   go_ret
   exact ⟨by simp, by (repeat (first | exact Below.refl _ _ | (refine btrans ?_ (by assumption)) | refine bdrew ?_ | refine balloc ?_ _))⟩
  ·cases h3 : decide (b ≤ y)
   ·go_enter Tryz.func266, Tryz.ntmps266
    go_wp2_with fail
    go_ret
    exact ⟨by simp, by (repeat (first | exact Below.refl _ _ | (refine btrans ?_ (by assumption)) | refine bdrew ?_ | refine balloc ?_ _))⟩
   ·go_enter Tryz.func266, Tryz.ntmps266
    go_wp2_with fail
    go_ret
    exact ⟨by simp, by (repeat (first | exact Below.refl _ _ | (refine btrans ?_ (by assumption)) | refine bdrew ?_ | refine balloc ?_ _))⟩
theorem cell4 {w : World} {p : Nat} {a b c d : Value} {t : TypeId} (h : w.heap[p]? = some (.cells #[a, b, c, d] t (0, 0))) :
  w.cell? ⟨p, 0, none⟩ = some a ∧ w.cell? ⟨p, 1, none⟩ = some b ∧ w.cell? ⟨p, 2, none⟩ = some c ∧ w.cell? ⟨p, 3, none⟩ = some d ∧ w.frozen? ⟨p, 0, none⟩ = false ∧ w.frozen? ⟨p, 1, none⟩ = false ∧ w.frozen? ⟨p, 2, none⟩ = false ∧ w.frozen? ⟨p, 3, none⟩ = false := by
 simp [World.cell?, World.frozen?, h]
theorem cell2 {w : World} {p : Nat} {a b : Value} {t : TypeId} (h : w.heap[p]? = some (.cells #[a, b] t (0, 0))) : w.cell? ⟨p, 0, none⟩ = some a ∧ w.cell? ⟨p, 1, none⟩ = some b := by
 simp [World.cell?, h]
def upto (f : Int → Int × Int → Int) (x : Int) (ps : List (Int × Int)) (k : Nat) : Int := (ps.take k).foldl f x
theorem upto_next (f : Int → Int × Int → Int) (x : Int) (ps : List (Int × Int)) (k : Nat) (h : k < ps.length) : upto f x ps (k + 1) = f (upto f x ps k) (ps.getD k (0, 0)) := by
 unfold upto
 rw [List.take_add_one, List.getElem?_eq_getElem h, List.foldl_append, List.getD_eq_getElem?_getD, List.getElem?_eq_getElem h]
 rfl
theorem upto_all (f : Int → Int × Int → Int) (x : Int) (ps : List (Int × Int)) (k : Nat) (h : ps.length ≤ k) : upto f x ps k = ps.foldl f x := by
 unfold upto
 rw [List.take_of_length_le h]
theorem set_at {w : World} {p k : Nat} {cs : Array Value} {t : TypeId} {fr : Nat × Nat} {u : Value} (h : w.heap[p]? = some (.cells cs t fr)) : (w.setCell ⟨p, k, none⟩ u).heap[p]? = some (.cells (cs.setIfInBounds k u) t fr) := by
 have hlt := lt_of_block h
 have h' : w.heap[p] = .cells cs t fr := by simpa [Array.getElem?_eq_getElem hlt] using h
 show (w.heap.modify p _)[p]? = _
 rw [Array.getElem?_eq_getElem (by simpa using hlt), Array.getElem_modify_self, h']
 rfl
theorem set_far {w : World} {p q k : Nat} {o : Obj} {u : Value} (h : w.heap[p]? = some o) (hne : p ≠ q) : (w.setCell ⟨q, k, none⟩ u).heap[p]? = some o := by
 rw [Below.heap_setCell w ⟨q, k, none⟩ u p hne]; exact h
theorem old_alloc {w : World} {p : Nat} {o o' : Obj} (h : w.heap[p]? = some o) : (w.alloc o').heap[p]? = some o := by
 rw [Below.heap_alloc w o' p (lt_of_block h)]; exact h
theorem new_alloc (w : World) (p : Nat) (o : Obj) (h : p = w.heap.size) : (w.alloc o).heap[p]? = some o := by
 rw [h]; exact heap_alloc_new w o
theorem ite_min (a b : Int) : (if b < a then b else a) = min a b := by
 split <;> omega
theorem ite_max (a b : Int) : (if a < b then b else a) = max a b := by
 split <;> omega
theorem bset {w a : World} (h : Below w.heap.size w a) {q k : Nat} (hq : w.heap.size ≤ q) (u : Value) : Below w.heap.size w (a.setCell ⟨q, k, none⟩ u) := h.setCell hq u
theorem impl_boxof (x y : Int) (a : Option Addr) (cap : Nat) (ps : List (Int × Int)) (w : World) (hm : ps.length ≤ 1099511627776) (hc : ps.length ≤ cap) (h : Pts w a ps) : Calls Tryz.prog 265 #[.agg #[.int .i64 x, .int .i64 y], .slice a ps.length cap] w fun e w' => e = .returned (.agg #[.int .i64 (ps.foldl (fun m p => min m p.1) x), .int .i64 (ps.foldl (fun m p => min m p.2) y), .int .i64 (ps.foldl (fun m p => max m p.1) x), .int .i64 (ps.foldl (fun m p => max m p.2) y)]) ∧ Below w.heap.size w w' := by
 go_enter Tryz.func265, Tryz.ntmps265
 go_wp2_with fail
 go_loopw [19] (fun ti wr => ∃ k : Nat, ∃ a0 b0 a1 b1 : Int, ti = .int .i64 k ∧ k ≤ ps.length ∧ Below w.heap.size w wr ∧ wr.heap[w.heap.size + 1]? = some (.cells #[.int .i64 0, .int .i64 0, .int .i64 0, .int .i64 0] 284 (0, 0)) ∧ wr.heap[w.heap.size + 1 + 1]? = some (.cells #[.int .i64 a0, .int .i64 b0, .int .i64 a1, .int .i64 b1] 284 (0, 0)) ∧
   Hid (a0 = upto (fun m p => min m p.1) x ps k ∧ b0 = upto (fun m p => min m p.2) y ps k ∧ a1 = upto (fun m p => max m p.1) x ps k ∧ b1 = upto (fun m p => max m p.2) y ps k)) (fun ti _ => ps.length - (intOf ti).toNat)
 case atStart => 
  refine ⟨0, x, y, x, y, rfl, Nat.zero_le _, by (repeat (first | exact Below.refl _ _ | (refine btrans ?_ (by assumption)) | refine bdrew ?_ | refine balloc ?_ _)), ?_, ?_, hid ⟨rfl, rfl, rfl, rfl⟩⟩
  ·exact old_alloc (new_alloc _ _ _ (by simp))
  ·exact new_alloc _ _ _ (by simp)
 case round =>
  obtain ⟨k, a0, b0, a1, b1, rfl, hk, hb, g4, g5, H⟩ := hrel
  by_cases hlt : k < ps.length
  ·rcases h with rfl | ⟨b, off, rfl, hbs, hp⟩
   ·simp at hlt
   obtain ⟨c0, c1⟩ := hp.below hbs hb k hlt
   generalize hx : (ps.getD k (0, 0)).1 = px at c0
   generalize hy : (ps.getD k (0, 0)).2 = py at c1
   have Hx := hid hx
   have Hy := hid hy
   have Hp := hid hp
   clear hx hy hp
   obtain ⟨d0, d1, d2, d3, f0, f1, f2, f3⟩ := cell4 g5
   have hl : w.heap.size + 1 + 1 < wr.heap.size := World.block_lt_of_cell? wr _ d0
   have hl2 : w.heap.size + 1 < wr.heap.size := by omega
   have G5 := hid g5
   have G4 := hid g4
   clear g5 g4
   go_wp2_with fail
   go_cut [19] from 19 to 47 (fun t19 wx => t19 = .int .i64 k ∧ ∃ A0 B0 : Int, Below w.heap.size w wx ∧ wx.heap[w.heap.size + 1]? = some (.cells #[.int .i64 0, .int .i64 0, .int .i64 0, .int .i64 0] 284 (0, 0)) ∧ wx.heap[w.heap.size + 1 + 1]? = some (.cells #[.int .i64 A0, .int .i64 B0, .int .i64 a1, .int .i64 b1] 284 (0, 0)) ∧ wx.heap[wr.heap.size]? = some (.cells #[.int .i64 px, .int .i64 py] 91 (0, 0)) ∧ Hid (A0 = min a0 px ∧ B0 = min b0 py))
   case first =>
    go_region
    generalize hA : (if px < a0 then px else a0) = A0
    generalize hB : (if py < b0 then py else b0) = B0
    have HA := hid hA
    have HB := hid hB
    clear hA hB
    go_wp2_with fail
    go_meet
    refine ⟨rfl, A0, B0, bdrew (balloc (bset (bset hb (by omega) _) (by omega) _) _), ?_, ?_, ?_, hid ⟨?_, ?_⟩⟩
    ·exact old_alloc (set_far (set_far G4.out (by omega)) (by omega))
    ·exact old_alloc (set_at (set_at G5.out))
    ·exact new_alloc _ _ _ (by simp)
    ·rw [← HA.out, ite_min]
    ·rw [← HB.out, ite_min]
   case rest =>
    obtain ⟨rfl, A0, B0, hbx, g4, g5, gp, HAB⟩ := hcut
    clear d0 d1 d2 d3 f0 f1 f2 f3 G5 G4 c0 c1 hb
    obtain ⟨d0, d1, d2, d3, f0, f1, f2, f3⟩ := cell4 g5
    obtain ⟨p0, p1⟩ := cell2 gp
    have G5 := hid g5
    have G4 := hid g4
    clear g5 g4 gp
    go_wp2_with fail
    go_region
    generalize hC : (if a1 < px then px else a1) = A1
    generalize hD : (if b1 < py then py else b1) = B1
    have HC := hid hC
    have HD := hid hD
    clear hC hD
    go_wp2_with fail
    go_roundw
    case rel =>
     refine ⟨k + 1, A0, B0, A1, B1, by go_num, by omega, ?_, ?_, ?_, hid ?_⟩
     ·exact bdrew (bset (bset hbx (by omega) _) (by omega) _)
     ·exact set_far (set_far G4.out (by omega)) (by omega)
     ·exact set_at (set_at G5.out)
     ·obtain ⟨e1, e2, e3, e4⟩ := H.out
      obtain ⟨e5, e6⟩ := HAB.out
      rw [upto_next _ _ _ _ hlt, upto_next _ _ _ _ hlt, upto_next _ _ _ _ hlt, upto_next _ _ _ _ hlt, ← e1, ← e2, ← e3, ← e4, Hx.out, Hy.out, e5, e6, ← HC.out, ← HD.out, ite_max, ite_max]
      exact ⟨rfl, rfl, rfl, rfl⟩
    case measure => simp [intOf]; omega
  ·have hk' : k = ps.length := by omega
   obtain ⟨d0, d1, d2, d3, f0, f1, f2, f3⟩ := cell4 g5
   obtain ⟨i0, i1, i2, i3, j0, j1, j2, j3⟩ := cell4 g4
   have G5 := hid g5
   have G4 := hid g4
   clear g5 g4
   go_wp2_with fail
   have gF : (((((wr.setCell ⟨w.heap.size + 1, 0, none⟩ (.int .i64 a0)).setCell ⟨w.heap.size + 1, 1, none⟩ (.int .i64 b0)).setCell ⟨w.heap.size + 1, 2, none⟩ (.int .i64 a1)).setCell ⟨w.heap.size + 1, 3, none⟩ (.int .i64 b1))).heap[w.heap.size + 1]? = some (.cells #[.int .i64 a0, .int .i64 b0, .int .i64 a1, .int .i64 b1] 284 (0, 0)) := set_at (set_at (set_at (set_at G4.out)))
   have hbF : Below w.heap.size w (((((wr.setCell ⟨w.heap.size + 1, 0, none⟩ (.int .i64 a0)).setCell ⟨w.heap.size + 1, 1, none⟩ (.int .i64 b0)).setCell ⟨w.heap.size + 1, 2, none⟩ (.int .i64 a1)).setCell ⟨w.heap.size + 1, 3, none⟩ (.int .i64 b1))) := bset (bset (bset (bset hb (by omega) _) (by omega) _) (by omega) _) (by omega) _
   generalize ((((wr.setCell ⟨w.heap.size + 1, 0, none⟩ (.int .i64 a0)).setCell ⟨w.heap.size + 1, 1, none⟩ (.int .i64 b0)).setCell ⟨w.heap.size + 1, 2, none⟩ (.int .i64 a1)).setCell ⟨w.heap.size + 1, 3, none⟩ (.int .i64 b1)) = wf at gF hbF ⊢
   obtain ⟨z0, z1, z2, z3, _, _, _, _⟩ := cell4 gF
   refine bodyPost_ret (v := .agg #[.int .i64 a0, .int .i64 b0, .int .i64 a1, .int .i64 b1]) (by simp [results, Tryz.results265, go_sem, z0, z1, z2, z3]) rfl ⟨?_, hbF⟩
   obtain ⟨e1, e2, e3, e4⟩ := H.out
   rw [upto_all _ _ _ _ (by omega)] at e1 e2 e3 e4
   rw [e1, e2, e3, e4]
theorem keepset3 {w : World} {p q : Addr} {v u : Value} (h : w.cell? p = some v) (hne : q.block ≠ p.block) : (w.setCell q u).cell? p = some v := by
 rw [World.cell?_setCell_far _ _ _ _ hne]; exact h
theorem cell2g {w : World} {p : Nat} {a b : Value} {t : TypeId} (h : w.heap[p]? = some (.cells #[a, b] t (0, 0))) : w.cell? ⟨p, 0, none⟩ = some a ∧ w.cell? ⟨p, 1, none⟩ = some b ∧ w.frozen? ⟨p, 0, none⟩ = false ∧ w.frozen? ⟨p, 1, none⟩ = false := by
 refine ⟨?_, ?_, ?_, ?_⟩ <;> simp [World.cell?, World.frozen?, h]
def Cd (z : Int) : Prop := -40000 ≤ z ∧ z ≤ 40000
def IntsP (P : Int → Prop) (w : World) (q m : Nat) : Prop := ∀ k, k < m → ∃ z : Int, P z ∧ w.cell? ⟨q, k, none⟩ = some (.int .i64 z)
theorem intsP_new (P : Int → Prop) (w : World) (zs : List Int) (t : TypeId) (hz : ∀ z ∈ zs, P z) : IntsP P (w.alloc (.cells (zs.map (Value.int .i64)).toArray t)) w.heap.size zs.length := by
 intro k hk
 refine ⟨zs[k], hz _ (List.getElem_mem hk), ?_⟩
 have h := heap_alloc_new w (.cells (zs.map (Value.int .i64)).toArray t)
 rw [cell_of_row _ w.heap.size k _ t (0, 0) h]
 simp [hk]
theorem pick_p (P : Int → Prop) (w : World) (p : Nat) (a : Option Addr) (len cap : Nat) (q m : Nat) (h0 : 0 < m) (h1 : m ≤ 1000) (hq : q ≠ p) (hi : IntsP P w q m) (h : Ready w p a len cap) : Calls Tryz.prog 72 #[.pointer (some ⟨p, 0, none⟩), .slice (some ⟨q, 0, none⟩) m m] w fun e w' => ∃ z : Int, e = .returned (.int .i64 z) ∧ P z ∧ Ready w' p a len cap ∧ w.grownBy w' (some p) := by
 go_enter Tryz.func72, Tryz.ntmps72
 go_wp2_with fail
 refine (below_r _ p a len cap (m : Int) (by omega) (by omega) h).mono ?_
 rintro e w1 ⟨x, rfl, x0, x1, hr, hg⟩
 obtain ⟨k, rfl⟩ := Int.eq_ofNat_of_zero_le x0
 obtain ⟨z, hz, hc⟩ := hi k (by omega)
 have hc1 := hg.cell hc (fun e => by simp at e; exact hq e)
 clear hc hi h
 go_wp2_with fail
 go_ret
 exact ⟨z, rfl, hz, hr, hg⟩
theorem CurAt.set {w : World} {p : Nat} {a : Option Addr} {len cap : Nat} (h : CurAt w p a len cap) {n k : Nat} (hn : p < n) (u : Value) : CurAt (w.setCell ⟨n, k, none⟩ u) p a len cap := by
 obtain ⟨i, x, hi, hb⟩ := h
 exact ⟨i, x, hi, set_far hb (by omega)⟩
theorem CodeAt.set {w : World} {a : Option Addr} {len p : Nat} (h : CodeAt w a len p) {n k : Nat} (hn : p ≤ n) (u : Value) : CodeAt (w.setCell ⟨n, k, none⟩ u) a len p := by
 obtain ⟨hl, h⟩ := h
 refine ⟨hl, ?_⟩
 rcases h with h | ⟨b, off, rfl, hb, h⟩
 ·exact .inl h
 ·refine .inr ⟨b, off, rfl, hb, fun k hk => ?_⟩
  obtain ⟨z, z0, z1, hz⟩ := h k hk
  exact ⟨z, z0, z1, keepset3 hz (by simp; omega)⟩
theorem Ready.set {w : World} {p : Nat} {a : Option Addr} {len cap : Nat} (h : Ready w p a len cap) {n k : Nat} (hn : p < n) (u : Value) : Ready (w.setCell ⟨n, k, none⟩ u) p a len cap := ⟨h.1.set hn u, h.2.set (by omega) u⟩
theorem grown_setn {w w1 : World} {r : Option Nat} (h : w.grownBy w1 r) {n k : Nat} (hn : w.heap.size ≤ n) (u : Value) : w.grownBy (w1.setCell ⟨n, k, none⟩ u) r :=
 ⟨h.os, h.tape, h.output, by simpa using h.size, fun i hi hne => by
  rw [← h.block i hi hne]
  show (w1.heap.modify n _)[i]? = _
  rw [Array.getElem?_modify, if_neg (by omega)]⟩
theorem grown_blk {w w1 : World} {p n : Nat} {o : Obj} (h : w.grownBy w1 (some p)) (hb : w.heap[n]? = some o) (hne : n ≠ p) : w1.heap[n]? = some o :=
 (h.block n (lt_of_block hb) (by simp; omega)).trans hb
theorem bgrown {w a b : World} {p : Nat} (h : Below w.heap.size w a) (hg : a.grownBy b (some p)) (hp : w.heap.size ≤ p) : Below w.heap.size w b :=
 h.grown hg h.size (fun k hk => by simp at hk; omega)
theorem set2 {w1 : World} {B : Nat} {o0 o1 : Value} {t : TypeId} (gz : w1.heap[B]? = some (.cells #[o0, o1] t (0, 0))) (a b : Value) :
  ((w1.setCell ⟨B, 0, none⟩ a).setCell ⟨B, 1, none⟩ b).heap[B]? = some (.cells #[a, b] t (0, 0)) ∧ (∀ C o, C ≠ B → w1.heap[C]? = some o → ((w1.setCell ⟨B, 0, none⟩ a).setCell ⟨B, 1, none⟩ b).heap[C]? = some o) :=
 ⟨set_at (set_at gz), fun C o hC h => set_far (set_far h hC) hC⟩
theorem coord_r (w : World) (p : Nat) (a : Option Addr) (len cap : Nat) (h : Ready w p a len cap) : Calls Tryz.prog 213 #[.pointer (some ⟨p, 0, none⟩)] w fun e w' => ∃ z : Int, e = .returned (.int .i64 z) ∧ Cd z ∧ Ready w' p a len cap ∧ w.grownBy w' (some p) := by
 go_enter Tryz.func213, Tryz.ntmps213
 go_wp2_with fail
 refine (once_r _ p a len cap 40 (by omega) (by omega) h).mono ?_
 rintro e w1 ⟨b, rfl, hr, hg⟩
 clear h
 cases b
 ·go_wp2_with fail
  refine (below_r _ p a len cap 21 (by omega) (by omega) hr).mono ?_
  rintro e w2 ⟨z, rfl, z0, z1, hr2, hg2⟩
  replace hg := grown_trans hg hg2
  clear hg2 hr
  go_wp2_with fail
  go_ret
  exact ⟨_, rfl, by unfold Cd; omega, hr2, hg⟩
 ·go_wp2_with fail
  refine (pick_p Cd _ p a len cap _ 4 (by omega) (by omega) ?_ (intsP_new Cd w1 [30000, -30000, 30001, -30001] 3 (by unfold Cd; decide)) (hr.alloc _)).mono ?_
  ·have := hr.lt; omega
  ·rintro e w2 ⟨z, rfl, hz, hr2, hg2⟩
   replace hg := grown_trans (grown_trans hg (grown_alloc _ _ _)) hg2
   clear hg2 hr
   go_wp2_with fail
   go_ret
   exact ⟨z, rfl, hz, hr2, hg⟩
theorem point_r (w : World) (p : Nat) (a : Option Addr) (len cap : Nat) (h : Ready w p a len cap) : Calls Tryz.prog 205 #[.pointer (some ⟨p, 0, none⟩)] w fun e w' => ∃ x y : Int, e = .returned (.agg #[.int .i64 x, .int .i64 y]) ∧ Cd x ∧ Cd y ∧ Ready w' p a len cap ∧ w.grownBy w' (some p) := by
 have hlt := h.lt
 go_enter Tryz.func205, Tryz.ntmps205
 go_wp2_with fail
 refine (coord_r _ p a len cap (h.alloc _)).mono ?_
 rintro e w1 ⟨x, rfl, hx, hr, hg⟩
 have hb := grown_blk hg (heap_alloc_new w _) (by omega)
 replace hg := grown_trans (grown_alloc _ _ _) hg
 go_wp2_with fail
 refine (coord_r _ p a len cap hr).mono ?_
 rintro e w2 ⟨y, rfl, hy, hr2, hg2⟩
 have hb2 := grown_blk hg2 hb (by omega)
 replace hg := grown_trans hg hg2
 clear hg2 hr hb
 obtain ⟨k0, k1, f0, f1⟩ := cell2g hb2
 have Hb2 := hid hb2
 clear hb2
 go_wp2_with fail
 have gF := (set2 Hb2.out (.int .i64 x) (.int .i64 y)).1
 have rF := (hr2.set (n := w.heap.size) (k := 0) hlt (.int .i64 x)).set (n := w.heap.size) (k := 1) hlt (.int .i64 y)
 have wF := grown_setn (grown_setn hg (n := w.heap.size) (k := 0) (Nat.le_refl _) (.int .i64 x)) (n := w.heap.size) (k := 1) (Nat.le_refl _) (.int .i64 y)
 generalize (w2.setCell ⟨w.heap.size, 0, none⟩ (.int .i64 x)).setCell ⟨w.heap.size, 1, none⟩ (.int .i64 y) = wf at gF rF wF ⊢
 obtain ⟨z0, z1, _, _⟩ := cell2g gF
 exact bodyPost_ret (v := .agg #[.int .i64 x, .int .i64 y]) (by simp [results, Tryz.results205, go_sem, z0, z1]) rfl ⟨x, y, rfl, hx, hy, rF, wF⟩
theorem new_q (w : World) (a : Option Addr) (len cap : Nat) (hc : CodeAt w a len w.heap.size) : Calls Tryz.prog 34 #[.slice a len cap] w fun e w' => ∃ p : Nat, e = .returned (.pointer (some ⟨p, 0, none⟩)) ∧ w.heap.size = p ∧ Ready w' p a len cap ∧ (∀ (n : Nat) (o : Obj), w.heap[n]? = some o → w'.heap[n]? = some o) ∧ Below w.heap.size w w' := by
 refine (new_c w a len cap hc).mono ?_
 rintro e w1 ⟨h, rfl, rfl⟩
 exact ⟨_, rfl, rfl, ready_new w a len cap h hc, fun n o h => old_alloc h, balloc (Below.refl _ _) _⟩
theorem grown_up {w w0 w1 : World} {p : Nat} {r : Option Nat} (h : w.grownBy w0 (some p)) (k : w0.grownBy w1 r) (hr : ∀ x, r = some x → w.heap.size ≤ x) : w.grownBy w1 (some p) :=
 ⟨k.os.trans h.os, k.tape.trans h.tape, k.output.trans h.output, Nat.le_trans h.size k.size, fun i hi hne => (k.block i (Nat.lt_of_lt_of_le hi h.size) (fun e => by have := hr i e.symm; omega)).trans (h.block i hi hne)⟩
theorem Ready.kept {w w' : World} {p : Nat} {a : Option Addr} {len cap : Nat} {r : Option Nat} (h : Ready w p a len cap) (hg : w.grownBy w' r) (hr : ∀ x, r = some x → p < x) : Ready w' p a len cap := by
 have hp := h.lt
 refine ⟨?_, ?_⟩
 ·obtain ⟨i, y, hi, hb⟩ := h.1
  exact ⟨i, y, hi, (hg.block p hp (fun e => by have := hr p e.symm; omega)).trans hb⟩
 ·obtain ⟨hl, hc⟩ := h.2
  refine ⟨hl, ?_⟩
  rcases hc with hc | ⟨b, off, rfl, hb, hc⟩
  ·exact .inl hc
  ·refine .inr ⟨b, off, rfl, hb, fun k hk => ?_⟩
   obtain ⟨z, z0, z1, hz⟩ := hc k hk
   exact ⟨z, z0, z1, hg.cell hz (fun e => by have := hr b e.symm; omega)⟩
theorem Tryz.infoP2 : (Tryz.prog.info? 91).map (fun i => (i.zero, i.size, i.bytes)) = some (some (.agg #[.int .i64 0, .int .i64 0]), 2, 16) := by kernel_rfl
def flat2 (qs : List (Int × Int)) : List Value := qs.flatMap fun q => [.int .i64 q.1, .int .i64 q.2]
theorem flat2_snoc (qs : List (Int × Int)) (x y : Int) : flat2 (qs ++ [(x, y)]) = flat2 qs ++ [.int .i64 x, .int .i64 y] := by simp [flat2]
theorem flat2_at (qs : List (Int × Int)) : ∀ k, k < qs.length → (flat2 qs)[k * 2]? = some (.int .i64 (qs.getD k (0, 0)).1) ∧ (flat2 qs)[k * 2 + 1]? = some (.int .i64 (qs.getD k (0, 0)).2) := by
 induction qs with
 | nil => intro k hk; simp at hk
 | cons q r ih =>
  intro k hk
  cases k with
  | zero => simp [flat2]
  | succ k =>
   have := ih k (by simpa using hk)
   simp only [flat2, List.flatMap_cons, List.getD_cons_succ] at this ⊢
   rw [show (k + 1) * 2 = k * 2 + 2 by omega]
   simpa [List.getElem?_append_right] using this
def PtRow (w : World) (B : Nat) (v : Value) (ps : List (Int × Int)) : Prop := w.ownsRow B 91 2 v ps.length (flat2 ps)
theorem PtRow.pts {w : World} {B : Nat} {v : Value} {ps : List (Int × Int)} (h : PtRow w B v ps) : ∃ ao cap, v = .slice ao ps.length cap ∧ ps.length ≤ cap ∧ Pts w ao ps := by
 have h' := h
 rcases h.2 with ⟨rfl, hn⟩ | ⟨g, cap, cur, rfl, hb, hg, hc, _⟩
 ·refine ⟨none, 0, by rw [hn], by omega, .inl (List.length_eq_zero_iff.1 hn)⟩
 ·refine ⟨_, cap, rfl, hc, .inr ⟨g, 0, rfl, (Array.getElem?_eq_some_iff.1 hg).1, ?_⟩⟩
  intro k hk
  obtain ⟨f0, f1⟩ := flat2_at ps k hk
  have hcs := World.ownsRow.cells h' rfl
  have q0 := hcs _ _ f0
  have q1 := hcs _ _ f1
  rw [Addr.add_mid] at q0 q1
  exact ⟨q0, by rw [Nat.add_assoc]; exact q1⟩
theorem ptrow_new {w : World} {B : Nat} (hB : B ≤ w.heap.size) : PtRow (w.alloc (.cells #[] 91)) B (.slice (some ⟨w.heap.size, 0, none⟩) 0 0) [] := by
 have := World.ownsRow_made (base := B) (e := 91) (size := 2) w #[] 0 hB (by decide) rfl
 simpa [PtRow, flat2] using this
theorem list_p (w : World) (p : Nat) (a : Option Addr) (len cap : Nat) (n : Nat) (h1 : n ≤ 1000) (h : Ready w p a len cap) : Calls Tryz.prog 189 #[.pointer (some ⟨p, 0, none⟩), .int .i64 n] w fun e w' => ∃ ps : List (Int × Int), ∃ v, e = .returned v ∧ ps.length = n ∧ PtRow w' w.heap.size v ps ∧ Ready w' p a len cap ∧ w.grownBy w' (some p) := by
 have hp := h.lt
 obtain ⟨i0, hi0, hz0, hz1, hz2⟩ := info_parts Tryz.infoP2
 go_enter Tryz.func189, Tryz.ntmps189
 go_wp2_with fail
 go_loopw [5, 6] (fun v ti wr => ∃ i : Nat, ∃ done : List (Int × Int), ti = .int .i64 i ∧ i ≤ n ∧ Hid (done.length = i) ∧ Hid (PtRow wr w.heap.size v done) ∧ Ready wr p a len cap ∧ w.grownBy wr (some p)) (fun _ ti _ => n - (intOf ti).toNat)
 case atStart => exact ⟨0, [], rfl, by omega, rfl, ptrow_new (Nat.le_refl _), h.alloc _, grown_alloc _ _ _⟩
 case round =>
  obtain ⟨i, done, rfl, hin, HL, HO, hr, hg⟩ := hrel
  have hsz := hg.size
  by_cases hlt : i < n
  ·have c1 : (i : Int) < (n : Int) := by omega
   go_wp2_with fail
   refine (point_r _ p a len cap hr).mono ?_
   rintro e w1 ⟨x, y, rfl, _, _, hr1, hg1⟩
   have hown1 : PtRow w1 w.heap.size u5 done := World.ownsRow.kept HO.out hg1 (Or.inr (fun e => by have := (World.ownsRow.lt HO.out p e).1; omega))
   have hdl : done.length ≤ 1000 := by have := HL.out; omega
   replace hg := grown_trans hg hg1
   replace hsz := hg.size
   clear HO hr hg1
   unfold PtRow at hown1
   go_wp2_with (at_builtin; refine wpList_append_own _ rfl (.tmp 13) (.tmp 16) 46 rfl w.heap.size 91 i0 _ 2 16 Tryz.underlying46 hi0 hz0 hz1 hz2 rfl (by decide) _ _ _ rfl (hown1.alloc _) ⟨w1.heap.size, 0, none⟩ 1 1 [.int .i64 x, .int .i64 y] rfl rfl (World.news_of_block (cs := #[.int .i64 x, .int .i64 y]) (t := 91) (fr := (0, 0)) (heap_alloc_new w1 _)) (by simp [Value.oneCell']) (by unfold maxLen; omega) (by omega) (by simp; omega) ?_; intro v' w2 hown' hgrow _)
   go_roundw
   case rel =>
    refine ⟨i + 1, done ++ [(x, y)], by go_num, by omega, ?_, ?_, ?_, ?_⟩
    ·show _ = _; have := HL.out; simp; exact this
    ·show PtRow _ _ _ _; unfold PtRow; rw [flat2_snoc]; simpa using hown'
    ·refine (hr1.alloc _).kept hgrow (fun y hy => ?_)
     have := (hown1.lt y hy).1
     omega
    ·exact grown_up (grown_trans hg (grown_alloc _ _ _)) hgrow (fun y hy => (hown1.lt y hy).1)
   case measure => simp [intOf]; omega
  ·have c1 : (n : Int) ≤ (i : Int) := by omega
   go_wp2_with fail
   go_ret
   exact ⟨done, _, rfl, by have := HL.out; omega, HO.out, hr, hg⟩
def PtsOwn (w : World) (b : Nat) (ps : List (Int × Int)) : Prop := b < w.heap.size ∧ PtsAt w b 0 ps ∧ w.there b 0 (ps.length * 2)
theorem PtsOwn.pts {w : World} {b : Nat} {ps : List (Int × Int)} (h : PtsOwn w b ps) : Pts w (some ⟨b, 0, none⟩) ps := .inr ⟨b, 0, rfl, h.1, h.2.1⟩
theorem there_below {w w' : World} {b n : Nat} (h : w.there b 0 n) (hb : b < w.heap.size) (H : Below w.heap.size w w') : w'.there b 0 n := by
 intro j hj
 obtain ⟨h1, h2⟩ := h j hj
 exact ⟨by rw [H.cell hb]; exact h1, by rw [H.frozen hb]; exact h2⟩
theorem PtsOwn.below {w w' : World} {b : Nat} {ps : List (Int × Int)} (h : PtsOwn w b ps) (H : Below w.heap.size w w') : PtsOwn w' b ps :=
 ⟨Nat.lt_of_lt_of_le h.1 H.size, h.2.1.below h.1 H, there_below h.2.2 h.1 H⟩
theorem made_at (n j : Nat) (h : j < n * 2) : (madeCells #[.int .i64 0, .int .i64 0] (n * 2))[j]? = some (.int .i64 0) := by
 unfold madeCells
 rw [Array.getElem?_map, Array.getElem?_range, if_pos h]
 rcases Nat.mod_two_eq_zero_or_one j with e | e <;> simp [e]
theorem put_point {w : World} {b k n : Nat} {ps : List (Int × Int)} (hb : b < w.heap.size) (hk : k < ps.length) (hn : n = ps.length * 2) (h : PtsAt w b 0 (ps.take k)) (ht : w.there b 0 n) (x y : Int) (hx : (ps.getD k (0, 0)).1 = x) (hy : (ps.getD k (0, 0)).2 = y) :
  PtsAt ((w.setCell ⟨b, k * 2, none⟩ (.int .i64 x)).setCell ⟨b, k * 2 + 1, none⟩ (.int .i64 y)) b 0 (ps.take (k + 1)) ∧ ((w.setCell ⟨b, k * 2, none⟩ (.int .i64 x)).setCell ⟨b, k * 2 + 1, none⟩ (.int .i64 y)).there b 0 n := by
 subst hn
 have c0 := (ht (k * 2) (by omega)).1
 have c1 := (ht (k * 2 + 1) (by omega)).1
 obtain ⟨u0, hu0⟩ := Option.isSome_iff_exists.1 c0
 obtain ⟨u1, hu1⟩ := Option.isSome_iff_exists.1 c1
 simp only [Nat.zero_add] at hu0 hu1
 have hu1' : (w.setCell ⟨b, k * 2, none⟩ (.int .i64 x)).cell? ⟨b, k * 2 + 1, none⟩ = some u1 := by
  rw [World.cell?_setCell_other _ _ _ _ (by simp)]; exact hu1
 constructor
 ·intro j hj
  simp only [List.length_take] at hj
  simp only [Nat.zero_add]
  by_cases e : j = k
  ·subst e
   have g : (ps.take (j + 1)).getD j (0, 0) = ps.getD j (0, 0) := by
    simp [List.getD_eq_getElem?_getD, List.getElem?_take]
   rw [g, hx, hy]
   refine ⟨?_, World.cell?_setCell_same _ _ _ hu1'⟩
   rw [World.cell?_setCell_other _ _ _ _ (by simp)]
   exact World.cell?_setCell_same _ _ _ hu0
  ·have hj' : j < k := by omega
   have g : (ps.take (k + 1)).getD j (0, 0) = (ps.take k).getD j (0, 0) := by
    simp only [List.getD_eq_getElem?_getD, List.getElem?_take]
    rw [if_pos (by omega), if_pos (by omega)]
   rw [g]
   obtain ⟨h1, h2⟩ := h j (by simp; omega)
   simp only [Nat.zero_add] at h1 h2
   constructor
   ·rw [World.cell?_setCell_other _ _ _ _ (by intro q; injection q; omega), World.cell?_setCell_other _ _ _ _ (by intro q; injection q; omega)]; exact h1
   ·rw [World.cell?_setCell_other _ _ _ _ (by intro q; injection q; omega), World.cell?_setCell_other _ _ _ _ (by intro q; injection q; omega)]; exact h2
 ·intro j hj
  obtain ⟨h1, h2⟩ := ht j hj
  refine ⟨?_, by rw [World.frozen?_setCell, World.frozen?_setCell]; exact h2⟩
  obtain ⟨u, hu⟩ := Option.isSome_iff_exists.1 h1
  obtain ⟨u', hu'⟩ := cell?_setCell_some (p := ⟨b, k * 2, none⟩) (x := .int .i64 x) hu
  obtain ⟨u'', hu''⟩ := cell?_setCell_some (p := ⟨b, k * 2 + 1, none⟩) (x := .int .i64 y) hu'
  rw [hu'']; rfl
theorem Tryz.infoPt : (Tryz.prog.info? 91).map (fun i => (i.zero, i.size, i.bytes)) = some (some (.agg #[.int .i64 0, .int .i64 0]), 2, 16) := by kernel_rfl
theorem make_points (n : Nat) (hn : n ≤ 1099511627776) (w : World) : (Instr.makeSlice 46 (.int .i64 n) (.int .i64 n)).run Tryz.prog w = .ok (.slice (some ⟨w.heap.size, 0, none⟩) n n) (w.alloc (.cells (madeCells #[.int .i64 0, .int .i64 0] (n * 2)) 91)) := by
 obtain ⟨i0, hi, hz0, hz1, hz2⟩ := info_parts Tryz.infoPt
 have := run_make (P := Tryz.prog) w 46 91 i0 _ Tryz.underlying46 hi hz0 .i64 .i64 n n (by omega) (by omega) (by rw [hz2]; omega) (by omega)
 rw [hz1] at this
 exact this
theorem made_own (w : World) (n : Nat) : (w.alloc (.cells (madeCells #[.int .i64 0, .int .i64 0] (n * 2)) 91)).there w.heap.size 0 (n * 2) := by
 intro j hj
 simp only [Nat.zero_add]
 refine ⟨?_, World.frozen?_alloc_new w _ _ j⟩
 rw [World.cell?_alloc_new, made_at n j hj]; rfl
theorem impl_behind (a : Option Addr) (cap : Nat) (ps : List (Int × Int)) (k : Nat) (w : World) (hm : ps.length ≤ 1099511627776) (hc : ps.length ≤ cap) (hk : k < ps.length) (h : Pts w a ps) : Calls Tryz.prog 258 #[.slice a ps.length cap, .int .i64 k] w fun e w' => e = .returned (.agg #[.int .i64 (ps.getD ((k + 1) % ps.length) (0, 0)).1, .int .i64 (ps.getD ((k + 1) % ps.length) (0, 0)).2]) ∧ Below w.heap.size w w' := by
 rcases h with rfl | ⟨b, off, rfl, hbs, hp⟩
 ·simp at hk
 have hj : (k + 1) % ps.length < ps.length := Nat.mod_lt _ (by omega)
 obtain ⟨c0, c1⟩ := hp ((k + 1) % ps.length) hj
 have e1 : ((k : Int) + 1).tmod (ps.length : Int) = (((k + 1) % ps.length : Nat) : Int) := by
  rw [show ((k : Int) + 1) = ((k + 1 : Nat) : Int) by omega]; rfl
 have hz : ¬ ((ps.length : Int) = 0) := by omega
 generalize hx : (ps.getD ((k + 1) % ps.length) (0, 0)).1 = x at c0
 generalize hy : (ps.getD ((k + 1) % ps.length) (0, 0)).2 = y at c1
 generalize hjj : (k + 1) % ps.length = j at *
 have Hp := hid hp
 clear hp hx hy hjj
 go_enter Tryz.func258, Tryz.ntmps258
 go_wp2_with fail
 exact bodyPost_ret (v := .agg #[.int .i64 x, .int .i64 y]) (by simp [results, Tryz.results258, go_sem]) rfl ⟨rfl, (Below.refl _ _).alloc (Nat.le_refl _) _⟩
end Go.Proofs.YtenlhgnobfadgaaGreatDoor
