/- Texts of stores, joined: Geo4, Rw0, RwM, RwB. -/
import Derived.Test.YtninciflfolenaaGreatJ1
import Derived.Deep.CutRange
import Derived.Test.YtninciflfolenaaGreatRows
namespace Go.Proofs.YtninciflfolenaaGreat
open Go.RowKit
set_option linter.unusedSimpArgs false
set_option linter.unusedVariables false
def hasb (a b c d x y : Int) : Bool := decide (a ≤ x) && decide (x ≤ c) && decide (b ≤ y) && decide (y ≤ d)
set_option maxHeartbeats 1000000 in
theorem impl_has (a b c d x y : Int) (w : World) : Calls Tryz.prog 162 #[.agg #[.int .i64 a, .int .i64 b, .int .i64 c, .int .i64 d], .agg #[.int .i64 x, .int .i64 y]] w fun e w' => e = .returned (.bool (hasb a b c d x y)) ∧ Below w.heap.size w w' := by
  unfold hasb
  cases h1 : decide (a ≤ x)
  · go_enter Tryz.func162, Tryz.ntmps162
    go_wp2_with fail
    go_ret
    exact ⟨by simp, by (repeat (first | exact Below.refl _ _ | (refine btrans ?_ (by assumption)) | refine bdrew ?_ | refine balloc ?_ _))⟩
  · cases h2 : decide (x ≤ c)
    · go_enter Tryz.func162, Tryz.ntmps162
      go_wp2_with fail
      go_ret
      exact ⟨by simp, by (repeat (first | exact Below.refl _ _ | (refine btrans ?_ (by assumption)) | refine bdrew ?_ | refine balloc ?_ _))⟩
    · cases h3 : decide (b ≤ y)
      · go_enter Tryz.func162, Tryz.ntmps162
        go_wp2_with fail
        go_ret
        exact ⟨by simp, by (repeat (first | exact Below.refl _ _ | (refine btrans ?_ (by assumption)) | refine bdrew ?_ | refine balloc ?_ _))⟩
      · go_enter Tryz.func162, Tryz.ntmps162
        go_wp2_with fail
        go_ret
        exact ⟨by simp, by (repeat (first | exact Below.refl _ _ | (refine btrans ?_ (by assumption)) | refine bdrew ?_ | refine balloc ?_ _))⟩
theorem cell4 {w : World} {p : Nat} {a b c d : Value} {t : TypeId} (h : w.heap[p]? = some (.cells #[a, b, c, d] t (0, 0))) :
    w.cell? ⟨p, 0, none⟩ = some a ∧ w.cell? ⟨p, 1, none⟩ = some b ∧ w.cell? ⟨p, 2, none⟩ = some c ∧ w.cell? ⟨p, 3, none⟩ = some d ∧ w.frozen? ⟨p, 0, none⟩ = false ∧ w.frozen? ⟨p, 1, none⟩ = false ∧ w.frozen? ⟨p, 2, none⟩ = false ∧ w.frozen? ⟨p, 3, none⟩ = false := by
  simp [World.cell?, World.frozen?, h]
theorem cell2 {w : World} {p : Nat} {a b : Value} {t : TypeId} (h : w.heap[p]? = some (.cells #[a, b] t (0, 0))) : w.cell? ⟨p, 0, none⟩ = some a ∧ w.cell? ⟨p, 1, none⟩ = some b := by
  simp [World.cell?, h]
def upto (f : Int → Int × Int → Int) (x : Int) (ps : List (Int × Int)) (k : Nat) : Int := (ps.take k).foldl f x
theorem upto_next (f : Int → Int × Int → Int) (x : Int) (ps : List (Int × Int)) (k : Nat) (h : k < ps.length) : upto f x ps (k + 1) = f (upto f x ps k) (ps.getD k (0, 0)) := by
  unfold upto
  rw [List.take_add_one, List.getElem?_eq_getElem h, List.foldl_append, List.getD_eq_getElem?_getD, List.getElem?_eq_getElem h]
  rfl
theorem upto_all (f : Int → Int × Int → Int) (x : Int) (ps : List (Int × Int)) (k : Nat) (h : ps.length ≤ k) : upto f x ps k = ps.foldl f x := by
  unfold upto
  rw [List.take_of_length_le h]
theorem set_at {w : World} {p k : Nat} {cs : Array Value} {t : TypeId} {fr : Nat × Nat} {u : Value} (h : w.heap[p]? = some (.cells cs t fr)) : (w.setCell ⟨p, k, none⟩ u).heap[p]? = some (.cells (cs.setIfInBounds k u) t fr) := by
  have hlt := lt_of_block h
  have h' : w.heap[p] = .cells cs t fr := by simpa [Array.getElem?_eq_getElem hlt] using h
  show (w.heap.modify p _)[p]? = _
  rw [Array.getElem?_eq_getElem (by simpa using hlt), Array.getElem_modify_self, h']
  rfl
theorem set_far {w : World} {p q k : Nat} {o : Obj} {u : Value} (h : w.heap[p]? = some o) (hne : p ≠ q) : (w.setCell ⟨q, k, none⟩ u).heap[p]? = some o := by
  rw [Below.heap_setCell w ⟨q, k, none⟩ u p hne]; exact h
theorem old_alloc {w : World} {p : Nat} {o o' : Obj} (h : w.heap[p]? = some o) : (w.alloc o').heap[p]? = some o := by
  rw [Below.heap_alloc w o' p (lt_of_block h)]; exact h
theorem new_alloc (w : World) (p : Nat) (o : Obj) (h : p = w.heap.size) : (w.alloc o).heap[p]? = some o := by
  rw [h]; exact heap_alloc_new w o
theorem ite_min (a b : Int) : (if b < a then b else a) = min a b := by
  split <;> omega
theorem ite_max (a b : Int) : (if a < b then b else a) = max a b := by
  split <;> omega
theorem bset {w a : World} (h : Below w.heap.size w a) {q k : Nat} (hq : w.heap.size ≤ q) (u : Value) : Below w.heap.size w (a.setCell ⟨q, k, none⟩ u) := h.setCell hq u
set_option maxHeartbeats 4000000 in
theorem impl_boxof (x y : Int) (a : Option Addr) (cap : Nat) (ps : List (Int × Int)) (w : World) (hm : ps.length ≤ 1099511627776) (hc : ps.length ≤ cap) (h : Pts w a ps) : Calls Tryz.prog 161 #[.agg #[.int .i64 x, .int .i64 y], .slice a ps.length cap] w fun e w' => e = .returned (.agg #[.int .i64 (ps.foldl (fun m p => min m p.1) x), .int .i64 (ps.foldl (fun m p => min m p.2) y), .int .i64 (ps.foldl (fun m p => max m p.1) x), .int .i64 (ps.foldl (fun m p => max m p.2) y)]) ∧ Below w.heap.size w w' := by
  go_enter Tryz.func161, Tryz.ntmps161
  go_wp2_with fail
  go_loopw [19] (fun ti wr => ∃ k : Nat, ∃ a0 b0 a1 b1 : Int, ti = .int .i64 k ∧ k ≤ ps.length ∧ Below w.heap.size w wr ∧ wr.heap[w.heap.size + 1]? = some (.cells #[.int .i64 0, .int .i64 0, .int .i64 0, .int .i64 0] 175 (0, 0)) ∧ wr.heap[w.heap.size + 1 + 1]? = some (.cells #[.int .i64 a0, .int .i64 b0, .int .i64 a1, .int .i64 b1] 175 (0, 0)) ∧
      Hid (a0 = upto (fun m p => min m p.1) x ps k ∧ b0 = upto (fun m p => min m p.2) y ps k ∧ a1 = upto (fun m p => max m p.1) x ps k ∧ b1 = upto (fun m p => max m p.2) y ps k)) (fun ti _ => ps.length - (intOf ti).toNat)
  case atStart => 
    refine ⟨0, x, y, x, y, rfl, Nat.zero_le _, by (repeat (first | exact Below.refl _ _ | (refine btrans ?_ (by assumption)) | refine bdrew ?_ | refine balloc ?_ _)), ?_, ?_, hid ⟨rfl, rfl, rfl, rfl⟩⟩
    · exact old_alloc (new_alloc _ _ _ (by simp))
    · exact new_alloc _ _ _ (by simp)
  case round =>
    obtain ⟨k, a0, b0, a1, b1, rfl, hk, hb, g4, g5, H⟩ := hrel
    by_cases hlt : k < ps.length
    · rcases h with rfl | ⟨b, off, rfl, hbs, hp⟩
      · simp at hlt
      obtain ⟨c0, c1⟩ := hp.below hbs hb k hlt
      generalize hx : (ps.getD k (0, 0)).1 = px at c0
      generalize hy : (ps.getD k (0, 0)).2 = py at c1
      have Hx := hid hx
      have Hy := hid hy
      have Hp := hid hp
      clear hx hy hp
      obtain ⟨d0, d1, d2, d3, f0, f1, f2, f3⟩ := cell4 g5
      have hl : w.heap.size + 1 + 1 < wr.heap.size := World.block_lt_of_cell? wr _ d0
      have hl2 : w.heap.size + 1 < wr.heap.size := by omega
      have G5 := hid g5
      have G4 := hid g4
      clear g5 g4
      go_wp2_with fail
      go_cut [19] from 19 to 47 (fun t19 wx => t19 = .int .i64 k ∧ ∃ A0 B0 : Int, Below w.heap.size w wx ∧ wx.heap[w.heap.size + 1]? = some (.cells #[.int .i64 0, .int .i64 0, .int .i64 0, .int .i64 0] 175 (0, 0)) ∧ wx.heap[w.heap.size + 1 + 1]? = some (.cells #[.int .i64 A0, .int .i64 B0, .int .i64 a1, .int .i64 b1] 175 (0, 0)) ∧ wx.heap[wr.heap.size]? = some (.cells #[.int .i64 px, .int .i64 py] 66 (0, 0)) ∧ Hid (A0 = min a0 px ∧ B0 = min b0 py))
      case first =>
        go_region
        generalize hA : (if px < a0 then px else a0) = A0
        generalize hB : (if py < b0 then py else b0) = B0
        have HA := hid hA
        have HB := hid hB
        clear hA hB
        go_wp2_with fail
        go_meet
        refine ⟨rfl, A0, B0, bdrew (balloc (bset (bset hb (by omega) _) (by omega) _) _), ?_, ?_, ?_, hid ⟨?_, ?_⟩⟩
        · exact old_alloc (set_far (set_far G4.out (by omega)) (by omega))
        · exact old_alloc (set_at (set_at G5.out))
        · exact new_alloc _ _ _ (by simp)
        · rw [← HA.out, ite_min]
        · rw [← HB.out, ite_min]
      case rest =>
        obtain ⟨rfl, A0, B0, hbx, g4, g5, gp, HAB⟩ := hcut
        clear d0 d1 d2 d3 f0 f1 f2 f3 G5 G4 c0 c1 hb
        obtain ⟨d0, d1, d2, d3, f0, f1, f2, f3⟩ := cell4 g5
        obtain ⟨p0, p1⟩ := cell2 gp
        have G5 := hid g5
        have G4 := hid g4
        clear g5 g4 gp
        go_wp2_with fail
        go_region
        generalize hC : (if a1 < px then px else a1) = A1
        generalize hD : (if b1 < py then py else b1) = B1
        have HC := hid hC
        have HD := hid hD
        clear hC hD
        go_wp2_with fail
        go_roundw
        case rel =>
          refine ⟨k + 1, A0, B0, A1, B1, by go_num, by omega, ?_, ?_, ?_, hid ?_⟩
          · exact bdrew (bset (bset hbx (by omega) _) (by omega) _)
          · exact set_far (set_far G4.out (by omega)) (by omega)
          · exact set_at (set_at G5.out)
          · obtain ⟨e1, e2, e3, e4⟩ := H.out
            obtain ⟨e5, e6⟩ := HAB.out
            rw [upto_next _ _ _ _ hlt, upto_next _ _ _ _ hlt, upto_next _ _ _ _ hlt, upto_next _ _ _ _ hlt, ← e1, ← e2, ← e3, ← e4, Hx.out, Hy.out, e5, e6, ← HC.out, ← HD.out, ite_max, ite_max]
            exact ⟨rfl, rfl, rfl, rfl⟩
        case measure => simp [intOf]; omega
    · have hk' : k = ps.length := by omega
      obtain ⟨d0, d1, d2, d3, f0, f1, f2, f3⟩ := cell4 g5
      obtain ⟨i0, i1, i2, i3, j0, j1, j2, j3⟩ := cell4 g4
      have G5 := hid g5
      have G4 := hid g4
      clear g5 g4
      go_wp2_with fail
      have gF : (((((wr.setCell ⟨w.heap.size + 1, 0, none⟩ (.int .i64 a0)).setCell ⟨w.heap.size + 1, 1, none⟩ (.int .i64 b0)).setCell ⟨w.heap.size + 1, 2, none⟩ (.int .i64 a1)).setCell ⟨w.heap.size + 1, 3, none⟩ (.int .i64 b1))).heap[w.heap.size + 1]? = some (.cells #[.int .i64 a0, .int .i64 b0, .int .i64 a1, .int .i64 b1] 175 (0, 0)) := set_at (set_at (set_at (set_at G4.out)))
      have hbF : Below w.heap.size w (((((wr.setCell ⟨w.heap.size + 1, 0, none⟩ (.int .i64 a0)).setCell ⟨w.heap.size + 1, 1, none⟩ (.int .i64 b0)).setCell ⟨w.heap.size + 1, 2, none⟩ (.int .i64 a1)).setCell ⟨w.heap.size + 1, 3, none⟩ (.int .i64 b1))) := bset (bset (bset (bset hb (by omega) _) (by omega) _) (by omega) _) (by omega) _
      generalize ((((wr.setCell ⟨w.heap.size + 1, 0, none⟩ (.int .i64 a0)).setCell ⟨w.heap.size + 1, 1, none⟩ (.int .i64 b0)).setCell ⟨w.heap.size + 1, 2, none⟩ (.int .i64 a1)).setCell ⟨w.heap.size + 1, 3, none⟩ (.int .i64 b1)) = wf at gF hbF ⊢
      obtain ⟨z0, z1, z2, z3, _, _, _, _⟩ := cell4 gF
      refine bodyPost_ret (v := .agg #[.int .i64 a0, .int .i64 b0, .int .i64 a1, .int .i64 b1]) (by simp [results, Tryz.results161, go_sem, z0, z1, z2, z3]) rfl ⟨?_, hbF⟩
      obtain ⟨e1, e2, e3, e4⟩ := H.out
      rw [upto_all _ _ _ _ (by omega)] at e1 e2 e3 e4
      rw [e1, e2, e3, e4]
end Go.Proofs.YtninciflfolenaaGreat
namespace Go.Proofs.YtninciflfolenaaGreat
open Go.RowKit
set_option linter.unusedSimpArgs false
set_option linter.unusedVariables false
/-- A row: its Id, From, To, the shape's kind and points. -/
abbrev Rw : Type := Int × Int × Int × Int × List (Int × Int)
def rwv (r : Rw) (a : Option Addr) (cap : Nat) : Value := .agg #[.int .i64 r.1, .int .i64 r.2.1, .int .i64 r.2.2.1, .int .i64 r.2.2.2.1, .slice a r.2.2.2.2.length cap]
/-- A row at a place; the points' block is one of N. -/
def RwAt (N : Nat → Prop) (w : World) (b o : Nat) (r : Rw) : Prop :=
  ∃ a cap, w.cell? ⟨b, o, none⟩ = some (.int .i64 r.1) ∧ w.cell? ⟨b, o + 1, none⟩ = some (.int .i64 r.2.1) ∧ w.cell? ⟨b, o + 2, none⟩ = some (.int .i64 r.2.2.1) ∧ w.cell? ⟨b, o + 3, none⟩ = some (.int .i64 r.2.2.2.1) ∧ w.cell? ⟨b, o + 4, none⟩ = some (.slice a r.2.2.2.2.length cap) ∧ r.2.2.2.2.length ≤ cap ∧ r.2.2.2.2.length ≤ 1099511627776 ∧ Pts w a r.2.2.2.2 ∧ (∀ c off, a = some ⟨c, off, none⟩ → N c)
def RwsAt (N : Nat → Prop) (w : World) (b o : Nat) (rs : List Rw) : Prop := ∀ j (h : j < rs.length), RwAt N w b (o + j * 5) rs[j]
def Rws (N : Nat → Prop) (w : World) (a : Option Addr) (rs : List Rw) : Prop := rs = [] ∨ ∃ b o, a = some ⟨b, o, none⟩ ∧ b < w.heap.size ∧ RwsAt N w b o rs
theorem RwAt.below {N : Nat → Prop} {w w' : World} {b o : Nat} {r : Rw} (h : RwAt N w b o r) (H : Below w.heap.size w w') : RwAt N w' b o r := by
  obtain ⟨a, cap, h0, h1, h2, h3, h4, h5, h6, h7, h8⟩ := h
  exact ⟨a, cap, keepcell H h0, keepcell H h1, keepcell H h2, keepcell H h3, keepcell H h4, h5, h6, h7.below H, h8⟩
theorem RwsAt.below {N : Nat → Prop} {w w' : World} {b o : Nat} {rs : List Rw} (h : RwsAt N w b o rs) (H : Below w.heap.size w w') : RwsAt N w' b o rs := fun j hj => (h j hj).below H
theorem Rws.below {N : Nat → Prop} {w w' : World} {a : Option Addr} {rs : List Rw} (h : Rws N w a rs) (H : Below w.heap.size w w') : Rws N w' a rs := by
  rcases h with h | ⟨b, o, e, hb, h⟩
  · exact .inl h
  · exact .inr ⟨b, o, e, Nat.lt_of_lt_of_le hb H.size, h.below H⟩
theorem Rws.at {N : Nat → Prop} {w : World} {a : Option Addr} {rs : List Rw} (h : Rws N w a rs) (j : Nat) (hj : j < rs.length) : ∃ b o, a = some ⟨b, o, none⟩ ∧ b < w.heap.size ∧ RwAt N w b (o + j * 5) rs[j] := by
  rcases h with h | ⟨b, o, e, hb, h⟩
  · subst h; simp at hj
  · exact ⟨b, o, e, hb, h j hj⟩
theorem set2r {w : World} {p : Nat} {o0 o1 : Value} {t : TypeId} (h : w.heap[p]? = some (.cells #[o0, o1] t (0, 0))) (a b : Value) : ((w.setCell ⟨p, 0, none⟩ a).setCell ⟨p, 1, none⟩ b).heap[p]? = some (.cells #[a, b] t (0, 0)) := by
  have st : ∀ (W : World) (cs : Array Value) (k : Nat) (u : Value), W.heap[p]? = some (.cells cs t (0, 0)) → (W.setCell ⟨p, k, none⟩ u).heap[p]? = some (.cells (cs.setIfInBounds k u) t (0, 0)) := by
    intro W cs k u h
    have hlt := lt_of_block h
    have h' : W.heap[p] = .cells cs t (0, 0) := by simpa [Array.getElem?_eq_getElem hlt] using h
    show (W.heap.modify p _)[p]? = _
    rw [Array.getElem?_eq_getElem (by simpa using hlt), Array.getElem_modify_self, h']
    rfl
  have e4 := st _ _ 1 b (st _ _ 0 a h)
  simpa using e4
theorem cell5g {w : World} {p : Nat} {a b c d e : Value} {t : TypeId} (h : w.heap[p]? = some (.cells #[a, b, c, d, e] t (0, 0))) : (w.cell? ⟨p, 0, none⟩ = some a ∧ w.cell? ⟨p, 1, none⟩ = some b ∧ w.cell? ⟨p, 2, none⟩ = some c ∧ w.cell? ⟨p, 3, none⟩ = some d ∧ w.cell? ⟨p, 4, none⟩ = some e) ∧ w.frozen? ⟨p, 0, none⟩ = false ∧ w.frozen? ⟨p, 1, none⟩ = false ∧ w.frozen? ⟨p, 2, none⟩ = false ∧ w.frozen? ⟨p, 3, none⟩ = false ∧ w.frozen? ⟨p, 4, none⟩ = false := by
  refine ⟨⟨?_, ?_, ?_, ?_, ?_⟩, ?_, ?_, ?_, ?_, ?_⟩ <;> simp [World.cell?, World.frozen?, h]
theorem set5 {w : World} {p : Nat} {o0 o1 o2 o3 o4 : Value} {t : TypeId} (h : w.heap[p]? = some (.cells #[o0, o1, o2, o3, o4] t (0, 0))) (a b c d e : Value) :
    (((((w.setCell ⟨p, 0, none⟩ a).setCell ⟨p, 1, none⟩ b).setCell ⟨p, 2, none⟩ c).setCell ⟨p, 3, none⟩ d).setCell ⟨p, 4, none⟩ e).heap[p]? = some (.cells #[a, b, c, d, e] t (0, 0)) := by
  have st : ∀ (W : World) (cs : Array Value) (k : Nat) (u : Value), W.heap[p]? = some (.cells cs t (0, 0)) → (W.setCell ⟨p, k, none⟩ u).heap[p]? = some (.cells (cs.setIfInBounds k u) t (0, 0)) := by
    intro W cs k u h
    have hlt := lt_of_block h
    have h' : W.heap[p] = .cells cs t (0, 0) := by simpa [Array.getElem?_eq_getElem hlt] using h
    show (W.heap.modify p _)[p]? = _
    rw [Array.getElem?_eq_getElem (by simpa using hlt), Array.getElem_modify_self, h']
    rfl
  have e4 := st _ _ 4 e (st _ _ 3 d (st _ _ 2 c (st _ _ 1 b (st _ _ 0 a h))))
  simpa using e4
theorem set34 {w : World} {p : Nat} {o0 o1 o2 o3 o4 : Value} {t : TypeId} (h : w.heap[p]? = some (.cells #[o0, o1, o2, o3, o4] t (0, 0))) (d e : Value) :
    ((w.setCell ⟨p, 3, none⟩ d).setCell ⟨p, 4, none⟩ e).heap[p]? = some (.cells #[o0, o1, o2, d, e] t (0, 0)) := by
  have st : ∀ (W : World) (cs : Array Value) (k : Nat) (u : Value), W.heap[p]? = some (.cells cs t (0, 0)) → (W.setCell ⟨p, k, none⟩ u).heap[p]? = some (.cells (cs.setIfInBounds k u) t (0, 0)) := by
    intro W cs k u h
    have hlt := lt_of_block h
    have h' : W.heap[p] = .cells cs t (0, 0) := by simpa [Array.getElem?_eq_getElem hlt] using h
    show (W.heap.modify p _)[p]? = _
    rw [Array.getElem?_eq_getElem (by simpa using hlt), Array.getElem_modify_self, h']
    rfl
  have e4 := st _ _ 4 e (st _ _ 3 d h)
  simpa using e4
end Go.Proofs.YtninciflfolenaaGreat
namespace Go.Proofs.YtninciflfolenaaGreat
/-- A row's Id, From and To. -/
abbrev Tr : Type := Int × Int × Int
def thr (r : Tr) (at_ : Int) : Bool := decide (r.2.1 ≤ at_) && (decide (r.2.2 = 0) || decide (at_ < r.2.2))
def clash (x y : Tr) : Bool := decide (y.1 = x.1) && (thr x y.2.1 || thr y x.2.1)
theorem clash_comm (x y : Tr) : clash x y = clash y x := by
  unfold clash
  rw [Bool.or_comm]
  congr 1
  exact decide_eq_decide.2 ⟨fun h => h.symm, fun h => h.symm⟩
/-- A row's time is one: it begins at 1 or later, and ends, where it does, behind its beginning. -/
def tmb (r : Tr) : Prop := 1 ≤ r.2.1 ∧ (r.2.2 = 0 ∨ r.2.1 < r.2.2)
def lex (x y : Tr) : Prop := x.1 < y.1 ∨ (x.1 = y.1 ∧ x.2.1 ≤ y.2.1)
/-- What is asked of neighbours. -/
def nbr (x y : Tr) : Bool := decide (x.1 = y.1) && thr x y.2.1
theorem nbr_clash {x y : Tr} (h : clash x y = false) : nbr x y = false := by
  unfold nbr
  unfold clash at h
  by_cases he : x.1 = y.1
  · simp only [he, decide_true, Bool.true_and, Bool.or_eq_false_iff] at h ⊢
    exact h.1
  · simp [he]
theorem far_clash {x y z : Tr} (hx : tmb x) (h1 : nbr x y = false) (l1 : lex x y) (l2 : lex y z) : clash x z = false := by
  unfold clash
  by_cases he : z.1 = x.1
  · have hid : x.1 = y.1 := by unfold lex at l1 l2; omega
    have hfr : y.2.1 ≤ z.2.1 := by unfold lex at l1 l2; omega
    have hxy : x.2.1 ≤ y.2.1 := by unfold lex at l1 l2; omega
    unfold nbr at h1
    simp only [hid, decide_true, Bool.true_and] at h1
    unfold thr at h1 ⊢
    unfold tmb at hx
    simp only [Bool.and_eq_false_iff, Bool.or_eq_false_iff, decide_eq_false_iff_not] at h1 ⊢
    right
    constructor
    · right
      omega
    · left
      omega
  · simp [he]
theorem near_clash {x y : Tr} (hx : tmb x) (h1 : nbr x y = false) (l1 : lex x y) : clash x y = false := far_clash hx h1 l1 (.inr ⟨rfl, Int.le_refl _⟩)
/-- Neighbours told one by one. -/
def nbrs : List Tr → Bool
  | [] => true
  | [_] => true
  | x :: y :: r => !nbr x y && nbrs (y :: r)
theorem nbrs_of : ∀ (l : List Tr), l.Pairwise (fun x y => clash x y = false) → nbrs l = true
  | [], _ => rfl
  | [_], _ => rfl
  | x :: y :: r, h => by
    have h' := List.pairwise_cons.1 h
    simp only [nbrs, Bool.and_eq_true, Bool.not_eq_true']
    exact ⟨nbr_clash (h'.1 y (List.mem_cons_self ..)), nbrs_of (y :: r) h'.2⟩
theorem of_nbrs : ∀ (l : List Tr), (∀ x ∈ l, tmb x) → l.Pairwise lex → nbrs l = true → l.Pairwise (fun x y => clash x y = false)
  | [], _, _, _ => List.Pairwise.nil
  | [_], _, _, _ => List.pairwise_singleton _ _
  | x :: y :: r, ht, hl, hn => by
    simp only [nbrs, Bool.and_eq_true, Bool.not_eq_true'] at hn
    have hl' := List.pairwise_cons.1 hl
    refine List.pairwise_cons.2 ⟨fun z hz => ?_, of_nbrs (y :: r) (fun x hx => ht x (List.mem_cons_of_mem _ hx)) hl'.2 hn.2⟩
    rcases List.mem_cons.1 hz with rfl | hz
    · exact near_clash (ht x (List.mem_cons_self ..)) hn.1 (hl'.1 z (List.mem_cons_self ..))
    · exact far_clash (ht x (List.mem_cons_self ..)) hn.1 (hl'.1 y (List.mem_cons_self ..)) ((List.pairwise_cons.1 hl'.2).1 z hz)
/-- No two of a list clash. -/
def apartR : List Tr → Bool
  | [] => true
  | x :: r => r.all (fun y => !clash x y) && apartR r
theorem apartR_iff : ∀ (l : List Tr), apartR l = true ↔ l.Pairwise (fun x y => clash x y = false)
  | [] => by simp [apartR]
  | x :: r => by
    rw [apartR, Bool.and_eq_true, List.pairwise_cons, apartR_iff r, List.all_eq_true]
    simp
theorem apartR_sorted {l s : List Tr} (hp : s.Perm l) (ht : ∀ x ∈ l, tmb x) (hs : s.Pairwise lex) : apartR l = nbrs s := by
  have hsym : ∀ {x y : Tr}, clash x y = false → clash y x = false := fun {x y} h => by rw [clash_comm]; exact h
  have e : l.Pairwise (fun x y => clash x y = false) ↔ s.Pairwise (fun x y => clash x y = false) := (hp.pairwise_iff (fun h => hsym h)).symm
  have hts : ∀ x ∈ s, tmb x := fun x hx => ht x (hp.mem_iff.1 hx)
  cases hn : nbrs s
  · cases ha : apartR l
    · rfl
    · rw [nbrs_of s (e.1 ((apartR_iff l).1 ha))] at hn; cases hn
  · exact (apartR_iff l).2 (e.2 (of_nbrs s hts hs hn))
theorem apartR_snoc : ∀ (l : List Tr) (x : Tr), apartR (l ++ [x]) = (apartR l && l.all (fun y => !clash y x))
  | [], x => by simp [apartR]
  | y :: r, x => by
    rw [List.cons_append, apartR, apartR_snoc r x, apartR, List.all_append, List.all_cons]
    simp only [List.all_cons, List.all_nil, Bool.and_true]
    cases r.all (fun z => !clash y z) <;> cases apartR r <;> cases r.all (fun z => !clash z x) <;> cases clash y x <;> rfl
end Go.Proofs.YtninciflfolenaaGreat
namespace Go.Proofs.YtninciflfolenaaGreat
open Go.RowKit
set_option linter.unusedSimpArgs false
set_option linter.unusedVariables false
def tr (r : Rw) : Tr := (r.1, r.2.1, r.2.2.1)
theorem thr_def (r : Rw) (t : Int) : thr (tr r) t = (decide (r.2.1 ≤ t) && (decide (r.2.2.1 = 0) || decide (t < r.2.2.1))) := rfl
set_option maxHeartbeats 1000000 in
theorem spec_there (r : Rw) (a : Option Addr) (cap : Nat) (t : Int) (w : World) : Calls Tryz.prog 31 #[rwv r a cap, .int .i64 t] w fun e w' => e = .returned (.bool (thr (tr r) t)) ∧ Below w.heap.size w w' := by
  rw [thr_def]
  obtain ⟨id, fr, te, kd, ps⟩ := r
  unfold rwv
  simp only
  generalize ps.length = n
  by_cases h1 : fr ≤ t
  · by_cases h2 : te = 0
    · go_enter Tryz.func31, Tryz.ntmps31
      go_wp2
      go_ret
      exact ⟨by simp [h1, h2], balloc (Below.refl _ _) _⟩
    · have h3 : (te == 0) = false := by simpa using h2
      go_enter Tryz.func31, Tryz.ntmps31
      go_wp2
      go_ret
      exact ⟨by simp [h1, h2], balloc (Below.refl _ _) _⟩
  · have h3 : decide (fr ≤ t) = false := by simpa using h1
    go_enter Tryz.func31, Tryz.ntmps31
    go_wp2
    go_ret
    exact ⟨by simp [h1], balloc (Below.refl _ _) _⟩
set_option maxHeartbeats 1000000 in
theorem impl_ended (r : Rw) (a : Option Addr) (cap : Nat) (t : Int) (w : World) : Calls Tryz.prog 60 #[rwv r a cap, .int .i64 t] w fun e w' => e = .returned (.bool (decide (r.2.2.1 ≠ 0) && decide (r.2.2.1 ≤ t))) ∧ Below w.heap.size w w' := by
  obtain ⟨id, fr, te, kd, ps⟩ := r
  unfold rwv
  simp only
  generalize ps.length = n
  by_cases h2 : te = 0
  · go_enter Tryz.func60, Tryz.ntmps60
    go_wp2
    go_ret
    exact ⟨by simp [h2], balloc (Below.refl _ _) _⟩
  · have h3 : (te != 0) = true := by simpa using h2
    go_enter Tryz.func60, Tryz.ntmps60
    go_wp2
    go_ret
    exact ⟨by simp [h2], balloc (Below.refl _ _) _⟩
set_option maxHeartbeats 1000000 in
theorem impl_there (r : Rw) (a : Option Addr) (cap : Nat) (t : Int) (w : World) : Calls Tryz.prog 37 #[rwv r a cap, .int .i64 t] w fun e w' => e = .returned (.bool (thr (tr r) t)) ∧ Below w.heap.size w w' := by
  have HE := hid (fun w => impl_ended r a cap t w)
  rw [thr_def]
  obtain ⟨id, fr, te, kd, ps⟩ := r
  unfold rwv at *
  simp only at *
  generalize ps.length = n at *
  by_cases h1 : fr ≤ t
  · have e : (decide (fr ≤ t) && (decide (te = 0) || decide (t < te))) = !(decide (te ≠ 0) && decide (te ≤ t)) := by
      by_cases h2 : te = 0
      · simp [h1, h2]
      · by_cases h3 : te ≤ t
        · have : ¬ t < te := by omega
          simp [h1, h2, h3, this]
        · have : t < te := by omega
          simp [h1, h2, h3, this]
    rw [e]
    generalize (decide (te ≠ 0) && decide (te ≤ t)) = q at *
    clear e
    go_enter Tryz.func37, Tryz.ntmps37
    go_wp2_with fail
    refine (HE.out _).mono ?_
    rintro e w1 ⟨rfl, hb⟩
    go_wp2_with fail
    go_ret
    exact ⟨rfl, btrans (balloc (Below.refl _ _) _) hb⟩
  · have h3 : decide (fr ≤ t) = false := by simpa using h1
    clear HE
    go_enter Tryz.func37, Tryz.ntmps37
    go_wp2_with fail
    go_ret
    exact ⟨by simp [h1], balloc (Below.refl _ _) _⟩
def idb (x : Int) : Bool := decide (1 ≤ x) && decide (x ≤ 999999999)
/-- Whether a row is right in a list with that last moment, the shape told apart. -/
def rwb (now : Int) (r : Rw) : Bool := idb r.1 && (decide (1 ≤ r.2.1) && decide (r.2.1 ≤ now)) && (decide (r.2.2.1 = 0) || (decide (r.2.1 < r.2.2.1) && decide (r.2.2.1 ≤ now)))
theorem rwb_tmb {now : Int} {r : Rw} (h : rwb now r = true) : tmb (tr r) := by
  unfold rwb at h
  simp only [Bool.and_eq_true, Bool.or_eq_true, decide_eq_true_eq] at h
  refine ⟨h.1.2.1, ?_⟩
  rcases h.2 with h | h
  · exact .inl h
  · exact .inr h.1
theorem in_r (x a b : Int) (w : World) : Calls Tryz.prog 29 #[.int .i64 x, .int .i64 a, .int .i64 b] w fun e w' => e = .returned (.bool (decide (a ≤ x) && decide (x ≤ b))) ∧ w' = w := by
  by_cases h : a ≤ x
  · go_enter Tryz.func29, Tryz.ntmps29
    go_wp2
    go_ret
    exact ⟨by simp [h], rfl⟩
  · have hd : decide (a ≤ x) = false := by simpa using h
    go_enter Tryz.func29, Tryz.ntmps29
    go_wp2
    go_ret
    exact ⟨by simp [hd], rfl⟩
theorem spec_id (x : Int) (w : World) : Calls Tryz.prog 28 #[.int .i64 x] w fun e w' => e = .returned (.bool (idb x)) ∧ w' = w := by
  go_enter Tryz.func28, Tryz.ntmps28
  go_wp2_with fail
  refine (in_r x 1 999999999 _).mono ?_
  rintro e w1 ⟨rfl, rfl⟩
  go_wp2_with fail
  go_ret
  exact ⟨rfl, rfl⟩
theorem impl_id (x : Int) (w : World) : Calls Tryz.prog 52 #[.int .i64 x] w fun e w' => e = .returned (.bool (idb x)) ∧ w' = w := by
  by_cases h : 1 ≤ x
  · go_enter Tryz.func52, Tryz.ntmps52
    go_wp2
    go_ret
    exact ⟨by simp [idb, h], rfl⟩
  · have hd : decide (1 ≤ x) = false := by simpa using h
    go_enter Tryz.func52, Tryz.ntmps52
    go_wp2
    go_ret
    exact ⟨by unfold idb; rw [hd]; rfl, rfl⟩
end Go.Proofs.YtninciflfolenaaGreat
