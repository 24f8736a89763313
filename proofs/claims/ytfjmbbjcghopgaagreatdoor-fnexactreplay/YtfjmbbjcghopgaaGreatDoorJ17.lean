/- Texts of stores, joined: Rw0, Rw, RwE, Mark, RwK. -/
import Derived.Test.YtfjmbbjcghopgaaGreatDoorJ5
import Derived.Test.YtfjmbbjcghopgaaGreatDoorJ3
import Derived.Test.YtfjmbbjcghopgaaGreatDoorJ16
import Derived.Deep.RegionHeld3
import Derived.Test.YtfjmbbjcghopgaaGreatDoorJ4
namespace Go.Proofs.YtfjmbbjcghopgaaGreatDoor
open Go.RowKit
set_option linter.unusedSimpArgs false
set_option linter.unusedVariables false
/-- A row: its Id, From, To, the shape's kind and points. -/
abbrev Rw : Type := Int × Int × Int × Int × List (Int × Int)
def rwv (r : Rw) (a : Option Addr) (cap : Nat) : Value := .agg #[.int .i64 r.1, .int .i64 r.2.1, .int .i64 r.2.2.1, .int .i64 r.2.2.2.1, .slice a r.2.2.2.2.length cap]
/-- A row at a place; the points' block is one of N. -/
def RwAt (N : Nat → Prop) (w : World) (b o : Nat) (r : Rw) : Prop :=
  ∃ a cap, w.cell? ⟨b, o, none⟩ = some (.int .i64 r.1) ∧ w.cell? ⟨b, o + 1, none⟩ = some (.int .i64 r.2.1) ∧ w.cell? ⟨b, o + 2, none⟩ = some (.int .i64 r.2.2.1) ∧ w.cell? ⟨b, o + 3, none⟩ = some (.int .i64 r.2.2.2.1) ∧ w.cell? ⟨b, o + 4, none⟩ = some (.slice a r.2.2.2.2.length cap) ∧ r.2.2.2.2.length ≤ cap ∧ r.2.2.2.2.length ≤ 1099511627776 ∧ Pts w a r.2.2.2.2 ∧ (∀ c off, a = some ⟨c, off, none⟩ → N c)
def RwsAt (N : Nat → Prop) (w : World) (b o : Nat) (rs : List Rw) : Prop := ∀ j (h : j < rs.length), RwAt N w b (o + j * 5) rs[j]
def Rws (N : Nat → Prop) (w : World) (a : Option Addr) (rs : List Rw) : Prop := rs = [] ∨ ∃ b o, a = some ⟨b, o, none⟩ ∧ b < w.heap.size ∧ RwsAt N w b o rs
theorem RwAt.below {N : Nat → Prop} {w w' : World} {b o : Nat} {r : Rw} (h : RwAt N w b o r) (H : Below w.heap.size w w') : RwAt N w' b o r := by
  obtain ⟨a, cap, h0, h1, h2, h3, h4, h5, h6, h7, h8⟩ := h
  exact ⟨a, cap, keepcell H h0, keepcell H h1, keepcell H h2, keepcell H h3, keepcell H h4, h5, h6, h7.below H, h8⟩
theorem RwsAt.below {N : Nat → Prop} {w w' : World} {b o : Nat} {rs : List Rw} (h : RwsAt N w b o rs) (H : Below w.heap.size w w') : RwsAt N w' b o rs := fun j hj => (h j hj).below H
theorem Rws.below {N : Nat → Prop} {w w' : World} {a : Option Addr} {rs : List Rw} (h : Rws N w a rs) (H : Below w.heap.size w w') : Rws N w' a rs := by
  rcases h with h | ⟨b, o, e, hb, h⟩
  · exact .inl h
  · exact .inr ⟨b, o, e, Nat.lt_of_lt_of_le hb H.size, h.below H⟩
theorem Rws.at {N : Nat → Prop} {w : World} {a : Option Addr} {rs : List Rw} (h : Rws N w a rs) (j : Nat) (hj : j < rs.length) : ∃ b o, a = some ⟨b, o, none⟩ ∧ b < w.heap.size ∧ RwAt N w b (o + j * 5) rs[j] := by
  rcases h with h | ⟨b, o, e, hb, h⟩
  · subst h; simp at hj
  · exact ⟨b, o, e, hb, h j hj⟩
theorem set2r {w : World} {p : Nat} {o0 o1 : Value} {t : TypeId} (h : w.heap[p]? = some (.cells #[o0, o1] t (0, 0))) (a b : Value) : ((w.setCell ⟨p, 0, none⟩ a).setCell ⟨p, 1, none⟩ b).heap[p]? = some (.cells #[a, b] t (0, 0)) := by
  have st : ∀ (W : World) (cs : Array Value) (k : Nat) (u : Value), W.heap[p]? = some (.cells cs t (0, 0)) → (W.setCell ⟨p, k, none⟩ u).heap[p]? = some (.cells (cs.setIfInBounds k u) t (0, 0)) := by
    intro W cs k u h
    have hlt := lt_of_block h
    have h' : W.heap[p] = .cells cs t (0, 0) := by simpa [Array.getElem?_eq_getElem hlt] using h
    show (W.heap.modify p _)[p]? = _
    rw [Array.getElem?_eq_getElem (by simpa using hlt), Array.getElem_modify_self, h']
    rfl
  have e4 := st _ _ 1 b (st _ _ 0 a h)
  simpa using e4
theorem cell5g {w : World} {p : Nat} {a b c d e : Value} {t : TypeId} (h : w.heap[p]? = some (.cells #[a, b, c, d, e] t (0, 0))) : (w.cell? ⟨p, 0, none⟩ = some a ∧ w.cell? ⟨p, 1, none⟩ = some b ∧ w.cell? ⟨p, 2, none⟩ = some c ∧ w.cell? ⟨p, 3, none⟩ = some d ∧ w.cell? ⟨p, 4, none⟩ = some e) ∧ w.frozen? ⟨p, 0, none⟩ = false ∧ w.frozen? ⟨p, 1, none⟩ = false ∧ w.frozen? ⟨p, 2, none⟩ = false ∧ w.frozen? ⟨p, 3, none⟩ = false ∧ w.frozen? ⟨p, 4, none⟩ = false := by
  refine ⟨⟨?_, ?_, ?_, ?_, ?_⟩, ?_, ?_, ?_, ?_, ?_⟩ <;> simp [World.cell?, World.frozen?, h]
theorem set34 {w : World} {p : Nat} {o0 o1 o2 o3 o4 : Value} {t : TypeId} (h : w.heap[p]? = some (.cells #[o0, o1, o2, o3, o4] t (0, 0))) (d e : Value) :
    ((w.setCell ⟨p, 3, none⟩ d).setCell ⟨p, 4, none⟩ e).heap[p]? = some (.cells #[o0, o1, o2, d, e] t (0, 0)) := by
  have st : ∀ (W : World) (cs : Array Value) (k : Nat) (u : Value), W.heap[p]? = some (.cells cs t (0, 0)) → (W.setCell ⟨p, k, none⟩ u).heap[p]? = some (.cells (cs.setIfInBounds k u) t (0, 0)) := by
    intro W cs k u h
    have hlt := lt_of_block h
    have h' : W.heap[p] = .cells cs t (0, 0) := by simpa [Array.getElem?_eq_getElem hlt] using h
    show (W.heap.modify p _)[p]? = _
    rw [Array.getElem?_eq_getElem (by simpa using hlt), Array.getElem_modify_self, h']
    rfl
  have e4 := st _ _ 4 e (st _ _ 3 d h)
  simpa using e4
end Go.Proofs.YtfjmbbjcghopgaaGreatDoor
namespace Go.Proofs.YtfjmbbjcghopgaaGreatDoor
open Go.RowKit
set_option linter.unusedSimpArgs false
set_option linter.unusedVariables false
theorem Tryz.infoRow : (Tryz.prog.info? 54).map (fun i => (i.zero, i.size, i.bytes)) = some (some (.agg #[.int .i64 0, .int .i64 0, .int .i64 0, .int .i64 0, .slice none 0 0]), 5, 56) := by kernel_rfl
end Go.Proofs.YtfjmbbjcghopgaaGreatDoor
namespace Go.Proofs.YtfjmbbjcghopgaaGreatDoor
open Go.RowKit
set_option linter.unusedSimpArgs false
set_option linter.unusedVariables false
set_option maxHeartbeats 2000000 in
theorem eq_row (r : Rw) (a1 a2 : Option Addr) (c1 c2 : Nat) (w : World) (hm : r.2.2.2.2.length ≤ 1099511627776) (h1 : r.2.2.2.2.length ≤ c1) (h2 : r.2.2.2.2.length ≤ c2) (p1 : Pts w a1 r.2.2.2.2) (p2 : Pts w a2 r.2.2.2.2) : Calls Tryz.prog 29 #[rwv r a1 c1, rwv r a2 c2] w fun e w' => e = .returned (.bool true) ∧ Below w.heap.size w w' := by
  obtain ⟨id, fr, te, kd, ps⟩ := r
  unfold rwv
  simp only at *
  have EQ := hid (fun (W : World) (hb : Below w.heap.size w W) => eq_shape kd a1 a2 c1 c2 ps W hm h1 h2 (p1.below hb) (p2.below hb))
  unfold shv at EQ
  clear p1 p2
  generalize ps.length = n at *
  go_enter Tryz.func29, Tryz.ntmps29
  go_wp2_with fail
  refine (EQ.out _ (balloc (balloc (Below.refl _ _) _) _)).mono ?_
  rintro e w1 ⟨rfl, hb⟩
  go_wp2_with fail
  go_ret
  exact ⟨rfl, btrans (balloc (balloc (Below.refl _ _) _) _) hb⟩
set_option maxHeartbeats 2000000 in
theorem eq_rowS {N1 N2 : Nat → Prop} (a b : Option Addr) (cap cap' : Nat) (rs : List Rw) (w : World) (hm : rs.length ≤ 1099511627776) (p1 : Rws N1 w a rs) (p2 : Rws N2 w b rs) : Calls Tryz.prog 14 #[.slice a rs.length cap, .slice b rs.length cap'] w fun e w' => e = .returned (.bool true) ∧ Below w.heap.size w w' := by
  have H1 := hid p1
  have H2 := hid p2
  clear p1 p2
  obtain ⟨n, hn⟩ : ∃ n, n = rs.length := ⟨_, rfl⟩
  have HN := hid hn.symm
  rw [← hn] at hm ⊢
  clear hn
  go_enter Tryz.func14, Tryz.ntmps14
  go_wp2_with fail
  go_loopw [5] (fun ti wr => ∃ j : Nat, ti = .int .i64 j ∧ j ≤ n ∧ Hid (Below w.heap.size w wr)) (fun ti _ => n - (intOf ti).toNat)
  case atStart => exact ⟨0, rfl, Nat.zero_le _, hid (Below.refl _ _)⟩
  case round =>
    obtain ⟨j, rfl, hj, HBW⟩ := hrel
    by_cases hlt : j < n
    · have c1 : (j : Int) < (n : Int) := by omega
      have hjr : j < rs.length := by rw [HN.out]; exact hlt
      obtain ⟨b1, o1, rfl, hb1, a1, c1', k0, k1, k2, k3, k4, k5, k6, k7, _⟩ := (H1.out.below HBW.out).at j hjr
      obtain ⟨b2, o2, rfl, hb2, a2, c2', l0, l1, l2, l3, l4, l5, l6, l7, _⟩ := (H2.out.below HBW.out).at j hjr
      have EQ := hid (fun (W : World) (hb : Below wr.heap.size wr W) => eq_row rs[j] a1 a2 c1' c2' W k6 k5 l5 (k7.below hb) (l7.below hb))
      unfold rwv at EQ
      clear k5 k6 k7 l5 l6 l7
      generalize rs[j].1 = id at *
      generalize rs[j].2.1 = fr at *
      generalize rs[j].2.2.1 = te at *
      generalize rs[j].2.2.2.1 = kd at *
      generalize rs[j].2.2.2.2 = ps at *
      have HB0 : Hid (Below wr.heap.size wr wr.drew) := hid (bdrew (Below.refl _ _))
      go_wp2_with fail
      refine wp_region_held_drew (S := (fun w' => w'.cell? ⟨b1, o1 + j * 5, none⟩ = some (.int .i64 id) ∧ w'.cell? ⟨b1, o1 + j * 5 + 1, none⟩ = some (.int .i64 fr) ∧ w'.cell? ⟨b1, o1 + j * 5 + 2, none⟩ = some (.int .i64 te) ∧ w'.cell? ⟨b1, o1 + j * 5 + 3, none⟩ = some (.int .i64 kd) ∧ w'.cell? ⟨b1, o1 + j * 5 + 4, none⟩ = some (.slice a1 ps.length c1') ∧ w'.cell? ⟨b2, o2 + j * 5, none⟩ = some (.int .i64 id) ∧ w'.cell? ⟨b2, o2 + j * 5 + 1, none⟩ = some (.int .i64 fr) ∧ w'.cell? ⟨b2, o2 + j * 5 + 2, none⟩ = some (.int .i64 te) ∧ w'.cell? ⟨b2, o2 + j * 5 + 3, none⟩ = some (.int .i64 kd) ∧ w'.cell? ⟨b2, o2 + j * 5 + 4, none⟩ = some (.slice a2 ps.length c2'))) (by kernel_rfl) ?_ (fun hHeld => ?_)
      · (repeat' apply And.intro) <;> (repeat (first | with_reducible assumption | with_reducible refine keepdrew ?_ | with_reducible refine keepcell (by with_reducible assumption) ?_))
      refine wpAnyH_take (i := 0) (v := ?_) rfl (by kernel_rfl) (by kernel_rfl) (by kernel_rfl) (fun _ _ _ h => h) (Or.inl ⟨by rfl, ?_⟩) hHeld ?_
      rotate_left
      · intro w hSw; (try dsimp only at hSw); go_simp; try (with_reducible rfl)
      try simp only [sq]
      refine wpAnyH_take (i := 1) (v := ?_) rfl (by kernel_rfl) (by kernel_rfl) (by kernel_rfl) (fun _ _ _ h => h) (Or.inl ⟨by rfl, ?_⟩) hHeld ?_
      rotate_left
      · intro w hSw; (try dsimp only at hSw); go_simp; try (with_reducible rfl)
      try simp only [sq]
      refine wpAnyH_take (i := 2) (v := ?_) rfl (by kernel_rfl) (by kernel_rfl) (by kernel_rfl) (fun _ _ _ h => h) (Or.inl ⟨by rfl, ?_⟩) hHeld ?_
      rotate_left
      · intro w hSw; (try dsimp only at hSw); go_simp; try (with_reducible rfl)
      try simp only [sq]
      refine wpAnyH_take (i := 3) (v := ?_) rfl (by kernel_rfl) (by kernel_rfl) (by kernel_rfl) (fun _ _ _ h => h) (Or.inl ⟨by rfl, ?_⟩) hHeld ?_
      rotate_left
      · intro w hSw; (try dsimp only at hSw); go_simp; try (with_reducible rfl)
      try simp only [sq]
      refine wpAnyH_take (i := 4) (v := ?_) rfl (by kernel_rfl) (by kernel_rfl) (by kernel_rfl) (fun _ _ _ h => h) (Or.inl ⟨by rfl, ?_⟩) hHeld ?_
      rotate_left
      · intro w hSw; (try dsimp only at hSw); go_simp; try (with_reducible rfl)
      try simp only [sq]
      refine wpAnyH_take (i := 5) (v := ?_) rfl (by kernel_rfl) (by kernel_rfl) (by kernel_rfl) (fun _ _ _ h => h) (Or.inl ⟨by rfl, ?_⟩) hHeld ?_
      rotate_left
      · intro w hSw; (try dsimp only at hSw); go_simp; try (with_reducible rfl)
      try simp only [sq]
      refine wpAnyH_take (i := 6) (v := ?_) rfl (by kernel_rfl) (by kernel_rfl) (by kernel_rfl) (fun _ _ _ h => h) (Or.inl ⟨by rfl, ?_⟩) hHeld ?_
      rotate_left
      · intro w hSw; (try dsimp only at hSw); go_simp; try (with_reducible rfl)
      try simp only [sq]
      refine wpAnyH_take (i := 7) (v := ?_) rfl (by kernel_rfl) (by kernel_rfl) (by kernel_rfl) (fun _ _ _ h => h) (Or.inl ⟨by rfl, ?_⟩) hHeld ?_
      rotate_left
      · intro w hSw; (try dsimp only at hSw); go_simp; try (with_reducible rfl)
      try simp only [sq]
      refine wpAnyH_ready (rs := [8]) (by kernel_rfl) (by simp) ?_
      refine AllReadyH.cons rfl (fun K hK => ?_) AllReadyH.nil
      try simp only [sq]
      go_simp
      (first
          | (go_at_call 29; refine (EQ.out _ HB0.out).mono ?_; rintro e z1 ⟨rfl, hz⟩))
      go_wp2_with fail
      refine hK.out _ _ ?_ (fun hHeld => ?_)
      · (repeat' apply And.intro) <;> (repeat (first | with_reducible assumption | with_reducible refine keepdrew ?_ | with_reducible refine keepcell (by with_reducible assumption) ?_))
      clear hK K
      try simp only [sq]
      refine wpAnyH_take (i := 9) (v := ?_) rfl (by kernel_rfl) (by kernel_rfl) (by kernel_rfl) (fun _ _ _ h => h) (Or.inl ⟨by rfl, ?_⟩) hHeld ?_
      rotate_left
      · intro w hSw; (try dsimp only at hSw); go_simp; try (with_reducible rfl)
      try simp only [sq]
      refine wpAnyH_done (by kernel_rfl) ?_ _
      go_wp2_with fail
      go_roundw
      case rel => exact ⟨j + 1, by go_num, by omega, hid (btrans (bdrew HBW.out) hz)⟩
      case measure => simp [intOf]; omega
    · have c1 : (n : Int) ≤ (j : Int) := by omega
      go_wp2_with fail
      go_ret
      exact ⟨rfl, HBW.out⟩
set_option maxHeartbeats 1000000 in
theorem eq_rows {N1 N2 : Nat → Prop} (now : Int) (a b : Option Addr) (cap cap' : Nat) (rs : List Rw) (w : World) (hm : rs.length ≤ 1099511627776) (p1 : Rws N1 w a rs) (p2 : Rws N2 w b rs) : Calls Tryz.prog 6 #[.agg #[.int .i64 now, .slice a rs.length cap], .agg #[.int .i64 now, .slice b rs.length cap']] w fun e w' => e = .returned (.bool true) ∧ Below w.heap.size w w' := by
  have EQ := hid (fun (W : World) (hb : Below w.heap.size w W) => eq_rowS a b cap cap' rs W hm (p1.below hb) (p2.below hb))
  clear p1 p2
  generalize rs.length = n at *
  go_enter Tryz.func6, Tryz.ntmps6
  go_wp2_with fail
  refine (EQ.out _ (balloc (balloc (Below.refl _ _) _) _)).mono ?_
  rintro e w1 ⟨rfl, hb⟩
  go_wp2_with fail
  go_ret
  exact ⟨rfl, btrans (balloc (balloc (Below.refl _ _) _) _) hb⟩
end Go.Proofs.YtfjmbbjcghopgaaGreatDoor
namespace Go.Proofs.YtfjmbbjcghopgaaGreatDoor
open Go.RowKit
set_option linter.unusedVariables false
set_option linter.unusedSimpArgs false
/-- A list of points that may be written into: nil, or a block of its own. -/
def OwnP (w : World) (a : Option Addr) (ps : List (Int × Int)) : Prop := (a = none ∧ ps = []) ∨ ∃ b, a = some ⟨b, 0, none⟩ ∧ PtsOwn w b ps
theorem OwnP.pts {w : World} {a : Option Addr} {ps : List (Int × Int)} (h : OwnP w a ps) : Pts w a ps := by
  rcases h with ⟨rfl, rfl⟩ | ⟨b, rfl, h⟩
  · exact .inl rfl
  · exact h.pts
theorem OwnP.below {w w' : World} {a : Option Addr} {ps : List (Int × Int)} (h : OwnP w a ps) (H : Below w.heap.size w w') : OwnP w' a ps := by
  rcases h with ⟨rfl, rfl⟩ | ⟨b, rfl, h⟩
  · exact .inl ⟨rfl, rfl⟩
  · exact .inr ⟨b, rfl, h.below H⟩
def mk (j : Nat) : Int × Int := ((1 : Int) + 2 * j, (2 : Int) + 2 * j)
theorem take_of (f : Nat → Int × Int) (n k : Nat) (h : k ≤ n) : (tk f n).take k = tk f k := by
  unfold tk
  rw [← List.map_take, List.take_range, Nat.min_eq_left h]
theorem grown_setb {w w1 : World} {b k : Nat} (h : w.grownBy w1 (some b)) (u : Value) : w.grownBy (w1.setCell ⟨b, k, none⟩ u) (some b) := grown_trans h (grown_set _ _ _ _)
end Go.Proofs.YtfjmbbjcghopgaaGreatDoor
namespace Go.Proofs.YtfjmbbjcghopgaaGreatDoor
open Go.RowKit
set_option linter.unusedSimpArgs false
set_option linter.unusedVariables false
/-- Of what was there only blocks from lo on, below hi, may have turned. -/
def Mid (lo hi : Nat) (w w' : World) : Prop := w'.os = w.os ∧ w'.tape = w.tape ∧ w'.output = w.output ∧ w.heap.size ≤ w'.heap.size ∧ ∀ k, k < w.heap.size → (k < lo ∨ hi ≤ k) → w'.heap[k]? = w.heap[k]?
theorem mid_refl (lo hi : Nat) (w : World) : Mid lo hi w w := ⟨rfl, rfl, rfl, Nat.le_refl _, fun _ _ _ => rfl⟩
theorem mid_trans {lo hi : Nat} {a b c : World} (h : Mid lo hi a b) (k : Mid lo hi b c) : Mid lo hi a c := by
  obtain ⟨h1, h2, h3, h4, h5⟩ := h
  obtain ⟨k1, k2, k3, k4, k5⟩ := k
  exact ⟨k1.trans h1, k2.trans h2, k3.trans h3, Nat.le_trans h4 k4, fun i hi' ho => (k5 i (Nat.lt_of_lt_of_le hi' h4) ho).trans (h5 i hi' ho)⟩
theorem mid_below {lo hi : Nat} {w w' : World} (h : Below w.heap.size w w') : Mid lo hi w w' := ⟨h.os, h.tape, h.output, h.size, fun k hk _ => h.block k hk⟩
theorem mid_set {lo hi b k : Nat} {w w1 : World} (h : Mid lo hi w w1) (h1 : lo ≤ b) (h2 : b < hi) (u : Value) : Mid lo hi w (w1.setCell ⟨b, k, none⟩ u) :=
  mid_trans h ⟨rfl, rfl, rfl, by simp [World.setCell], fun i _ ho => Below.heap_setCell _ _ _ _ (by dsimp only; omega)⟩
theorem mid_grown {lo hi b : Nat} {w w1 w2 : World} (h : Mid lo hi w w1) (g : w1.grownBy w2 (some b)) (h1 : lo ≤ b) (h2 : b < hi) : Mid lo hi w w2 :=
  mid_trans h ⟨g.os, g.tape, g.output, g.size, fun i hi' ho => g.block i hi' (fun e => by cases e; omega)⟩
/-- A row whose points' list has a block of its own, below hi, that may be written into. -/
def RwO (hi : Nat) (w : World) (B o n : Nat) : Prop := ∃ c, w.cell? ⟨B, o + 4, none⟩ = some (.slice (some ⟨c, 0, none⟩) n n) ∧ B < c ∧ c < hi ∧ w.there c 0 (n * 2)
def RwsO (hi : Nat) (w : World) (B : Nat) (rs : List Rw) : Prop := ∀ j (h : j < rs.length), RwO hi w B (j * 5) rs[j].2.2.2.2.length
theorem RwO.below {hi : Nat} {w w' : World} {B o n : Nat} (h : RwO hi w B o n) (hh : hi ≤ w.heap.size) (H : Below w.heap.size w w') : RwO hi w' B o n := by
  obtain ⟨c, h0, h1, h2, h3⟩ := h
  exact ⟨c, keepcell H h0, h1, h2, there_below h3 (by omega) H⟩
theorem RwO.mono {hi hi' : Nat} {w : World} {B o n : Nat} (h : RwO hi w B o n) (hh : hi ≤ hi') : RwO hi' w B o n := by
  obtain ⟨c, h0, h1, h2, h3⟩ := h
  exact ⟨c, h0, h1, by omega, h3⟩
theorem RwsO.below {hi : Nat} {w w' : World} {B : Nat} {rs : List Rw} (h : RwsO hi w B rs) (hh : hi ≤ w.heap.size) (H : Below w.heap.size w w') : RwsO hi w' B rs := fun j hj => (h j hj).below hh H
theorem there_at {w : World} {b n k : Nat} (h : w.there b 0 n) (hk : k < n) : ∃ v, w.cell? ⟨b, k, none⟩ = some v ∧ w.frozen? ⟨b, k, none⟩ = false := by
  obtain ⟨h1, h2⟩ := h k hk
  obtain ⟨v, hv⟩ := Option.isSome_iff_exists.1 h1
  simp only [Nat.zero_add] at hv h2
  exact ⟨v, hv, h2⟩
theorem there_set {w : World} {b n p k : Nat} (h : w.there b 0 n) (u : Value) : (w.setCell ⟨p, k, none⟩ u).there b 0 n := by
  intro j hj
  obtain ⟨h1, h2⟩ := h j hj
  refine ⟨?_, by rw [World.frozen?_setCell]; exact h2⟩
  obtain ⟨v, hv⟩ := Option.isSome_iff_exists.1 h1
  obtain ⟨v', hv'⟩ := cell?_setCell_some (p := ⟨p, k, none⟩) (x := u) hv
  rw [hv']; rfl
theorem RwO.far {hi : Nat} {w : World} {B o n k : Nat} (h : RwO hi w B o n) (hk : k ≠ o + 4) (u : Value) : RwO hi (w.setCell ⟨B, k, none⟩ u) B o n := by
  obtain ⟨c, h0, h1, h2, h3⟩ := h
  refine ⟨c, ?_, h1, h2, there_set h3 _⟩
  rw [World.cell?_setCell_other _ _ _ _ (by intro q; injection q; omega)]
  exact h0
end Go.Proofs.YtfjmbbjcghopgaaGreatDoor
