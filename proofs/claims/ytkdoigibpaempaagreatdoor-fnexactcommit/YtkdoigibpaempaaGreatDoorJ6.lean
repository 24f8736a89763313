/- Texts of stores, joined: ShLaw, Rw0, Rw. -/
import Derived.Test.YtkdoigibpaempaaGreatDoorJ5
import Derived.Test.YtkdoigibpaempaaGreatDoorJ1
import Derived.Test.YtkdoigibpaempaaGreatDoorJ2
set_option linter.unusedSimpArgs false
set_option linter.unusedVariables false
namespace Go.Proofs.YtkdoigibpaempaaGreatDoor
open Go.RowKit
theorem PtsOwn.of_block {w w' : World} {b : Nat} {ps : List (Int × Int)} (h : PtsOwn w b ps) (hb : w'.heap[b]? = w.heap[b]?) (hs : w.heap.size ≤ w'.heap.size) : PtsOwn w' b ps := by
  obtain ⟨h1, h2, h3⟩ := h
  refine ⟨Nat.lt_of_lt_of_le h1 hs, ?_, ?_⟩
  · intro k hk
    obtain ⟨c0, c1⟩ := h2 k hk
    exact ⟨by rw [World.cell?_of_block (w := w) hb]; exact c0, by rw [World.cell?_of_block (w := w) hb]; exact c1⟩
  · intro j hj
    obtain ⟨c0, c1⟩ := h3 j hj
    exact ⟨by rw [World.cell?_of_block (w := w) hb]; exact c0, by rw [World.frozen?_of_block (w := w) hb]; exact c1⟩
theorem szs_big (k : Int) (a : Option Addr) (n cap : Nat) (left : Int) (w : World) (hn : n ≤ 9223372036854775807) (h0 : 0 ≤ left) (h1 : left ≤ 1048576) (h : left < n) : Calls Tryz.prog 77 #[shv k a n cap, .int .i64 left] w fun e w' => e = .returned (.int .i64 (-1)) ∧ Below w.heap.size w w' := by
  go_enter Tryz.func77, Tryz.ntmps77
  go_wp2_with fail
  refine (sz_big _ _ _ _ _ hn h0 h1 h).mono ?_
  rintro e w1 ⟨rfl, hw⟩
  replace hw := hw.symm
  subst hw
  go_wp2_with fail
  go_ret
  exact ⟨rfl, by (with_reducible repeat (first | exact Below.refl _ _ | assumption | (refine btrans ?_ (by assumption)) | refine bdrew ?_ | refine balloc ?_ _))⟩
theorem szs_ok (k : Int) (a : Option Addr) (n cap : Nat) (left : Int) (w : World) (h0 : 0 ≤ left) (h1 : left ≤ 1048576) (h : ¬ left < n) : Calls Tryz.prog 77 #[shv k a n cap, .int .i64 left] w fun e w' => e = .returned (.int .i64 (left - n)) ∧ Below w.heap.size w w' := by
  go_enter Tryz.func77, Tryz.ntmps77
  go_wp2_with fail
  refine (sz_ok _ _ _ _ _ h0 h1 (by omega)).mono ?_
  rintro e w1 ⟨rfl, hw⟩
  replace hw := hw.symm
  subst hw
  have h2 : ¬ (left - (n : Int) < 0) := by omega
  go_wp2_with fail
  go_ret
  exact ⟨rfl, by (with_reducible repeat (first | exact Below.refl _ _ | assumption | (refine btrans ?_ (by assumption)) | refine bdrew ?_ | refine balloc ?_ _))⟩
set_option maxHeartbeats 1000000 in
theorem to_shape (k : Int) (a : Option Addr) (cap : Nat) (ps : List (Int × Int)) (w : World) (hm : ps.length ≤ 1099511627776) (hc : ps.length ≤ cap) (h : Pts w a ps) : Calls Tryz.prog 82 #[shv k a ps.length cap] w fun e w' => ∃ b, e = .returned (shv k (some ⟨b, 0, none⟩) ps.length ps.length) ∧ w.heap.size ≤ b ∧ PtsOwn w' b ps ∧ Below w.heap.size w w' := by
  have Hh := hid h
  clear h
  go_enter Tryz.func82, Tryz.ntmps82
  go_wp2_with fail
  refine (to_points a cap ps _ hm hc (Hh.out.below ?_)).mono ?_
  · (with_reducible repeat (first | exact Below.refl _ _ | assumption | (refine btrans ?_ (by assumption)) | refine bdrew ?_ | refine balloc ?_ _))
  rintro e w1 ⟨b1, rfl, hg1, ho1, hb1⟩
  have gA : w1.heap[w.heap.size + 1]? = some (.cells #[.int .i64 0, .slice none 0 0] 52 (0, 0)) := keepheap2 hb1 (by (with_reducible repeat (first | (refine new_alloc _ _ _ ?_; simp; done) | refine old_alloc ?_)))
  have gB : w1.heap[w.heap.size + 1 + 1]? = some (.cells #[.int .i64 k, .slice none 0 0] 52 (0, 0)) := keepheap2 hb1 (by (with_reducible repeat (first | (refine new_alloc _ _ _ ?_; simp; done) | refine old_alloc ?_)))
  have hB1 : Below w.heap.size w w1 := by (with_reducible repeat (first | exact Below.refl _ _ | assumption | (refine btrans ?_ (by assumption)) | refine bdrew ?_ | refine balloc ?_ _))
  simp at hg1
  obtain ⟨a0, a1, f0, f1⟩ := cell2f gA
  obtain ⟨b0, bb1, f2, f3⟩ := cell2f gB
  have GA := hid gA
  have GB := hid gB
  have Ho := hid ho1
  clear gA gB ho1
  go_wp2_with fail
  have gF : ((w1.setCell ⟨w.heap.size + 1 + 1, 1, none⟩ (.slice (some ⟨b1, 0, none⟩) ps.length ps.length)).setCell ⟨w.heap.size + 1, 0, none⟩ (.int .i64 k)).setCell ⟨w.heap.size + 1, 1, none⟩ (.slice (some ⟨b1, 0, none⟩) ps.length ps.length) |>.heap[w.heap.size + 1]? = some (.cells #[.int .i64 k, (.slice (some ⟨b1, 0, none⟩) ps.length ps.length)] 52 (0, 0)) := set_at (set_at (set_far GA.out (by omega)))
  have hbF : Below w.heap.size w (((w1.setCell ⟨w.heap.size + 1 + 1, 1, none⟩ (.slice (some ⟨b1, 0, none⟩) ps.length ps.length)).setCell ⟨w.heap.size + 1, 0, none⟩ (.int .i64 k)).setCell ⟨w.heap.size + 1, 1, none⟩ (.slice (some ⟨b1, 0, none⟩) ps.length ps.length)) := bset (bset (bset hB1 (by omega) _) (by omega) _) (by omega) _
  have hoF : PtsOwn (((w1.setCell ⟨w.heap.size + 1 + 1, 1, none⟩ (.slice (some ⟨b1, 0, none⟩) ps.length ps.length)).setCell ⟨w.heap.size + 1, 0, none⟩ (.int .i64 k)).setCell ⟨w.heap.size + 1, 1, none⟩ (.slice (some ⟨b1, 0, none⟩) ps.length ps.length)) b1 ps := by
    refine Ho.out.of_block ?_ (by simp)
    rw [Below.heap_setCell _ _ _ _ (by dsimp only; omega), Below.heap_setCell _ _ _ _ (by dsimp only; omega), Below.heap_setCell _ _ _ _ (by dsimp only; omega)]
  generalize ((w1.setCell ⟨w.heap.size + 1 + 1, 1, none⟩ (.slice (some ⟨b1, 0, none⟩) ps.length ps.length)).setCell ⟨w.heap.size + 1, 0, none⟩ (.int .i64 k)).setCell ⟨w.heap.size + 1, 1, none⟩ (.slice (some ⟨b1, 0, none⟩) ps.length ps.length) = wf at gF hbF hoF ⊢
  obtain ⟨z0, z1, _, _⟩ := cell2f gF
  exact bodyPost_ret (v := .agg #[.int .i64 k, (.slice (some ⟨b1, 0, none⟩) ps.length ps.length)]) (by simp [results, Tryz.results82, go_sem, z0, z1]) rfl ⟨b1, rfl, by omega, hoF, hbF⟩
set_option maxHeartbeats 1000000 in
theorem eq_shape (k : Int) (a b : Option Addr) (cap cap' : Nat) (ps : List (Int × Int)) (w : World) (hm : ps.length ≤ 1099511627776) (hc : ps.length ≤ cap) (hc' : ps.length ≤ cap') (h : Pts w a ps) (h' : Pts w b ps) : Calls Tryz.prog 103 #[shv k a ps.length cap, shv k b ps.length cap'] w fun e w' => e = .returned (.bool true) ∧ Below w.heap.size w w' := by
  have Hh := hid h
  have Hh' := hid h'
  clear h h'
  go_enter Tryz.func103, Tryz.ntmps103
  go_wp2_with fail
  refine (eq_points _ _ _ _ ps _ hm hc hc' (Hh.out.below ?_) (Hh'.out.below ?_)).mono ?_
  · (with_reducible repeat (first | exact Below.refl _ _ | assumption | (refine btrans ?_ (by assumption)) | refine bdrew ?_ | refine balloc ?_ _))
  · (with_reducible repeat (first | exact Below.refl _ _ | assumption | (refine btrans ?_ (by assumption)) | refine bdrew ?_ | refine balloc ?_ _))
  rintro e w1 ⟨rfl, hb1⟩
  go_wp2_with fail
  go_ret
  exact ⟨rfl, by (with_reducible repeat (first | exact Below.refl _ _ | assumption | (refine btrans ?_ (by assumption)) | refine bdrew ?_ | refine balloc ?_ _))⟩
end Go.Proofs.YtkdoigibpaempaaGreatDoor
namespace Go.Proofs.YtkdoigibpaempaaGreatDoor
open Go.RowKit
abbrev Rw : Type := Int × Int × Int × Int × List (Int × Int)
def rwv (r : Rw) (a : Option Addr) (cap : Nat) : Value := .agg #[.int .i64 r.1, .int .i64 r.2.1, .int .i64 r.2.2.1, .int .i64 r.2.2.2.1, .slice a r.2.2.2.2.length cap]
def RwAt (N : Nat → Prop) (w : World) (b o : Nat) (r : Rw) : Prop :=
  ∃ a cap, w.cell? ⟨b, o, none⟩ = some (.int .i64 r.1) ∧ w.cell? ⟨b, o + 1, none⟩ = some (.int .i64 r.2.1) ∧ w.cell? ⟨b, o + 2, none⟩ = some (.int .i64 r.2.2.1) ∧ w.cell? ⟨b, o + 3, none⟩ = some (.int .i64 r.2.2.2.1) ∧ w.cell? ⟨b, o + 4, none⟩ = some (.slice a r.2.2.2.2.length cap) ∧ r.2.2.2.2.length ≤ cap ∧ r.2.2.2.2.length ≤ 1099511627776 ∧ Pts w a r.2.2.2.2 ∧ (∀ c off, a = some ⟨c, off, none⟩ → N c)
def RwsAt (N : Nat → Prop) (w : World) (b o : Nat) (rs : List Rw) : Prop := ∀ j (h : j < rs.length), RwAt N w b (o + j * 5) rs[j]
def Rws (N : Nat → Prop) (w : World) (a : Option Addr) (rs : List Rw) : Prop := rs = [] ∨ ∃ b o, a = some ⟨b, o, none⟩ ∧ b < w.heap.size ∧ RwsAt N w b o rs
theorem RwAt.below {N : Nat → Prop} {w w' : World} {b o : Nat} {r : Rw} (h : RwAt N w b o r) (H : Below w.heap.size w w') : RwAt N w' b o r := by
  obtain ⟨a, cap, h0, h1, h2, h3, h4, h5, h6, h7, h8⟩ := h
  exact ⟨a, cap, keepcell H h0, keepcell H h1, keepcell H h2, keepcell H h3, keepcell H h4, h5, h6, h7.below H, h8⟩
theorem RwsAt.below {N : Nat → Prop} {w w' : World} {b o : Nat} {rs : List Rw} (h : RwsAt N w b o rs) (H : Below w.heap.size w w') : RwsAt N w' b o rs := fun j hj => (h j hj).below H
theorem Rws.below {N : Nat → Prop} {w w' : World} {a : Option Addr} {rs : List Rw} (h : Rws N w a rs) (H : Below w.heap.size w w') : Rws N w' a rs := by
  rcases h with h | ⟨b, o, e, hb, h⟩
  · exact .inl h
  · exact .inr ⟨b, o, e, Nat.lt_of_lt_of_le hb H.size, h.below H⟩
theorem Rws.at {N : Nat → Prop} {w : World} {a : Option Addr} {rs : List Rw} (h : Rws N w a rs) (j : Nat) (hj : j < rs.length) : ∃ b o, a = some ⟨b, o, none⟩ ∧ b < w.heap.size ∧ RwAt N w b (o + j * 5) rs[j] := by
  rcases h with h | ⟨b, o, e, hb, h⟩
  · subst h; simp at hj
  · exact ⟨b, o, e, hb, h j hj⟩
theorem RwAt.setR {N : Nat → Prop} {w : World} {b o q k : Nat} {u : Value} {r : Rw} (h : RwAt N w b o r) (hq : q ≠ b) (hN : ∀ c, N c → q ≠ c) : RwAt N (w.setCell ⟨q, k, none⟩ u) b o r := by
  have hblk : ∀ c, q ≠ c → (w.setCell ⟨q, k, none⟩ u).heap[c]? = w.heap[c]? := fun c hc => by
    show (w.heap.modify q _)[c]? = _
    rw [Array.getElem?_modify, if_neg hc]
  have hcc : ∀ c x, q ≠ c → (w.setCell ⟨q, k, none⟩ u).cell? ⟨c, x, none⟩ = w.cell? ⟨c, x, none⟩ := fun c x hc => by simp only [World.cell?, hblk c hc]
  obtain ⟨a, cap, h0, h1, h2, h3, h4, h5, h6, h7, h8⟩ := h
  refine ⟨a, cap, ?_, ?_, ?_, ?_, ?_, h5, h6, ?_, h8⟩
  · rw [hcc _ _ hq]; exact h0
  · rw [hcc _ _ hq]; exact h1
  · rw [hcc _ _ hq]; exact h2
  · rw [hcc _ _ hq]; exact h3
  · rw [hcc _ _ hq]; exact h4
  · rcases h7 with h7 | ⟨c, off, ea, hc, hp⟩
    · exact .inl h7
    · refine .inr ⟨c, off, ea, by simpa using hc, fun i hi => ?_⟩
      have hqc := hN c (h8 c off ea)
      rw [hcc _ _ hqc, hcc _ _ hqc]
      exact hp i hi
theorem RwsAt.setR {w : World} {B o q k : Nat} {u : Value} {rs : List Rw} (h : RwsAt (fun c => B < c) w B o rs) (hq : q ≠ B) (hlt : q < B) : RwsAt (fun c => B < c) (w.setCell ⟨q, k, none⟩ u) B o rs := fun j hj => (h j hj).setR hq (fun c hc => by omega)
theorem set2r {w : World} {p : Nat} {o0 o1 : Value} {t : TypeId} (h : w.heap[p]? = some (.cells #[o0, o1] t (0, 0))) (a b : Value) : ((w.setCell ⟨p, 0, none⟩ a).setCell ⟨p, 1, none⟩ b).heap[p]? = some (.cells #[a, b] t (0, 0)) := by
  have st : ∀ (W : World) (cs : Array Value) (k : Nat) (u : Value), W.heap[p]? = some (.cells cs t (0, 0)) → (W.setCell ⟨p, k, none⟩ u).heap[p]? = some (.cells (cs.setIfInBounds k u) t (0, 0)) := by
    intro W cs k u h
    have hlt := lt_of_block h
    have h' : W.heap[p] = .cells cs t (0, 0) := by simpa [Array.getElem?_eq_getElem hlt] using h
    show (W.heap.modify p _)[p]? = _
    rw [Array.getElem?_eq_getElem (by simpa using hlt), Array.getElem_modify_self, h']
    rfl
  have e4 := st _ _ 1 b (st _ _ 0 a h)
  simpa using e4
theorem cell5g {w : World} {p : Nat} {a b c d e : Value} {t : TypeId} (h : w.heap[p]? = some (.cells #[a, b, c, d, e] t (0, 0))) : (w.cell? ⟨p, 0, none⟩ = some a ∧ w.cell? ⟨p, 1, none⟩ = some b ∧ w.cell? ⟨p, 2, none⟩ = some c ∧ w.cell? ⟨p, 3, none⟩ = some d ∧ w.cell? ⟨p, 4, none⟩ = some e) ∧ w.frozen? ⟨p, 0, none⟩ = false ∧ w.frozen? ⟨p, 1, none⟩ = false ∧ w.frozen? ⟨p, 2, none⟩ = false ∧ w.frozen? ⟨p, 3, none⟩ = false ∧ w.frozen? ⟨p, 4, none⟩ = false := by
  refine ⟨⟨?_, ?_, ?_, ?_, ?_⟩, ?_, ?_, ?_, ?_, ?_⟩ <;> simp [World.cell?, World.frozen?, h]
theorem set5 {w : World} {p : Nat} {o0 o1 o2 o3 o4 : Value} {t : TypeId} (h : w.heap[p]? = some (.cells #[o0, o1, o2, o3, o4] t (0, 0))) (a b c d e : Value) :
    (((((w.setCell ⟨p, 0, none⟩ a).setCell ⟨p, 1, none⟩ b).setCell ⟨p, 2, none⟩ c).setCell ⟨p, 3, none⟩ d).setCell ⟨p, 4, none⟩ e).heap[p]? = some (.cells #[a, b, c, d, e] t (0, 0)) := by
  have st : ∀ (W : World) (cs : Array Value) (k : Nat) (u : Value), W.heap[p]? = some (.cells cs t (0, 0)) → (W.setCell ⟨p, k, none⟩ u).heap[p]? = some (.cells (cs.setIfInBounds k u) t (0, 0)) := by
    intro W cs k u h
    have hlt := lt_of_block h
    have h' : W.heap[p] = .cells cs t (0, 0) := by simpa [Array.getElem?_eq_getElem hlt] using h
    show (W.heap.modify p _)[p]? = _
    rw [Array.getElem?_eq_getElem (by simpa using hlt), Array.getElem_modify_self, h']
    rfl
  have e4 := st _ _ 4 e (st _ _ 3 d (st _ _ 2 c (st _ _ 1 b (st _ _ 0 a h))))
  simpa using e4
theorem set34 {w : World} {p : Nat} {o0 o1 o2 o3 o4 : Value} {t : TypeId} (h : w.heap[p]? = some (.cells #[o0, o1, o2, o3, o4] t (0, 0))) (d e : Value) :
    ((w.setCell ⟨p, 3, none⟩ d).setCell ⟨p, 4, none⟩ e).heap[p]? = some (.cells #[o0, o1, o2, d, e] t (0, 0)) := by
  have st : ∀ (W : World) (cs : Array Value) (k : Nat) (u : Value), W.heap[p]? = some (.cells cs t (0, 0)) → (W.setCell ⟨p, k, none⟩ u).heap[p]? = some (.cells (cs.setIfInBounds k u) t (0, 0)) := by
    intro W cs k u h
    have hlt := lt_of_block h
    have h' : W.heap[p] = .cells cs t (0, 0) := by simpa [Array.getElem?_eq_getElem hlt] using h
    show (W.heap.modify p _)[p]? = _
    rw [Array.getElem?_eq_getElem (by simpa using hlt), Array.getElem_modify_self, h']
    rfl
  have e4 := st _ _ 4 e (st _ _ 3 d h)
  simpa using e4
end Go.Proofs.YtkdoigibpaempaaGreatDoor
namespace Go.Proofs.YtkdoigibpaempaaGreatDoor
open Go.RowKit
set_option maxHeartbeats 2000000 in
theorem to_row (r : Rw) (a : Option Addr) (cap : Nat) (w : World) (hm : r.2.2.2.2.length ≤ 1099511627776) (hc : r.2.2.2.2.length ≤ cap) (h : Pts w a r.2.2.2.2) : Calls Tryz.prog 57 #[rwv r a cap] w fun e w' => ∃ b, e = .returned (rwv r (some ⟨b, 0, none⟩) r.2.2.2.2.length) ∧ w.heap.size ≤ b ∧ PtsOwn w' b r.2.2.2.2 ∧ Below w.heap.size w w' := by
  obtain ⟨id, fr, te, kd, ps⟩ := r
  unfold rwv
  simp only at *
  have TS := hid (fun (W : World) (hb : Below w.heap.size w W) => to_shape kd a cap ps W hm hc (h.below hb))
  unfold shv at TS
  clear h
  generalize hn : ps.length = n at *
  have HN := hid hn
  clear hn
  go_enter Tryz.func57, Tryz.ntmps57
  go_wp2_with fail
  have hB0 : Below w.heap.size w (((w.alloc (.cells #[.int .i64 id, .int .i64 fr, .int .i64 te, .int .i64 kd, .slice a n cap] 102)).alloc (.cells #[.int .i64 0, .int .i64 0, .int .i64 0, .int .i64 0, .slice none 0 0] 78)).alloc (.cells #[.int .i64 id, .int .i64 fr, .int .i64 te, .int .i64 0, .slice none 0 0] 78)) := balloc (balloc (balloc (Below.refl _ _) _) _) _
  have g2 := old_alloc (o' := .cells #[.int .i64 id, .int .i64 fr, .int .i64 te, .int .i64 0, .slice none 0 0] 78) (new_alloc (w.alloc (.cells #[.int .i64 id, .int .i64 fr, .int .i64 te, .int .i64 kd, .slice a n cap] 102)) (w.heap.size + 1) (.cells #[.int .i64 0, .int .i64 0, .int .i64 0, .int .i64 0, .slice none 0 0] 78) (by simp))
  have g3 := new_alloc ((w.alloc (.cells #[.int .i64 id, .int .i64 fr, .int .i64 te, .int .i64 kd, .slice a n cap] 102)).alloc (.cells #[.int .i64 0, .int .i64 0, .int .i64 0, .int .i64 0, .slice none 0 0] 78)) (w.heap.size + 1 + 1) (.cells #[.int .i64 id, .int .i64 fr, .int .i64 te, .int .i64 0, .slice none 0 0] 78) (by simp)
  generalize (((w.alloc (.cells #[.int .i64 id, .int .i64 fr, .int .i64 te, .int .i64 kd, .slice a n cap] 102)).alloc (.cells #[.int .i64 0, .int .i64 0, .int .i64 0, .int .i64 0, .slice none 0 0] 78)).alloc (.cells #[.int .i64 id, .int .i64 fr, .int .i64 te, .int .i64 0, .slice none 0 0] 78)) = W at *
  have hlW := lt_of_block g3
  refine (TS.out _ hB0).mono ?_
  rintro e w1 ⟨b, rfl, hbb, ho, hb1⟩
  replace g2 := keepheap2 hb1 g2
  replace g3 := keepheap2 hb1 g3
  have hB := btrans hB0 hb1
  have HO := hid ho
  clear hb1 hB0 ho
  obtain ⟨⟨a0, a1, a2, a3, a4⟩, f0, f1, f2, f3, f4⟩ := cell5g g2
  obtain ⟨⟨b0, b1, b2, b3, b4⟩, e0, e1, e2, e3, e4⟩ := cell5g g3
  go_wp2_with fail
  have gF := set5 (set_far (q := w.heap.size + 1 + 1) (k := 4) (u := .slice (some ⟨b, 0, none⟩) n n) (set_far (q := w.heap.size + 1 + 1) (k := 3) (u := .int .i64 kd) g2 (by omega)) (by omega)) (.int .i64 id) (.int .i64 fr) (.int .i64 te) (.int .i64 kd) (.slice (some ⟨b, 0, none⟩) n n)
  have bF : Below w.heap.size w (((((((w1.setCell ⟨w.heap.size + 1 + 1, 3, none⟩ (.int .i64 kd)).setCell ⟨w.heap.size + 1 + 1, 4, none⟩ (.slice (some ⟨b, 0, none⟩) n n)).setCell ⟨w.heap.size + 1, 0, none⟩ (.int .i64 id)).setCell ⟨w.heap.size + 1, 1, none⟩ (.int .i64 fr)).setCell ⟨w.heap.size + 1, 2, none⟩ (.int .i64 te)).setCell ⟨w.heap.size + 1, 3, none⟩ (.int .i64 kd)).setCell ⟨w.heap.size + 1, 4, none⟩ (.slice (some ⟨b, 0, none⟩) n n)) := bset (bset (bset (bset (bset (bset (bset hB (by omega) _) (by omega) _) (by omega) _) (by omega) _) (by omega) _) (by omega) _) (by omega) _
  have oF : PtsOwn (((((((w1.setCell ⟨w.heap.size + 1 + 1, 3, none⟩ (.int .i64 kd)).setCell ⟨w.heap.size + 1 + 1, 4, none⟩ (.slice (some ⟨b, 0, none⟩) n n)).setCell ⟨w.heap.size + 1, 0, none⟩ (.int .i64 id)).setCell ⟨w.heap.size + 1, 1, none⟩ (.int .i64 fr)).setCell ⟨w.heap.size + 1, 2, none⟩ (.int .i64 te)).setCell ⟨w.heap.size + 1, 3, none⟩ (.int .i64 kd)).setCell ⟨w.heap.size + 1, 4, none⟩ (.slice (some ⟨b, 0, none⟩) n n)) b ps := by
    refine HO.out.of_block ?_ (by simp)
    rw [Below.heap_setCell _ _ _ _ (by dsimp only; omega), Below.heap_setCell _ _ _ _ (by dsimp only; omega), Below.heap_setCell _ _ _ _ (by dsimp only; omega), Below.heap_setCell _ _ _ _ (by dsimp only; omega), Below.heap_setCell _ _ _ _ (by dsimp only; omega), Below.heap_setCell _ _ _ _ (by dsimp only; omega), Below.heap_setCell _ _ _ _ (by dsimp only; omega)]
  generalize ((((((w1.setCell ⟨w.heap.size + 1 + 1, 3, none⟩ (.int .i64 kd)).setCell ⟨w.heap.size + 1 + 1, 4, none⟩ (.slice (some ⟨b, 0, none⟩) n n)).setCell ⟨w.heap.size + 1, 0, none⟩ (.int .i64 id)).setCell ⟨w.heap.size + 1, 1, none⟩ (.int .i64 fr)).setCell ⟨w.heap.size + 1, 2, none⟩ (.int .i64 te)).setCell ⟨w.heap.size + 1, 3, none⟩ (.int .i64 kd)).setCell ⟨w.heap.size + 1, 4, none⟩ (.slice (some ⟨b, 0, none⟩) n n) = wf at *
  obtain ⟨⟨z0, z1, z2, z3, z4⟩, _⟩ := cell5g gF
  exact bodyPost_ret (v := .agg #[.int .i64 id, .int .i64 fr, .int .i64 te, .int .i64 kd, .slice (some ⟨b, 0, none⟩) n n]) (by simp [results, Tryz.results57, go_sem, z0, z1, z2, z3, z4]) rfl ⟨b, rfl, by omega, oF, bF⟩
theorem Tryz.infoRow : (Tryz.prog.info? 78).map (fun i => (i.zero, i.size, i.bytes)) = some (some (.agg #[.int .i64 0, .int .i64 0, .int .i64 0, .int .i64 0, .slice none 0 0]), 5, 56) := by kernel_rfl
theorem make_rows (n : Nat) (hn : n ≤ 1099511627776) (w : World) : (Instr.makeSlice 29 (.int .i64 n) (.int .i64 n)).run Tryz.prog w = .ok (.slice (some ⟨w.heap.size, 0, none⟩) n n) (w.alloc (.cells (madeCells #[.int .i64 0, .int .i64 0, .int .i64 0, .int .i64 0, .slice none 0 0] (n * 5)) 78)) := by
  obtain ⟨i0, hi, hz0, hz1, hz2⟩ := info_parts Tryz.infoRow
  have := run_make (P := Tryz.prog) w 29 78 i0 _ Tryz.underlying29 hi hz0 .i64 .i64 n n (by omega) (by omega) (by rw [hz2]; omega) (by omega)
  rw [hz1] at this
  exact this
theorem made_own5 (w : World) (n : Nat) : (w.alloc (.cells (madeCells #[.int .i64 0, .int .i64 0, .int .i64 0, .int .i64 0, .slice none 0 0] (n * 5)) 78)).there w.heap.size 0 (n * 5) := by
  intro j hj
  simp only [Nat.zero_add]
  refine ⟨?_, World.frozen?_alloc_new w _ _ j⟩
  rw [World.cell?_alloc_new]
  have hs := size_madeCells #[.int .i64 0, .int .i64 0, .int .i64 0, .int .i64 0, .slice none 0 0] (n * 5)
  rw [Array.getElem?_eq_getElem (by rw [hs]; exact hj)]
  rfl
theorem put_row {N : Nat → Prop} {w : World} {B k n b : Nat} {rs : List Rw} (hN : ∀ c, N c → c ≠ B) (hk : k < rs.length) (hn : rs.length = n) (h : ∀ j (hj : j < rs.length), j < k → RwAt N w B (j * 5) rs[j]) (ht : w.there B 0 (n * 5)) (hb : N b) (hm : rs[k].2.2.2.2.length ≤ 1099511627776) (ho : PtsOwn w b rs[k].2.2.2.2) :
    (∀ j (hj : j < rs.length), j < k + 1 → RwAt N (((((w.setCell ⟨B, k * 5, none⟩ (.int .i64 rs[k].1)).setCell ⟨B, k * 5 + 1, none⟩ (.int .i64 rs[k].2.1)).setCell ⟨B, k * 5 + 2, none⟩ (.int .i64 rs[k].2.2.1)).setCell ⟨B, k * 5 + 3, none⟩ (.int .i64 rs[k].2.2.2.1)).setCell ⟨B, k * 5 + 4, none⟩ (.slice (some ⟨b, 0, none⟩) rs[k].2.2.2.2.length rs[k].2.2.2.2.length)) B (j * 5) rs[j]) ∧
    (((((w.setCell ⟨B, k * 5, none⟩ (.int .i64 rs[k].1)).setCell ⟨B, k * 5 + 1, none⟩ (.int .i64 rs[k].2.1)).setCell ⟨B, k * 5 + 2, none⟩ (.int .i64 rs[k].2.2.1)).setCell ⟨B, k * 5 + 3, none⟩ (.int .i64 rs[k].2.2.2.1)).setCell ⟨B, k * 5 + 4, none⟩ (.slice (some ⟨b, 0, none⟩) rs[k].2.2.2.2.length rs[k].2.2.2.2.length)).there B 0 (n * 5) := by
  subst hn
  have e : ((((w.setCell ⟨B, k * 5, none⟩ (.int .i64 rs[k].1)).setCell ⟨B, k * 5 + 1, none⟩ (.int .i64 rs[k].2.1)).setCell ⟨B, k * 5 + 2, none⟩ (.int .i64 rs[k].2.2.1)).setCell ⟨B, k * 5 + 3, none⟩ (.int .i64 rs[k].2.2.2.1)).setCell ⟨B, k * 5 + 4, none⟩ (.slice (some ⟨b, 0, none⟩) rs[k].2.2.2.2.length rs[k].2.2.2.2.length) = w.setCells B (k * 5) [.int .i64 rs[k].1, .int .i64 rs[k].2.1, .int .i64 rs[k].2.2.1, .int .i64 rs[k].2.2.2.1, .slice (some ⟨b, 0, none⟩) rs[k].2.2.2.2.length rs[k].2.2.2.2.length] := rfl
  have hblk : ∀ c, c ≠ B → (w.setCells B (k * 5) [.int .i64 rs[k].1, .int .i64 rs[k].2.1, .int .i64 rs[k].2.2.1, .int .i64 rs[k].2.2.2.1, .slice (some ⟨b, 0, none⟩) rs[k].2.2.2.2.length rs[k].2.2.2.2.length]).heap[c]? = w.heap[c]? := by
    intro c hc
    rw [← e]
    rw [Below.heap_setCell _ _ _ _ (by dsimp only; omega), Below.heap_setCell _ _ _ _ (by dsimp only; omega), Below.heap_setCell _ _ _ _ (by dsimp only; omega), Below.heap_setCell _ _ _ _ (by dsimp only; omega), Below.heap_setCell _ _ _ _ (by dsimp only; omega)]
  have hsz : (w.setCells B (k * 5) [.int .i64 rs[k].1, .int .i64 rs[k].2.1, .int .i64 rs[k].2.2.1, .int .i64 rs[k].2.2.2.1, .slice (some ⟨b, 0, none⟩) rs[k].2.2.2.2.length rs[k].2.2.2.2.length]).heap.size = w.heap.size := by
    rw [← e]; simp
  rw [e]
  have hth : w.there B (k * 5) 5 := by
    intro j hj
    have := ht (k * 5 + j) (by omega)
    rwa [Nat.zero_add] at this
  have hr := World.rangeAt_setCells_same w B (k * 5) [.int .i64 rs[k].1, .int .i64 rs[k].2.1, .int .i64 rs[k].2.2.1, .int .i64 rs[k].2.2.2.1, .slice (some ⟨b, 0, none⟩) rs[k].2.2.2.2.length rs[k].2.2.2.2.length] hth
  refine ⟨?_, World.there_setCells ht _ _ _⟩
  intro j hj hjk
  by_cases ej : j = k
  · subst ej
    refine ⟨some ⟨b, 0, none⟩, rs[j].2.2.2.2.length, by simpa using hr 0 _ rfl, hr 1 _ rfl, hr 2 _ rfl, hr 3 _ rfl, hr 4 _ rfl, Nat.le_refl _, hm, (ho.of_block (hblk b (hN b hb)) (by omega)).pts, fun c off e => by cases e; exact hb⟩
  · obtain ⟨a, cap, h0, h1, h2, h3, h4, h5, h6, h7, h8⟩ := h j hj (by omega)
    have far : ∀ i, i < 5 → (w.setCells B (k * 5) [.int .i64 rs[k].1, .int .i64 rs[k].2.1, .int .i64 rs[k].2.2.1, .int .i64 rs[k].2.2.2.1, .slice (some ⟨b, 0, none⟩) rs[k].2.2.2.2.length rs[k].2.2.2.2.length]).cell? ⟨B, j * 5 + i, none⟩ = w.cell? ⟨B, j * 5 + i, none⟩ := by
      intro i hi
      exact World.cell?_setCells_out B _ (k * 5) w ⟨B, j * 5 + i, none⟩ (fun _ _ => by left; show j * 5 + i < k * 5; omega)
    refine ⟨a, cap, ?_, ?_, ?_, ?_, ?_, h5, h6, ?_, h8⟩
    · have := far 0 (by omega); simp only [Nat.add_zero] at this; rw [this]; exact h0
    · rw [far 1 (by omega)]; exact h1
    · rw [far 2 (by omega)]; exact h2
    · rw [far 3 (by omega)]; exact h3
    · rw [far 4 (by omega)]; exact h4
    · rcases h7 with h7 | ⟨c, off, ea, hc, hp⟩
      · exact .inl h7
      · refine .inr ⟨c, off, ea, by omega, fun i hi => ?_⟩
        have hcb := hblk c (hN c (h8 c off ea))
        have hcc : ∀ q, (w.setCells B (k * 5) [.int .i64 rs[k].1, .int .i64 rs[k].2.1, .int .i64 rs[k].2.2.1, .int .i64 rs[k].2.2.2.1, .slice (some ⟨b, 0, none⟩) rs[k].2.2.2.2.length rs[k].2.2.2.2.length]).cell? ⟨c, q, none⟩ = w.cell? ⟨c, q, none⟩ := fun q => by simp only [World.cell?, hcb]
        rw [hcc, hcc]
        exact hp i hi
set_option maxHeartbeats 2000000 in
theorem to_rowS {N : Nat → Prop} (a : Option Addr) (cap : Nat) (rs : List Rw) (w : World) (hm : rs.length ≤ 1099511627776) (h : Rws N w a rs) : Calls Tryz.prog 36 #[.slice a rs.length cap] w fun e w' => ∃ B, e = .returned (.slice (some ⟨B, 0, none⟩) rs.length rs.length) ∧ w.heap.size ≤ B ∧ B < w'.heap.size ∧ RwsAt (fun c => B < c) w' B 0 rs ∧ w'.there B 0 (rs.length * 5) ∧ Below w.heap.size w w' := by
  have HR := hid h
  clear h
  have hmk := make_rows rs.length hm
  obtain ⟨n, hn⟩ : ∃ n, n = rs.length := ⟨_, rfl⟩
  have HN := hid hn.symm
  rw [← hn] at hmk hm ⊢
  clear hn
  go_enter Tryz.func36, Tryz.ntmps36
  go_wp2_with fail
  have hB : Below w.heap.size w (w.alloc (.cells (madeCells #[.int .i64 0, .int .i64 0, .int .i64 0, .int .i64 0, .slice none 0 0] (n * 5)) 78)) := balloc (Below.refl _ _) _
  have hT := made_own5 w n
  have hl : w.heap.size < (w.alloc (.cells (madeCells #[.int .i64 0, .int .i64 0, .int .i64 0, .int .i64 0, .slice none 0 0] (n * 5)) 78)).heap.size := by simp
  generalize w.alloc (.cells (madeCells #[.int .i64 0, .int .i64 0, .int .i64 0, .int .i64 0, .slice none 0 0] (n * 5)) 78) = W at *
  clear hmk
  go_loopw [4] (fun ti wr => ∃ j : Nat, ti = .int .i64 j ∧ j ≤ n ∧ Hid (w.heap.size < wr.heap.size) ∧ Hid (∀ i (hi : i < rs.length), i < j → RwAt (fun c => w.heap.size < c) wr w.heap.size (i * 5) rs[i]) ∧ Hid (wr.there w.heap.size 0 (n * 5)) ∧ Hid (Below w.heap.size w wr)) (fun ti _ => n - (intOf ti).toNat)
  case atStart => exact ⟨0, rfl, Nat.zero_le _, hid hl, hid (fun i hi h => absurd h (by omega)), hid hT, hid hB⟩
  case round =>
    clear hB hT hl
    obtain ⟨j, rfl, hj, HL, HP, HT, HBW⟩ := hrel
    by_cases hlt : j < n
    · have c1 : (j : Int) < (n : Int) := by omega
      have hjr : j < rs.length := by rw [HN.out]; exact hlt
      obtain ⟨b, o, rfl, hbs, hr⟩ := (HR.out.below HBW.out).at j hjr
      obtain ⟨a', cap', k0, k1, k2, k3, k4, k5, k6, k7, k8⟩ := hr
      have TR := hid (to_row rs[j] a' cap' wr k6 k5 k7)
      have HPR := hid (fun (W : World) (bb : Nat) => put_row (N := fun c => w.heap.size < c) (w := W) (B := w.heap.size) (k := j) (n := n) (b := bb) (rs := rs) (fun c hc => by omega) hjr HN.out)
      have HK6 := hid k6
      unfold rwv at TR
      clear k5 k6 k7 k8
      generalize rs[j].1 = id at *
      generalize rs[j].2.1 = fr at *
      generalize rs[j].2.2.1 = te at *
      generalize rs[j].2.2.2.1 = kd at *
      generalize rs[j].2.2.2.2 = ps at *
      go_wp2_with fail
      refine TR.out.mono ?_
      rintro e w1 ⟨bb, rfl, hbb, ho, hb1⟩
      have hP := fun i (hi : i < rs.length) (h : i < j) => (HP.out i hi h).below hb1
      have hT := there_below HT.out HL.out hb1
      have hB := btrans HBW.out hb1
      have hL : w.heap.size < w1.heap.size := Nat.lt_of_lt_of_le HL.out hb1.size
      have hbl : w.heap.size < bb := Nat.lt_of_lt_of_le HL.out hbb
      have HPUT := hid (HPR.out w1 bb hP hT hbl HK6.out ho)
      have q := fun i (hi : i < n * 5) => hT i hi
      obtain ⟨x0, y0⟩ := q (j * 5) (by omega)
      obtain ⟨x1, y1⟩ := q (j * 5 + 1) (by omega)
      obtain ⟨x2, y2⟩ := q (j * 5 + 2) (by omega)
      obtain ⟨x3, y3⟩ := q (j * 5 + 3) (by omega)
      obtain ⟨x4, y4⟩ := q (j * 5 + 4) (by omega)
      obtain ⟨v0, z0⟩ := Option.isSome_iff_exists.1 x0
      obtain ⟨v1, z1⟩ := Option.isSome_iff_exists.1 x1
      obtain ⟨v2, z2⟩ := Option.isSome_iff_exists.1 x2
      obtain ⟨v3, z3⟩ := Option.isSome_iff_exists.1 x3
      obtain ⟨v4, z4⟩ := Option.isSome_iff_exists.1 x4
      simp only [Nat.zero_add, ← Nat.add_assoc] at z0 z1 z2 z3 z4 y0 y1 y2 y3 y4
      clear q x0 x1 x2 x3 x4 hP HPR hb1 ho TR
      have HL1 := hid hL
      have HB1 := hid hB
      clear hT
      go_wp2_with fail
      go_roundw
      case rel => exact ⟨j + 1, by go_num, by omega, hid (by simpa using hL), hid HPUT.out.1, hid HPUT.out.2, hid (bset (bset (bset (bset (bset hB (by omega) _) (by omega) _) (by omega) _) (by omega) _) (by omega) _)⟩
      case measure => simp [intOf]; omega
    · obtain rfl : n = j := by omega
      have c1 : (n : Int) ≤ (n : Int) := by omega
      go_wp2_with fail
      go_ret
      exact ⟨w.heap.size, rfl, Nat.le_refl _, HL.out, fun i hi => by have := HP.out i hi (by rw [HN.out] at hi; exact hi); simpa using this, HT.out, HBW.out⟩
end Go.Proofs.YtkdoigibpaempaaGreatDoor
