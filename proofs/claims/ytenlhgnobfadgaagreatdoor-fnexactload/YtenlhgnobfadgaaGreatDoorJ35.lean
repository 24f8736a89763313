/- Texts of stores, joined: Rw0. -/
import Derived.Test.YtenlhgnobfadgaaGreatDoorJ16
import Derived.Test.YtenlhgnobfadgaaGreatDoorJ10
namespace Go.Proofs.YtenlhgnobfadgaaGreatDoor
open Go.RowKit
set_option linter.unusedSimpArgs false
set_option linter.unusedVariables false
/-- A row: its Id, From, To, the shape's kind and points. -/
abbrev Rw : Type := Int × Int × Int × Int × List (Int × Int)
def rwv (r : Rw) (a : Option Addr) (cap : Nat) : Value := .agg #[.int .i64 r.1, .int .i64 r.2.1, .int .i64 r.2.2.1, .int .i64 r.2.2.2.1, .slice a r.2.2.2.2.length cap]
/-- A row at a place; the points' block is one of N. -/
def RwAt (N : Nat → Prop) (w : World) (b o : Nat) (r : Rw) : Prop :=
  ∃ a cap, w.cell? ⟨b, o, none⟩ = some (.int .i64 r.1) ∧ w.cell? ⟨b, o + 1, none⟩ = some (.int .i64 r.2.1) ∧ w.cell? ⟨b, o + 2, none⟩ = some (.int .i64 r.2.2.1) ∧ w.cell? ⟨b, o + 3, none⟩ = some (.int .i64 r.2.2.2.1) ∧ w.cell? ⟨b, o + 4, none⟩ = some (.slice a r.2.2.2.2.length cap) ∧ r.2.2.2.2.length ≤ cap ∧ r.2.2.2.2.length ≤ 1099511627776 ∧ Pts w a r.2.2.2.2 ∧ (∀ c off, a = some ⟨c, off, none⟩ → N c)
def RwsAt (N : Nat → Prop) (w : World) (b o : Nat) (rs : List Rw) : Prop := ∀ j (h : j < rs.length), RwAt N w b (o + j * 5) rs[j]
def Rws (N : Nat → Prop) (w : World) (a : Option Addr) (rs : List Rw) : Prop := rs = [] ∨ ∃ b o, a = some ⟨b, o, none⟩ ∧ b < w.heap.size ∧ RwsAt N w b o rs
theorem RwAt.below {N : Nat → Prop} {w w' : World} {b o : Nat} {r : Rw} (h : RwAt N w b o r) (H : Below w.heap.size w w') : RwAt N w' b o r := by
  obtain ⟨a, cap, h0, h1, h2, h3, h4, h5, h6, h7, h8⟩ := h
  exact ⟨a, cap, keepcell H h0, keepcell H h1, keepcell H h2, keepcell H h3, keepcell H h4, h5, h6, h7.below H, h8⟩
theorem RwsAt.below {N : Nat → Prop} {w w' : World} {b o : Nat} {rs : List Rw} (h : RwsAt N w b o rs) (H : Below w.heap.size w w') : RwsAt N w' b o rs := fun j hj => (h j hj).below H
theorem Rws.below {N : Nat → Prop} {w w' : World} {a : Option Addr} {rs : List Rw} (h : Rws N w a rs) (H : Below w.heap.size w w') : Rws N w' a rs := by
  rcases h with h | ⟨b, o, e, hb, h⟩
  · exact .inl h
  · exact .inr ⟨b, o, e, Nat.lt_of_lt_of_le hb H.size, h.below H⟩
theorem Rws.at {N : Nat → Prop} {w : World} {a : Option Addr} {rs : List Rw} (h : Rws N w a rs) (j : Nat) (hj : j < rs.length) : ∃ b o, a = some ⟨b, o, none⟩ ∧ b < w.heap.size ∧ RwAt N w b (o + j * 5) rs[j] := by
  rcases h with h | ⟨b, o, e, hb, h⟩
  · subst h; simp at hj
  · exact ⟨b, o, e, hb, h j hj⟩
theorem RwAt.setR {N : Nat → Prop} {w : World} {b o q k : Nat} {u : Value} {r : Rw} (h : RwAt N w b o r) (hq : q ≠ b) (hN : ∀ c, N c → q ≠ c) : RwAt N (w.setCell ⟨q, k, none⟩ u) b o r := by
  have hblk : ∀ c, q ≠ c → (w.setCell ⟨q, k, none⟩ u).heap[c]? = w.heap[c]? := fun c hc => by
    show (w.heap.modify q _)[c]? = _
    rw [Array.getElem?_modify, if_neg hc]
  have hcc : ∀ c x, q ≠ c → (w.setCell ⟨q, k, none⟩ u).cell? ⟨c, x, none⟩ = w.cell? ⟨c, x, none⟩ := fun c x hc => by simp only [World.cell?, hblk c hc]
  obtain ⟨a, cap, h0, h1, h2, h3, h4, h5, h6, h7, h8⟩ := h
  refine ⟨a, cap, ?_, ?_, ?_, ?_, ?_, h5, h6, ?_, h8⟩
  · rw [hcc _ _ hq]; exact h0
  · rw [hcc _ _ hq]; exact h1
  · rw [hcc _ _ hq]; exact h2
  · rw [hcc _ _ hq]; exact h3
  · rw [hcc _ _ hq]; exact h4
  · rcases h7 with h7 | ⟨c, off, ea, hc, hp⟩
    · exact .inl h7
    · refine .inr ⟨c, off, ea, by simpa using hc, fun i hi => ?_⟩
      have hqc := hN c (h8 c off ea)
      rw [hcc _ _ hqc, hcc _ _ hqc]
      exact hp i hi
theorem RwsAt.setR {w : World} {B o q k : Nat} {u : Value} {rs : List Rw} (h : RwsAt (fun c => B < c) w B o rs) (hq : q ≠ B) (hlt : q < B) : RwsAt (fun c => B < c) (w.setCell ⟨q, k, none⟩ u) B o rs := fun j hj => (h j hj).setR hq (fun c hc => by omega)
theorem set2r {w : World} {p : Nat} {o0 o1 : Value} {t : TypeId} (h : w.heap[p]? = some (.cells #[o0, o1] t (0, 0))) (a b : Value) : ((w.setCell ⟨p, 0, none⟩ a).setCell ⟨p, 1, none⟩ b).heap[p]? = some (.cells #[a, b] t (0, 0)) := by
  have st : ∀ (W : World) (cs : Array Value) (k : Nat) (u : Value), W.heap[p]? = some (.cells cs t (0, 0)) → (W.setCell ⟨p, k, none⟩ u).heap[p]? = some (.cells (cs.setIfInBounds k u) t (0, 0)) := by
    intro W cs k u h
    have hlt := lt_of_block h
    have h' : W.heap[p] = .cells cs t (0, 0) := by simpa [Array.getElem?_eq_getElem hlt] using h
    show (W.heap.modify p _)[p]? = _
    rw [Array.getElem?_eq_getElem (by simpa using hlt), Array.getElem_modify_self, h']
    rfl
  have e4 := st _ _ 1 b (st _ _ 0 a h)
  simpa using e4
theorem cell5g {w : World} {p : Nat} {a b c d e : Value} {t : TypeId} (h : w.heap[p]? = some (.cells #[a, b, c, d, e] t (0, 0))) : (w.cell? ⟨p, 0, none⟩ = some a ∧ w.cell? ⟨p, 1, none⟩ = some b ∧ w.cell? ⟨p, 2, none⟩ = some c ∧ w.cell? ⟨p, 3, none⟩ = some d ∧ w.cell? ⟨p, 4, none⟩ = some e) ∧ w.frozen? ⟨p, 0, none⟩ = false ∧ w.frozen? ⟨p, 1, none⟩ = false ∧ w.frozen? ⟨p, 2, none⟩ = false ∧ w.frozen? ⟨p, 3, none⟩ = false ∧ w.frozen? ⟨p, 4, none⟩ = false := by
  refine ⟨⟨?_, ?_, ?_, ?_, ?_⟩, ?_, ?_, ?_, ?_, ?_⟩ <;> simp [World.cell?, World.frozen?, h]
theorem set5 {w : World} {p : Nat} {o0 o1 o2 o3 o4 : Value} {t : TypeId} (h : w.heap[p]? = some (.cells #[o0, o1, o2, o3, o4] t (0, 0))) (a b c d e : Value) :
    (((((w.setCell ⟨p, 0, none⟩ a).setCell ⟨p, 1, none⟩ b).setCell ⟨p, 2, none⟩ c).setCell ⟨p, 3, none⟩ d).setCell ⟨p, 4, none⟩ e).heap[p]? = some (.cells #[a, b, c, d, e] t (0, 0)) := by
  have st : ∀ (W : World) (cs : Array Value) (k : Nat) (u : Value), W.heap[p]? = some (.cells cs t (0, 0)) → (W.setCell ⟨p, k, none⟩ u).heap[p]? = some (.cells (cs.setIfInBounds k u) t (0, 0)) := by
    intro W cs k u h
    have hlt := lt_of_block h
    have h' : W.heap[p] = .cells cs t (0, 0) := by simpa [Array.getElem?_eq_getElem hlt] using h
    show (W.heap.modify p _)[p]? = _
    rw [Array.getElem?_eq_getElem (by simpa using hlt), Array.getElem_modify_self, h']
    rfl
  have e4 := st _ _ 4 e (st _ _ 3 d (st _ _ 2 c (st _ _ 1 b (st _ _ 0 a h))))
  simpa using e4
theorem set34 {w : World} {p : Nat} {o0 o1 o2 o3 o4 : Value} {t : TypeId} (h : w.heap[p]? = some (.cells #[o0, o1, o2, o3, o4] t (0, 0))) (d e : Value) :
    ((w.setCell ⟨p, 3, none⟩ d).setCell ⟨p, 4, none⟩ e).heap[p]? = some (.cells #[o0, o1, o2, d, e] t (0, 0)) := by
  have st : ∀ (W : World) (cs : Array Value) (k : Nat) (u : Value), W.heap[p]? = some (.cells cs t (0, 0)) → (W.setCell ⟨p, k, none⟩ u).heap[p]? = some (.cells (cs.setIfInBounds k u) t (0, 0)) := by
    intro W cs k u h
    have hlt := lt_of_block h
    have h' : W.heap[p] = .cells cs t (0, 0) := by simpa [Array.getElem?_eq_getElem hlt] using h
    show (W.heap.modify p _)[p]? = _
    rw [Array.getElem?_eq_getElem (by simpa using hlt), Array.getElem_modify_self, h']
    rfl
  have e4 := st _ _ 4 e (st _ _ 3 d h)
  simpa using e4
end Go.Proofs.YtenlhgnobfadgaaGreatDoor
