/- Texts of stores, joined: Rw0, Rw, RwE, AreaM, Draw, DrawP, Mark, RwK. -/
import Derived.Test.YtigjdlpjibakjaaGreatPts2
import Derived.Test.YtigjdlpjibakjaaGreatGeo4
import Derived.Test.YtigjdlpjibakjaaGreatShLaw
import Derived.Deep.RegionHeld3
import Derived.Test.YtigjdlpjibakjaaGreatArea
import Derived.Test.YtigjdlpjibakjaaGreatRows
import Derived.WalkKit
import Derived.WalkSpells
import Derived.Handy
import Derived.BigQuiet
import Derived.Deep.QuietTactic
import Derived.Laws.BitsAllLaws
namespace Go.Proofs.YtigjdlpjibakjaaGreat
open Go.RowKit
set_option linter.unusedSimpArgs false
set_option linter.unusedVariables false
/-- A row: its Id, From, To, the shape's kind and points. -/
abbrev Rw : Type := Int × Int × Int × Int × List (Int × Int)
def rwv (r : Rw) (a : Option Addr) (cap : Nat) : Value := .agg #[.int .i64 r.1, .int .i64 r.2.1, .int .i64 r.2.2.1, .int .i64 r.2.2.2.1, .slice a r.2.2.2.2.length cap]
/-- A row at a place; the points' block is one of N. -/
def RwAt (N : Nat → Prop) (w : World) (b o : Nat) (r : Rw) : Prop :=
  ∃ a cap, w.cell? ⟨b, o, none⟩ = some (.int .i64 r.1) ∧ w.cell? ⟨b, o + 1, none⟩ = some (.int .i64 r.2.1) ∧ w.cell? ⟨b, o + 2, none⟩ = some (.int .i64 r.2.2.1) ∧ w.cell? ⟨b, o + 3, none⟩ = some (.int .i64 r.2.2.2.1) ∧ w.cell? ⟨b, o + 4, none⟩ = some (.slice a r.2.2.2.2.length cap) ∧ r.2.2.2.2.length ≤ cap ∧ r.2.2.2.2.length ≤ 1099511627776 ∧ Pts w a r.2.2.2.2 ∧ (∀ c off, a = some ⟨c, off, none⟩ → N c)
def RwsAt (N : Nat → Prop) (w : World) (b o : Nat) (rs : List Rw) : Prop := ∀ j (h : j < rs.length), RwAt N w b (o + j * 5) rs[j]
def Rws (N : Nat → Prop) (w : World) (a : Option Addr) (rs : List Rw) : Prop := rs = [] ∨ ∃ b o, a = some ⟨b, o, none⟩ ∧ b < w.heap.size ∧ RwsAt N w b o rs
theorem RwAt.below {N : Nat → Prop} {w w' : World} {b o : Nat} {r : Rw} (h : RwAt N w b o r) (H : Below w.heap.size w w') : RwAt N w' b o r := by
  obtain ⟨a, cap, h0, h1, h2, h3, h4, h5, h6, h7, h8⟩ := h
  exact ⟨a, cap, keepcell H h0, keepcell H h1, keepcell H h2, keepcell H h3, keepcell H h4, h5, h6, h7.below H, h8⟩
theorem RwsAt.below {N : Nat → Prop} {w w' : World} {b o : Nat} {rs : List Rw} (h : RwsAt N w b o rs) (H : Below w.heap.size w w') : RwsAt N w' b o rs := fun j hj => (h j hj).below H
theorem Rws.below {N : Nat → Prop} {w w' : World} {a : Option Addr} {rs : List Rw} (h : Rws N w a rs) (H : Below w.heap.size w w') : Rws N w' a rs := by
  rcases h with h | ⟨b, o, e, hb, h⟩
  · exact .inl h
  · exact .inr ⟨b, o, e, Nat.lt_of_lt_of_le hb H.size, h.below H⟩
theorem Rws.at {N : Nat → Prop} {w : World} {a : Option Addr} {rs : List Rw} (h : Rws N w a rs) (j : Nat) (hj : j < rs.length) : ∃ b o, a = some ⟨b, o, none⟩ ∧ b < w.heap.size ∧ RwAt N w b (o + j * 5) rs[j] := by
  rcases h with h | ⟨b, o, e, hb, h⟩
  · subst h; simp at hj
  · exact ⟨b, o, e, hb, h j hj⟩
theorem RwAt.setR {N : Nat → Prop} {w : World} {b o q k : Nat} {u : Value} {r : Rw} (h : RwAt N w b o r) (hq : q ≠ b) (hN : ∀ c, N c → q ≠ c) : RwAt N (w.setCell ⟨q, k, none⟩ u) b o r := by
  have hblk : ∀ c, q ≠ c → (w.setCell ⟨q, k, none⟩ u).heap[c]? = w.heap[c]? := fun c hc => by
    show (w.heap.modify q _)[c]? = _
    rw [Array.getElem?_modify, if_neg hc]
  have hcc : ∀ c x, q ≠ c → (w.setCell ⟨q, k, none⟩ u).cell? ⟨c, x, none⟩ = w.cell? ⟨c, x, none⟩ := fun c x hc => by simp only [World.cell?, hblk c hc]
  obtain ⟨a, cap, h0, h1, h2, h3, h4, h5, h6, h7, h8⟩ := h
  refine ⟨a, cap, ?_, ?_, ?_, ?_, ?_, h5, h6, ?_, h8⟩
  · rw [hcc _ _ hq]; exact h0
  · rw [hcc _ _ hq]; exact h1
  · rw [hcc _ _ hq]; exact h2
  · rw [hcc _ _ hq]; exact h3
  · rw [hcc _ _ hq]; exact h4
  · rcases h7 with h7 | ⟨c, off, ea, hc, hp⟩
    · exact .inl h7
    · refine .inr ⟨c, off, ea, by simpa using hc, fun i hi => ?_⟩
      have hqc := hN c (h8 c off ea)
      rw [hcc _ _ hqc, hcc _ _ hqc]
      exact hp i hi
theorem RwsAt.setR {w : World} {B o q k : Nat} {u : Value} {rs : List Rw} (h : RwsAt (fun c => B < c) w B o rs) (hq : q ≠ B) (hlt : q < B) : RwsAt (fun c => B < c) (w.setCell ⟨q, k, none⟩ u) B o rs := fun j hj => (h j hj).setR hq (fun c hc => by omega)
theorem set2r {w : World} {p : Nat} {o0 o1 : Value} {t : TypeId} (h : w.heap[p]? = some (.cells #[o0, o1] t (0, 0))) (a b : Value) : ((w.setCell ⟨p, 0, none⟩ a).setCell ⟨p, 1, none⟩ b).heap[p]? = some (.cells #[a, b] t (0, 0)) := by
  have st : ∀ (W : World) (cs : Array Value) (k : Nat) (u : Value), W.heap[p]? = some (.cells cs t (0, 0)) → (W.setCell ⟨p, k, none⟩ u).heap[p]? = some (.cells (cs.setIfInBounds k u) t (0, 0)) := by
    intro W cs k u h
    have hlt := lt_of_block h
    have h' : W.heap[p] = .cells cs t (0, 0) := by simpa [Array.getElem?_eq_getElem hlt] using h
    show (W.heap.modify p _)[p]? = _
    rw [Array.getElem?_eq_getElem (by simpa using hlt), Array.getElem_modify_self, h']
    rfl
  have e4 := st _ _ 1 b (st _ _ 0 a h)
  simpa using e4
theorem cell5g {w : World} {p : Nat} {a b c d e : Value} {t : TypeId} (h : w.heap[p]? = some (.cells #[a, b, c, d, e] t (0, 0))) : (w.cell? ⟨p, 0, none⟩ = some a ∧ w.cell? ⟨p, 1, none⟩ = some b ∧ w.cell? ⟨p, 2, none⟩ = some c ∧ w.cell? ⟨p, 3, none⟩ = some d ∧ w.cell? ⟨p, 4, none⟩ = some e) ∧ w.frozen? ⟨p, 0, none⟩ = false ∧ w.frozen? ⟨p, 1, none⟩ = false ∧ w.frozen? ⟨p, 2, none⟩ = false ∧ w.frozen? ⟨p, 3, none⟩ = false ∧ w.frozen? ⟨p, 4, none⟩ = false := by
  refine ⟨⟨?_, ?_, ?_, ?_, ?_⟩, ?_, ?_, ?_, ?_, ?_⟩ <;> simp [World.cell?, World.frozen?, h]
theorem set5 {w : World} {p : Nat} {o0 o1 o2 o3 o4 : Value} {t : TypeId} (h : w.heap[p]? = some (.cells #[o0, o1, o2, o3, o4] t (0, 0))) (a b c d e : Value) :
    (((((w.setCell ⟨p, 0, none⟩ a).setCell ⟨p, 1, none⟩ b).setCell ⟨p, 2, none⟩ c).setCell ⟨p, 3, none⟩ d).setCell ⟨p, 4, none⟩ e).heap[p]? = some (.cells #[a, b, c, d, e] t (0, 0)) := by
  have st : ∀ (W : World) (cs : Array Value) (k : Nat) (u : Value), W.heap[p]? = some (.cells cs t (0, 0)) → (W.setCell ⟨p, k, none⟩ u).heap[p]? = some (.cells (cs.setIfInBounds k u) t (0, 0)) := by
    intro W cs k u h
    have hlt := lt_of_block h
    have h' : W.heap[p] = .cells cs t (0, 0) := by simpa [Array.getElem?_eq_getElem hlt] using h
    show (W.heap.modify p _)[p]? = _
    rw [Array.getElem?_eq_getElem (by simpa using hlt), Array.getElem_modify_self, h']
    rfl
  have e4 := st _ _ 4 e (st _ _ 3 d (st _ _ 2 c (st _ _ 1 b (st _ _ 0 a h))))
  simpa using e4
theorem set34 {w : World} {p : Nat} {o0 o1 o2 o3 o4 : Value} {t : TypeId} (h : w.heap[p]? = some (.cells #[o0, o1, o2, o3, o4] t (0, 0))) (d e : Value) :
    ((w.setCell ⟨p, 3, none⟩ d).setCell ⟨p, 4, none⟩ e).heap[p]? = some (.cells #[o0, o1, o2, d, e] t (0, 0)) := by
  have st : ∀ (W : World) (cs : Array Value) (k : Nat) (u : Value), W.heap[p]? = some (.cells cs t (0, 0)) → (W.setCell ⟨p, k, none⟩ u).heap[p]? = some (.cells (cs.setIfInBounds k u) t (0, 0)) := by
    intro W cs k u h
    have hlt := lt_of_block h
    have h' : W.heap[p] = .cells cs t (0, 0) := by simpa [Array.getElem?_eq_getElem hlt] using h
    show (W.heap.modify p _)[p]? = _
    rw [Array.getElem?_eq_getElem (by simpa using hlt), Array.getElem_modify_self, h']
    rfl
  have e4 := st _ _ 4 e (st _ _ 3 d h)
  simpa using e4
end Go.Proofs.YtigjdlpjibakjaaGreat
namespace Go.Proofs.YtigjdlpjibakjaaGreat
open Go.RowKit
set_option linter.unusedSimpArgs false
set_option linter.unusedVariables false
set_option maxHeartbeats 1000000 in
theorem sz_row (r : Rw) (a : Option Addr) (cap : Nat) (left : Int) (w : World) (hm : r.2.2.2.2.length ≤ 1099511627776) (h0 : 0 ≤ left) (h1 : left ≤ 1048576) : Calls Tryz.prog 67 #[rwv r a cap, .int .i64 left] w fun e w' => (∃ v : Int, e = .returned (.int .i64 v) ∧ (v = -1 ∨ (0 ≤ v ∧ v ≤ 1048576))) ∧ Below w.heap.size w w' := by
  obtain ⟨id, fr, te, kd, ps⟩ := r
  unfold rwv
  simp only at *
  by_cases h : left < (ps.length : Int)
  · go_enter Tryz.func67, Tryz.ntmps67
    go_wp2_with fail
    refine (szs_big kd a ps.length cap left _ (by omega) h0 h1 h).mono ?_
    rintro e w1 ⟨rfl, hb⟩
    go_wp2_with fail
    go_ret
    exact ⟨⟨_, rfl, .inl rfl⟩, btrans (balloc (Below.refl _ _) _) hb⟩
  · have h2 : ¬ (left - (ps.length : Int) < 0) := by omega
    go_enter Tryz.func67, Tryz.ntmps67
    go_wp2_with fail
    refine (szs_ok kd a ps.length cap left _ h0 h1 (by omega)).mono ?_
    rintro e w1 ⟨rfl, hb⟩
    go_wp2_with fail
    go_ret
    exact ⟨⟨_, rfl, .inr ⟨by omega, by omega⟩⟩, btrans (balloc (Below.refl _ _) _) hb⟩
set_option maxHeartbeats 1000000 in
theorem sz_rows {N : Nat → Prop} (a : Option Addr) (cap : Nat) (rs : List Rw) (left : Int) (w : World) (hm : rs.length ≤ 1099511627776) (h0 : 0 ≤ left) (h1 : left ≤ 1048576) (h : Rws N w a rs) : Calls Tryz.prog 34 #[.slice a rs.length cap, .int .i64 left] w fun e w' => (∃ v : Int, e = .returned (.int .i64 v) ∧ (v = -1 ∨ (0 ≤ v ∧ v ≤ 1048576))) ∧ Below w.heap.size w w' := by
  have HR := hid h
  clear h
  by_cases hb : left < (rs.length : Int)
  · have h2 : left - (rs.length : Int) < 0 := by omega
    go_enter Tryz.func34, Tryz.ntmps34
    go_wp2_with fail
    go_ret
    exact ⟨⟨_, rfl, .inl rfl⟩, Below.refl _ _⟩
  · have h2 : ¬ (left - (rs.length : Int) < 0) := by omega
    go_enter Tryz.func34, Tryz.ntmps34
    go_wp2_with fail
    go_loopw [5, 1] (fun ti tl wr => ∃ j : Nat, ∃ l : Int, ti = .int .i64 j ∧ tl = .int .i64 l ∧ j ≤ rs.length ∧ 0 ≤ l ∧ l ≤ 1048576 ∧ Hid (Below w.heap.size w wr)) (fun ti _ _ => rs.length - (intOf ti).toNat)
    case atStart => exact ⟨0, _, rfl, rfl, Nat.zero_le _, by omega, by omega, hid (Below.refl _ _)⟩
    case round =>
      obtain ⟨j, l, rfl, rfl, hj, hl0, hl1, HB⟩ := hrel
      by_cases hlt : j < rs.length
      · have c1 : (j : Int) < (rs.length : Int) := by omega
        obtain ⟨b, o, rfl, hbs, hr⟩ := (HR.out.below HB.out).at j hlt
        have hmr : rs[j].2.2.2.2.length ≤ 1099511627776 := by obtain ⟨_, _, _, _, _, _, _, _, h6, _⟩ := hr; exact h6
        obtain ⟨a', cap', k0, k1, k2, k3, k4, k5, k6, k7, k8⟩ := hr
        have S := hid (fun w' => sz_row rs[j] a' cap' l w' hmr hl0 hl1)
        unfold rwv at S
        generalize rs[j].1 = id at *
        generalize rs[j].2.1 = fr at *
        generalize rs[j].2.2.1 = te at *
        generalize rs[j].2.2.2.1 = kd at *
        generalize rs[j].2.2.2.2 = ps at *
        clear k7 k8 k5 k6 hmr
        go_wp2_with fail
        refine (S.out _).mono ?_
        rintro e w1 ⟨⟨v, rfl, hv⟩, hb1⟩
        have hB := btrans HB.out hb1
        rcases hv with rfl | ⟨hv0, hv1⟩
        · go_wp2_with fail
          go_ret
          exact ⟨⟨_, rfl, .inl rfl⟩, hB⟩
        · have hv2 : ¬ v < 0 := by omega
          go_wp2_with fail
          go_roundw
          case rel => exact ⟨j + 1, v, by go_num, rfl, by omega, hv0, hv1, hid hB⟩
          case measure => simp [intOf]; omega
      · have c1 : (rs.length : Int) ≤ (j : Int) := by omega
        go_wp2_with fail
        go_ret
        exact ⟨⟨_, rfl, .inr ⟨hl0, hl1⟩⟩, HB.out⟩
set_option maxHeartbeats 1000000 in
theorem sz_all {N : Nat → Prop} (now : Int) (a : Option Addr) (cap : Nat) (rs : List Rw) (w : World) (hm : rs.length ≤ 1099511627776) (h : Rws N w a rs) : Calls Tryz.prog 14 #[.agg #[.int .i64 now, .slice a rs.length cap], .int .i64 1048576] w fun e w' => (∃ v : Int, e = .returned (.int .i64 v) ∧ (v = -1 ∨ (0 ≤ v ∧ v ≤ 1048576))) ∧ Below w.heap.size w w' := by
  have HR := hid (fun (W : World) (hb : Below w.heap.size w W) => sz_rows a cap rs 1048576 W hm (by omega) (by omega) (h.below hb))
  clear h
  generalize rs.length = n at *
  go_enter Tryz.func14, Tryz.ntmps14
  go_wp2_with fail
  refine (HR.out _ (balloc (Below.refl _ _) _)).mono ?_
  rintro e w1 ⟨⟨v, rfl, hv⟩, hb⟩
  have hB := btrans (balloc (Below.refl _ w) _) hb
  rcases hv with rfl | ⟨hv0, hv1⟩
  · go_wp2_with fail
    go_ret
    exact ⟨⟨_, rfl, .inl rfl⟩, hB⟩
  · have hv2 : ¬ v < 0 := by omega
    go_wp2_with fail
    go_ret
    exact ⟨⟨_, rfl, .inr ⟨hv0, hv1⟩⟩, hB⟩
set_option maxHeartbeats 2000000 in
theorem to_row (r : Rw) (a : Option Addr) (cap : Nat) (w : World) (hm : r.2.2.2.2.length ≤ 1099511627776) (hc : r.2.2.2.2.length ≤ cap) (h : Pts w a r.2.2.2.2) : Calls Tryz.prog 74 #[rwv r a cap] w fun e w' => ∃ b, e = .returned (rwv r (some ⟨b, 0, none⟩) r.2.2.2.2.length) ∧ w.heap.size ≤ b ∧ PtsOwn w' b r.2.2.2.2 ∧ Below w.heap.size w w' := by
  obtain ⟨id, fr, te, kd, ps⟩ := r
  unfold rwv
  simp only at *
  have TS := hid (fun (W : World) (hb : Below w.heap.size w W) => to_shape kd a cap ps W hm hc (h.below hb))
  unfold shv at TS
  clear h
  generalize hn : ps.length = n at *
  have HN := hid hn
  clear hn
  go_enter Tryz.func74, Tryz.ntmps74
  go_wp2_with fail
  have hB0 : Below w.heap.size w (((w.alloc (.cells #[.int .i64 id, .int .i64 fr, .int .i64 te, .int .i64 kd, .slice a n cap] 101)).alloc (.cells #[.int .i64 0, .int .i64 0, .int .i64 0, .int .i64 0, .slice none 0 0] 88)).alloc (.cells #[.int .i64 id, .int .i64 fr, .int .i64 te, .int .i64 0, .slice none 0 0] 88)) := balloc (balloc (balloc (Below.refl _ _) _) _) _
  have g2 := old_alloc (o' := .cells #[.int .i64 id, .int .i64 fr, .int .i64 te, .int .i64 0, .slice none 0 0] 88) (new_alloc (w.alloc (.cells #[.int .i64 id, .int .i64 fr, .int .i64 te, .int .i64 kd, .slice a n cap] 101)) (w.heap.size + 1) (.cells #[.int .i64 0, .int .i64 0, .int .i64 0, .int .i64 0, .slice none 0 0] 88) (by simp))
  have g3 := new_alloc ((w.alloc (.cells #[.int .i64 id, .int .i64 fr, .int .i64 te, .int .i64 kd, .slice a n cap] 101)).alloc (.cells #[.int .i64 0, .int .i64 0, .int .i64 0, .int .i64 0, .slice none 0 0] 88)) (w.heap.size + 1 + 1) (.cells #[.int .i64 id, .int .i64 fr, .int .i64 te, .int .i64 0, .slice none 0 0] 88) (by simp)
  generalize (((w.alloc (.cells #[.int .i64 id, .int .i64 fr, .int .i64 te, .int .i64 kd, .slice a n cap] 101)).alloc (.cells #[.int .i64 0, .int .i64 0, .int .i64 0, .int .i64 0, .slice none 0 0] 88)).alloc (.cells #[.int .i64 id, .int .i64 fr, .int .i64 te, .int .i64 0, .slice none 0 0] 88)) = W at *
  have hlW := lt_of_block g3
  refine (TS.out _ hB0).mono ?_
  rintro e w1 ⟨b, rfl, hbb, ho, hb1⟩
  replace g2 := keepheap2 hb1 g2
  replace g3 := keepheap2 hb1 g3
  have hB := btrans hB0 hb1
  have HO := hid ho
  clear hb1 hB0 ho
  obtain ⟨⟨a0, a1, a2, a3, a4⟩, f0, f1, f2, f3, f4⟩ := cell5g g2
  obtain ⟨⟨b0, b1, b2, b3, b4⟩, e0, e1, e2, e3, e4⟩ := cell5g g3
  go_wp2_with fail
  have gF := set5 (set_far (q := w.heap.size + 1 + 1) (k := 4) (u := .slice (some ⟨b, 0, none⟩) n n) (set_far (q := w.heap.size + 1 + 1) (k := 3) (u := .int .i64 kd) g2 (by omega)) (by omega)) (.int .i64 id) (.int .i64 fr) (.int .i64 te) (.int .i64 kd) (.slice (some ⟨b, 0, none⟩) n n)
  have bF : Below w.heap.size w (((((((w1.setCell ⟨w.heap.size + 1 + 1, 3, none⟩ (.int .i64 kd)).setCell ⟨w.heap.size + 1 + 1, 4, none⟩ (.slice (some ⟨b, 0, none⟩) n n)).setCell ⟨w.heap.size + 1, 0, none⟩ (.int .i64 id)).setCell ⟨w.heap.size + 1, 1, none⟩ (.int .i64 fr)).setCell ⟨w.heap.size + 1, 2, none⟩ (.int .i64 te)).setCell ⟨w.heap.size + 1, 3, none⟩ (.int .i64 kd)).setCell ⟨w.heap.size + 1, 4, none⟩ (.slice (some ⟨b, 0, none⟩) n n)) := bset (bset (bset (bset (bset (bset (bset hB (by omega) _) (by omega) _) (by omega) _) (by omega) _) (by omega) _) (by omega) _) (by omega) _
  have oF : PtsOwn (((((((w1.setCell ⟨w.heap.size + 1 + 1, 3, none⟩ (.int .i64 kd)).setCell ⟨w.heap.size + 1 + 1, 4, none⟩ (.slice (some ⟨b, 0, none⟩) n n)).setCell ⟨w.heap.size + 1, 0, none⟩ (.int .i64 id)).setCell ⟨w.heap.size + 1, 1, none⟩ (.int .i64 fr)).setCell ⟨w.heap.size + 1, 2, none⟩ (.int .i64 te)).setCell ⟨w.heap.size + 1, 3, none⟩ (.int .i64 kd)).setCell ⟨w.heap.size + 1, 4, none⟩ (.slice (some ⟨b, 0, none⟩) n n)) b ps := by
    refine HO.out.of_block ?_ (by simp)
    rw [Below.heap_setCell _ _ _ _ (by dsimp only; omega), Below.heap_setCell _ _ _ _ (by dsimp only; omega), Below.heap_setCell _ _ _ _ (by dsimp only; omega), Below.heap_setCell _ _ _ _ (by dsimp only; omega), Below.heap_setCell _ _ _ _ (by dsimp only; omega), Below.heap_setCell _ _ _ _ (by dsimp only; omega), Below.heap_setCell _ _ _ _ (by dsimp only; omega)]
  generalize ((((((w1.setCell ⟨w.heap.size + 1 + 1, 3, none⟩ (.int .i64 kd)).setCell ⟨w.heap.size + 1 + 1, 4, none⟩ (.slice (some ⟨b, 0, none⟩) n n)).setCell ⟨w.heap.size + 1, 0, none⟩ (.int .i64 id)).setCell ⟨w.heap.size + 1, 1, none⟩ (.int .i64 fr)).setCell ⟨w.heap.size + 1, 2, none⟩ (.int .i64 te)).setCell ⟨w.heap.size + 1, 3, none⟩ (.int .i64 kd)).setCell ⟨w.heap.size + 1, 4, none⟩ (.slice (some ⟨b, 0, none⟩) n n) = wf at *
  obtain ⟨⟨z0, z1, z2, z3, z4⟩, _⟩ := cell5g gF
  exact bodyPost_ret (v := .agg #[.int .i64 id, .int .i64 fr, .int .i64 te, .int .i64 kd, .slice (some ⟨b, 0, none⟩) n n]) (by simp [results, Tryz.results74, go_sem, z0, z1, z2, z3, z4]) rfl ⟨b, rfl, by omega, oF, bF⟩
theorem Tryz.infoRow : (Tryz.prog.info? 88).map (fun i => (i.zero, i.size, i.bytes)) = some (some (.agg #[.int .i64 0, .int .i64 0, .int .i64 0, .int .i64 0, .slice none 0 0]), 5, 56) := by kernel_rfl
theorem make_rows (n : Nat) (hn : n ≤ 1099511627776) (w : World) : (Instr.makeSlice 29 (.int .i64 n) (.int .i64 n)).run Tryz.prog w = .ok (.slice (some ⟨w.heap.size, 0, none⟩) n n) (w.alloc (.cells (madeCells #[.int .i64 0, .int .i64 0, .int .i64 0, .int .i64 0, .slice none 0 0] (n * 5)) 88)) := by
  obtain ⟨i0, hi, hz0, hz1, hz2⟩ := info_parts Tryz.infoRow
  have := run_make (P := Tryz.prog) w 29 88 i0 _ Tryz.underlying29 hi hz0 .i64 .i64 n n (by omega) (by omega) (by rw [hz2]; omega) (by omega)
  rw [hz1] at this
  exact this
theorem made_own5 (w : World) (n : Nat) : (w.alloc (.cells (madeCells #[.int .i64 0, .int .i64 0, .int .i64 0, .int .i64 0, .slice none 0 0] (n * 5)) 88)).there w.heap.size 0 (n * 5) := by
  intro j hj
  simp only [Nat.zero_add]
  refine ⟨?_, World.frozen?_alloc_new w _ _ j⟩
  rw [World.cell?_alloc_new]
  have hs := size_madeCells #[.int .i64 0, .int .i64 0, .int .i64 0, .int .i64 0, .slice none 0 0] (n * 5)
  rw [Array.getElem?_eq_getElem (by rw [hs]; exact hj)]
  rfl
/-- Five cells of a block are written: those of one row more. -/
theorem put_row {N : Nat → Prop} {w : World} {B k n b : Nat} {rs : List Rw} (hN : ∀ c, N c → c ≠ B) (hk : k < rs.length) (hn : rs.length = n) (h : ∀ j (hj : j < rs.length), j < k → RwAt N w B (j * 5) rs[j]) (ht : w.there B 0 (n * 5)) (hb : N b) (hm : rs[k].2.2.2.2.length ≤ 1099511627776) (ho : PtsOwn w b rs[k].2.2.2.2) :
    (∀ j (hj : j < rs.length), j < k + 1 → RwAt N (((((w.setCell ⟨B, k * 5, none⟩ (.int .i64 rs[k].1)).setCell ⟨B, k * 5 + 1, none⟩ (.int .i64 rs[k].2.1)).setCell ⟨B, k * 5 + 2, none⟩ (.int .i64 rs[k].2.2.1)).setCell ⟨B, k * 5 + 3, none⟩ (.int .i64 rs[k].2.2.2.1)).setCell ⟨B, k * 5 + 4, none⟩ (.slice (some ⟨b, 0, none⟩) rs[k].2.2.2.2.length rs[k].2.2.2.2.length)) B (j * 5) rs[j]) ∧
    (((((w.setCell ⟨B, k * 5, none⟩ (.int .i64 rs[k].1)).setCell ⟨B, k * 5 + 1, none⟩ (.int .i64 rs[k].2.1)).setCell ⟨B, k * 5 + 2, none⟩ (.int .i64 rs[k].2.2.1)).setCell ⟨B, k * 5 + 3, none⟩ (.int .i64 rs[k].2.2.2.1)).setCell ⟨B, k * 5 + 4, none⟩ (.slice (some ⟨b, 0, none⟩) rs[k].2.2.2.2.length rs[k].2.2.2.2.length)).there B 0 (n * 5) := by
  subst hn
  have e : ((((w.setCell ⟨B, k * 5, none⟩ (.int .i64 rs[k].1)).setCell ⟨B, k * 5 + 1, none⟩ (.int .i64 rs[k].2.1)).setCell ⟨B, k * 5 + 2, none⟩ (.int .i64 rs[k].2.2.1)).setCell ⟨B, k * 5 + 3, none⟩ (.int .i64 rs[k].2.2.2.1)).setCell ⟨B, k * 5 + 4, none⟩ (.slice (some ⟨b, 0, none⟩) rs[k].2.2.2.2.length rs[k].2.2.2.2.length) = w.setCells B (k * 5) [.int .i64 rs[k].1, .int .i64 rs[k].2.1, .int .i64 rs[k].2.2.1, .int .i64 rs[k].2.2.2.1, .slice (some ⟨b, 0, none⟩) rs[k].2.2.2.2.length rs[k].2.2.2.2.length] := rfl
  have hblk : ∀ c, c ≠ B → (w.setCells B (k * 5) [.int .i64 rs[k].1, .int .i64 rs[k].2.1, .int .i64 rs[k].2.2.1, .int .i64 rs[k].2.2.2.1, .slice (some ⟨b, 0, none⟩) rs[k].2.2.2.2.length rs[k].2.2.2.2.length]).heap[c]? = w.heap[c]? := by
    intro c hc
    rw [← e]
    rw [Below.heap_setCell _ _ _ _ (by dsimp only; omega), Below.heap_setCell _ _ _ _ (by dsimp only; omega), Below.heap_setCell _ _ _ _ (by dsimp only; omega), Below.heap_setCell _ _ _ _ (by dsimp only; omega), Below.heap_setCell _ _ _ _ (by dsimp only; omega)]
  have hsz : (w.setCells B (k * 5) [.int .i64 rs[k].1, .int .i64 rs[k].2.1, .int .i64 rs[k].2.2.1, .int .i64 rs[k].2.2.2.1, .slice (some ⟨b, 0, none⟩) rs[k].2.2.2.2.length rs[k].2.2.2.2.length]).heap.size = w.heap.size := by
    rw [← e]; simp
  rw [e]
  have hth : w.there B (k * 5) 5 := by
    intro j hj
    have := ht (k * 5 + j) (by omega)
    rwa [Nat.zero_add] at this
  have hr := World.rangeAt_setCells_same w B (k * 5) [.int .i64 rs[k].1, .int .i64 rs[k].2.1, .int .i64 rs[k].2.2.1, .int .i64 rs[k].2.2.2.1, .slice (some ⟨b, 0, none⟩) rs[k].2.2.2.2.length rs[k].2.2.2.2.length] hth
  refine ⟨?_, World.there_setCells ht _ _ _⟩
  intro j hj hjk
  by_cases ej : j = k
  · subst ej
    refine ⟨some ⟨b, 0, none⟩, rs[j].2.2.2.2.length, by simpa using hr 0 _ rfl, hr 1 _ rfl, hr 2 _ rfl, hr 3 _ rfl, hr 4 _ rfl, Nat.le_refl _, hm, (ho.of_block (hblk b (hN b hb)) (by omega)).pts, fun c off e => by cases e; exact hb⟩
  · obtain ⟨a, cap, h0, h1, h2, h3, h4, h5, h6, h7, h8⟩ := h j hj (by omega)
    have far : ∀ i, i < 5 → (w.setCells B (k * 5) [.int .i64 rs[k].1, .int .i64 rs[k].2.1, .int .i64 rs[k].2.2.1, .int .i64 rs[k].2.2.2.1, .slice (some ⟨b, 0, none⟩) rs[k].2.2.2.2.length rs[k].2.2.2.2.length]).cell? ⟨B, j * 5 + i, none⟩ = w.cell? ⟨B, j * 5 + i, none⟩ := by
      intro i hi
      exact World.cell?_setCells_out B _ (k * 5) w ⟨B, j * 5 + i, none⟩ (fun _ _ => by left; show j * 5 + i < k * 5; omega)
    refine ⟨a, cap, ?_, ?_, ?_, ?_, ?_, h5, h6, ?_, h8⟩
    · have := far 0 (by omega); simp only [Nat.add_zero] at this; rw [this]; exact h0
    · rw [far 1 (by omega)]; exact h1
    · rw [far 2 (by omega)]; exact h2
    · rw [far 3 (by omega)]; exact h3
    · rw [far 4 (by omega)]; exact h4
    · rcases h7 with h7 | ⟨c, off, ea, hc, hp⟩
      · exact .inl h7
      · refine .inr ⟨c, off, ea, by omega, fun i hi => ?_⟩
        have hcb := hblk c (hN c (h8 c off ea))
        have hcc : ∀ q, (w.setCells B (k * 5) [.int .i64 rs[k].1, .int .i64 rs[k].2.1, .int .i64 rs[k].2.2.1, .int .i64 rs[k].2.2.2.1, .slice (some ⟨b, 0, none⟩) rs[k].2.2.2.2.length rs[k].2.2.2.2.length]).cell? ⟨c, q, none⟩ = w.cell? ⟨c, q, none⟩ := fun q => by simp only [World.cell?, hcb]
        rw [hcc, hcc]
        exact hp i hi
set_option maxHeartbeats 2000000 in
theorem to_rowS {N : Nat → Prop} (a : Option Addr) (cap : Nat) (rs : List Rw) (w : World) (hm : rs.length ≤ 1099511627776) (h : Rws N w a rs) : Calls Tryz.prog 40 #[.slice a rs.length cap] w fun e w' => ∃ B, e = .returned (.slice (some ⟨B, 0, none⟩) rs.length rs.length) ∧ w.heap.size ≤ B ∧ B < w'.heap.size ∧ RwsAt (fun c => B < c) w' B 0 rs ∧ w'.there B 0 (rs.length * 5) ∧ Below w.heap.size w w' := by
  have HR := hid h
  clear h
  have hmk := make_rows rs.length hm
  obtain ⟨n, hn⟩ : ∃ n, n = rs.length := ⟨_, rfl⟩
  have HN := hid hn.symm
  rw [← hn] at hmk hm ⊢
  clear hn
  go_enter Tryz.func40, Tryz.ntmps40
  go_wp2_with fail
  have hB : Below w.heap.size w (w.alloc (.cells (madeCells #[.int .i64 0, .int .i64 0, .int .i64 0, .int .i64 0, .slice none 0 0] (n * 5)) 88)) := balloc (Below.refl _ _) _
  have hT := made_own5 w n
  have hl : w.heap.size < (w.alloc (.cells (madeCells #[.int .i64 0, .int .i64 0, .int .i64 0, .int .i64 0, .slice none 0 0] (n * 5)) 88)).heap.size := by simp
  generalize w.alloc (.cells (madeCells #[.int .i64 0, .int .i64 0, .int .i64 0, .int .i64 0, .slice none 0 0] (n * 5)) 88) = W at *
  clear hmk
  go_loopw [4] (fun ti wr => ∃ j : Nat, ti = .int .i64 j ∧ j ≤ n ∧ Hid (w.heap.size < wr.heap.size) ∧ Hid (∀ i (hi : i < rs.length), i < j → RwAt (fun c => w.heap.size < c) wr w.heap.size (i * 5) rs[i]) ∧ Hid (wr.there w.heap.size 0 (n * 5)) ∧ Hid (Below w.heap.size w wr)) (fun ti _ => n - (intOf ti).toNat)
  case atStart => exact ⟨0, rfl, Nat.zero_le _, hid hl, hid (fun i hi h => absurd h (by omega)), hid hT, hid hB⟩
  case round =>
    clear hB hT hl
    obtain ⟨j, rfl, hj, HL, HP, HT, HBW⟩ := hrel
    by_cases hlt : j < n
    · have c1 : (j : Int) < (n : Int) := by omega
      have hjr : j < rs.length := by rw [HN.out]; exact hlt
      obtain ⟨b, o, rfl, hbs, hr⟩ := (HR.out.below HBW.out).at j hjr
      obtain ⟨a', cap', k0, k1, k2, k3, k4, k5, k6, k7, k8⟩ := hr
      have TR := hid (to_row rs[j] a' cap' wr k6 k5 k7)
      have HPR := hid (fun (W : World) (bb : Nat) => put_row (N := fun c => w.heap.size < c) (w := W) (B := w.heap.size) (k := j) (n := n) (b := bb) (rs := rs) (fun c hc => by omega) hjr HN.out)
      have HK6 := hid k6
      unfold rwv at TR
      clear k5 k6 k7 k8
      generalize rs[j].1 = id at *
      generalize rs[j].2.1 = fr at *
      generalize rs[j].2.2.1 = te at *
      generalize rs[j].2.2.2.1 = kd at *
      generalize rs[j].2.2.2.2 = ps at *
      go_wp2_with fail
      refine TR.out.mono ?_
      rintro e w1 ⟨bb, rfl, hbb, ho, hb1⟩
      have hP := fun i (hi : i < rs.length) (h : i < j) => (HP.out i hi h).below hb1
      have hT := there_below HT.out HL.out hb1
      have hB := btrans HBW.out hb1
      have hL : w.heap.size < w1.heap.size := Nat.lt_of_lt_of_le HL.out hb1.size
      have hbl : w.heap.size < bb := Nat.lt_of_lt_of_le HL.out hbb
      have HPUT := hid (HPR.out w1 bb hP hT hbl HK6.out ho)
      have q := fun i (hi : i < n * 5) => hT i hi
      obtain ⟨x0, y0⟩ := q (j * 5) (by omega)
      obtain ⟨x1, y1⟩ := q (j * 5 + 1) (by omega)
      obtain ⟨x2, y2⟩ := q (j * 5 + 2) (by omega)
      obtain ⟨x3, y3⟩ := q (j * 5 + 3) (by omega)
      obtain ⟨x4, y4⟩ := q (j * 5 + 4) (by omega)
      obtain ⟨v0, z0⟩ := Option.isSome_iff_exists.1 x0
      obtain ⟨v1, z1⟩ := Option.isSome_iff_exists.1 x1
      obtain ⟨v2, z2⟩ := Option.isSome_iff_exists.1 x2
      obtain ⟨v3, z3⟩ := Option.isSome_iff_exists.1 x3
      obtain ⟨v4, z4⟩ := Option.isSome_iff_exists.1 x4
      simp only [Nat.zero_add, ← Nat.add_assoc] at z0 z1 z2 z3 z4 y0 y1 y2 y3 y4
      clear q x0 x1 x2 x3 x4 hP HPR hb1 ho TR
      have HL1 := hid hL
      have HB1 := hid hB
      clear hT
      go_wp2_with fail
      go_roundw
      case rel => exact ⟨j + 1, by go_num, by omega, hid (by simpa using hL), hid HPUT.out.1, hid HPUT.out.2, hid (bset (bset (bset (bset (bset hB (by omega) _) (by omega) _) (by omega) _) (by omega) _) (by omega) _)⟩
      case measure => simp [intOf]; omega
    · obtain rfl : n = j := by omega
      have c1 : (n : Int) ≤ (n : Int) := by omega
      go_wp2_with fail
      go_ret
      exact ⟨w.heap.size, rfl, Nat.le_refl _, HL.out, fun i hi => by have := HP.out i hi (by rw [HN.out] at hi; exact hi); simpa using this, HT.out, HBW.out⟩
end Go.Proofs.YtigjdlpjibakjaaGreat
namespace Go.Proofs.YtigjdlpjibakjaaGreat
open Go.RowKit
set_option linter.unusedSimpArgs false
set_option linter.unusedVariables false
set_option maxHeartbeats 2000000 in
theorem to_rows {N : Nat → Prop} (now : Int) (a : Option Addr) (cap : Nat) (rs : List Rw) (w : World) (hm : rs.length ≤ 1099511627776) (h : Rws N w a rs) : Calls Tryz.prog 18 #[.agg #[.int .i64 now, .slice a rs.length cap]] w fun e w' => ∃ B, e = .returned (.agg #[.int .i64 now, .slice (some ⟨B, 0, none⟩) rs.length rs.length]) ∧ w.heap.size ≤ B ∧ B < w'.heap.size ∧ RwsAt (fun c => B < c) w' B 0 rs ∧ Below w.heap.size w w' := by
  have TS := hid (fun (W : World) (hb : Below w.heap.size w W) => to_rowS a cap rs W hm (h.below hb))
  clear h
  obtain ⟨n, hn⟩ : ∃ n, n = rs.length := ⟨_, rfl⟩
  rw [← hn] at TS ⊢
  clear hn
  go_enter Tryz.func18, Tryz.ntmps18
  go_wp2_with fail
  have hB0 : Below w.heap.size w (((w.alloc (.cells #[.int .i64 now, .slice a n cap] 24)).alloc (.cells #[.int .i64 0, .slice none 0 0] 31)).alloc (.cells #[.int .i64 now, .slice none 0 0] 31)) := balloc (balloc (balloc (Below.refl _ _) _) _) _
  have g2 := old_alloc (o' := .cells #[.int .i64 now, .slice none 0 0] 31) (new_alloc (w.alloc (.cells #[.int .i64 now, .slice a n cap] 24)) (w.heap.size + 1) (.cells #[.int .i64 0, .slice none 0 0] 31) (by simp))
  have g3 := new_alloc ((w.alloc (.cells #[.int .i64 now, .slice a n cap] 24)).alloc (.cells #[.int .i64 0, .slice none 0 0] 31)) (w.heap.size + 1 + 1) (.cells #[.int .i64 now, .slice none 0 0] 31) (by simp)
  generalize (((w.alloc (.cells #[.int .i64 now, .slice a n cap] 24)).alloc (.cells #[.int .i64 0, .slice none 0 0] 31)).alloc (.cells #[.int .i64 now, .slice none 0 0] 31)) = W at *
  have hlW := lt_of_block g3
  refine (TS.out _ hB0).mono ?_
  rintro e w1 ⟨B, rfl, hbb, hbl, ho, ht, hb1⟩
  replace g2 := keepheap2 hb1 g2
  replace g3 := keepheap2 hb1 g3
  have hB := btrans hB0 hb1
  have HO := hid ho
  clear hb1 hB0 ho ht
  obtain ⟨a0, a1, f0, f1⟩ := cell2f g2
  obtain ⟨b0, b1, e0, e1⟩ := cell2f g3
  go_wp2_with fail
  have gF := set2r (set_far (q := w.heap.size + 1 + 1) (k := 1) (u := .slice (some ⟨B, 0, none⟩) n n) g2 (by omega)) (.int .i64 now) (.slice (some ⟨B, 0, none⟩) n n)
  have bF := bset (bset (bset hB (q := w.heap.size + 1 + 1) (k := 1) (by omega) (.slice (some ⟨B, 0, none⟩) n n)) (q := w.heap.size + 1) (k := 0) (by omega) (.int .i64 now)) (q := w.heap.size + 1) (k := 1) (by omega) (.slice (some ⟨B, 0, none⟩) n n)
  have oF := ((HO.out.setR (q := w.heap.size + 1 + 1) (k := 1) (u := .slice (some ⟨B, 0, none⟩) n n) (by omega) (by omega)).setR (q := w.heap.size + 1) (k := 0) (u := .int .i64 now) (by omega) (by omega)).setR (q := w.heap.size + 1) (k := 1) (u := .slice (some ⟨B, 0, none⟩) n n) (by omega) (by omega)
  have lF : B < (((w1.setCell ⟨w.heap.size + 1 + 1, 1, none⟩ (.slice (some ⟨B, 0, none⟩) n n)).setCell ⟨w.heap.size + 1, 0, none⟩ (.int .i64 now)).setCell ⟨w.heap.size + 1, 1, none⟩ (.slice (some ⟨B, 0, none⟩) n n)).heap.size := by simpa using hbl
  generalize ((w1.setCell ⟨w.heap.size + 1 + 1, 1, none⟩ (.slice (some ⟨B, 0, none⟩) n n)).setCell ⟨w.heap.size + 1, 0, none⟩ (.int .i64 now)).setCell ⟨w.heap.size + 1, 1, none⟩ (.slice (some ⟨B, 0, none⟩) n n) = wf at *
  obtain ⟨z0, z1, _, _⟩ := cell2f gF
  exact bodyPost_ret (v := .agg #[.int .i64 now, .slice (some ⟨B, 0, none⟩) n n]) (by simp [results, Tryz.results18, go_sem, z0, z1]) rfl ⟨B, rfl, by omega, lF, oF, bF⟩
set_option maxHeartbeats 2000000 in
theorem eq_row (r : Rw) (a1 a2 : Option Addr) (c1 c2 : Nat) (w : World) (hm : r.2.2.2.2.length ≤ 1099511627776) (h1 : r.2.2.2.2.length ≤ c1) (h2 : r.2.2.2.2.length ≤ c2) (p1 : Pts w a1 r.2.2.2.2) (p2 : Pts w a2 r.2.2.2.2) : Calls Tryz.prog 84 #[rwv r a1 c1, rwv r a2 c2] w fun e w' => e = .returned (.bool true) ∧ Below w.heap.size w w' := by
  obtain ⟨id, fr, te, kd, ps⟩ := r
  unfold rwv
  simp only at *
  have EQ := hid (fun (W : World) (hb : Below w.heap.size w W) => eq_shape kd a1 a2 c1 c2 ps W hm h1 h2 (p1.below hb) (p2.below hb))
  unfold shv at EQ
  clear p1 p2
  generalize ps.length = n at *
  go_enter Tryz.func84, Tryz.ntmps84
  go_wp2_with fail
  refine (EQ.out _ (balloc (balloc (Below.refl _ _) _) _)).mono ?_
  rintro e w1 ⟨rfl, hb⟩
  go_wp2_with fail
  go_ret
  exact ⟨rfl, btrans (balloc (balloc (Below.refl _ _) _) _) hb⟩
set_option maxHeartbeats 2000000 in
theorem eq_rowS {N1 N2 : Nat → Prop} (a b : Option Addr) (cap cap' : Nat) (rs : List Rw) (w : World) (hm : rs.length ≤ 1099511627776) (p1 : Rws N1 w a rs) (p2 : Rws N2 w b rs) : Calls Tryz.prog 54 #[.slice a rs.length cap, .slice b rs.length cap'] w fun e w' => e = .returned (.bool true) ∧ Below w.heap.size w w' := by
  have H1 := hid p1
  have H2 := hid p2
  clear p1 p2
  obtain ⟨n, hn⟩ : ∃ n, n = rs.length := ⟨_, rfl⟩
  have HN := hid hn.symm
  rw [← hn] at hm ⊢
  clear hn
  go_enter Tryz.func54, Tryz.ntmps54
  go_wp2_with fail
  go_loopw [5] (fun ti wr => ∃ j : Nat, ti = .int .i64 j ∧ j ≤ n ∧ Hid (Below w.heap.size w wr)) (fun ti _ => n - (intOf ti).toNat)
  case atStart => exact ⟨0, rfl, Nat.zero_le _, hid (Below.refl _ _)⟩
  case round =>
    obtain ⟨j, rfl, hj, HBW⟩ := hrel
    by_cases hlt : j < n
    · have c1 : (j : Int) < (n : Int) := by omega
      have hjr : j < rs.length := by rw [HN.out]; exact hlt
      obtain ⟨b1, o1, rfl, hb1, a1, c1', k0, k1, k2, k3, k4, k5, k6, k7, _⟩ := (H1.out.below HBW.out).at j hjr
      obtain ⟨b2, o2, rfl, hb2, a2, c2', l0, l1, l2, l3, l4, l5, l6, l7, _⟩ := (H2.out.below HBW.out).at j hjr
      have EQ := hid (fun (W : World) (hb : Below wr.heap.size wr W) => eq_row rs[j] a1 a2 c1' c2' W k6 k5 l5 (k7.below hb) (l7.below hb))
      unfold rwv at EQ
      clear k5 k6 k7 l5 l6 l7
      generalize rs[j].1 = id at *
      generalize rs[j].2.1 = fr at *
      generalize rs[j].2.2.1 = te at *
      generalize rs[j].2.2.2.1 = kd at *
      generalize rs[j].2.2.2.2 = ps at *
      have HB0 : Hid (Below wr.heap.size wr wr.drew) := hid (bdrew (Below.refl _ _))
      go_wp2_with fail
      refine wp_region_held_drew (S := (fun w' => w'.cell? ⟨b1, o1 + j * 5, none⟩ = some (.int .i64 id) ∧ w'.cell? ⟨b1, o1 + j * 5 + 1, none⟩ = some (.int .i64 fr) ∧ w'.cell? ⟨b1, o1 + j * 5 + 2, none⟩ = some (.int .i64 te) ∧ w'.cell? ⟨b1, o1 + j * 5 + 3, none⟩ = some (.int .i64 kd) ∧ w'.cell? ⟨b1, o1 + j * 5 + 4, none⟩ = some (.slice a1 ps.length c1') ∧ w'.cell? ⟨b2, o2 + j * 5, none⟩ = some (.int .i64 id) ∧ w'.cell? ⟨b2, o2 + j * 5 + 1, none⟩ = some (.int .i64 fr) ∧ w'.cell? ⟨b2, o2 + j * 5 + 2, none⟩ = some (.int .i64 te) ∧ w'.cell? ⟨b2, o2 + j * 5 + 3, none⟩ = some (.int .i64 kd) ∧ w'.cell? ⟨b2, o2 + j * 5 + 4, none⟩ = some (.slice a2 ps.length c2'))) (by kernel_rfl) ?_ (fun hHeld => ?_)
      · (repeat' apply And.intro) <;> (repeat (first | with_reducible assumption | with_reducible refine keepdrew ?_ | with_reducible refine keepcell (by with_reducible assumption) ?_))
      refine wpAnyH_take (i := 0) (v := ?_) rfl (by kernel_rfl) (by kernel_rfl) (by kernel_rfl) (fun _ _ _ h => h) (Or.inl ⟨by rfl, ?_⟩) hHeld ?_
      rotate_left
      · intro w hSw; (try dsimp only at hSw); go_simp; try (with_reducible rfl)
      try simp only [sq]
      refine wpAnyH_take (i := 1) (v := ?_) rfl (by kernel_rfl) (by kernel_rfl) (by kernel_rfl) (fun _ _ _ h => h) (Or.inl ⟨by rfl, ?_⟩) hHeld ?_
      rotate_left
      · intro w hSw; (try dsimp only at hSw); go_simp; try (with_reducible rfl)
      try simp only [sq]
      refine wpAnyH_take (i := 2) (v := ?_) rfl (by kernel_rfl) (by kernel_rfl) (by kernel_rfl) (fun _ _ _ h => h) (Or.inl ⟨by rfl, ?_⟩) hHeld ?_
      rotate_left
      · intro w hSw; (try dsimp only at hSw); go_simp; try (with_reducible rfl)
      try simp only [sq]
      refine wpAnyH_take (i := 3) (v := ?_) rfl (by kernel_rfl) (by kernel_rfl) (by kernel_rfl) (fun _ _ _ h => h) (Or.inl ⟨by rfl, ?_⟩) hHeld ?_
      rotate_left
      · intro w hSw; (try dsimp only at hSw); go_simp; try (with_reducible rfl)
      try simp only [sq]
      refine wpAnyH_take (i := 4) (v := ?_) rfl (by kernel_rfl) (by kernel_rfl) (by kernel_rfl) (fun _ _ _ h => h) (Or.inl ⟨by rfl, ?_⟩) hHeld ?_
      rotate_left
      · intro w hSw; (try dsimp only at hSw); go_simp; try (with_reducible rfl)
      try simp only [sq]
      refine wpAnyH_take (i := 5) (v := ?_) rfl (by kernel_rfl) (by kernel_rfl) (by kernel_rfl) (fun _ _ _ h => h) (Or.inl ⟨by rfl, ?_⟩) hHeld ?_
      rotate_left
      · intro w hSw; (try dsimp only at hSw); go_simp; try (with_reducible rfl)
      try simp only [sq]
      refine wpAnyH_take (i := 6) (v := ?_) rfl (by kernel_rfl) (by kernel_rfl) (by kernel_rfl) (fun _ _ _ h => h) (Or.inl ⟨by rfl, ?_⟩) hHeld ?_
      rotate_left
      · intro w hSw; (try dsimp only at hSw); go_simp; try (with_reducible rfl)
      try simp only [sq]
      refine wpAnyH_take (i := 7) (v := ?_) rfl (by kernel_rfl) (by kernel_rfl) (by kernel_rfl) (fun _ _ _ h => h) (Or.inl ⟨by rfl, ?_⟩) hHeld ?_
      rotate_left
      · intro w hSw; (try dsimp only at hSw); go_simp; try (with_reducible rfl)
      try simp only [sq]
      refine wpAnyH_ready (rs := [8]) (by kernel_rfl) (by simp) ?_
      refine AllReadyH.cons rfl (fun K hK => ?_) AllReadyH.nil
      try simp only [sq]
      go_simp
      (first
          | (go_at_call 84; refine (EQ.out _ HB0.out).mono ?_; rintro e z1 ⟨rfl, hz⟩))
      go_wp2_with fail
      refine hK.out _ _ ?_ (fun hHeld => ?_)
      · (repeat' apply And.intro) <;> (repeat (first | with_reducible assumption | with_reducible refine keepdrew ?_ | with_reducible refine keepcell (by with_reducible assumption) ?_))
      clear hK K
      try simp only [sq]
      refine wpAnyH_take (i := 9) (v := ?_) rfl (by kernel_rfl) (by kernel_rfl) (by kernel_rfl) (fun _ _ _ h => h) (Or.inl ⟨by rfl, ?_⟩) hHeld ?_
      rotate_left
      · intro w hSw; (try dsimp only at hSw); go_simp; try (with_reducible rfl)
      try simp only [sq]
      refine wpAnyH_done (by kernel_rfl) ?_ _
      go_wp2_with fail
      go_roundw
      case rel => exact ⟨j + 1, by go_num, by omega, hid (btrans (bdrew HBW.out) hz)⟩
      case measure => simp [intOf]; omega
    · have c1 : (n : Int) ≤ (j : Int) := by omega
      go_wp2_with fail
      go_ret
      exact ⟨rfl, HBW.out⟩
set_option maxHeartbeats 1000000 in
theorem eq_rows {N1 N2 : Nat → Prop} (now : Int) (a b : Option Addr) (cap cap' : Nat) (rs : List Rw) (w : World) (hm : rs.length ≤ 1099511627776) (p1 : Rws N1 w a rs) (p2 : Rws N2 w b rs) : Calls Tryz.prog 24 #[.agg #[.int .i64 now, .slice a rs.length cap], .agg #[.int .i64 now, .slice b rs.length cap']] w fun e w' => e = .returned (.bool true) ∧ Below w.heap.size w w' := by
  have EQ := hid (fun (W : World) (hb : Below w.heap.size w W) => eq_rowS a b cap cap' rs W hm (p1.below hb) (p2.below hb))
  clear p1 p2
  generalize rs.length = n at *
  go_enter Tryz.func24, Tryz.ntmps24
  go_wp2_with fail
  refine (EQ.out _ (balloc (balloc (Below.refl _ _) _) _)).mono ?_
  rintro e w1 ⟨rfl, hb⟩
  go_wp2_with fail
  go_ret
  exact ⟨rfl, btrans (balloc (balloc (Below.refl _ _) _) _) hb⟩
end Go.Proofs.YtigjdlpjibakjaaGreat
namespace Go.Proofs.YtigjdlpjibakjaaGreat
open Go.RowKit
/-- The first i of a list that is told by its numbers. -/
def tk (f : Nat → Int × Int) (i : Nat) : List (Int × Int) := (List.range i).map f
theorem tk_next (f : Nat → Int × Int) (i : Nat) : tk f (i + 1) = tk f i ++ [f i] := by simp [tk, List.range_succ]
theorem tk_len (f : Nat → Int × Int) (i : Nat) : (tk f i).length = i := by simp [tk]
theorem tk_getD (f : Nat → Int × Int) (i k : Nat) (h : k < i) : (tk f i).getD k (0, 0) = f k := by simp [tk, h]
def fR (ps : List (Int × Int)) (j : Nat) : Int × Int := ps.getD (ps.length - 1 - j) (0, 0)
def fM (ps : List (Int × Int)) (dx dy : Int) (j : Nat) : Int × Int := ((ps.getD j (0, 0)).1 + dx, (ps.getD j (0, 0)).2 + dy)
def fN (ps : List (Int × Int)) (j : Nat) : Int × Int := ps.getD ((j + 1) % ps.length) (0, 0)
def eight (P : List (Int × Int) → Prop) : Prop := P [] ∧ (∀ a, P [a]) ∧ (∀ a b, P [a, b]) ∧ (∀ a b c, P [a, b, c]) ∧ (∀ a b c d, P [a, b, c, d]) ∧ (∀ a b c d e, P [a, b, c, d, e]) ∧ (∀ a b c d e f, P [a, b, c, d, e, f]) ∧ (∀ a b c d e f g, P [a, b, c, d, e, f, g]) ∧ (∀ a b c d e f g h, P [a, b, c, d, e, f, g, h])
theorem of_eight {P : List (Int × Int) → Prop} (h : eight P) (ps : List (Int × Int)) (hl : ps.length ≤ 8) : P ps := by
  obtain ⟨h0, h1, h2, h3, h4, h5, h6, h7, h8⟩ := h
  match ps, hl with
  | [], _ => exact h0
  | [a], _ => exact h1 a
  | [a, b], _ => exact h2 a b
  | [a, b, c], _ => exact h3 a b c
  | [a, b, c, d], _ => exact h4 a b c d
  | [a, b, c, d, e], _ => exact h5 a b c d e
  | [a, b, c, d, e, f], _ => exact h6 a b c d e f
  | [a, b, c, d, e, f, g], _ => exact h7 a b c d e f g
  | [a, b, c, d, e, f, g, h], _ => exact h8 a b c d e f g h
  | a :: b :: c :: d :: e :: f :: g :: h :: i :: r, hl => simp at hl
theorem area_rev (ps : List (Int × Int)) (hl : ps.length ≤ 8) : areaTo (tk (fR ps) ps.length) ps.length = - areaTo ps ps.length := by
  refine of_eight (P := fun ps => areaTo (tk (fR ps) ps.length) ps.length = - areaTo ps ps.length) ?_ ps hl
  refine ⟨?_, ?_, ?_, ?_, ?_, ?_, ?_, ?_, ?_⟩ <;> intros <;> simp [tk, fR, areaTo, nxt, List.range, List.range.loop] <;> grind
theorem area_mov (ps : List (Int × Int)) (dx dy : Int) (hl : ps.length ≤ 8) : areaTo (tk (fM ps dx dy) ps.length) ps.length = areaTo ps ps.length := by
  refine of_eight (P := fun ps => areaTo (tk (fM ps dx dy) ps.length) ps.length = areaTo ps ps.length) ?_ ps hl
  refine ⟨?_, ?_, ?_, ?_, ?_, ?_, ?_, ?_, ?_⟩ <;> intros <;> simp [tk, fM, areaTo, nxt, List.range, List.range.loop] <;> grind
theorem area_nxt (ps : List (Int × Int)) (hl : ps.length ≤ 8) : areaTo (tk (fN ps) ps.length) ps.length = areaTo ps ps.length := by
  refine of_eight (P := fun ps => areaTo (tk (fN ps) ps.length) ps.length = areaTo ps ps.length) ?_ ps hl
  refine ⟨?_, ?_, ?_, ?_, ?_, ?_, ?_, ?_, ?_⟩ <;> intros <;> simp [tk, fN, areaTo, nxt, List.range, List.range.loop] <;> grind
theorem pok_at {ps : List (Int × Int)} (h : allok ps = true) (k : Nat) (hk : k < ps.length) : pok (ps.getD k (0, 0)).1 (ps.getD k (0, 0)).2 = true := by
  rw [allok, List.all_eq_true] at h
  refine h _ ?_
  rw [List.getD_eq_getElem?_getD, List.getElem?_eq_getElem hk]
  exact List.getElem_mem hk
theorem area_of (f : Nat → Int × Int) (n : Nat) (hn : n ≤ 1000) (h : ∀ j, j < n → pok (f j).1 (f j).2 = true) : area2 (tk f n) = areaTo (tk f n) n := by
  have ha : allok (tk f n) = true := by
    refine allok_yes _ fun j hj => ?_
    rw [tk_len] at hj
    rw [tk_getD f n j hj]
    exact h j hj
  unfold area2
  rw [tk_len, if_pos ⟨hn, ha⟩]
theorem area_law {ps : List (Int × Int)} (dx dy : Int) (hl : ps.length ≤ 8) (h : ∀ j, j < ps.length → pok (ps.getD j (0, 0)).1 (ps.getD j (0, 0)).2 = true) (hm : ∀ j, j < ps.length → pok (fM ps dx dy j).1 (fM ps dx dy j).2 = true) :
    area2 (tk (fR ps) ps.length) = - area2 ps ∧ area2 (tk (fM ps dx dy) ps.length) = area2 ps ∧ area2 (tk (fN ps) ps.length) = area2 ps := by
  have h0 : area2 ps = areaTo ps ps.length := by
    unfold area2; rw [if_pos ⟨by omega, allok_yes _ h⟩]
  rw [h0, area_of (fR ps) _ (by omega) (fun j hj => h _ (by omega)), area_of (fM ps dx dy) _ (by omega) hm, area_of (fN ps) _ (by omega) (fun j hj => h _ (Nat.mod_lt _ (by omega)))]
  exact ⟨area_rev ps hl, area_mov ps dx dy hl, area_nxt ps hl⟩
theorem area2_bd (ps : List (Int × Int)) : -7300000000000 ≤ area2 ps ∧ area2 ps ≤ 7300000000000 := by
  unfold area2
  split
  · next h => have := area_bd h.2 ps.length (Nat.le_refl _); omega
  · omega
end Go.Proofs.YtigjdlpjibakjaaGreat
namespace Go.Proofs.YtigjdlpjibakjaaGreat
open Go.RowKit
theorem hide {p : Prop} (h : p) : Hid p := h
theorem and255 (x : Int) : 0 ≤ bits .and .i64 x 255 ∧ bits .and .i64 x 255 ≤ 255 := by
  have h : bits .and .i64 x 255 = IntKind.i64.wrap ((BitVec.ofInt 64 x &&& BitVec.ofInt 64 255).toNat : Int) := rfl
  have hle : (BitVec.ofInt 64 x &&& BitVec.ofInt 64 255).toNat ≤ 255 := by
    rw [BitVec.toNat_and]
    exact Nat.le_trans Nat.and_le_right (by decide)
  rw [h, IntWalk.i64_in _ ⟨by omega, by omega⟩]; omega
/-- The bytes of a code that came in lie in a block below B. -/
def CodeAt (w : World) (a : Option Addr) (len B : Nat) : Prop :=
  len ≤ 1048576 ∧ (len = 0 ∨ ∃ b off, a = some ⟨b, off, none⟩ ∧ b < B ∧ ∀ k, k < len → ∃ z : Int, 0 ≤ z ∧ z ≤ 255 ∧ w.cell? ⟨b, off + k, none⟩ = some (.int .u8 z))
theorem cell3 {w : World} {p : Nat} {x y z : Value} {t : TypeId} (h : w.heap[p]? = some (.cells #[x, y, z] t (0, 0))) :
    w.cell? ⟨p, 0, none⟩ = some x ∧ w.cell? ⟨p, 1, none⟩ = some y ∧ w.cell? ⟨p, 2, none⟩ = some z ∧ w.frozen? ⟨p, 1, none⟩ = false ∧ w.frozen? ⟨p, 2, none⟩ = false := by
  simp [World.cell?, World.frozen?, h]
theorem set3_2 {w : World} {p : Nat} {x y z u : Value} {t : TypeId} (h : w.heap[p]? = some (.cells #[x, y, z] t (0, 0))) : (w.setCell ⟨p, 2, none⟩ u).heap[p]? = some (.cells #[x, y, u] t (0, 0)) := by
  have hlt := lt_of_block h
  have h' : w.heap[p] = .cells #[x, y, z] t (0, 0) := by simpa [Array.getElem?_eq_getElem hlt] using h
  show (w.heap.modify p _)[p]? = _
  rw [Array.getElem?_eq_getElem (by simpa using hlt), Array.getElem_modify_self, h']
  rfl
theorem set3_1 {w : World} {p : Nat} {x y z u : Value} {t : TypeId} (h : w.heap[p]? = some (.cells #[x, y, z] t (0, 0))) : (w.setCell ⟨p, 1, none⟩ u).heap[p]? = some (.cells #[x, u, z] t (0, 0)) := by
  have hlt := lt_of_block h
  have h' : w.heap[p] = .cells #[x, y, z] t (0, 0) := by simpa [Array.getElem?_eq_getElem hlt] using h
  show (w.heap.modify p _)[p]? = _
  rw [Array.getElem?_eq_getElem (by simpa using hlt), Array.getElem_modify_self, h']
  rfl
theorem grown_set (w : World) (p j : Nat) (u : Value) : w.grownBy (w.setCell ⟨p, j, none⟩ u) (some p) :=
  ⟨rfl, rfl, rfl, by simp, fun k _ hk => by
    show (w.heap.modify p _)[k]? = _
    rw [Array.getElem?_modify, if_neg (fun e => hk (by rw [e]))]⟩
theorem grown_drew {w w' : World} {r : Option Nat} (h : w.grownBy w' r) (n : Nat) : w.grownBy (w'.drewN n) r := ⟨h.os, h.tape, h.output, h.size, h.block⟩
theorem grown_trans {w w1 w2 : World} {r : Option Nat} (h : w.grownBy w1 r) (k : w1.grownBy w2 r) : w.grownBy w2 r :=
  ⟨k.os.trans h.os, k.tape.trans h.tape, k.output.trans h.output, Nat.le_trans h.size k.size, fun i hi hne => (k.block i (Nat.lt_of_lt_of_le hi h.size) hne).trans (h.block i hi hne)⟩
theorem grown_same (w : World) (r : Option Nat) : w.grownBy w r := ⟨rfl, rfl, rfl, Nat.le_refl _, fun _ _ _ => rfl⟩
theorem CodeAt.grown {w w' : World} {a : Option Addr} {len p : Nat} (h : CodeAt w a len p) (hg : w.grownBy w' (some p)) : CodeAt w' a len p := by
  obtain ⟨hl, h⟩ := h
  refine ⟨hl, ?_⟩
  rcases h with h | ⟨b, off, rfl, hb, h⟩
  · exact .inl h
  · refine .inr ⟨b, off, rfl, hb, fun k hk => ?_⟩
    obtain ⟨z, z0, z1, hz⟩ := h k hk
    exact ⟨z, z0, z1, hg.cell hz (fun e => by simp at e; omega)⟩
theorem CodeAt.below {w w' : World} {a : Option Addr} {len B : Nat} (h : CodeAt w a len B) (hb : Below B w w') : CodeAt w' a len B := by
  obtain ⟨hl, h⟩ := h
  refine ⟨hl, ?_⟩
  rcases h with h | ⟨b, off, rfl, hbb, h⟩
  · exact .inl h
  · refine .inr ⟨b, off, rfl, hbb, fun k hk => ?_⟩
    obtain ⟨z, z0, z1, hz⟩ := h k hk
    exact ⟨z, z0, z1, (hb.cell (p := ⟨b, off + k, none⟩) hbb).trans hz⟩
theorem CodeAt.mono {w : World} {a : Option Addr} {len B B' : Nat} (h : CodeAt w a len B) (hB : B ≤ B') : CodeAt w a len B' := by
  obtain ⟨hl, h⟩ := h
  refine ⟨hl, ?_⟩
  rcases h with h | ⟨b, off, rfl, hbb, h⟩
  · exact .inl h
  · exact .inr ⟨b, off, rfl, by omega, h⟩
def I64 (z : Int) : Prop := -9223372036854775808 ≤ z ∧ z ≤ 9223372036854775807
def Ints (w : World) (q m : Nat) : Prop := ∀ k, k < m → ∃ z : Int, I64 z ∧ w.cell? ⟨q, k, none⟩ = some (.int .i64 z)
theorem ints_new (w : World) (zs : List Int) (t : TypeId) (hz : ∀ z ∈ zs, I64 z) : Ints (w.alloc (.cells (zs.map (Value.int .i64)).toArray t)) w.heap.size zs.length := by
  intro k hk
  refine ⟨zs[k], hz _ (List.getElem_mem hk), ?_⟩
  have h := heap_alloc_new w (.cells (zs.map (Value.int .i64)).toArray t)
  rw [cell_of_row _ w.heap.size k _ t (0, 0) h]
  simp [hk]
theorem grown_alloc (w : World) (o : Obj) (r : Option Nat) : w.grownBy (w.alloc o) r := World.grownBy_alloc w o r
theorem below_new {w w' : World} {o : Obj} (hg : (w.alloc o).grownBy w' (some w.heap.size)) : Below w.heap.size w w' :=
  ((Below.refl _ w).alloc (Nat.le_refl _) o).grown hg (by simp) (fun k hk => by simp at hk; omega)
end Go.Proofs.YtigjdlpjibakjaaGreat
namespace Go.Proofs.YtigjdlpjibakjaaGreat
open Go.RowKit
set_option linter.unusedVariables false
theorem keepset3 {w : World} {p q : Addr} {v u : Value} (h : w.cell? p = some v) (hne : q.block ≠ p.block) : (w.setCell q u).cell? p = some v := by
  rw [World.cell?_setCell_far _ _ _ _ hne]; exact h
theorem cell2g {w : World} {p : Nat} {a b : Value} {t : TypeId} (h : w.heap[p]? = some (.cells #[a, b] t (0, 0))) : w.cell? ⟨p, 0, none⟩ = some a ∧ w.cell? ⟨p, 1, none⟩ = some b ∧ w.frozen? ⟨p, 0, none⟩ = false ∧ w.frozen? ⟨p, 1, none⟩ = false := by
  refine ⟨?_, ?_, ?_, ?_⟩ <;> simp [World.cell?, World.frozen?, h]
/-- A coordinate that is drawn. -/
def Cd (z : Int) : Prop := -40000 ≤ z ∧ z ≤ 40000
def IntsP (P : Int → Prop) (w : World) (q m : Nat) : Prop := ∀ k, k < m → ∃ z : Int, P z ∧ w.cell? ⟨q, k, none⟩ = some (.int .i64 z)
theorem intsP_new (P : Int → Prop) (w : World) (zs : List Int) (t : TypeId) (hz : ∀ z ∈ zs, P z) : IntsP P (w.alloc (.cells (zs.map (Value.int .i64)).toArray t)) w.heap.size zs.length := by
  intro k hk
  refine ⟨zs[k], hz _ (List.getElem_mem hk), ?_⟩
  have h := heap_alloc_new w (.cells (zs.map (Value.int .i64)).toArray t)
  rw [cell_of_row _ w.heap.size k _ t (0, 0) h]
  simp [hk]
theorem CodeAt.set {w : World} {a : Option Addr} {len p : Nat} (h : CodeAt w a len p) {n k : Nat} (hn : p ≤ n) (u : Value) : CodeAt (w.setCell ⟨n, k, none⟩ u) a len p := by
  obtain ⟨hl, h⟩ := h
  refine ⟨hl, ?_⟩
  rcases h with h | ⟨b, off, rfl, hb, h⟩
  · exact .inl h
  · refine .inr ⟨b, off, rfl, hb, fun k hk => ?_⟩
    obtain ⟨z, z0, z1, hz⟩ := h k hk
    exact ⟨z, z0, z1, keepset3 hz (by simp; omega)⟩
theorem grown_setn {w w1 : World} {r : Option Nat} (h : w.grownBy w1 r) {n k : Nat} (hn : w.heap.size ≤ n) (u : Value) : w.grownBy (w1.setCell ⟨n, k, none⟩ u) r :=
  ⟨h.os, h.tape, h.output, by simpa using h.size, fun i hi hne => by
    rw [← h.block i hi hne]
    show (w1.heap.modify n _)[i]? = _
    rw [Array.getElem?_modify, if_neg (by omega)]⟩
theorem grown_blk {w w1 : World} {p n : Nat} {o : Obj} (h : w.grownBy w1 (some p)) (hb : w.heap[n]? = some o) (hne : n ≠ p) : w1.heap[n]? = some o :=
  (h.block n (lt_of_block hb) (by simp; omega)).trans hb
theorem bgrown {w a b : World} {p : Nat} (h : Below w.heap.size w a) (hg : a.grownBy b (some p)) (hp : w.heap.size ≤ p) : Below w.heap.size w b :=
  h.grown hg h.size (fun k hk => by simp at hk; omega)
theorem set2 {w1 : World} {B : Nat} {o0 o1 : Value} {t : TypeId} (gz : w1.heap[B]? = some (.cells #[o0, o1] t (0, 0))) (a b : Value) :
    ((w1.setCell ⟨B, 0, none⟩ a).setCell ⟨B, 1, none⟩ b).heap[B]? = some (.cells #[a, b] t (0, 0)) ∧ (∀ C o, C ≠ B → w1.heap[C]? = some o → ((w1.setCell ⟨B, 0, none⟩ a).setCell ⟨B, 1, none⟩ b).heap[C]? = some o) :=
  ⟨set_at (set_at gz), fun C o hC h => set_far (set_far h hC) hC⟩
theorem set4r {w1 : World} {B : Nat} {o0 o1 o2 o3 : Value} {t : TypeId} (gz : w1.heap[B]? = some (.cells #[o0, o1, o2, o3] t (0, 0))) (a b c d : Value) :
    ((((w1.setCell ⟨B, 0, none⟩ a).setCell ⟨B, 1, none⟩ b).setCell ⟨B, 2, none⟩ c).setCell ⟨B, 3, none⟩ d).heap[B]? = some (.cells #[a, b, c, d] t (0, 0)) ∧ (∀ C o, C ≠ B → w1.heap[C]? = some o → ((((w1.setCell ⟨B, 0, none⟩ a).setCell ⟨B, 1, none⟩ b).setCell ⟨B, 2, none⟩ c).setCell ⟨B, 3, none⟩ d).heap[C]? = some o) :=
  ⟨set_at (set_at (set_at (set_at gz))), fun C o hC h => set_far (set_far (set_far (set_far h hC) hC) hC) hC⟩
end Go.Proofs.YtigjdlpjibakjaaGreat
namespace Go.Proofs.YtigjdlpjibakjaaGreat
open Go.RowKit
set_option linter.unusedVariables false
set_option linter.unusedSimpArgs false
/-- A list of points that may be written into: nil, or a block of its own. -/
def OwnP (w : World) (a : Option Addr) (ps : List (Int × Int)) : Prop := (a = none ∧ ps = []) ∨ ∃ b, a = some ⟨b, 0, none⟩ ∧ PtsOwn w b ps
theorem OwnP.pts {w : World} {a : Option Addr} {ps : List (Int × Int)} (h : OwnP w a ps) : Pts w a ps := by
  rcases h with ⟨rfl, rfl⟩ | ⟨b, rfl, h⟩
  · exact .inl rfl
  · exact h.pts
theorem OwnP.below {w w' : World} {a : Option Addr} {ps : List (Int × Int)} (h : OwnP w a ps) (H : Below w.heap.size w w') : OwnP w' a ps := by
  rcases h with ⟨rfl, rfl⟩ | ⟨b, rfl, h⟩
  · exact .inl ⟨rfl, rfl⟩
  · exact .inr ⟨b, rfl, h.below H⟩
def mk (j : Nat) : Int × Int := ((1 : Int) + 2 * j, (2 : Int) + 2 * j)
/-- What is marked is another list in the same block; nothing else is turned. -/
def Marked (w w' : World) (a : Option Addr) (n : Nat) : Prop := OwnP w' a (tk mk n) ∧ w.grownBy w' (a.map (·.block))
theorem take_of (f : Nat → Int × Int) (n k : Nat) (h : k ≤ n) : (tk f n).take k = tk f k := by
  unfold tk
  rw [← List.map_take, List.take_range, Nat.min_eq_left h]
theorem put_mark {w : World} {b k n : Nat} (hb : b < w.heap.size) (hk : k < n) (h : PtsAt w b 0 (tk mk k)) (ht : w.there b 0 (n * 2)) :
    PtsAt ((w.setCell ⟨b, k * 2, none⟩ (.int .i64 (1 + 2 * k))).setCell ⟨b, k * 2 + 1, none⟩ (.int .i64 (2 + 2 * k))) b 0 (tk mk (k + 1)) ∧ ((w.setCell ⟨b, k * 2, none⟩ (.int .i64 (1 + 2 * k))).setCell ⟨b, k * 2 + 1, none⟩ (.int .i64 (2 + 2 * k))).there b 0 (n * 2) := by
  have h1 := put_point (ps := tk mk n) (n := n * 2) hb (by rw [tk_len]; exact hk) (by rw [tk_len]) (by rw [take_of _ _ _ (by omega)]; exact h) ht (1 + 2 * k) (2 + 2 * k) (by rw [tk_getD _ _ _ hk]; rfl) (by rw [tk_getD _ _ _ hk]; rfl)
  rw [take_of _ _ _ (by omega)] at h1
  exact h1
theorem grown_setb {w w1 : World} {b k : Nat} (h : w.grownBy w1 (some b)) (u : Value) : w.grownBy (w1.setCell ⟨b, k, none⟩ u) (some b) := grown_trans h (grown_set _ _ _ _)
set_option maxRecDepth 100000 in
set_option maxHeartbeats 1000000 in
theorem mark_pts (w : World) (a : Option Addr) (cap : Nat) (ps : List (Int × Int)) (hm : ps.length ≤ 1099511627776) (hc : ps.length ≤ cap) (h : OwnP w a ps) : Calls Tryz.prog 86 #[.slice a ps.length cap, .int .i64 1] w fun e w' => e = .returned (.int .i64 (1 + 2 * (ps.length : Int))) ∧ Marked w w' a ps.length := by
  rcases h with ⟨rfl, rfl⟩ | ⟨b, rfl, hb, hp, ht⟩
  · go_enter Tryz.func86, Tryz.ntmps86
    go_wp2_with fail
    go_loopw [1, 5] (fun tk' ti wr => tk' = .int .i64 1 ∧ ti = .int .i64 0 ∧ wr = w) (fun _ _ _ => 0)
    case atStart => exact ⟨rfl, rfl, rfl⟩
    case round =>
      obtain ⟨rfl, rfl, rfl⟩ := hrel
      go_wp2_with fail
      go_ret
      exact ⟨by first | rfl | (simp; done) | (show Ending.returned (.int .i64 1) = _; simp), .inl ⟨rfl, rfl⟩, grown_same _ _⟩
  · generalize hn : ps.length = n at *
    clear hp
    go_enter Tryz.func86, Tryz.ntmps86
    go_wp2_with fail
    go_loopw [1, 5] (fun tk' ti wr => ∃ k : Nat, ti = .int .i64 k ∧ tk' = .int .i64 (1 + 2 * (k : Int)) ∧ k ≤ n ∧ Hid (b < wr.heap.size ∧ PtsAt wr b 0 (tk mk k) ∧ wr.there b 0 (n * 2) ∧ w.grownBy wr (some b))) (fun _ ti _ => n - (intOf ti).toNat)
    case atStart => exact ⟨0, rfl, rfl, Nat.zero_le _, hid ⟨hb, fun j hj => by simp [tk] at hj, ht, grown_same _ _⟩⟩
    case round =>
      obtain ⟨k, rfl, rfl, hk, HH⟩ := hrel
      by_cases hlt : k < n
      · have c1 : (k : Int) < (n : Int) := by omega
        obtain ⟨g0, g0'⟩ := HH.out.2.2.1 (k * 2) (by omega)
        obtain ⟨g1, g1'⟩ := HH.out.2.2.1 (k * 2 + 1) (by omega)
        obtain ⟨u0, hu0⟩ := Option.isSome_iff_exists.1 g0
        obtain ⟨u1, hu1⟩ := Option.isSome_iff_exists.1 g1
        simp only [Nat.zero_add, ← Nat.add_assoc] at hu0 hu1 g0' g1'
        have hu1' : (wr.setCell ⟨b, k * 2, none⟩ (.int .i64 (1 + 2 * (k : Int)))).cell? ⟨b, k * 2 + 1, none⟩ = some u1 := by
          rw [World.cell?_setCell_other _ _ _ _ (by simp)]; exact hu1
        have g1'' : (wr.setCell ⟨b, k * 2, none⟩ (.int .i64 (1 + 2 * (k : Int)))).frozen? ⟨b, k * 2 + 1, none⟩ = false := by rw [World.frozen?_setCell]; exact g1'
        clear g0 g1
        go_wp2_with fail
        go_roundw
        case rel =>
          obtain ⟨r1, r2⟩ := put_mark HH.out.1 hlt HH.out.2.1 HH.out.2.2.1
          refine ⟨k + 1, by go_num, by go_num, by omega, ?_⟩
          rw [show (1 : Int) + 2 * (k : Int) + 1 = 2 + 2 * (k : Int) by omega]
          exact hid ⟨by simpa using HH.out.1, r1, r2, grown_setb (grown_setb HH.out.2.2.2 _) _⟩
        case measure => simp [intOf]; omega
      · obtain rfl : k = n := by omega
        go_wp2_with fail
        go_ret
        exact ⟨rfl, .inr ⟨b, rfl, HH.out.1, HH.out.2.1, by rw [tk_len]; exact HH.out.2.2.1⟩, HH.out.2.2.2⟩
set_option maxRecDepth 100000 in
set_option maxHeartbeats 1000000 in
theorem held_pts (w : World) (a : Option Addr) (cap n : Nat) (hm : n ≤ 1099511627776) (hc : n ≤ cap) (h : Pts w a (tk mk n)) : Calls Tryz.prog 87 #[.slice a n cap, .int .i64 1] w fun e w' => e = .returned (.int .i64 (1 + 2 * (n : Int))) ∧ w' = w := by
  have HP := hid h
  clear h
  go_enter Tryz.func87, Tryz.ntmps87
  go_wp2_with fail
  go_loopw [1, 5] (fun tk' ti wr => ∃ k : Nat, ti = .int .i64 k ∧ tk' = .int .i64 (1 + 2 * (k : Int)) ∧ k ≤ n ∧ wr = w) (fun _ ti _ => n - (intOf ti).toNat)
  case atStart => exact ⟨0, rfl, rfl, Nat.zero_le _, rfl⟩
  case round =>
    obtain ⟨k, rfl, rfl, hk, hw⟩ := hrel
    subst hw
    by_cases hlt : k < n
    · have c1 : (k : Int) < (n : Int) := by omega
      obtain ⟨b, off, rfl, hbs, hp⟩ : ∃ b off, a = some ⟨b, off, none⟩ ∧ b < wr.heap.size ∧ PtsAt wr b off (tk mk n) := by
        rcases HP.out with h | h
        · have := congrArg List.length h; rw [tk_len] at this; simp at this; omega
        · exact h
      obtain ⟨d0, d1⟩ := hp k (by rw [tk_len]; exact hlt)
      rw [tk_getD _ _ _ hlt] at d0 d1
      simp only [mk] at d0 d1
      have e1 : (1 : Int) + 2 * (k : Int) + 1 = 2 + 2 * (k : Int) := by omega
      rw [← e1] at d1
      clear hp e1
      go_wp2_with fail
      go_roundw
      case rel => exact ⟨k + 1, by go_num, by go_num, by omega, by first | rfl | trivial⟩
      case measure => simp [intOf]; omega
    · obtain rfl : k = n := by omega
      go_wp2_with fail
      go_ret
      exact ⟨rfl, rfl⟩
end Go.Proofs.YtigjdlpjibakjaaGreat
namespace Go.Proofs.YtigjdlpjibakjaaGreat
open Go.RowKit
set_option linter.unusedSimpArgs false
set_option linter.unusedVariables false
/-- Of what was there only blocks from lo on, below hi, may have turned. -/
def Mid (lo hi : Nat) (w w' : World) : Prop := w'.os = w.os ∧ w'.tape = w.tape ∧ w'.output = w.output ∧ w.heap.size ≤ w'.heap.size ∧ ∀ k, k < w.heap.size → (k < lo ∨ hi ≤ k) → w'.heap[k]? = w.heap[k]?
theorem mid_refl (lo hi : Nat) (w : World) : Mid lo hi w w := ⟨rfl, rfl, rfl, Nat.le_refl _, fun _ _ _ => rfl⟩
theorem mid_trans {lo hi : Nat} {a b c : World} (h : Mid lo hi a b) (k : Mid lo hi b c) : Mid lo hi a c := by
  obtain ⟨h1, h2, h3, h4, h5⟩ := h
  obtain ⟨k1, k2, k3, k4, k5⟩ := k
  exact ⟨k1.trans h1, k2.trans h2, k3.trans h3, Nat.le_trans h4 k4, fun i hi' ho => (k5 i (Nat.lt_of_lt_of_le hi' h4) ho).trans (h5 i hi' ho)⟩
theorem mid_below {lo hi : Nat} {w w' : World} (h : Below w.heap.size w w') : Mid lo hi w w' := ⟨h.os, h.tape, h.output, h.size, fun k hk _ => h.block k hk⟩
theorem mid_set {lo hi b k : Nat} {w w1 : World} (h : Mid lo hi w w1) (h1 : lo ≤ b) (h2 : b < hi) (u : Value) : Mid lo hi w (w1.setCell ⟨b, k, none⟩ u) :=
  mid_trans h ⟨rfl, rfl, rfl, by simp [World.setCell], fun i _ ho => Below.heap_setCell _ _ _ _ (by dsimp only; omega)⟩
theorem mid_grown {lo hi b : Nat} {w w1 w2 : World} (h : Mid lo hi w w1) (g : w1.grownBy w2 (some b)) (h1 : lo ≤ b) (h2 : b < hi) : Mid lo hi w w2 :=
  mid_trans h ⟨g.os, g.tape, g.output, g.size, fun i hi' ho => g.block i hi' (fun e => by cases e; omega)⟩
theorem mid_B {n lo hi : Nat} {w0 w w' : World} (h : Below n w0 w) (k : Mid lo hi w w') (h1 : n ≤ lo) (h2 : n ≤ w.heap.size) : Below n w0 w' := by
  obtain ⟨k1, k2, k3, k4, k5⟩ := k
  exact h.trans ⟨k1, k2, k3, k4, fun i hi' => k5 i (by omega) (by omega)⟩
theorem mid_blk {lo hi c : Nat} {w w' : World} (k : Mid lo hi w w') (hc : c < w.heap.size) (h : c < lo ∨ hi ≤ c) : w'.heap[c]? = w.heap[c]? := k.2.2.2.2 c hc h
theorem mid_cell {lo hi c j : Nat} {v : Value} {w w' : World} (k : Mid lo hi w w') (hv : w.cell? ⟨c, j, none⟩ = some v) (h : c < lo ∨ hi ≤ c) : w'.cell? ⟨c, j, none⟩ = some v := by
  have hc : c < w.heap.size := World.block_lt_of_cell? w _ hv
  simp only [World.cell?, mid_blk k hc h] at hv ⊢
  exact hv
theorem mid_own {lo hi : Nat} {w w' : World} {a : Option Addr} {ps : List (Int × Int)} (k : Mid lo hi w w') (h : OwnP w a ps) (ha : ∀ c off, a = some ⟨c, off, none⟩ → c < lo ∨ hi ≤ c) : OwnP w' a ps := by
  rcases h with ⟨rfl, rfl⟩ | ⟨b, rfl, h⟩
  · exact .inl ⟨rfl, rfl⟩
  · exact .inr ⟨b, rfl, h.of_block (mid_blk k h.1 (ha b 0 rfl)) k.2.2.2.1⟩
/-- A row whose points' list has a block of its own, below hi, that may be written into. -/
def RwO (hi : Nat) (w : World) (B o n : Nat) : Prop := ∃ c, w.cell? ⟨B, o + 4, none⟩ = some (.slice (some ⟨c, 0, none⟩) n n) ∧ B < c ∧ c < hi ∧ w.there c 0 (n * 2)
def RwsO (hi : Nat) (w : World) (B : Nat) (rs : List Rw) : Prop := ∀ j (h : j < rs.length), RwO hi w B (j * 5) rs[j].2.2.2.2.length
theorem RwO.below {hi : Nat} {w w' : World} {B o n : Nat} (h : RwO hi w B o n) (hh : hi ≤ w.heap.size) (H : Below w.heap.size w w') : RwO hi w' B o n := by
  obtain ⟨c, h0, h1, h2, h3⟩ := h
  exact ⟨c, keepcell H h0, h1, h2, there_below h3 (by omega) H⟩
theorem RwO.mono {hi hi' : Nat} {w : World} {B o n : Nat} (h : RwO hi w B o n) (hh : hi ≤ hi') : RwO hi' w B o n := by
  obtain ⟨c, h0, h1, h2, h3⟩ := h
  exact ⟨c, h0, h1, by omega, h3⟩
theorem RwsO.below {hi : Nat} {w w' : World} {B : Nat} {rs : List Rw} (h : RwsO hi w B rs) (hh : hi ≤ w.heap.size) (H : Below w.heap.size w w') : RwsO hi w' B rs := fun j hj => (h j hj).below hh H
theorem there_at {w : World} {b n k : Nat} (h : w.there b 0 n) (hk : k < n) : ∃ v, w.cell? ⟨b, k, none⟩ = some v ∧ w.frozen? ⟨b, k, none⟩ = false := by
  obtain ⟨h1, h2⟩ := h k hk
  obtain ⟨v, hv⟩ := Option.isSome_iff_exists.1 h1
  simp only [Nat.zero_add] at hv h2
  exact ⟨v, hv, h2⟩
theorem there_set {w : World} {b n p k : Nat} (h : w.there b 0 n) (u : Value) : (w.setCell ⟨p, k, none⟩ u).there b 0 n := by
  intro j hj
  obtain ⟨h1, h2⟩ := h j hj
  refine ⟨?_, by rw [World.frozen?_setCell]; exact h2⟩
  obtain ⟨v, hv⟩ := Option.isSome_iff_exists.1 h1
  obtain ⟨v', hv'⟩ := cell?_setCell_some (p := ⟨p, k, none⟩) (x := u) hv
  rw [hv']; rfl
theorem put_own {hi : Nat} {w : World} {B k n b m : Nat} (ht : w.there B 0 (n * 5)) (hk : k < n) (hb : B < b) (hbh : b < hi) (ho : w.there b 0 (m * 2)) (u0 u1 u2 u3 : Value) :
    RwO hi (((((w.setCell ⟨B, k * 5, none⟩ u0).setCell ⟨B, k * 5 + 1, none⟩ u1).setCell ⟨B, k * 5 + 2, none⟩ u2).setCell ⟨B, k * 5 + 3, none⟩ u3).setCell ⟨B, k * 5 + 4, none⟩ (.slice (some ⟨b, 0, none⟩) m m)) B (k * 5) m := by
  obtain ⟨v, hv, _⟩ := there_at (there_set (there_set (there_set (there_set ht u0 (p := B) (k := k * 5)) u1 (p := B) (k := k * 5 + 1)) u2 (p := B) (k := k * 5 + 2)) u3 (p := B) (k := k * 5 + 3)) (show k * 5 + 4 < n * 5 by omega)
  exact ⟨b, World.cell?_setCell_same _ _ _ hv, hb, hbh, there_set (there_set (there_set (there_set (there_set ho _) _) _) _) _⟩
theorem RwO.far {hi : Nat} {w : World} {B o n k : Nat} (h : RwO hi w B o n) (hk : k ≠ o + 4) (u : Value) : RwO hi (w.setCell ⟨B, k, none⟩ u) B o n := by
  obtain ⟨c, h0, h1, h2, h3⟩ := h
  refine ⟨c, ?_, h1, h2, there_set h3 _⟩
  rw [World.cell?_setCell_other _ _ _ _ (by intro q; injection q; omega)]
  exact h0
set_option maxHeartbeats 2000000 in
theorem to_rowSO {N : Nat → Prop} (a : Option Addr) (cap : Nat) (rs : List Rw) (w : World) (hm : rs.length ≤ 1099511627776) (h : Rws N w a rs) : Calls Tryz.prog 40 #[.slice a rs.length cap] w fun e w' => ∃ B, e = .returned (.slice (some ⟨B, 0, none⟩) rs.length rs.length) ∧ w.heap.size ≤ B ∧ B < w'.heap.size ∧ RwsAt (fun c => B < c) w' B 0 rs ∧ w'.there B 0 (rs.length * 5) ∧ RwsO w'.heap.size w' B rs ∧ Below w.heap.size w w' := by
  have HR := hid h
  clear h
  have hmk := make_rows rs.length hm
  obtain ⟨n, hn⟩ : ∃ n, n = rs.length := ⟨_, rfl⟩
  have HN := hid hn.symm
  rw [← hn] at hmk hm ⊢
  clear hn
  go_enter Tryz.func40, Tryz.ntmps40
  go_wp2_with fail
  have hB : Below w.heap.size w (w.alloc (.cells (madeCells #[.int .i64 0, .int .i64 0, .int .i64 0, .int .i64 0, .slice none 0 0] (n * 5)) 88)) := balloc (Below.refl _ _) _
  have hT := made_own5 w n
  have hl : w.heap.size < (w.alloc (.cells (madeCells #[.int .i64 0, .int .i64 0, .int .i64 0, .int .i64 0, .slice none 0 0] (n * 5)) 88)).heap.size := by simp
  generalize w.alloc (.cells (madeCells #[.int .i64 0, .int .i64 0, .int .i64 0, .int .i64 0, .slice none 0 0] (n * 5)) 88) = W at *
  clear hmk
  go_loopw [4] (fun ti wr => ∃ j : Nat, ti = .int .i64 j ∧ j ≤ n ∧ Hid (w.heap.size < wr.heap.size) ∧ Hid (∀ i (hi : i < rs.length), i < j → RwAt (fun c => w.heap.size < c) wr w.heap.size (i * 5) rs[i]) ∧ Hid (wr.there w.heap.size 0 (n * 5)) ∧ Hid (∀ i (hi : i < rs.length), i < j → RwO wr.heap.size wr w.heap.size (i * 5) rs[i].2.2.2.2.length) ∧ Hid (Below w.heap.size w wr)) (fun ti _ => n - (intOf ti).toNat)
  case atStart => exact ⟨0, rfl, Nat.zero_le _, hid hl, hid (fun i hi h => absurd h (by omega)), hid hT, hid (fun i hi h => absurd h (by omega)), hid hB⟩
  case round =>
    clear hB hT hl
    obtain ⟨j, rfl, hj, HL, HP, HT, HOW, HBW⟩ := hrel
    by_cases hlt : j < n
    · have c1 : (j : Int) < (n : Int) := by omega
      have hjr : j < rs.length := by rw [HN.out]; exact hlt
      obtain ⟨b, o, rfl, hbs, hr⟩ := (HR.out.below HBW.out).at j hjr
      obtain ⟨a', cap', k0, k1, k2, k3, k4, k5, k6, k7, k8⟩ := hr
      have TR := hid (to_row rs[j] a' cap' wr k6 k5 k7)
      have HPR := hid (fun (W : World) (bb : Nat) => put_row (N := fun c => w.heap.size < c) (w := W) (B := w.heap.size) (k := j) (n := n) (b := bb) (rs := rs) (fun c hc => by omega) hjr HN.out)
      have HK6 := hid k6
      have HLN : Hid (∀ m, rs[j].2.2.2.2.length = m → ∀ (X : World) (hX : ∀ i (hi : i < rs.length), i < j → RwO X.heap.size X w.heap.size (i * 5) rs[i].2.2.2.2.length) (hY : RwO X.heap.size X w.heap.size (j * 5) m), ∀ i (hi : i < rs.length), i < j + 1 → RwO X.heap.size X w.heap.size (i * 5) rs[i].2.2.2.2.length) := hid (fun m hm X hX hY i hi h => by
        by_cases e : i = j
        · subst e; rw [hm]; exact hY
        · exact hX i hi (by omega))
      unfold rwv at TR
      clear k5 k6 k7 k8
      generalize rs[j].1 = id at *
      generalize rs[j].2.1 = fr at *
      generalize rs[j].2.2.1 = te at *
      generalize rs[j].2.2.2.1 = kd at *
      generalize rs[j].2.2.2.2 = ps at *
      go_wp2_with fail
      refine TR.out.mono ?_
      rintro e w1 ⟨bb, rfl, hbb, ho, hb1⟩
      have hP := fun i (hi : i < rs.length) (h : i < j) => (HP.out i hi h).below hb1
      have hT := there_below HT.out HL.out hb1
      have hB := btrans HBW.out hb1
      have hL : w.heap.size < w1.heap.size := Nat.lt_of_lt_of_le HL.out hb1.size
      have hbl : w.heap.size < bb := Nat.lt_of_lt_of_le HL.out hbb
      have HPUT := hid (HPR.out w1 bb hP hT hbl HK6.out ho)
      have HOLD := hid (fun i (hi : i < rs.length) (h : i < j) => ((HOW.out i hi h).below (Nat.le_refl _) hb1).mono hb1.size)
      have HNEW := hid (fun u0 u1 u2 u3 => put_own (hi := w1.heap.size) hT hlt hbl ho.1 ho.2.2 u0 u1 u2 u3)
      have q := fun i (hi : i < n * 5) => hT i hi
      obtain ⟨x0, y0⟩ := q (j * 5) (by omega)
      obtain ⟨x1, y1⟩ := q (j * 5 + 1) (by omega)
      obtain ⟨x2, y2⟩ := q (j * 5 + 2) (by omega)
      obtain ⟨x3, y3⟩ := q (j * 5 + 3) (by omega)
      obtain ⟨x4, y4⟩ := q (j * 5 + 4) (by omega)
      obtain ⟨v0, z0⟩ := Option.isSome_iff_exists.1 x0
      obtain ⟨v1, z1⟩ := Option.isSome_iff_exists.1 x1
      obtain ⟨v2, z2⟩ := Option.isSome_iff_exists.1 x2
      obtain ⟨v3, z3⟩ := Option.isSome_iff_exists.1 x3
      obtain ⟨v4, z4⟩ := Option.isSome_iff_exists.1 x4
      simp only [Nat.zero_add, ← Nat.add_assoc] at z0 z1 z2 z3 z4 y0 y1 y2 y3 y4
      clear q x0 x1 x2 x3 x4 hP HPR hb1 ho TR
      have HL1 := hid hL
      have HB1 := hid hB
      clear hT
      go_wp2_with fail
      go_roundw
      case rel => exact ⟨j + 1, by go_num, by omega, hid (by simpa using hL), hid HPUT.out.1, hid HPUT.out.2, hid (HLN.out _ rfl _ (fun i hi h => by simpa using ((((((HOLD.out i hi h).far (by omega) _).far (by omega) _).far (by omega) _).far (by omega) _).far (by omega) _)) (by simpa using HNEW.out _ _ _ _)), hid (bset (bset (bset (bset (bset hB (by omega) _) (by omega) _) (by omega) _) (by omega) _) (by omega) _)⟩
      case measure => simp [intOf]; omega
    · obtain rfl : n = j := by omega
      have c1 : (n : Int) ≤ (n : Int) := by omega
      go_wp2_with fail
      go_ret
      exact ⟨w.heap.size, rfl, Nat.le_refl _, HL.out, fun i hi => by have := HP.out i hi (by rw [HN.out] at hi; exact hi); simpa using this, HT.out, fun i hi => HOW.out i hi (by rw [HN.out] at hi; exact hi), HBW.out⟩
theorem RwO.other {hi : Nat} {w : World} {B o n q k : Nat} (h : RwO hi w B o n) (hq : q ≠ B) (u : Value) : RwO hi (w.setCell ⟨q, k, none⟩ u) B o n := by
  obtain ⟨c, h0, h1, h2, h3⟩ := h
  refine ⟨c, ?_, h1, h2, there_set h3 _⟩
  rw [World.cell?_setCell_other _ _ _ _ (by intro e; injection e; omega)]
  exact h0
set_option maxHeartbeats 1000000 in
theorem to_rowsO {N : Nat → Prop} (now : Int) (a : Option Addr) (cap : Nat) (rs : List Rw) (w : World) (hm : rs.length ≤ 1099511627776) (h : Rws N w a rs) : Calls Tryz.prog 18 #[.agg #[.int .i64 now, .slice a rs.length cap]] w fun e w' => ∃ B, e = .returned (.agg #[.int .i64 now, .slice (some ⟨B, 0, none⟩) rs.length rs.length]) ∧ w.heap.size ≤ B ∧ B < w'.heap.size ∧ RwsAt (fun c => B < c) w' B 0 rs ∧ w'.there B 0 (rs.length * 5) ∧ RwsO w'.heap.size w' B rs ∧ Below w.heap.size w w' := by
  have TS := hid (fun (W : World) (hb : Below w.heap.size w W) => to_rowSO a cap rs W hm (h.below hb))
  clear h
  obtain ⟨n, hn⟩ : ∃ n, n = rs.length := ⟨_, rfl⟩
  rw [← hn] at TS ⊢
  clear hn
  go_enter Tryz.func18, Tryz.ntmps18
  go_wp2_with fail
  have hB0 : Below w.heap.size w (((w.alloc (.cells #[.int .i64 now, .slice a n cap] 24)).alloc (.cells #[.int .i64 0, .slice none 0 0] 31)).alloc (.cells #[.int .i64 now, .slice none 0 0] 31)) := balloc (balloc (balloc (Below.refl _ _) _) _) _
  have g2 := old_alloc (o' := .cells #[.int .i64 now, .slice none 0 0] 31) (new_alloc (w.alloc (.cells #[.int .i64 now, .slice a n cap] 24)) (w.heap.size + 1) (.cells #[.int .i64 0, .slice none 0 0] 31) (by simp))
  have g3 := new_alloc ((w.alloc (.cells #[.int .i64 now, .slice a n cap] 24)).alloc (.cells #[.int .i64 0, .slice none 0 0] 31)) (w.heap.size + 1 + 1) (.cells #[.int .i64 now, .slice none 0 0] 31) (by simp)
  generalize (((w.alloc (.cells #[.int .i64 now, .slice a n cap] 24)).alloc (.cells #[.int .i64 0, .slice none 0 0] 31)).alloc (.cells #[.int .i64 now, .slice none 0 0] 31)) = W at *
  have hlW := lt_of_block g3
  refine (TS.out _ hB0).mono ?_
  rintro e w1 ⟨B, rfl, hbb, hbl, ho, ht, hro, hb1⟩
  replace g2 := keepheap2 hb1 g2
  replace g3 := keepheap2 hb1 g3
  have hB := btrans hB0 hb1
  have HO := hid ho
  have HRO := hid hro
  have HTH := hid ht
  clear hb1 hB0 ho ht hro
  obtain ⟨a0, a1, f0, f1⟩ := cell2f g2
  obtain ⟨b0, b1, e0, e1⟩ := cell2f g3
  go_wp2_with fail
  have gF := set2r (set_far (q := w.heap.size + 1 + 1) (k := 1) (u := .slice (some ⟨B, 0, none⟩) n n) g2 (by omega)) (.int .i64 now) (.slice (some ⟨B, 0, none⟩) n n)
  have bF := bset (bset (bset hB (q := w.heap.size + 1 + 1) (k := 1) (by omega) (.slice (some ⟨B, 0, none⟩) n n)) (q := w.heap.size + 1) (k := 0) (by omega) (.int .i64 now)) (q := w.heap.size + 1) (k := 1) (by omega) (.slice (some ⟨B, 0, none⟩) n n)
  have oF := ((HO.out.setR (q := w.heap.size + 1 + 1) (k := 1) (u := .slice (some ⟨B, 0, none⟩) n n) (by omega) (by omega)).setR (q := w.heap.size + 1) (k := 0) (u := .int .i64 now) (by omega) (by omega)).setR (q := w.heap.size + 1) (k := 1) (u := .slice (some ⟨B, 0, none⟩) n n) (by omega) (by omega)
  have lF : B < (((w1.setCell ⟨w.heap.size + 1 + 1, 1, none⟩ (.slice (some ⟨B, 0, none⟩) n n)).setCell ⟨w.heap.size + 1, 0, none⟩ (.int .i64 now)).setCell ⟨w.heap.size + 1, 1, none⟩ (.slice (some ⟨B, 0, none⟩) n n)).heap.size := by simpa using hbl
  have tF : (((w1.setCell ⟨w.heap.size + 1 + 1, 1, none⟩ (.slice (some ⟨B, 0, none⟩) n n)).setCell ⟨w.heap.size + 1, 0, none⟩ (.int .i64 now)).setCell ⟨w.heap.size + 1, 1, none⟩ (.slice (some ⟨B, 0, none⟩) n n)).there B 0 (n * 5) := there_set (there_set (there_set HTH.out _) _) _
  have rF : RwsO (((w1.setCell ⟨w.heap.size + 1 + 1, 1, none⟩ (.slice (some ⟨B, 0, none⟩) n n)).setCell ⟨w.heap.size + 1, 0, none⟩ (.int .i64 now)).setCell ⟨w.heap.size + 1, 1, none⟩ (.slice (some ⟨B, 0, none⟩) n n)).heap.size (((w1.setCell ⟨w.heap.size + 1 + 1, 1, none⟩ (.slice (some ⟨B, 0, none⟩) n n)).setCell ⟨w.heap.size + 1, 0, none⟩ (.int .i64 now)).setCell ⟨w.heap.size + 1, 1, none⟩ (.slice (some ⟨B, 0, none⟩) n n)) B rs := fun j hj => by simpa using (((HRO.out j hj).other (q := w.heap.size + 1 + 1) (k := 1) (by omega) (.slice (some ⟨B, 0, none⟩) n n)).other (q := w.heap.size + 1) (k := 0) (by omega) (.int .i64 now)).other (q := w.heap.size + 1) (k := 1) (by omega) (.slice (some ⟨B, 0, none⟩) n n)
  generalize ((w1.setCell ⟨w.heap.size + 1 + 1, 1, none⟩ (.slice (some ⟨B, 0, none⟩) n n)).setCell ⟨w.heap.size + 1, 0, none⟩ (.int .i64 now)).setCell ⟨w.heap.size + 1, 1, none⟩ (.slice (some ⟨B, 0, none⟩) n n) = wf at *
  obtain ⟨z0, z1, _, _⟩ := cell2f gF
  exact bodyPost_ret (v := .agg #[.int .i64 now, .slice (some ⟨B, 0, none⟩) n n]) (by simp [results, Tryz.results18, go_sem, z0, z1]) rfl ⟨B, rfl, by omega, lF, oF, tF, rF, bF⟩
set_option maxRecDepth 100000 in
set_option maxHeartbeats 1000000 in
theorem mark_ptsN (w : World) (c n : Nat) (k0 : Int) (h0 : 0 ≤ k0) (h1 : k0 ≤ 4611686018427387904) (hn : n ≤ 1048576) (hc : c < w.heap.size) (ht : w.there c 0 (n * 2)) : Calls Tryz.prog 86 #[.slice (some ⟨c, 0, none⟩) n n, .int .i64 k0] w fun e w' => e = .returned (.int .i64 (k0 + 2 * (n : Int))) ∧ w.grownBy w' (some c) ∧ (∀ d m, w.there d 0 m → w'.there d 0 m) := by
  go_enter Tryz.func86, Tryz.ntmps86
  go_wp2_with fail
  go_loopw [1, 5] (fun tk' ti wr => ∃ k : Nat, ti = .int .i64 k ∧ tk' = .int .i64 (k0 + 2 * (k : Int)) ∧ k ≤ n ∧ Hid (w.grownBy wr (some c)) ∧ Hid (∀ d m, w.there d 0 m → wr.there d 0 m)) (fun _ ti _ => n - (intOf ti).toNat)
  case atStart => exact ⟨0, rfl, by simp, Nat.zero_le _, hid (grown_same _ _), hid (fun _ _ h => h)⟩
  case round =>
    obtain ⟨k, rfl, rfl, hk, HG, HT⟩ := hrel
    by_cases hlt : k < n
    · have c1 : (k : Int) < (n : Int) := by omega
      have hT := HT.out _ _ ht
      obtain ⟨u0, hu0, g0'⟩ := there_at hT (show k * 2 < n * 2 by omega)
      obtain ⟨u1, hu1, g1'⟩ := there_at hT (show k * 2 + 1 < n * 2 by omega)
      have hu1' : (wr.setCell ⟨c, k * 2, none⟩ (.int .i64 (k0 + 2 * (k : Int)))).cell? ⟨c, k * 2 + 1, none⟩ = some u1 := by
        rw [World.cell?_setCell_other _ _ _ _ (by simp)]; exact hu1
      have g1'' : (wr.setCell ⟨c, k * 2, none⟩ (.int .i64 (k0 + 2 * (k : Int)))).frozen? ⟨c, k * 2 + 1, none⟩ = false := by rw [World.frozen?_setCell]; exact g1'
      clear hT
      go_wp2_with fail
      go_roundw
      case rel => exact ⟨k + 1, by go_num, by go_num, by omega, hid (grown_setb (grown_setb HG.out _) _), hid (fun d m h => there_set (there_set (HT.out d m h) _) _)⟩
      case measure => simp [intOf]; omega
    · obtain rfl : k = n := by omega
      go_wp2_with fail
      go_ret
      exact ⟨rfl, HG.out, HT.out⟩
set_option maxRecDepth 100000 in
set_option maxHeartbeats 2000000 in
theorem mark_rowS (lo hi B : Nat) (rs : List Rw) (w : World) (hlo : lo ≤ B) (hBh : B < hi) (hih : hi ≤ w.heap.size) (hm : rs.length ≤ 1048576) (hl : ∀ m (h : m < rs.length), rs[m].2.2.2.2.length ≤ 1048576) (ht : w.there B 0 (rs.length * 5)) (ho : RwsO hi w B rs) : Calls Tryz.prog 56 #[.slice (some ⟨B, 0, none⟩) rs.length rs.length, .int .i64 1] w fun e w' => (∃ v : Int, e = .returned (.int .i64 v) ∧ 0 ≤ v) ∧ Mid lo hi w w' := by
  have HL := hid hl
  have HO := hid ho
  clear hl ho
  obtain ⟨n, hn⟩ : ∃ n, n = rs.length := ⟨_, rfl⟩
  have HN := hid hn.symm
  rw [← hn] at hm ht ⊢
  clear hn
  have HTT := hid ht
  clear ht
  go_enter Tryz.func56, Tryz.ntmps56
  go_wp2_with fail
  go_loopw [1, 5] (fun tk' ti wr => ∃ j : Nat, ∃ k : Int, ti = .int .i64 j ∧ tk' = .int .i64 k ∧ j ≤ n ∧ 0 ≤ k ∧ k ≤ 1 + (j : Int) * 2097156 ∧ Hid (Mid lo hi w wr) ∧ Hid (∀ d m, w.there d 0 m → wr.there d 0 m) ∧ Hid (∀ i, j ≤ i → i < n → wr.cell? ⟨B, i * 5 + 4, none⟩ = w.cell? ⟨B, i * 5 + 4, none⟩)) (fun _ ti _ => n - (intOf ti).toNat)
  case atStart => exact ⟨0, 1, rfl, rfl, Nat.zero_le _, by omega, by omega, hid (mid_refl _ _ _), hid (fun _ _ h => h), hid (fun _ _ _ => rfl)⟩
  case round =>
    obtain ⟨j, k, rfl, rfl, hj, hk0, hk1, HM, HT, HC⟩ := hrel
    by_cases hlt : j < n
    · have c1 : (j : Int) < (n : Int) := by omega
      have hjr : j < rs.length := by rw [HN.out]; exact hlt
      obtain ⟨c, q0, q1, q2, q3⟩ := HO.out j hjr
      have hnp := HL.out j hjr
      generalize rs[j].2.2.2.2.length = np at *
      have hk2 : k ≤ 2199027449858 := by omega
      have hT := HT.out _ _ HTT.out
      rw [← HC.out j (Nat.le_refl _) hlt] at q0
      obtain ⟨u0, z0, y0⟩ := there_at hT (show j * 5 < n * 5 by omega)
      obtain ⟨u1, z1, y1⟩ := there_at hT (show j * 5 + 1 < n * 5 by omega)
      obtain ⟨u2, z2, y2⟩ := there_at hT (show j * 5 + 2 < n * 5 by omega)
      obtain ⟨u3, z3, y3⟩ := there_at hT (show j * 5 + 3 < n * 5 by omega)
      have z1' : (wr.setCell ⟨B, j * 5, none⟩ (.int .i64 k)).cell? ⟨B, j * 5 + 1, none⟩ = some u1 := by
        rw [World.cell?_setCell_other _ _ _ _ (by simp)]; exact z1
      have z2' : ((wr.setCell ⟨B, j * 5, none⟩ (.int .i64 k)).setCell ⟨B, j * 5 + 1, none⟩ (.int .i64 (k + 1))).cell? ⟨B, j * 5 + 2, none⟩ = some u2 := by
        rw [World.cell?_setCell_other _ _ _ _ (by simp), World.cell?_setCell_other _ _ _ _ (by simp)]; exact z2
      have z3' : (((wr.setCell ⟨B, j * 5, none⟩ (.int .i64 k)).setCell ⟨B, j * 5 + 1, none⟩ (.int .i64 (k + 1))).setCell ⟨B, j * 5 + 2, none⟩ (.int .i64 (k + 1 + 1))).cell? ⟨B, j * 5 + 3, none⟩ = some u3 := by
        rw [World.cell?_setCell_other _ _ _ _ (by simp), World.cell?_setCell_other _ _ _ _ (by simp), World.cell?_setCell_other _ _ _ _ (by simp)]; exact z3
      have z4' : ((((wr.setCell ⟨B, j * 5, none⟩ (.int .i64 k)).setCell ⟨B, j * 5 + 1, none⟩ (.int .i64 (k + 1))).setCell ⟨B, j * 5 + 2, none⟩ (.int .i64 (k + 1 + 1))).setCell ⟨B, j * 5 + 3, none⟩ (.int .i64 (k + 1 + 1 + 1))).cell? ⟨B, j * 5 + 4, none⟩ = some (.slice (some ⟨c, 0, none⟩) np np) := by
        rw [World.cell?_setCell_other _ _ _ _ (by simp), World.cell?_setCell_other _ _ _ _ (by simp), World.cell?_setCell_other _ _ _ _ (by simp), World.cell?_setCell_other _ _ _ _ (by simp)]; exact q0
      have y1' : (wr.setCell ⟨B, j * 5, none⟩ (.int .i64 k)).frozen? ⟨B, j * 5 + 1, none⟩ = false := by rw [World.frozen?_setCell]; exact y1
      have y2' : ((wr.setCell ⟨B, j * 5, none⟩ (.int .i64 k)).setCell ⟨B, j * 5 + 1, none⟩ (.int .i64 (k + 1))).frozen? ⟨B, j * 5 + 2, none⟩ = false := by rw [World.frozen?_setCell, World.frozen?_setCell]; exact y2
      have y3' : (((wr.setCell ⟨B, j * 5, none⟩ (.int .i64 k)).setCell ⟨B, j * 5 + 1, none⟩ (.int .i64 (k + 1))).setCell ⟨B, j * 5 + 2, none⟩ (.int .i64 (k + 1 + 1))).frozen? ⟨B, j * 5 + 3, none⟩ = false := by rw [World.frozen?_setCell, World.frozen?_setCell, World.frozen?_setCell]; exact y3
      have hsz : c < ((((wr.setCell ⟨B, j * 5, none⟩ (.int .i64 k)).setCell ⟨B, j * 5 + 1, none⟩ (.int .i64 (k + 1))).setCell ⟨B, j * 5 + 2, none⟩ (.int .i64 (k + 1 + 1))).setCell ⟨B, j * 5 + 3, none⟩ (.int .i64 (k + 1 + 1 + 1))).heap.size := by
        have := HM.out.2.2.2.1
        simp only [World.size_setCell]; omega
      have hM4 : Mid lo hi w ((((wr.setCell ⟨B, j * 5, none⟩ (.int .i64 k)).setCell ⟨B, j * 5 + 1, none⟩ (.int .i64 (k + 1))).setCell ⟨B, j * 5 + 2, none⟩ (.int .i64 (k + 1 + 1))).setCell ⟨B, j * 5 + 3, none⟩ (.int .i64 (k + 1 + 1 + 1))) := mid_set (mid_set (mid_set (mid_set HM.out hlo hBh _) hlo hBh _) hlo hBh _) hlo hBh _
      have hT4 : ∀ d m, w.there d 0 m → ((((wr.setCell ⟨B, j * 5, none⟩ (.int .i64 k)).setCell ⟨B, j * 5 + 1, none⟩ (.int .i64 (k + 1))).setCell ⟨B, j * 5 + 2, none⟩ (.int .i64 (k + 1 + 1))).setCell ⟨B, j * 5 + 3, none⟩ (.int .i64 (k + 1 + 1 + 1))).there d 0 m := fun d m h => there_set (there_set (there_set (there_set (HT.out d m h) _) _) _) _
      have hC4 : ∀ i, j + 1 ≤ i → i < n → ((((wr.setCell ⟨B, j * 5, none⟩ (.int .i64 k)).setCell ⟨B, j * 5 + 1, none⟩ (.int .i64 (k + 1))).setCell ⟨B, j * 5 + 2, none⟩ (.int .i64 (k + 1 + 1))).setCell ⟨B, j * 5 + 3, none⟩ (.int .i64 (k + 1 + 1 + 1))).cell? ⟨B, i * 5 + 4, none⟩ = w.cell? ⟨B, i * 5 + 4, none⟩ := fun i h1 h2 => by
        rw [World.cell?_setCell_other _ _ _ _ (by intro e; injection e; omega), World.cell?_setCell_other _ _ _ _ (by intro e; injection e; omega), World.cell?_setCell_other _ _ _ _ (by intro e; injection e; omega), World.cell?_setCell_other _ _ _ _ (by intro e; injection e; omega)]
        exact HC.out i (by omega) h2
      have HM4 := hid hM4
      have HT4 := hid hT4
      have HC4 := hid hC4
      have MP := hid (mark_ptsN _ c np (k + 1 + 1 + 1 + 1) (by omega) (by omega) hnp hsz (hT4 _ _ q3))
      clear hM4 hT4 hC4 q0 q3 hT z1 z2 z3 y1 y2 y3 HM HT HC
      go_wp2_with fail
      refine MP.out.mono ?_
      rintro e w1 ⟨rfl, hg, hth⟩
      have HM5 := hid (mid_grown HM4.out hg (by omega) q2)
      have HT5 := hid (fun d m (h : w.there d 0 m) => hth d m (HT4.out d m h))
      have HC5 : Hid (∀ i, j + 1 ≤ i → i < n → w1.cell? ⟨B, i * 5 + 4, none⟩ = w.cell? ⟨B, i * 5 + 4, none⟩) := hid (fun i h1 h2 => by
        rw [← HC4.out i h1 h2]
        have hBs : B < ((((wr.setCell ⟨B, j * 5, none⟩ (.int .i64 k)).setCell ⟨B, j * 5 + 1, none⟩ (.int .i64 (k + 1))).setCell ⟨B, j * 5 + 2, none⟩ (.int .i64 (k + 1 + 1))).setCell ⟨B, j * 5 + 3, none⟩ (.int .i64 (k + 1 + 1 + 1))).heap.size := by omega
        have := hg.block B hBs (by intro e; injection e; omega)
        simp only [World.cell?, this])
      clear hg hth MP HM4 HT4 HC4 hsz
      go_wp2_with fail
      go_roundw
      case rel => exact ⟨j + 1, _, by go_num, rfl, by omega, by omega, by omega, HM5, HT5, HC5⟩
      case measure => simp [intOf]; omega
    · have c1 : (n : Int) ≤ (j : Int) := by omega
      go_wp2_with fail
      go_ret
      exact ⟨⟨_, rfl, hk0⟩, HM.out⟩
set_option maxHeartbeats 400000 in
theorem mark_rows (lo hi B : Nat) (now : Int) (rs : List Rw) (w : World) (hlo : lo ≤ B) (hBh : B < hi) (hih : hi ≤ w.heap.size) (hm : rs.length ≤ 1048576) (hl : ∀ m (h : m < rs.length), rs[m].2.2.2.2.length ≤ 1048576) (ht : w.there B 0 (rs.length * 5)) (ho : RwsO hi w B rs) : Calls Tryz.prog 26 #[.agg #[.int .i64 now, .slice (some ⟨B, 0, none⟩) rs.length rs.length], .int .i64 1] w fun e w' => (∃ v : Int, e = .returned (.int .i64 v) ∧ 0 ≤ v) ∧ Mid lo hi w w' := by
  have hB : Below w.heap.size w (w.alloc (.cells #[.int .i64 now, .slice (some ⟨B, 0, none⟩) rs.length rs.length] 31)) := balloc (Below.refl _ _) _
  have HM := hid (mark_rowS lo hi B rs _ hlo hBh (Nat.le_trans hih hB.size) hm hl (there_below ht (by omega) hB) (ho.below hih hB))
  clear ht ho hl
  go_enter Tryz.func26, Tryz.ntmps26
  go_wp2_with fail
  refine HM.out.mono ?_
  rintro e w1 ⟨⟨v, rfl, hv⟩, hmid⟩
  have HMM := hid (mid_trans (mid_below hB) hmid)
  clear hmid
  go_wp2_with fail
  go_ret
  exact ⟨⟨_, rfl, hv⟩, HMM.out⟩
end Go.Proofs.YtigjdlpjibakjaaGreat
