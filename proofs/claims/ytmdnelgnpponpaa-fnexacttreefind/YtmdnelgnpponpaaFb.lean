/- Items and knots in memory: where they lie, how a list of them is filled. -/
import Derived.Test.YtmdnelgnpponpaaFa
import Derived.Test.YtmdnelgnpponpaaPts2
namespace Go.Proofs.Ytmdnelgnpponpaa
open Go.RowKit
set_option linter.unusedSimpArgs false
set_option linter.unusedVariables false
/-- Cells of one block written one behind the other. -/
def setL (w : World) (b o : Nat) : List Value → World
  | [] => w
  | v :: r => setL (w.setCell ⟨b, o, none⟩ v) b (o + 1) r
theorem setL_size : ∀ (vs : List Value) (w : World) (b o : Nat), (setL w b o vs).heap.size = w.heap.size
  | [], w, b, o => rfl
  | v :: r, w, b, o => by
    unfold setL
    rw [setL_size r]
    simp
theorem setL_below : ∀ (vs : List Value) (w w' : World) (b o n : Nat), Below n w w' → n ≤ b → Below n w (setL w' b o vs)
  | [], w, w', b, o, n, h, _ => h
  | v :: r, w, w', b, o, n, h, hb => setL_below r w _ b (o + 1) n (h.setCell hb v) hb
theorem setL_other : ∀ (vs : List Value) (w : World) (b o : Nat) (p : Addr), (∀ i, i < vs.length → p ≠ ⟨b, o + i, none⟩) → (setL w b o vs).cell? p = w.cell? p
  | [], w, b, o, p, _ => rfl
  | v :: r, w, b, o, p, h => by
    unfold setL
    rw [setL_other r _ b (o + 1) p (fun i hi => by have := h (i + 1) (by simp; omega); rw [show o + 1 + i = o + (i + 1) by omega]; exact this)]
    exact World.cell?_setCell_other _ _ _ _ (fun e => h 0 (by simp) e.symm)
theorem setL_frozen : ∀ (vs : List Value) (w : World) (b o : Nat) (p : Addr), (setL w b o vs).frozen? p = w.frozen? p
  | [], w, b, o, p => rfl
  | v :: r, w, b, o, p => by
    unfold setL
    rw [setL_frozen r _ b (o + 1) p, World.frozen?_setCell]
theorem setL_at : ∀ (vs : List Value) (w : World) (b o i : Nat) (v : Value), vs[i]? = some v → (∀ i, i < vs.length → (w.cell? ⟨b, o + i, none⟩).isSome = true) → (setL w b o vs).cell? ⟨b, o + i, none⟩ = some v
  | [], w, b, o, i, v, h, _ => by cases h
  | u :: r, w, b, o, 0, v, h, hs => by
    unfold setL
    have hu : u = v := by simpa using h
    subst hu
    obtain ⟨x, hx⟩ := Option.isSome_iff_exists.1 (hs 0 (by simp))
    rw [setL_other r _ b (o + 1) _ (fun i hi e => by injection e; omega)]
    exact World.cell?_setCell_same _ _ _ hx
  | u :: r, w, b, o, i + 1, v, h, hs => by
    unfold setL
    have := setL_at r (w.setCell ⟨b, o, none⟩ u) b (o + 1) i v (by simpa using h) (fun k hk => by
      obtain ⟨x, hx⟩ := Option.isSome_iff_exists.1 (hs (k + 1) (by simp; omega))
      obtain ⟨y, hy⟩ := cell?_setCell_some (p := ⟨b, o, none⟩) (x := u) hx
      rw [show o + 1 + k = o + (k + 1) by omega, hy]; rfl)
    rw [show o + (i + 1) = o + 1 + i by omega]
    exact this
theorem setL_there {vs : List Value} {w : World} {b o n : Nat} (h : w.there b 0 n) (ho : o + vs.length ≤ n) : (setL w b o vs).there b 0 n := by
  intro j hj
  obtain ⟨h1, h2⟩ := h j hj
  refine ⟨?_, by rw [setL_frozen]; exact h2⟩
  by_cases hin : o ≤ j ∧ j < o + vs.length
  · have hlt : j - o < vs.length := by omega
    have := setL_at vs w b o (j - o) vs[j - o] (List.getElem?_eq_getElem hlt) (fun i hi => by
      have := (h (o + i) (by omega)).1
      rwa [Nat.zero_add] at this)
    rw [Nat.zero_add]
    rw [show o + (j - o) = j by omega] at this
    rw [this]; rfl
  · rw [setL_other vs w b o _ (fun i hi e => by injection e with e1 e2; omega)]
    exact h1
/-- The cells of an item. -/
def ci (x : It) : List Value := [.int .i64 x.1, .int .i64 x.2.1, .int .i64 x.2.2.1, .int .i64 x.2.2.2.1, .int .i64 x.2.2.2.2]
/-- The cells of a knot. -/
def ck (t : KT) (ia : Option Addr) (ic : Nat) (ka : Option Addr) (kc : Nat) : List Value := [.int .i64 t.box.1, .int .i64 t.box.2.1, .int .i64 t.box.2.2.1, .int .i64 t.box.2.2.2, .bool t.lf, .slice ia t.its.length ic, .slice ka t.kids.length kc]
/-- Cells that lie at a place. -/
def Cs (w : World) (b o : Nat) (vs : List Value) : Prop := ∀ i v, vs[i]? = some v → w.cell? ⟨b, o + i, none⟩ = some v
theorem Cs.below {w w' : World} {b o : Nat} {vs : List Value} (h : Cs w b o vs) (hb : b < w.heap.size) (H : Below w.heap.size w w') : Cs w' b o vs := fun i v e => (H.cell (p := ⟨b, o + i, none⟩) hb).trans (h i v e)
theorem Cs.item {w : World} {b o : Nat} {x : It} (h : Cs w b o (ci x)) : w.cell? ⟨b, o, none⟩ = some (.int .i64 x.1) ∧ w.cell? ⟨b, o + 1, none⟩ = some (.int .i64 x.2.1) ∧ w.cell? ⟨b, o + 2, none⟩ = some (.int .i64 x.2.2.1) ∧ w.cell? ⟨b, o + 3, none⟩ = some (.int .i64 x.2.2.2.1) ∧ w.cell? ⟨b, o + 4, none⟩ = some (.int .i64 x.2.2.2.2) :=
  ⟨h 0 _ rfl, h 1 _ rfl, h 2 _ rfl, h 3 _ rfl, h 4 _ rfl⟩
theorem Cs.knot {w : World} {b o : Nat} {t : KT} {ia ka : Option Addr} {ic kc : Nat} (h : Cs w b o (ck t ia ic ka kc)) : w.cell? ⟨b, o, none⟩ = some (.int .i64 t.box.1) ∧ w.cell? ⟨b, o + 1, none⟩ = some (.int .i64 t.box.2.1) ∧ w.cell? ⟨b, o + 2, none⟩ = some (.int .i64 t.box.2.2.1) ∧ w.cell? ⟨b, o + 3, none⟩ = some (.int .i64 t.box.2.2.2) ∧ w.cell? ⟨b, o + 4, none⟩ = some (.bool t.lf) ∧ w.cell? ⟨b, o + 5, none⟩ = some (.slice ia t.its.length ic) ∧ w.cell? ⟨b, o + 6, none⟩ = some (.slice ka t.kids.length kc) :=
  ⟨h 0 _ rfl, h 1 _ rfl, h 2 _ rfl, h 3 _ rfl, h 4 _ rfl, h 5 _ rfl, h 6 _ rfl⟩
/-- One element more of a list that is being filled. -/
theorem put_el {w : World} {b m n k : Nat} {vs : List Value} (hv : vs.length = m) (ht : w.there b 0 n) (hk : k * m + m ≤ n) : Cs (setL w b (k * m) vs) b (k * m) vs ∧ (setL w b (k * m) vs).there b 0 n ∧ ∀ o us, o + us.length ≤ k * m → Cs w b o us → Cs (setL w b (k * m) vs) b o us := by
  refine ⟨fun i v e => ?_, setL_there ht (by omega), fun o us ho h i v e => ?_⟩
  · exact setL_at vs w b (k * m) i v e (fun i hi => by have := (ht (k * m + i) (by omega)).1; rwa [Nat.zero_add] at this)
  · have hi : i < us.length := by
      obtain ⟨h, _⟩ := List.getElem?_eq_some_iff.1 e
      exact h
    rw [setL_other vs w b (k * m) _ (fun j hj e => by injection e with e1 e2; omega)]
    exact h i v e
/-- Items that lie in a block of their own. -/
def ItO (w : World) (b : Nat) (l : List It) : Prop := b < w.heap.size ∧ (∀ j (h : j < l.length), Cs w b (j * 5) (ci l[j])) ∧ w.there b 0 (l.length * 5)
theorem ItO.below {w w' : World} {b : Nat} {l : List It} (h : ItO w b l) (H : Below w.heap.size w w') : ItO w' b l :=
  ⟨Nat.lt_of_lt_of_le h.1 H.size, fun j hj => (h.2.1 j hj).below h.1 H, there_below h.2.2 h.1 H⟩
/-- A knot whose lists a call has made: so deep at most; its blocks lie from lo on. -/
def Kn (lo : Nat) : Nat → World → Option Addr → Option Addr → KT → Prop
  | 0, _, _, _, _ => False
  | n + 1, w, ia, ka, t => ∃ bi bk, ia = some ⟨bi, 0, none⟩ ∧ ka = some ⟨bk, 0, none⟩ ∧ lo ≤ bi ∧ lo ≤ bk ∧ ItO w bi t.its ∧ bk < w.heap.size ∧ w.there bk 0 (t.kids.length * 7) ∧
      ∀ j (h : j < t.kids.length), ∃ ia' ka', Cs w bk (j * 7) (ck t.kids[j] ia' t.kids[j].its.length ka' t.kids[j].kids.length) ∧ Kn lo n w ia' ka' t.kids[j]
theorem Kn.below {lo : Nat} : ∀ {n : Nat} {w w' : World} {ia ka : Option Addr} {t : KT}, Kn lo n w ia ka t → Below w.heap.size w w' → Kn lo n w' ia ka t
  | 0, _, _, _, _, _, h, _ => h.elim
  | n + 1, w, w', ia, ka, t, h, H => by
    obtain ⟨bi, bk, h1, h2, h3, h4, h5, h6, h7, h8⟩ := h
    refine ⟨bi, bk, h1, h2, h3, h4, h5.below H, Nat.lt_of_lt_of_le h6 H.size, there_below h7 h6 H, fun j hj => ?_⟩
    obtain ⟨ia', ka', k1, k2⟩ := h8 j hj
    exact ⟨ia', ka', k1.below h6 H, Kn.below k2 H⟩
theorem Kn.lo {lo lo' : Nat} (hl : lo' ≤ lo) : ∀ {n : Nat} {w : World} {ia ka : Option Addr} {t : KT}, Kn lo n w ia ka t → Kn lo' n w ia ka t
  | 0, _, _, _, _, h => h.elim
  | n + 1, w, ia, ka, t, h => by
    obtain ⟨bi, bk, h1, h2, h3, h4, h5, h6, h7, h8⟩ := h
    refine ⟨bi, bk, h1, h2, by omega, by omega, h5, h6, h7, fun j hj => ?_⟩
    obtain ⟨ia', ka', k1, k2⟩ := h8 j hj
    exact ⟨ia', ka', k1, Kn.lo hl k2⟩
theorem Kn.more {lo : Nat} : ∀ {n : Nat} {w : World} {ia ka : Option Addr} {t : KT}, Kn lo n w ia ka t → Kn lo (n + 1) w ia ka t
  | 0, _, _, _, _, h => h.elim
  | n + 1, w, ia, ka, t, h => by
    obtain ⟨bi, bk, h1, h2, h3, h4, h5, h6, h7, h8⟩ := h
    refine ⟨bi, bk, h1, h2, h3, h4, h5, h6, h7, fun j hj => ?_⟩
    obtain ⟨ia', ka', k1, k2⟩ := h8 j hj
    exact ⟨ia', ka', k1, Kn.more k2⟩
theorem Kn.le {lo n m : Nat} {w : World} {ia ka : Option Addr} {t : KT} (h : Kn lo n w ia ka t) (hm : n ≤ m) : Kn lo m w ia ka t := by
  obtain ⟨k, rfl⟩ := Nat.le.dest hm
  clear hm
  induction k with
  | zero => exact h
  | succ k ih => exact ih.more
/-- A knot as a call is handed it. -/
def kv (t : KT) (ia : Option Addr) (ic : Nat) (ka : Option Addr) (kc : Nat) : Value := .agg #[.int .i64 t.box.1, .int .i64 t.box.2.1, .int .i64 t.box.2.2.1, .int .i64 t.box.2.2.2, .bool t.lf, .slice ia t.its.length ic, .slice ka t.kids.length kc]
def kvo (t : KT) (ia ka : Option Addr) : Value := kv t ia t.its.length ka t.kids.length
/-- Items and knots as a law is given them. -/
def ItL (w : World) (a : Option Addr) (l : List It) : Prop := l = [] ∨ ∃ b off, a = some ⟨b, off, none⟩ ∧ b < w.heap.size ∧ ∀ j (h : j < l.length), Cs w b (off + j * 5) (ci l[j])
theorem ItL.below {w w' : World} {a : Option Addr} {l : List It} (h : ItL w a l) (H : Below w.heap.size w w') : ItL w' a l := by
  rcases h with h | ⟨b, off, h1, h2, h3⟩
  · exact .inl h
  · exact .inr ⟨b, off, h1, Nat.lt_of_lt_of_le h2 H.size, fun j hj => (h3 j hj).below h2 H⟩
def KnL : Nat → World → Option Addr → Nat → Option Addr → Nat → KT → Prop
  | 0, _, _, _, _, _, _ => False
  | n + 1, w, ia, ic, ka, kc, t => ItL w ia t.its ∧ t.its.length ≤ ic ∧ ic ≤ 9223372036854775807 ∧ t.kids.length ≤ kc ∧ kc ≤ 9223372036854775807 ∧ (t.kids = [] ∨ ∃ b off, ka = some ⟨b, off, none⟩ ∧ b < w.heap.size ∧
      ∀ j (h : j < t.kids.length), ∃ ia' ic' ka' kc', Cs w b (off + j * 7) (ck t.kids[j] ia' ic' ka' kc') ∧ KnL n w ia' ic' ka' kc' t.kids[j])
theorem KnL.below : ∀ {n : Nat} {w w' : World} {ia ka : Option Addr} {ic kc : Nat} {t : KT}, KnL n w ia ic ka kc t → Below w.heap.size w w' → KnL n w' ia ic ka kc t
  | 0, _, _, _, _, _, _, _, h, _ => h.elim
  | n + 1, w, w', ia, ka, ic, kc, t, h, H => by
    obtain ⟨h1, h2, h3, h4, h5, h6⟩ := h
    refine ⟨h1.below H, h2, h3, h4, h5, ?_⟩
    rcases h6 with h6 | ⟨b, off, e, hb, h6⟩
    · exact .inl h6
    · refine .inr ⟨b, off, e, Nat.lt_of_lt_of_le hb H.size, fun j hj => ?_⟩
      obtain ⟨ia', ic', ka', kc', k1, k2⟩ := h6 j hj
      exact ⟨ia', ic', ka', kc', k1.below hb H, KnL.below k2 H⟩
/-- How many items and kids a tree has, all in all. -/
def ksz : Nat → KT → Nat
  | 0, t => 0
  | n + 1, t => t.its.length + t.kids.length + (t.kids.map (ksz n)).sum
end Go.Proofs.Ytmdnelgnpponpaa
