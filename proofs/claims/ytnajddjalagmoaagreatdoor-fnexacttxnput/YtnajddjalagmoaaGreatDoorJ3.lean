/- Texts of stores, joined: Xl, Va, Xc, Ve, Xt, Pc, Vf, Xs, Xu. -/
import Derived.Test.YtnajddjalagmoaaGreatDoorJ2
import Derived.Maps.AppendAt
import Derived.Test.YtnajddjalagmoaaGreatDoorRwJ
import Derived.Test.YtnajddjalagmoaaGreatDoorJ1
namespace Go.Proofs.YtnajddjalagmoaaGreatDoor
open Go.RowKit
set_option linter.unusedSimpArgs false
set_option linter.unusedVariables false
/-- A kind of element: its cells, with the value in the last one, and what is said of that value and its blocks. -/
structure Kd (α : Type) where
  sz : Nat
  vals : α → Value → List Value
  sub : Nat → Nat → World → Value → α → Prop
  len : ∀ x v, (vals x v).length = sz
  one : ∀ {lo up : Nat} {w : World} {v : Value} {x : α}, sub lo up w v x → ∀ u ∈ vals x v, u.oneCell' = true
  frame : ∀ {lo up : Nat} {w w' : World} {v : Value} {x : α}, sub lo up w v x → (∀ c, lo ≤ c → c < up → w'.heap[c]? = w.heap[c]?) → w.heap.size ≤ w'.heap.size → sub lo up w' v x
  top : ∀ {lo up : Nat} {w : World} {v : Value} {x : α}, sub lo up w v x → up ≤ w.heap.size
def flatK {α : Type} (K : Kd α) (ps : List (α × Value)) : List Value := ps.flatMap (fun p => K.vals p.1 p.2)
theorem flatK_snoc {α : Type} (K : Kd α) (ps : List (α × Value)) (p : α × Value) : flatK K (ps ++ [p]) = flatK K ps ++ K.vals p.1 p.2 := by simp [flatK]
theorem flatK_len {α : Type} (K : Kd α) (ps : List (α × Value)) : (flatK K ps).length = ps.length * K.sz := by
  induction ps with
  | nil => simp [flatK]
  | cons x r ih =>
    show (K.vals x.1 x.2 ++ flatK K r).length = _
    rw [List.length_append, ih, K.len, List.length_cons, Nat.succ_mul]
    omega
theorem flatX_at {α : Type} (K : Kd α) : ∀ (ps : List (α × Value)) (j t : Nat) (h : j < ps.length), t < K.sz → (flatK K ps)[j * K.sz + t]? = (K.vals ps[j].1 ps[j].2)[t]?
  | [], j, t, h, _ => by simp at h
  | x :: r, 0, t, h, ht => by
    show (K.vals x.1 x.2 ++ flatK K r)[0 * K.sz + t]? = _
    rw [Nat.zero_mul, Nat.zero_add, List.getElem?_append_left (by rw [K.len]; exact ht)]
    rfl
  | x :: r, j + 1, t, h, ht => by
    have ih := flatX_at K r j t (by simpa using h) ht
    show (K.vals x.1 x.2 ++ flatK K r)[(j + 1) * K.sz + t]? = _
    rw [List.getElem?_append_right (by rw [K.len, Nat.succ_mul]; omega), K.len, show (j + 1) * K.sz + t - K.sz = j * K.sz + t by rw [Nat.succ_mul]; omega, ih]
    rfl
/-- A list as the call makes it. -/
def LX {α : Type} (K : Kd α) (t : TypeId) (base hi : Nat) (w : World) (v : Value) (xs : List α) (ps : List (α × Value)) : Prop :=
  ps.map Prod.fst = xs ∧ w.ownsRow base t K.sz v xs.length (flatK K ps) ∧ (∀ g, v.ownBlock = some g → g < hi) ∧ hi ≤ w.heap.size ∧
  ∃ lo up : Nat → Nat, (∀ j (h : j < ps.length), K.sub (lo j) (up j) w ps[j].2 ps[j].1 ∧ base ≤ lo j ∧ up j ≤ hi ∧ (∀ g, v.ownBlock = some g → g < lo j ∨ up j ≤ g)) ∧ (∀ i j, i < j → j < ps.length → up i ≤ lo j)
theorem LX.plen {α : Type} {K : Kd α} {t : TypeId} {base hi : Nat} {w : World} {v : Value} {xs : List α} {ps : List (α × Value)} (h : LX K t base hi w v xs ps) : ps.length = xs.length := by
  have := congrArg List.length h.1
  simpa using this
theorem LX.frame {α : Type} {K : Kd α} {t : TypeId} {base hi : Nat} {w w' : World} {v : Value} {xs : List α} {ps : List (α × Value)} (h : LX K t base hi w v xs ps) (hb : ∀ c, base ≤ c → c < hi → w'.heap[c]? = w.heap[c]?) (hs : w.heap.size ≤ w'.heap.size) : LX K t base hi w' v xs ps := by
  obtain ⟨h1, h2, h3, h4, lo, up, h5, h6⟩ := h
  refine ⟨h1, own_frame h2 (fun g e => hb g (h2.lt g e).1 (h3 g e)), h3, by omega, lo, up, fun j hj => ?_, h6⟩
  obtain ⟨a1, a2, a3, a4⟩ := h5 j hj
  exact ⟨K.frame a1 (fun c c1 c2 => hb c (by omega) (by omega)) hs, a2, a3, a4⟩
theorem LX.below {α : Type} {K : Kd α} {t : TypeId} {base hi : Nat} {w w' : World} {v : Value} {xs : List α} {ps : List (α × Value)} (h : LX K t base hi w v xs ps) (H : Below w.heap.size w w') : LX K t base hi w' v xs ps :=
  h.frame (fun c _ h2 => H.block c (by have := h.2.2.2.1; omega)) H.size
theorem LX.mono {α : Type} {K : Kd α} {t : TypeId} {base base' hi hi' : Nat} {w : World} {v : Value} {xs : List α} {ps : List (α × Value)} (h : LX K t base hi w v xs ps) (hb : base' ≤ base) (hh : hi ≤ hi') (hs : hi' ≤ w.heap.size) : LX K t base' hi' w v xs ps := by
  obtain ⟨h1, h2, h3, h4, lo, up, h5, h6⟩ := h
  refine ⟨h1, ⟨h2.1, ?_⟩, fun g e => by have := h3 g e; omega, hs, lo, up, fun j hj => ?_, h6⟩
  · rcases h2.2 with q | ⟨g, cc, cur, e1, q1, q2, q3⟩
    · exact .inl q
    · exact .inr ⟨g, cc, cur, e1, by omega, q2, q3⟩
  · obtain ⟨a1, a2, a3, a4⟩ := h5 j hj
    exact ⟨a1, by omega, by omega, a4⟩
theorem LX.nil {α : Type} {K : Kd α} {t : TypeId} {base hi : Nat} {w : World} {v : Value} (h : w.ownsRow base t K.sz v 0 []) (h3 : ∀ g, v.ownBlock = some g → g < hi) (h4 : hi ≤ w.heap.size) : LX K t base hi w v [] [] :=
  ⟨rfl, by simpa [flatK] using h, h3, h4, fun _ => 0, fun _ => 0, fun j hj => absurd hj (by simp), fun i j _ hj => absurd hj (by simp)⟩
theorem LX.snoc {α : Type} {K : Kd α} {t : TypeId} {base hi : Nat} {W w' : World} {v : Value} {xs : List α} {ps : List (α × Value)} {x : α} {sv : Value} {l u g cap : Nat} (h : LX K t base hi W v xs ps) (hl : hi ≤ l) (hbl : base ≤ l) (hsub : K.sub l u W sv x)
    (hown : w'.ownsRow base t K.sz (.slice (some ⟨g, 0, none⟩) (xs.length + 1) cap) (xs.length + 1) (flatK K ps ++ K.vals x sv)) (hg : W.grownBy w' v.ownBlock) (hat : v.ownBlock = some g ∨ g = W.heap.size) (hlt : g < w'.heap.size) :
    LX K t base w'.heap.size w' (.slice (some ⟨g, 0, none⟩) (xs.length + 1) cap) (xs ++ [x]) (ps ++ [(x, sv)]) := by
  have hpl := h.plen
  obtain ⟨h1, h2, h3, h4, lo, up, h5, h6⟩ := h
  have hu := K.top hsub
  have hsz := hg.size
  have hfr : ∀ c, c < W.heap.size → v.ownBlock ≠ some c → w'.heap[c]? = W.heap[c]? := fun c hc hne => hg.block c hc (fun e => hne e.symm)
  refine ⟨by simp [h1], by rw [flatK_snoc, List.length_append]; exact hown, fun g' e => by simp [Value.ownBlock] at e; omega, Nat.le_refl _, fun j => if j = ps.length then l else lo j, fun j => if j = ps.length then u else up j, fun j hj => ?_, fun i j hij hj => ?_⟩
  · by_cases e : j = ps.length
    · subst e
      simp only [if_true]
      have er : (ps ++ [(x, sv)])[ps.length]'(by simp) = (x, sv) := by simp
      rw [er]
      refine ⟨K.frame hsub (fun c c1 c2 => hfr c (by omega) (fun e => by have := h3 c e; omega)) hsz, hbl, by omega, fun g' e => ?_⟩
      simp [Value.ownBlock] at e
      rcases hat with q | q
      · have := h3 g q; omega
      · omega
    · have hjl : j < ps.length := by simp at hj; omega
      simp only [if_neg e]
      have er : (ps ++ [(x, sv)])[j]'(by simpa using hj) = ps[j] := by rw [List.getElem_append_left hjl]
      rw [er]
      obtain ⟨a1, a2, a3, a4⟩ := h5 j hjl
      refine ⟨K.frame a1 (fun c c1 c2 => hfr c (by omega) (fun e => by have := a4 c e; omega)) hsz, a2, by omega, fun g' e => ?_⟩
      simp [Value.ownBlock] at e
      rcases hat with q | q
      · have := a4 g q; omega
      · omega
  · have hil : i < ps.length := by simp at hj; omega
    simp only [if_neg (show i ≠ ps.length by omega)]
    by_cases e : j = ps.length
    · simp only [if_pos e]
      obtain ⟨_, _, a3, _⟩ := h5 i hil
      omega
    · simp only [if_neg e]
      exact h6 i j hij (by simp at hj; omega)
/-- An element at its place. -/
def ElX {α : Type} (K : Kd α) (w : World) (g i : Nat) (x : α) (s : Value) (lo up : Nat) : Prop :=
  (∀ t, t < K.sz → w.cell? ⟨g, i * K.sz + t, none⟩ = (K.vals x s)[t]?) ∧ K.sub lo up w s x
/-- A list in memory of its own, cell by cell. -/
def LC {α : Type} (K : Kd α) (base hi : Nat) (w : World) (v : Value) (xs : List α) : Prop :=
  hi ≤ w.heap.size ∧ ((xs = [] ∧ v = .slice none 0 0) ∨ ∃ (g cap : Nat) (ss : Nat → Value) (lo up : Nat → Nat), v = .slice (some ⟨g, 0, none⟩) xs.length cap ∧ xs.length ≤ cap ∧ base ≤ g ∧ g < hi ∧ w.there g 0 (xs.length * K.sz) ∧
  (∀ j (h : j < xs.length), ElX K w g j xs[j] (ss j) (lo j) (up j) ∧ base ≤ lo j ∧ up j ≤ hi ∧ (g < lo j ∨ up j ≤ g)) ∧ (∀ i j, i ≠ j → i < xs.length → j < xs.length → up i ≤ lo j ∨ up j ≤ lo i))
theorem LX.lc {α : Type} {K : Kd α} {t : TypeId} {base hi : Nat} {w : World} {v : Value} {xs : List α} {ps : List (α × Value)} (h : LX K t base hi w v xs ps) : LC K base hi w v xs := by
  have hpl := h.plen
  obtain ⟨h1, h2, h3, h4, lo, up, h5, h6⟩ := h
  refine ⟨h4, ?_⟩
  have h2' := h2
  rcases h2.2 with ⟨q, hn⟩ | ⟨g, cap, cur, rfl, hb, hg, hc, _⟩
  · left
    exact ⟨List.length_eq_zero_iff.1 hn, q⟩
  · right
    refine ⟨g, cap, fun j => if h : j < ps.length then (ps[j]'h).2 else .bool false, lo, up, rfl, hc, hb, h3 g rfl, fun j hj => ?_, fun j hj => ?_, fun i j hne hi' hj => (Nat.lt_or_gt_of_ne hne).elim (fun q => .inl (h6 i j q (by omega))) (fun q => .inr (h6 j i q (by omega)))⟩
    · simp only [Nat.zero_add]
      refine ⟨?_, World.ownsRow.frozenAt h2' j⟩
      rw [World.ownsRow.cellAt h2' j hj, List.getElem?_eq_getElem (by rw [flatK_len, hpl]; exact hj)]
      rfl
    · have hjp : j < ps.length := by omega
      obtain ⟨a1, a2, a3, a4⟩ := h5 j hjp
      have ex : xs[j] = (ps[j]).1 := by
        have : xs[j]? = (ps.map Prod.fst)[j]? := by rw [h1]
        rw [List.getElem?_map, List.getElem?_eq_getElem hj, List.getElem?_eq_getElem hjp] at this
        exact Option.some.inj this
      simp only [dif_pos hjp, ex]
      refine ⟨⟨fun t ht => ?_, a1⟩, a2, a3, a4 g rfl⟩
      have hlt : j * K.sz + t < xs.length * K.sz := by
        have : (j + 1) * K.sz ≤ xs.length * K.sz := Nat.mul_le_mul_right _ (by omega)
        rw [Nat.succ_mul] at this
        omega
      rw [World.ownsRow.cellAt h2' _ hlt, flatX_at K ps j t hjp ht]
theorem ElX.blk {α : Type} {K : Kd α} {w w' : World} {g i : Nat} {x : α} {s : Value} {lo up : Nat} (h : ElX K w g i x s lo up) (hg : w'.heap[g]? = w.heap[g]?) (hb : ∀ c, lo ≤ c → c < up → w'.heap[c]? = w.heap[c]?) (hs : w.heap.size ≤ w'.heap.size) : ElX K w' g i x s lo up :=
  ⟨fun t ht => by rw [World.cell?_of_block (w := w) hg]; exact h.1 t ht, K.frame h.2 hb hs⟩
theorem ElX.set {α : Type} {K : Kd α} {w : World} {g i k : Nat} {x : α} {s : Value} {lo up : Nat} (h : ElX K w g i x s lo up) (hg : g < lo ∨ up ≤ g) (hk : k < i * K.sz ∨ i * K.sz + K.sz ≤ k) (u : Value) : ElX K (w.setCell ⟨g, k, none⟩ u) g i x s lo up := by
  refine ⟨fun t ht => ?_, K.frame h.2 (fun c c1 c2 => Below.heap_setCell _ _ _ _ (by dsimp only; omega)) (by simp)⟩
  rw [World.cell?_setCell_other _ _ _ _ (by intro e; injection e; omega)]
  exact h.1 t ht
theorem ElX.mid {α : Type} {K : Kd α} {w w' : World} {g i : Nat} {x : α} {s : Value} {lo up l u : Nat} (h : ElX K w g i x s lo up) (m : Mid l u w w') (hgs : g < w.heap.size) (hg : g < l ∨ u ≤ g) (hd : up ≤ l ∨ u ≤ lo) : ElX K w' g i x s lo up := by
  have ht := K.top h.2
  exact h.blk (mid_blk m hgs hg) (fun c c1 c2 => mid_blk m (by omega) (by omega)) m.2.2.2.1
theorem LC.frame {α : Type} {K : Kd α} {base hi : Nat} {w w' : World} {v : Value} {xs : List α} (h : LC K base hi w v xs) (hb : ∀ c, base ≤ c → c < hi → w'.heap[c]? = w.heap[c]?) (hs : w.heap.size ≤ w'.heap.size) : LC K base hi w' v xs := by
  obtain ⟨h0, h⟩ := h
  refine ⟨by omega, ?_⟩
  rcases h with h | ⟨g, cap, ss, lo, up, e, h1, h2, h3, h4, h5, h6⟩
  · exact .inl h
  · have hg := hb g h2 h3
    refine .inr ⟨g, cap, ss, lo, up, e, h1, h2, h3, fun i hi' => ?_, fun j hj => ?_, h6⟩
    · have := h4 i hi'
      simp only [World.cell?, World.frozen?, hg] at this ⊢
      exact this
    · obtain ⟨a1, a2, a3, a4⟩ := h5 j hj
      exact ⟨a1.blk hg (fun c c1 c2 => hb c (by omega) (by omega)) hs, a2, a3, a4⟩
theorem LC.below {α : Type} {K : Kd α} {base hi : Nat} {w w' : World} {v : Value} {xs : List α} (h : LC K base hi w v xs) (H : Below w.heap.size w w') : LC K base hi w' v xs :=
  h.frame (fun c _ h2 => H.block c (by have := h.1; omega)) H.size
theorem LC.form {α : Type} {K : Kd α} {base hi : Nat} {w : World} {v : Value} {xs : List α} (h : LC K base hi w v xs) : ∃ a cap, v = .slice a xs.length cap ∧ xs.length ≤ cap ∧ (∀ c off, a = some ⟨c, off, none⟩ → base ≤ c ∧ c < hi) := by
  rcases h.2 with ⟨rfl, e⟩ | ⟨g, cap, ss, lo, up, e, h1, h2, h3, h4, h5, h6⟩
  · exact ⟨none, 0, e, by simp, fun c off e => by cases e⟩
  · exact ⟨_, cap, e, h1, fun c off e => by cases e; exact ⟨h2, h3⟩⟩
/-- The points of a change, in a block of their own. -/
def subC (lo up : Nat) (w : World) (v : Value) (x : Ch) : Prop := up ≤ w.heap.size ∧ ∃ c cp, v = .slice (some ⟨c, 0, none⟩) x.2.2.2.length cp ∧ x.2.2.2.length ≤ cp ∧ x.2.2.2.length ≤ 1099511627776 ∧ lo ≤ c ∧ c < up ∧ PtsOwn w c x.2.2.2
def KC : Kd Ch where
  sz := 4
  vals := fun x v => [.int .i64 x.1, .bool x.2.1, .int .i64 x.2.2.1, v]
  sub := subC
  len := fun _ _ => rfl
  one := by
    rintro lo up w v x ⟨_, c, cp, rfl, _⟩ u hu
    simp at hu
    rcases hu with rfl | rfl | rfl | rfl <;> rfl
  frame := by
    rintro lo up w w' v x ⟨h0, c, cp, e, h1, h2, h3, h4, h5⟩ hb hs
    exact ⟨by omega, c, cp, e, h1, h2, h3, h4, own_blk h5 (hb c h3 h4) (by omega)⟩
  top := fun h => h.1
def KT : Kd Tx where
  sz := 3
  vals := fun x v => [.int .i64 x.1, .bool x.2.1, v]
  sub := fun lo up w v x => LC KC lo up w v x.2.2
  len := fun _ _ => rfl
  one := by
    intro lo up w v x h u hu
    obtain ⟨a, cap, rfl, _⟩ := h.form
    simp at hu
    rcases hu with rfl | rfl | rfl <;> rfl
  frame := fun h hb hs => h.frame hb hs
  top := fun h => h.1
theorem LC.chs {base hi : Nat} {w : World} {a : Option Addr} {n cap : Nat} {xs : List Ch} (h : LC KC base hi w (.slice a n cap) xs) : Chs (fun c => base ≤ c ∧ c < hi) 1099511627776 w a xs := by
  obtain ⟨h0, h⟩ := h
  rcases h with ⟨rfl, _⟩ | ⟨g, cp, ss, lo, up, e, h1, h2, h3, h4, h5, h6⟩
  · exact .inl rfl
  · cases e
    refine .inr ⟨g, 0, rfl, by omega, fun j hj => ?_⟩
    obtain ⟨⟨b1, _, c, cq, e, b2, b3, b4, b5, b6⟩, a2, a3, a4⟩ := h5 j hj
    have k0 := b1 0 (by decide)
    have k1 := b1 1 (by decide)
    have k2 := b1 2 (by decide)
    have k3 := b1 3 (by decide)
    simp only [KC, e] at k0 k1 k2 k3
    rw [Nat.zero_add]
    exact ⟨_, _, k0, k1, k2, k3, b2, b3, b6.pts, fun c' off e' => by cases e'; omega⟩
theorem LC.txs {base hi : Nat} {w : World} {a : Option Addr} {n cap : Nat} {xs : List Tx} (h : LC KT base hi w (.slice a n cap) xs) (hm : ∀ j (h : j < xs.length), xs[j].2.2.length ≤ 1099511627776) : Txs (fun c => base ≤ c ∧ c < hi) 1099511627776 w a xs := by
  obtain ⟨h0, h⟩ := h
  rcases h with ⟨rfl, _⟩ | ⟨g, cp, ss, lo, up, e, h1, h2, h3, h4, h5, h6⟩
  · exact .inl rfl
  · cases e
    refine .inr ⟨g, 0, rfl, by omega, fun j hj => ?_⟩
    obtain ⟨⟨b1, b2⟩, a2, a3, a4⟩ := h5 j hj
    obtain ⟨a', cap', e, f1, f2⟩ := LC.form b2
    have k0 := b1 0 (by decide)
    have k1 := b1 1 (by decide)
    have k2 := b1 2 (by decide)
    simp only [KT, e] at k0 k1 k2
    rw [Nat.zero_add]
    rw [e] at b2
    have hc := LC.chs b2
    refine ⟨a', cap', k0, k1, k2, f1, hm j hj, ?_, fun c' off e' => by have := f2 c' off e'; omega⟩
    rcases hc with hc | ⟨b, o, e2, hb, hc⟩
    · exact .inl hc
    · refine .inr ⟨b, o, e2, hb, fun i hi' => ?_⟩
      obtain ⟨a4', cap4, q0, q1, q2, q3, q4, q5, q6, q7⟩ := hc i hi'
      exact ⟨a4', cap4, q0, q1, q2, q3, q4, q5, q6, fun c' off e' => by have := q7 c' off e'; omega⟩
def subR (lo up : Nat) (w : World) (v : Value) (x : Rw) : Prop := up ≤ w.heap.size ∧ ∃ c cp, v = .slice (some ⟨c, 0, none⟩) x.2.2.2.2.length cp ∧ x.2.2.2.2.length ≤ cp ∧ x.2.2.2.2.length ≤ 1099511627776 ∧ lo ≤ c ∧ c < up ∧ PtsOwn w c x.2.2.2.2
def KR : Kd Rw where
  sz := 5
  vals := fun x v => [.int .i64 x.1, .int .i64 x.2.1, .int .i64 x.2.2.1, .int .i64 x.2.2.2.1, v]
  sub := subR
  len := fun _ _ => rfl
  one := by
    rintro lo up w v x ⟨_, c, cp, rfl, _⟩ u hu
    simp at hu
    rcases hu with rfl | rfl | rfl | rfl | rfl <;> rfl
  frame := by
    rintro lo up w w' v x ⟨h0, c, cp, e, h1, h2, h3, h4, h5⟩ hb hs
    exact ⟨by omega, c, cp, e, h1, h2, h3, h4, own_blk h5 (hb c h3 h4) (by omega)⟩
  top := fun h => h.1
theorem LC.rws {base hi : Nat} {w : World} {a : Option Addr} {n cap : Nat} {xs : List Rw} (h : LC KR base hi w (.slice a n cap) xs) : Rws (fun _ => True) w a xs := by
  obtain ⟨h0, h⟩ := h
  rcases h with ⟨rfl, _⟩ | ⟨g, cp, ss, lo, up, e, h1, h2, h3, h4, h5, h6⟩
  · exact .inl rfl
  · cases e
    refine .inr ⟨g, 0, rfl, by omega, fun j hj => ?_⟩
    obtain ⟨⟨b1, _, c, cq, e, b2, b3, b4, b5, b6⟩, a2, a3, a4⟩ := h5 j hj
    have k0 := b1 0 (by decide)
    have k1 := b1 1 (by decide)
    have k2 := b1 2 (by decide)
    have k3 := b1 3 (by decide)
    have k4 := b1 4 (by decide)
    simp only [KR, e] at k0 k1 k2 k3 k4
    rw [Nat.zero_add]
    exact ⟨_, _, k0, k1, k2, k3, k4, b2, b3, b6.pts, fun c' off e' => trivial⟩
theorem RowsX.lc {base hi : Nat} {w : World} {v : Value} {rs : List Rw} {xs : List El} (h : RowsX base hi w v rs xs) : LC KR base hi w v rs := by
  have h0 := h.2.2.2.1
  refine ⟨h0, ?_⟩
  rcases h.rows with ⟨rfl, _, e⟩ | ⟨g, cp, e, h1, h2, h3, h4, h5, c, cpf, h6, h7⟩
  · exact .inl ⟨rfl, e⟩
  · refine .inr ⟨g, cp, fun j => if hj : j < rs.length then .slice (some ⟨c j, 0, none⟩) (rs[j]'hj).2.2.2.2.length (cpf j) else .bool false, c, fun j => c j + 1, e, h4, h1, h2, h5, fun j hj => ?_, fun i j hne hi' hj => ?_⟩
    · obtain ⟨⟨a0, a1, a2, a3, a4, a5⟩, b1, b2, b3, b4, b5⟩ := h6 j hj
      simp only [dif_pos hj]
      refine ⟨⟨fun t ht => ?_, by have := a5.1; omega, c j, cpf j, rfl, b1, b2, Nat.le_refl _, by omega, a5⟩, b3, by omega, by omega⟩
      rcases (show t = 0 ∨ t = 1 ∨ t = 2 ∨ t = 3 ∨ t = 4 by have : KR.sz = 5 := rfl; omega) with e | e | e | e | e <;> subst e
      · exact a0
      · exact a1
      · exact a2
      · exact a3
      · exact a4
    · rcases Nat.lt_or_gt_of_ne hne with q | q
      · have := h7 i j q hj; show c i + 1 ≤ c j ∨ c j + 1 ≤ c i; omega
      · have := h7 j i q hi'; show c i + 1 ≤ c j ∨ c j + 1 ≤ c i; omega
end Go.Proofs.YtnajddjalagmoaaGreatDoor
namespace Go.Proofs.YtnajddjalagmoaaGreatDoor
open Go.RowKit
set_option linter.unusedSimpArgs false
set_option linter.unusedVariables false
/-- An append to a list of its own that is no nil, at a step of a region that draws its order; the source may be empty. -/
theorem step_append_any {P : Program} {w : World} {ops : Array Oper} {o : Oper} {a : Act} {K : Act → World → Prop} {Q : Exit → Act → World → Prop} {E : Prop} (hgd : o.guard = none) (s x : Operand) (t : TypeId)
    (ho : o.op = .call { callee := .builtin .append, args := #[s, x], argTypes := #[t, t] })
    (base : Nat) (e : TypeId) (i : TypeInfo) (z : Value) (size bytes : Nat) (ht : P.underlying t = some (.slice e)) (hi : P.info? e = some i) (hz : i.zero = some z)
    (hsize : i.size = size) (hby : i.bytes = bytes) (hzs : z.cells.size = size) (hsz : 0 < size)
    (g0 n0 cap0 : Nat) (n : Nat) (xs : List Value) (hs : a.eval s = .slice (some ⟨g0, 0, none⟩) n0 cap0) (hown : w.ownsRow base e size (.slice (some ⟨g0, 0, none⟩) n0 cap0) n xs)
    (ad : Addr) (m c : Nat) (news : List Value) (hx : a.eval x = .slice (some ad) m c) (hl : news.length = m * size) (hnews : ∀ j u, news[j]? = some u → w.cell? (ad.add j) = some u) (h1 : ∀ u ∈ news, u.oneCell' = true)
    (h63 : n + m ≤ maxLen) (hbytes : (n + m) * bytes ≤ 140737488355328) (hbase : base ≤ w.heap.size)
    (h : ∀ g cap w', w'.ownsRow base e size (.slice (some ⟨g, 0, none⟩) (n + m) cap) (n + m) (xs ++ news) → w.grownBy w' (some g0) → (g = g0 ∨ g = w.heap.size) → K (a.put o.dst (.slice (some ⟨g, 0, none⟩) (n + m) cap)) w') :
    if Region.wanted o (yielded ops a.tmps) = true then Oper.wp P o a w K Q else E := by
  have hw : Region.wanted o (yielded ops a.tmps) = true := by simp [Region.wanted, hgd]
  rw [if_pos hw]
  obtain ⟨v', w', hr, h2, h3, h4, h5⟩ := run_append_own_at (P := P) w base t o.type e i z size bytes ht hi hz hsize hby hzs hsz _ n xs hown ad m c news hl hnews h1 h63 hbytes hbase
  have hne : v' ≠ .slice none 0 0 := fun e => by have := (h4.1 e).1; cases this
  obtain ⟨g, cap, cur, rfl, _⟩ : ∃ g cap cur, v' = .slice (some ⟨g, 0, none⟩) (n + m) cap ∧ cur = () := by
    rcases h2.2 with ⟨q, _⟩ | ⟨g, cap, cur, e, _⟩
    · exact absurd q hne
    · exact ⟨g, cap, (), e, rfl⟩
  unfold Oper.wp execOp
  simp only [ho, resolve, invoke, builtin, Sem.run_bind, Sem.run_pure, Result.andThen_ok, List.map_toArray, List.map_cons, List.map_nil, hs, hx, hr]
  refine h g cap w' h2 h3 ?_
  rcases h5 with h5 | h5
  · left; simpa [Value.ownBlock] using h5
  · right; simpa [Value.ownBlock] using h5
/-- The same in a plain region. -/
theorem wpList_append_any {P : Program} {w : World} {ops : Array Oper} {rest : List Oper} {o : Oper} {a : Act} {Q : Exit → Act → World → Prop} (hgd : o.guard = none) (s x : Operand) (t : TypeId)
    (ho : o.op = .call { callee := .builtin .append, args := #[s, x], argTypes := #[t, t] })
    (base : Nat) (e : TypeId) (i : TypeInfo) (z : Value) (size bytes : Nat) (ht : P.underlying t = some (.slice e)) (hi : P.info? e = some i) (hz : i.zero = some z)
    (hsize : i.size = size) (hby : i.bytes = bytes) (hzs : z.cells.size = size) (hsz : 0 < size)
    (g0 n0 cap0 : Nat) (n : Nat) (xs : List Value) (hs : a.eval s = .slice (some ⟨g0, 0, none⟩) n0 cap0) (hown : w.ownsRow base e size (.slice (some ⟨g0, 0, none⟩) n0 cap0) n xs)
    (ad : Addr) (m c : Nat) (news : List Value) (hx : a.eval x = .slice (some ad) m c) (hl : news.length = m * size) (hnews : ∀ j u, news[j]? = some u → w.cell? (ad.add j) = some u) (h1 : ∀ u ∈ news, u.oneCell' = true)
    (h63 : n + m ≤ maxLen) (hbytes : (n + m) * bytes ≤ 140737488355328) (hbase : base ≤ w.heap.size)
    (h : ∀ g cap w', w'.ownsRow base e size (.slice (some ⟨g, 0, none⟩) (n + m) cap) (n + m) (xs ++ news) → w.grownBy w' (some g0) → (g = g0 ∨ g = w.heap.size) → wpList P ops Q rest (a.put o.dst (.slice (some ⟨g, 0, none⟩) (n + m) cap)) w') : wpList P ops Q (o :: rest) a w := by
  refine wpList_plain hgd fun K hK => ?_
  obtain ⟨v', w', hr, h2, h3, h4, h5⟩ := run_append_own_at (P := P) w base t o.type e i z size bytes ht hi hz hsize hby hzs hsz _ n xs hown ad m c news hl hnews h1 h63 hbytes hbase
  have hne : v' ≠ .slice none 0 0 := fun e => by have := (h4.1 e).1; cases this
  obtain ⟨g, cap, cur, rfl, _⟩ : ∃ g cap cur, v' = .slice (some ⟨g, 0, none⟩) (n + m) cap ∧ cur = () := by
    rcases h2.2 with ⟨q, _⟩ | ⟨g, cap, cur, e, _⟩
    · exact absurd q hne
    · exact ⟨g, cap, (), e, rfl⟩
  unfold Oper.wp execOp
  simp only [ho, resolve, invoke, builtin, Sem.run_bind, Sem.run_pure, Result.andThen_ok, List.map_toArray, List.map_cons, List.map_nil, hs, hx, hr]
  refine hK _ _ (h g cap w' h2 h3 ?_)
  rcases h5 with h5 | h5
  · left; simpa [Value.ownBlock] using h5
  · right; simpa [Value.ownBlock] using h5
set_option maxRecDepth 100000 in
set_option maxHeartbeats 1000000 in
theorem spec_copyG (kd : Int) (b off : Nat) (cap : Nat) (ps : List (Int × Int)) (w : World) (hm : ps.length ≤ 1099511627776) (h : Pts w (some ⟨b, off, none⟩) ps) (hbs : b < w.heap.size) : Calls Tryz.prog 26 #[.agg #[.int .i64 kd, .slice (some ⟨b, off, none⟩) ps.length cap]] w fun e w' => CP w kd ps e w' := by
  obtain ⟨i0, hi0, hz0, hz1, hz2⟩ := info_parts Tryz.infoPC
  have hp : PtsAt w b off ps := by
    rcases h with h | ⟨b', o', e, _, h⟩
    · subst h; intro k hk; simp at hk
    · cases e; exact h
  have hN := fl2_len ps
  have HP := hid hp
  clear hp h
  have hB3 : Below w.heap.size w (((w.alloc (.cells #[.int .i64 kd, .slice (some ⟨b, off, none⟩) ps.length cap] 44)).alloc (.cells #[.int .i64 0, .slice none 0 0] 44)).alloc (.cells #[] 96)) := balloc (balloc (balloc (Below.refl _ _) _) _) _
  have hown := own_new (w := (w.alloc (.cells #[.int .i64 kd, .slice (some ⟨b, off, none⟩) ps.length cap] 44)).alloc (.cells #[.int .i64 0, .slice none 0 0] 44)) (B := w.heap.size + 2) (by simp)
  have gA := old_alloc (o' := .cells #[] 96) (old_alloc (o' := .cells #[.int .i64 0, .slice none 0 0] 44) (new_alloc w w.heap.size (.cells #[.int .i64 kd, .slice (some ⟨b, off, none⟩) ps.length cap] 44) rfl))
  have gB := old_alloc (o' := .cells #[] 96) (new_alloc (w.alloc (.cells #[.int .i64 kd, .slice (some ⟨b, off, none⟩) ps.length cap] 44)) (w.heap.size + 1) (.cells #[.int .i64 0, .slice none 0 0] 44) (by simp))
  have hsz3 : (((w.alloc (.cells #[.int .i64 kd, .slice (some ⟨b, off, none⟩) ps.length cap] 44)).alloc (.cells #[.int .i64 0, .slice none 0 0] 44)).alloc (.cells #[] 96)).heap.size = w.heap.size + 3 := by simp
  have hsz2 : ((w.alloc (.cells #[.int .i64 kd, .slice (some ⟨b, off, none⟩) ps.length cap] 44)).alloc (.cells #[.int .i64 0, .slice none 0 0] 44)).heap.size = w.heap.size + 2 := by simp
  rw [hsz2] at hown
  have HNW := hid (fl2_news (HP.out.below hbs hB3))
  have HOW := hid hown
  have HGA := hid gA
  have HGB := hid gB
  have HB3 := hid hB3
  have HSZ := hid hsz3
  have HF1 := hid (fl2_one ps)
  clear hown gA gB hB3 hsz3 hsz2
  go_enter Tryz.func26, Tryz.ntmps26
  go_wp2_with (at_builtin; (refine wpList_append_any rfl (.tmp 3) (.tmp 5) 42 rfl (w.heap.size + 2) 96 i0 _ 2 16 Tryz.underlying42 hi0 hz0 hz1 hz2 rfl (by decide) (w.heap.size + 2) 0 0 0 [] (by rfl) HOW.out ⟨b, off, none⟩ ps.length cap (fl2 ps) (by rfl) hN HNW.out HF1.out (by unfold maxLen; omega) (by omega) (by rw [HSZ.out]; omega) ?_; intro gg cp w2 hown1 hgrow hat; have gA := grown_blk (p := w.heap.size + 2) hgrow HGA.out (by omega); have gB := grown_blk (p := w.heap.size + 2) hgrow HGB.out (by omega); obtain ⟨a0, a1, f0, f1⟩ := cell2r gA; obtain ⟨b0, b1, e0, e1⟩ := cell2r gB))
  have HO1 := hid (own_pts (ps := ps) (by simpa using hown1) (by omega))
  have HB4 := hid (bgrown (p := w.heap.size + 2) HB3.out hgrow (by omega))
  clear hown1 hgrow
  obtain ⟨h1, h2, h3⟩ := HO1.out
  have gF := set2r (set_far (q := w.heap.size) (k := 1) (u := .slice (some ⟨gg, 0, none⟩) ps.length cp) gB (by omega)) (.int .i64 kd) (.slice (some ⟨gg, 0, none⟩) ps.length cp)
  have bF := bset (bset (bset HB4.out (q := w.heap.size) (k := 1) (Nat.le_refl _) (.slice (some ⟨gg, 0, none⟩) ps.length cp)) (q := w.heap.size + 1) (k := 0) (by omega) (.int .i64 kd)) (q := w.heap.size + 1) (k := 1) (by omega) (.slice (some ⟨gg, 0, none⟩) ps.length cp)
  have oF : PtsOwn (((w2.setCell ⟨w.heap.size, 1, none⟩ (.slice (some ⟨gg, 0, none⟩) ps.length cp)).setCell ⟨w.heap.size + 1, 0, none⟩ (.int .i64 kd)).setCell ⟨w.heap.size + 1, 1, none⟩ (.slice (some ⟨gg, 0, none⟩) ps.length cp)) gg ps := by
    refine own_blk h3 ?_ (by simp; exact h3.1)
    rw [Below.heap_setCell _ _ _ _ (by dsimp only; omega), Below.heap_setCell _ _ _ _ (by dsimp only; omega), Below.heap_setCell _ _ _ _ (by dsimp only; omega)]
  generalize ((w2.setCell ⟨w.heap.size, 1, none⟩ (.slice (some ⟨gg, 0, none⟩) ps.length cp)).setCell ⟨w.heap.size + 1, 0, none⟩ (.int .i64 kd)).setCell ⟨w.heap.size + 1, 1, none⟩ (.slice (some ⟨gg, 0, none⟩) ps.length cp) = wf at *
  obtain ⟨z0, z1, _, _⟩ := cell2r gF
  exact bodyPost_ret (v := .agg #[.int .i64 kd, .slice (some ⟨gg, 0, none⟩) ps.length cp]) (by simp [results, Tryz.results26, go_sem, z0, z1]) rfl ⟨gg, cp, rfl, by omega, by omega, oF, bF⟩
set_option maxRecDepth 100000 in
set_option maxHeartbeats 2000000 in
theorem impl_copyG (kd : Int) (b off : Nat) (cap : Nat) (ps : List (Int × Int)) (w : World) (hm : ps.length ≤ 1099511627776) (h : Pts w (some ⟨b, off, none⟩) ps) (hbs : b < w.heap.size) : Calls Tryz.prog 64 #[.agg #[.int .i64 kd, .slice (some ⟨b, off, none⟩) ps.length cap]] w fun e w' => CP w kd ps e w' := by
  obtain ⟨i0, hi0, hz0, hz1, hz2⟩ := info_parts Tryz.infoPC
  have hp : PtsAt w b off ps := by
    rcases h with h | ⟨b', o', e, _, h⟩
    · subst h; intro k hk; simp at hk
    · cases e; exact h
  have hN := fl2_len ps
  have HP := hid hp
  have HF1 := hid (fl2_one ps)
  clear hp h
  go_enter Tryz.func64, Tryz.ntmps64
  go_upto_region 1 with fail
  have hB : Below w.heap.size w ((w.alloc (.cells #[.int .i64 kd, .slice (some ⟨b, off, none⟩) ps.length cap] 44)).alloc (.cells #[.int .i64 0, .slice none 0 0] 44)) := balloc (balloc (Below.refl _ _) _) _
  have gA := old_alloc (o' := .cells #[.int .i64 0, .slice none 0 0] 44) (new_alloc w w.heap.size (.cells #[.int .i64 kd, .slice (some ⟨b, off, none⟩) ps.length cap] 44) rfl)
  have gB := new_alloc (w.alloc (.cells #[.int .i64 kd, .slice (some ⟨b, off, none⟩) ps.length cap] 44)) (w.heap.size + 1) (.cells #[.int .i64 0, .slice none 0 0] 44) (by simp)
  have hsz : ((w.alloc (.cells #[.int .i64 kd, .slice (some ⟨b, off, none⟩) ps.length cap] 44)).alloc (.cells #[.int .i64 0, .slice none 0 0] 44)).heap.size = w.heap.size + 2 := by simp
  generalize ((w.alloc (.cells #[.int .i64 kd, .slice (some ⟨b, off, none⟩) ps.length cap] 44)).alloc (.cells #[.int .i64 0, .slice none 0 0] 44)) = W at *
  have HNW := hid (fl2_news (HP.out.below hbs (balloc hB (.cells #[] 96))))
  have HOW := hid (own_new (w := W) (B := w.heap.size + 2) (by omega))
  rw [hsz] at HOW
  have HGB := hid (old_alloc (o' := .cells #[] 96) gB)
  have hs3 : (W.alloc (.cells #[] 96)).heap.size = w.heap.size + 3 := by simp [hsz]
  have HB3 := hid (balloc hB (.cells #[] 96))
  obtain ⟨a0, a1, f0, f1⟩ := cell2r gA
  obtain ⟨b0, b1, e0, e1⟩ := cell2r gB
  clear gA gB hB
  go_region_held3 (fun w' => w'.cell? ⟨w.heap.size, 0, none⟩ = some (.int .i64 kd) ∧ w'.cell? ⟨w.heap.size, 1, none⟩ = some (.slice (some ⟨b, off, none⟩) ps.length cap)) ((go_split_ands; (repeat' apply And.intro) <;> (repeat (first | with_reducible assumption | with_reducible refine keepset3 ?_ (by dsimp only; omega) | with_reducible refine keepdrew ?_ | with_reducible refine keepalloc ?_ _ | (refine hgrow.cell ?_ (by simp; try omega))))))
    ((refine step_append_any (by rfl) _ _ _ (by rfl) (w.heap.size + 2) 96 i0 _ 2 16 Tryz.underlying42 hi0 hz0 hz1 hz2 rfl (by omega) (w.heap.size + 2) 0 0 0 [] (by rw [← hsz]; rfl) (HOW.out.drew) ⟨b, off, none⟩ ps.length cap (fl2 ps) (by rfl) hN HNW.out HF1.out (by unfold maxLen; omega) (by omega) (by show _ ≤ (W.alloc (.cells #[] 96)).heap.size; omega) ?_; intro gg cp w2 hown1 hgrow hat; have gB := grown_blk (p := w.heap.size + 2) hgrow HGB.out (by omega); obtain ⟨y0, y1, x0, x1⟩ := cell2r gB))
  have HO1 := hid (own_pts (ps := ps) (by simpa using hown1) (by omega))
  have HB4 := hid (bgrown (p := w.heap.size + 2) (bdrew HB3.out) hgrow (by omega))
  clear hown1 hgrow
  go_wp2_with fail
  obtain ⟨h1, h2, h3⟩ := HO1.out
  have gF := set2r gB (.int .i64 kd) (.slice (some ⟨gg, 0, none⟩) ps.length cp)
  have bF := bset (bset HB4.out (q := w.heap.size + 1) (k := 0) (by omega) (.int .i64 kd)) (q := w.heap.size + 1) (k := 1) (by omega) (.slice (some ⟨gg, 0, none⟩) ps.length cp)
  have oF : PtsOwn ((w2.setCell ⟨w.heap.size + 1, 0, none⟩ (.int .i64 kd)).setCell ⟨w.heap.size + 1, 1, none⟩ (.slice (some ⟨gg, 0, none⟩) ps.length cp)) gg ps := by
    refine own_blk h3 ?_ (by simp; exact h3.1)
    rw [Below.heap_setCell _ _ _ _ (by dsimp only; omega), Below.heap_setCell _ _ _ _ (by dsimp only; omega)]
  generalize (w2.setCell ⟨w.heap.size + 1, 0, none⟩ (.int .i64 kd)).setCell ⟨w.heap.size + 1, 1, none⟩ (.slice (some ⟨gg, 0, none⟩) ps.length cp) = wf at *
  obtain ⟨z0, z1, _, _⟩ := cell2r gF
  exact bodyPost_ret (v := .agg #[.int .i64 kd, .slice (some ⟨gg, 0, none⟩) ps.length cp]) (by simp [results, Tryz.results64, go_sem, z0, z1]) rfl ⟨gg, cp, rfl, by omega, by omega, oF, bF⟩
end Go.Proofs.YtnajddjalagmoaaGreatDoor
namespace Go.Proofs.YtnajddjalagmoaaGreatDoor
open Go.RowKit
set_option linter.unusedSimpArgs false
set_option linter.unusedVariables false
/-- Lists as the law hands them in: each list inside has an address. -/
def ChsS (w : World) (B : Nat) (xs : List Ch) : Prop := B < w.heap.size ∧ ∀ j (h : j < xs.length), ∃ c cp, c < w.heap.size ∧ (w.cell? ⟨B, j * 4, none⟩ = some (.int .i64 xs[j].1) ∧ w.cell? ⟨B, j * 4 + 1, none⟩ = some (.bool xs[j].2.1) ∧ w.cell? ⟨B, j * 4 + 2, none⟩ = some (.int .i64 xs[j].2.2.1) ∧ w.cell? ⟨B, j * 4 + 3, none⟩ = some (.slice (some ⟨c, 0, none⟩) xs[j].2.2.2.length cp)) ∧ xs[j].2.2.2.length ≤ 1099511627776 ∧ Pts w (some ⟨c, 0, none⟩) xs[j].2.2.2
theorem ChsS.below {w w' : World} {B : Nat} {xs : List Ch} (h : ChsS w B xs) (H : Below w.heap.size w w') : ChsS w' B xs := by
  refine ⟨Nat.lt_of_lt_of_le h.1 H.size, fun j hj => ?_⟩
  obtain ⟨c, cp, a0, ⟨a1, a2, a3, a4⟩, a6, a7⟩ := h.2 j hj
  exact ⟨c, cp, Nat.lt_of_lt_of_le a0 H.size, ⟨keepcell H a1, keepcell H a2, keepcell H a3, keepcell H a4⟩, a6, a7.below H⟩
def TxsS (w : World) (B : Nat) (xs : List Tx) : Prop := B < w.heap.size ∧ ∀ j (h : j < xs.length), ∃ c cp, c < w.heap.size ∧ (w.cell? ⟨B, j * 3, none⟩ = some (.int .i64 xs[j].1) ∧ w.cell? ⟨B, j * 3 + 1, none⟩ = some (.bool xs[j].2.1) ∧ w.cell? ⟨B, j * 3 + 2, none⟩ = some (.slice (some ⟨c, 0, none⟩) xs[j].2.2.length cp)) ∧ xs[j].2.2.length ≤ 1099511627776 ∧ ChsS w c xs[j].2.2
theorem TxsS.below {w w' : World} {B : Nat} {xs : List Tx} (h : TxsS w B xs) (H : Below w.heap.size w w') : TxsS w' B xs := by
  refine ⟨Nat.lt_of_lt_of_le h.1 H.size, fun j hj => ?_⟩
  obtain ⟨c, cp, a0, ⟨a1, a2, a3⟩, a6, a7⟩ := h.2 j hj
  exact ⟨c, cp, Nat.lt_of_lt_of_le a0 H.size, ⟨keepcell H a1, keepcell H a2, keepcell H a3⟩, a6, a7.below H⟩
def RwsZ (w : World) (B : Nat) (xs : List Rw) : Prop := B < w.heap.size ∧ ∀ j (h : j < xs.length), ∃ c cp, c < w.heap.size ∧ (w.cell? ⟨B, j * 5, none⟩ = some (.int .i64 xs[j].1) ∧ w.cell? ⟨B, j * 5 + 1, none⟩ = some (.int .i64 xs[j].2.1) ∧ w.cell? ⟨B, j * 5 + 2, none⟩ = some (.int .i64 xs[j].2.2.1) ∧ w.cell? ⟨B, j * 5 + 3, none⟩ = some (.int .i64 xs[j].2.2.2.1) ∧ w.cell? ⟨B, j * 5 + 4, none⟩ = some (.slice (some ⟨c, 0, none⟩) xs[j].2.2.2.2.length cp)) ∧ xs[j].2.2.2.2.length ≤ 1099511627776 ∧ Pts w (some ⟨c, 0, none⟩) xs[j].2.2.2.2
theorem RwsZ.below {w w' : World} {B : Nat} {xs : List Rw} (h : RwsZ w B xs) (H : Below w.heap.size w w') : RwsZ w' B xs := by
  refine ⟨Nat.lt_of_lt_of_le h.1 H.size, fun j hj => ?_⟩
  obtain ⟨c, cp, a0, ⟨a1, a2, a3, a4, a5⟩, a6, a7⟩ := h.2 j hj
  exact ⟨c, cp, Nat.lt_of_lt_of_le a0 H.size, ⟨keepcell H a1, keepcell H a2, keepcell H a3, keepcell H a4, keepcell H a5⟩, a6, a7.below H⟩
set_option maxRecDepth 100000 in
set_option maxHeartbeats 1000000 in
theorem chX_copied (id : Int) (gn : Bool) (kd : Int) (ps : List (Int × Int)) (b cap : Nat) (w : World) (hm : ps.length ≤ 1099511627776) (hbs : b < w.heap.size) (h : Pts w (some ⟨b, 0, none⟩) ps) : Calls Tryz.prog 112 #[.agg #[.int .i64 id, .bool gn, .int .i64 kd, .slice (some ⟨b, 0, none⟩) ps.length cap]] w fun e w' => ∃ sv lo up, e = .returned (.agg #[.int .i64 id, .bool gn, .int .i64 kd, sv]) ∧ KC.sub lo up w' sv (id, gn, kd, ps) ∧ w.heap.size ≤ lo ∧ Below w.heap.size w w' := by
  have hB : Below w.heap.size w ((w.alloc (.cells #[.int .i64 id, .bool gn, .int .i64 kd, .slice (some ⟨b, 0, none⟩) ps.length cap] 66)).alloc (.cells #[.int .i64 0, .bool false, .int .i64 0, .slice none 0 0] 66)) := balloc (balloc (Below.refl _ _) _) _
  have HC := hid (impl_copyG kd b 0 cap ps _ hm (h.below hB) (Nat.lt_of_lt_of_le hbs hB.size))
  clear h
  have g0 := old_alloc (o' := .cells #[.int .i64 0, .bool false, .int .i64 0, .slice none 0 0] 66) (new_alloc w w.heap.size (.cells #[.int .i64 id, .bool gn, .int .i64 kd, .slice (some ⟨b, 0, none⟩) ps.length cap] 66) rfl)
  have g1 := new_alloc (w.alloc (.cells #[.int .i64 id, .bool gn, .int .i64 kd, .slice (some ⟨b, 0, none⟩) ps.length cap] 66)) (w.heap.size + 1) (.cells #[.int .i64 0, .bool false, .int .i64 0, .slice none 0 0] 66) (by simp)
  go_enter Tryz.func112, Tryz.ntmps112
  go_upto_region 1 with fail
  have hWz : ((w.alloc (.cells #[.int .i64 id, .bool gn, .int .i64 kd, .slice (some ⟨b, 0, none⟩) ps.length cap] 66)).alloc (.cells #[.int .i64 0, .bool false, .int .i64 0, .slice none 0 0] 66)).heap.size = w.heap.size + 2 := by simp
  generalize (w.alloc (.cells #[.int .i64 id, .bool gn, .int .i64 kd, .slice (some ⟨b, 0, none⟩) ps.length cap] 66)).alloc (.cells #[.int .i64 0, .bool false, .int .i64 0, .slice none 0 0] 66) = W at *
  obtain ⟨⟨x0, x1, x2, x3⟩, _⟩ := cellk4 g0
  go_wp2_with fail
  refine HC.out.mono ?_
  rintro e y ⟨g, cp, rfl, hcp, hgs, ho, hy⟩
  obtain ⟨sv, hsv⟩ : ∃ sv, sv = Value.slice (some ⟨g, 0, none⟩) ps.length cp := ⟨_, rfl⟩
  rw [← hsv]
  have hWs := lt_of_block g1
  replace g0 := keepheap2 hy g0
  replace g1 := keepheap2 hy g1
  have HB := hid (btrans hB hy)
  have hyz := hy.size
  have HO := hid ho
  clear hB hy ho HC x0 x1 x2 x3
  obtain ⟨⟨x0, x1, x2, x3⟩, y0, y1, y2, y3⟩ := cellk4 g0
  obtain ⟨⟨v0, v1, v2, v3⟩, u0, u1, u2, u3⟩ := cellk4 g1
  rw [hsv]
  go_wp2_with fail
  rw [← hsv]
  have gF := setk4 (set_far (q := w.heap.size) (k := 3) (u := sv) (set_far (q := w.heap.size) (k := 2) (u := .int .i64 kd) g1 (by omega)) (by omega)) (.int .i64 id) (.bool gn) (.int .i64 kd) (sv)
  have bF := (bset (bset (bset (bset (bset (bset HB.out (q := w.heap.size) (k := 2) (Nat.le_refl _) (.int .i64 kd)) (q := w.heap.size) (k := 3) (Nat.le_refl _) (sv)) (q := w.heap.size + 1) (k := 0) (by omega) (.int .i64 id)) (q := w.heap.size + 1) (k := 1) (by omega) (.bool gn)) (q := w.heap.size + 1) (k := 2) (by omega) (.int .i64 kd)) (q := w.heap.size + 1) (k := 3) (by omega) (sv))
  have oF := own_blk (w' := ((((((y.setCell ⟨w.heap.size, 2, none⟩ (.int .i64 kd)).setCell ⟨w.heap.size, 3, none⟩ (sv)).setCell ⟨w.heap.size + 1, 0, none⟩ (.int .i64 id)).setCell ⟨w.heap.size + 1, 1, none⟩ (.bool gn)).setCell ⟨w.heap.size + 1, 2, none⟩ (.int .i64 kd)).setCell ⟨w.heap.size + 1, 3, none⟩ (sv))) HO.out (by rw [Below.heap_setCell _ _ _ _ (by dsimp only; omega), Below.heap_setCell _ _ _ _ (by dsimp only; omega), Below.heap_setCell _ _ _ _ (by dsimp only; omega), Below.heap_setCell _ _ _ _ (by dsimp only; omega), Below.heap_setCell _ _ _ _ (by dsimp only; omega), Below.heap_setCell _ _ _ _ (by dsimp only; omega)]) (by simp only [World.size_setCell]; exact HO.out.1)
  have hwz : ((((((y.setCell ⟨w.heap.size, 2, none⟩ (.int .i64 kd)).setCell ⟨w.heap.size, 3, none⟩ (sv)).setCell ⟨w.heap.size + 1, 0, none⟩ (.int .i64 id)).setCell ⟨w.heap.size + 1, 1, none⟩ (.bool gn)).setCell ⟨w.heap.size + 1, 2, none⟩ (.int .i64 kd)).setCell ⟨w.heap.size + 1, 3, none⟩ (sv)).heap.size = y.heap.size := by simp only [World.size_setCell]
  generalize ((((((y.setCell ⟨w.heap.size, 2, none⟩ (.int .i64 kd)).setCell ⟨w.heap.size, 3, none⟩ (sv)).setCell ⟨w.heap.size + 1, 0, none⟩ (.int .i64 id)).setCell ⟨w.heap.size + 1, 1, none⟩ (.bool gn)).setCell ⟨w.heap.size + 1, 2, none⟩ (.int .i64 kd)).setCell ⟨w.heap.size + 1, 3, none⟩ (sv)) = wf at *
  obtain ⟨⟨z0, z1, z2, z3⟩, _⟩ := cellk4 gF
  exact bodyPost_ret (v := .agg #[.int .i64 id, .bool gn, .int .i64 kd, sv]) (by simp [results, Tryz.results112, go_sem, z0, z1, z2, z3]) rfl ⟨sv, g, g + 1, rfl, ⟨by have := HO.out.1; omega, g, cp, hsv, hcp, hm, Nat.le_refl _, by omega, oF⟩, by omega, bF⟩
set_option maxRecDepth 100000 in
set_option maxHeartbeats 1000000 in
theorem chX_clo (id : Int) (gn : Bool) (kd : Int) (ps : List (Int × Int)) (b cap : Nat) (w : World) (hm : ps.length ≤ 1099511627776) (hbs : b < w.heap.size) (h : Pts w (some ⟨b, 0, none⟩) ps) : Calls Tryz.prog 111 #[.agg #[.int .i64 id, .bool gn, .int .i64 kd, .slice (some ⟨b, 0, none⟩) ps.length cap]] w fun e w' => ∃ sv lo up, e = .returned (.tuple #[.agg #[.int .i64 id, .bool gn, .int .i64 kd, sv], .bool true]) ∧ KC.sub lo up w' sv (id, gn, kd, ps) ∧ w.heap.size ≤ lo ∧ Below w.heap.size w w' := by
  have hB : Below w.heap.size w ((w.alloc (.cells #[.int .i64 id, .bool gn, .int .i64 kd, .slice (some ⟨b, 0, none⟩) ps.length cap] 66)).alloc (.cells #[.int .i64 0, .bool false, .int .i64 0, .slice none 0 0] 66)) := balloc (balloc (Below.refl _ _) _) _
  have HC := hid (chX_copied id gn kd ps b cap _ hm (Nat.lt_of_lt_of_le hbs hB.size) (h.below hB))
  clear h
  have g0 := old_alloc (o' := .cells #[.int .i64 0, .bool false, .int .i64 0, .slice none 0 0] 66) (new_alloc w w.heap.size (.cells #[.int .i64 id, .bool gn, .int .i64 kd, .slice (some ⟨b, 0, none⟩) ps.length cap] 66) rfl)
  have g1 := new_alloc (w.alloc (.cells #[.int .i64 id, .bool gn, .int .i64 kd, .slice (some ⟨b, 0, none⟩) ps.length cap] 66)) (w.heap.size + 1) (.cells #[.int .i64 0, .bool false, .int .i64 0, .slice none 0 0] 66) (by simp)
  go_enter Tryz.func111, Tryz.ntmps111
  go_upto_region 1 with fail
  have hWz : ((w.alloc (.cells #[.int .i64 id, .bool gn, .int .i64 kd, .slice (some ⟨b, 0, none⟩) ps.length cap] 66)).alloc (.cells #[.int .i64 0, .bool false, .int .i64 0, .slice none 0 0] 66)).heap.size = w.heap.size + 2 := by simp
  generalize (w.alloc (.cells #[.int .i64 id, .bool gn, .int .i64 kd, .slice (some ⟨b, 0, none⟩) ps.length cap] 66)).alloc (.cells #[.int .i64 0, .bool false, .int .i64 0, .slice none 0 0] 66) = W at *
  obtain ⟨⟨x0, x1, x2, x3⟩, _⟩ := cellk4 g0
  go_wp2_with fail
  refine HC.out.mono ?_
  rintro e y ⟨sv, lo, up, rfl, hsub, hlo, hy⟩
  have hyz := hy.size
  replace g1 := keepheap2 hy g1
  have HB := hid (btrans hB hy)
  have HO := hid hsub
  have hone := KC.one hsub sv (by simp [KC])
  clear hB hy hsub HC g0 x0 x1 x2 x3
  obtain ⟨⟨v0, v1, v2, v3⟩, u0, u1, u2, u3⟩ := cellk4 g1
  obtain ⟨sa, sn, sc, hsv⟩ : ∃ a n c, sv = .slice a n c := by obtain ⟨_, c, cp, e, _⟩ := HO.out; exact ⟨_, _, _, e⟩
  have HSV := hid hsv.symm
  subst hsv
  go_wp2_with fail
  have gF := setk4 g1 (.int .i64 id) (.bool gn) (.int .i64 kd) (.slice sa sn sc)
  have bF := (bset (bset (bset (bset HB.out (q := w.heap.size + 1) (k := 0) (by omega) (.int .i64 id)) (q := w.heap.size + 1) (k := 1) (by omega) (.bool gn)) (q := w.heap.size + 1) (k := 2) (by omega) (.int .i64 kd)) (q := w.heap.size + 1) (k := 3) (by omega) (.slice sa sn sc))
  have oF := KC.frame (w' := ((((y.setCell ⟨w.heap.size + 1, 0, none⟩ (.int .i64 id)).setCell ⟨w.heap.size + 1, 1, none⟩ (.bool gn)).setCell ⟨w.heap.size + 1, 2, none⟩ (.int .i64 kd)).setCell ⟨w.heap.size + 1, 3, none⟩ (.slice sa sn sc))) HO.out (fun c c1 c2 => by rw [Below.heap_setCell _ _ _ _ (by dsimp only; omega), Below.heap_setCell _ _ _ _ (by dsimp only; omega), Below.heap_setCell _ _ _ _ (by dsimp only; omega), Below.heap_setCell _ _ _ _ (by dsimp only; omega)]) (by simp only [World.size_setCell]; omega)
  generalize ((((y.setCell ⟨w.heap.size + 1, 0, none⟩ (.int .i64 id)).setCell ⟨w.heap.size + 1, 1, none⟩ (.bool gn)).setCell ⟨w.heap.size + 1, 2, none⟩ (.int .i64 kd)).setCell ⟨w.heap.size + 1, 3, none⟩ (.slice sa sn sc)) = wf at *
  obtain ⟨⟨z0, z1, z2, z3⟩, _⟩ := cellk4 gF
  exact bodyPost_ret (v := .tuple #[.agg #[.int .i64 id, .bool gn, .int .i64 kd, .slice sa sn sc], .bool true]) (by simp [results, Tryz.results111, go_sem, z0, z1, z2, z3]) rfl ⟨_, lo, up, rfl, oF, by omega, bF⟩
theorem make_chX0 (n : Nat) (hn : n ≤ 1099511627776) (w : World) : (Instr.makeSlice 60 (.int .i64 0) (.int .i64 n)).run Tryz.prog w = .ok (.slice (some ⟨w.heap.size, 0, none⟩) 0 n) (w.alloc (.cells (madeCells #[.int .i64 0, .bool false, .int .i64 0, .slice none 0 0] (n * 4)) 66)) := by
  obtain ⟨i0, hi, hz0, hz1, hz2⟩ := info_parts Tryz.infoCh
  have := run_make (P := Tryz.prog) w 60 66 i0 _ Tryz.underlying60 hi hz0 .i64 .i64 0 n (by omega) (by omega) (by rw [hz2]; omega) (by omega)
  rw [hz1] at this
  exact this
set_option maxRecDepth 100000 in
set_option maxHeartbeats 2000000 in
theorem kept_ch (B cap : Nat) (xs : List Ch) (w : World) (hm : xs.length ≤ 1099511627776) (h : ChsS w B xs) : Calls Tryz.prog 110 #[.slice (some ⟨B, 0, none⟩) xs.length cap, .func (.func 111) #[] #[]] w fun e w' => ∃ v ps, e = .returned v ∧ LX KC 66 w.heap.size w'.heap.size w' v xs ps ∧ (∃ g c, v = .slice (some ⟨g, 0, none⟩) xs.length c) ∧ Below w.heap.size w w' := by
  obtain ⟨i0, hi0, hz0, hz1, hz2⟩ := info_parts Tryz.infoCh
  have HR := hid h
  clear h
  have hmk := make_chX0 xs.length hm
  obtain ⟨n, hn⟩ : ∃ n, n = xs.length := ⟨_, rfl⟩
  have HN := hid hn.symm
  rw [← hn] at hm hmk ⊢
  clear hn
  have hB0 : Below w.heap.size w (w.alloc (.cells (madeCells #[.int .i64 0, .bool false, .int .i64 0, .slice none 0 0] (n * 4)) 66)) := balloc (Below.refl _ _) _
  have HI : Hid (LX KC 66 w.heap.size (w.alloc (.cells (madeCells #[.int .i64 0, .bool false, .int .i64 0, .slice none 0 0] (n * 4)) 66)).heap.size (w.alloc (.cells (madeCells #[.int .i64 0, .bool false, .int .i64 0, .slice none 0 0] (n * 4)) 66)) (.slice (some ⟨w.heap.size, 0, none⟩) 0 n) [] []) := hid (by
    have := World.ownsRow_made (base := w.heap.size) (e := 66) (size := 4) w (madeCells #[.int .i64 0, .bool false, .int .i64 0, .slice none 0 0] (n * 4)) n (Nat.le_refl _) (by unfold maxLen; omega) (size_madeCells _ _)
    exact LX.nil this (fun g e => by simp [Value.ownBlock] at e; subst e; simp) (Nat.le_refl _))
  go_enter Tryz.func110, Tryz.ntmps110
  go_upto_region 2 with fail
  generalize w.alloc (.cells (madeCells #[.int .i64 0, .bool false, .int .i64 0, .slice none 0 0] (n * 4)) 66) = W0 at *
  clear hmk
  go_wp2_with fail
  go_loopw [5, 15] (fun tv ti wr => ∃ i : Nat, ∃ g5 c5 : Nat, ∃ ps' : List (Ch × Value), ti = .int .i64 i ∧ i ≤ n ∧ tv = .slice (some ⟨g5, 0, none⟩) i c5 ∧ Hid (LX KC 66 w.heap.size wr.heap.size wr (.slice (some ⟨g5, 0, none⟩) i c5) (xs.take i) ps') ∧ Hid (Below w.heap.size w wr)) (fun _ ti _ => n - (intOf ti).toNat)
  case atStart => exact ⟨0, w.heap.size, n, [], rfl, Nat.zero_le _, rfl, HI, hid hB0⟩
  case round =>
    clear HI hB0
    obtain ⟨i, g5, c5, ps', rfl, hi, rfl, HV, HBW⟩ := hrel
    have hwX := HBW.out.size
    by_cases hlt : i < n
    · have d1 : (i : Int) < (n : Int) := by omega
      have hir : i < xs.length := by rw [HN.out]; exact hlt
      obtain ⟨ci, cpi, k9, ⟨k0, k1, k2, k3⟩, k6, k7⟩ := (HR.out.below HBW.out).2 i hir
      have HX : Hid (xs.take (i + 1) = xs.take i ++ [xs[i]]) := hid (by rw [List.take_add_one, List.getElem?_eq_getElem hir]; rfl)
      have hil : (xs.take i).length = i := by rw [List.length_take]; omega
      obtain ⟨r, hr⟩ : ∃ r, r = xs[i] := ⟨_, rfl⟩
      rw [← hr] at k0 k1 k2 k3 k6 k7 HX
      clear hr
      obtain ⟨id, gn, kd, ps⟩ := r
      simp only at k0 k1 k2 k3 k6 k7
      have hbx : Below wr.heap.size wr (wr.alloc (.cells #[.int .i64 id, .bool gn, .int .i64 kd, .slice (some ⟨ci, 0, none⟩) ps.length cpi] 66)) := balloc (Below.refl _ _) _
      have HT1 := hid (chX_clo id gn kd ps ci cpi _ k6 (Nat.lt_of_lt_of_le k9 hbx.size) (k7.below hbx))
      clear k7
      go_upto_region 5 with fail
      have gx := new_alloc wr wr.heap.size (.cells #[.int .i64 id, .bool gn, .int .i64 kd, .slice (some ⟨ci, 0, none⟩) ps.length cpi] 66) rfl
      have HI1 := hid (HV.out.below hbx)
      have HB1 := hid (btrans HBW.out hbx)
      have hs1 := hbx.size
      have hs2 : wr.heap.size < (wr.alloc (.cells #[.int .i64 id, .bool gn, .int .i64 kd, .slice (some ⟨ci, 0, none⟩) ps.length cpi] 66)).heap.size := by simp
      clear k0 k1 k2 k3 hbx HV
      generalize wr.alloc (.cells #[.int .i64 id, .bool gn, .int .i64 kd, .slice (some ⟨ci, 0, none⟩) ps.length cpi] 66) = W1 at *
      generalize wr.heap.size = Xh at *
      obtain ⟨⟨x0, x1, x2, x3⟩, _⟩ := cellk4 gx
      clear gx
      go_wp2_with fail
      refine HT1.out.mono ?_
      rintro e z ⟨sv, lo, up, rfl, hsub, hlo, hz⟩
      have HBz := hid (btrans HB1.out hz)
      have HIz := hid (HI1.out.below hz)
      have HO := hid hsub
      have hzs := hz.size
      have hwz := HBz.out.size
      obtain ⟨sa, sn, sc, hsv⟩ : ∃ a n c, sv = .slice a n c := by obtain ⟨_, c, cp, e, _⟩ := HO.out; exact ⟨_, _, _, e⟩
      clear hz hsub x0 x1 x2 x3 HT1 HI1 HB1
      subst hsv
      go_upto_region 7 with fail
      have hal : Below z.heap.size z (z.alloc (.cells #[.int .i64 id, .bool gn, .int .i64 kd, .slice sa sn sc] 66)) := balloc (Below.refl _ _) _
      have gy := new_alloc z z.heap.size (.cells #[.int .i64 id, .bool gn, .int .i64 kd, .slice sa sn sc] 66) rfl
      have HIa := hid (HIz.out.below hal)
      have HBa := hid (btrans HBz.out hal)
      have HOa := hid (KC.frame HO.out (fun c _ h2 => hal.block c (by have := KC.top HO.out; omega)) hal.size)
      have has : z.heap.size < (z.alloc (.cells #[.int .i64 id, .bool gn, .int .i64 kd, .slice sa sn sc] 66)).heap.size := by simp
      clear hal HO HIz HBz
      generalize z.alloc (.cells #[.int .i64 id, .bool gn, .int .i64 kd, .slice sa sn sc] 66) = Z at *
      obtain ⟨⟨x0, x1, x2, x3⟩, _⟩ := cellk4 gy
      clear gy
      have hownZ : Z.ownsRow w.heap.size 66 4 (.slice (some ⟨g5, 0, none⟩) i c5) i (flatK KC ps') := by have := HIa.out.2.1; rw [hil] at this; exact this
      go_wp2_with (at_builtin; (refine wpList_append_lies _ rfl (.tmp 26) (.tmp 28) 60 rfl w.heap.size 66 i0 _ 4 48 Tryz.underlying60 hi0 hz0 hz1 hz2 rfl (by decide) (.slice (some ⟨g5, 0, none⟩) i c5) i (flatK KC ps') rfl (hownZ.alloc _) ⟨Z.heap.size, 0, none⟩ 1 1 [.int .i64 id, .bool gn, .int .i64 kd, .slice sa sn sc] rfl rfl (World.news_of_block (cs := #[.int .i64 id, .bool gn, .int .i64 kd, .slice sa sn sc]) (t := 66) (fr := (0, 0)) (heap_alloc_new Z _)) (by simp [Value.oneCell']) (by omega) (by unfold maxLen; omega) (by omega) (by simp; omega) (Z.heap.size + 1) (by simp) ?_; intro gg cq w2 hown2 hgrow hat hlt2))
      have hal2 : Below Z.heap.size Z (Z.alloc (.cells #[.int .i64 id, .bool gn, .int .i64 kd, .slice sa sn sc] 66)) := balloc (Below.refl _ _) _
      have hsn := LX.snoc (x := (id, gn, kd, ps)) (sv := .slice sa sn sc) (l := lo) (u := up) (g := gg) (cap := cq) (HIa.out.below hal2) (by omega) (by omega) (KC.frame HOa.out (fun c _ h2 => hal2.block c (by have := KC.top HOa.out; omega)) hal2.size) (by rw [hil]; exact hown2) hgrow (by simpa using hat) hlt2
      rw [hil] at hsn
      have hb2 : Below w.heap.size w w2 := Below.grown (balloc HBa.out _) hgrow (by simp; omega) (fun k e => (hownZ.lt k e).1)
      have HSN2 : Hid (LX KC 66 w.heap.size w2.heap.size w2 (.slice (some ⟨gg, 0, none⟩) (i + 1) cq) (xs.take (i + 1)) (ps' ++ [((id, gn, kd, ps), .slice sa sn sc)])) := hid (by rw [HX.out]; exact hsn)
      have HB2 := hid hb2
      clear hsn hb2 hown2 hgrow hal2 hownZ x0 x1 x2 x3
      go_roundw
      case rel => exact ⟨i + 1, gg, cq, _, by go_num, by omega, rfl, HSN2, HB2⟩
      case measure => simp [intOf]; omega
    · have d1 : (n : Int) ≤ (i : Int) := by omega
      have hin : i = n := by omega
      subst hin
      have HF : Hid (LX KC 66 w.heap.size wr.heap.size wr (.slice (some ⟨g5, 0, none⟩) i c5) xs ps') := hid (by have := HV.out; rw [← HN.out, List.take_length] at this; rw [← HN.out]; exact this)
      clear HV
      go_wp2_with fail
      go_ret
      exact ⟨_, ps', rfl, HF.out, ⟨g5, c5, rfl⟩, HBW.out⟩
theorem make_txX0 (n : Nat) (hn : n ≤ 1099511627776) (w : World) : (Instr.makeSlice 36 (.int .i64 0) (.int .i64 n)).run Tryz.prog w = .ok (.slice (some ⟨w.heap.size, 0, none⟩) 0 n) (w.alloc (.cells (madeCells #[.int .i64 0, .bool false, .slice none 0 0] (n * 3)) 63)) := by
  obtain ⟨i0, hi, hz0, hz1, hz2⟩ := info_parts Tryz.infoTx
  have := run_make (P := Tryz.prog) w 36 63 i0 _ Tryz.underlying36 hi hz0 .i64 .i64 0 n (by omega) (by omega) (by rw [hz2]; omega) (by omega)
  rw [hz1] at this
  exact this
set_option maxRecDepth 100000 in
set_option maxHeartbeats 1000000 in
theorem rwX_copied (id : Int) (fr : Int) (te : Int) (kd : Int) (ps : List (Int × Int)) (b cap : Nat) (w : World) (hm : ps.length ≤ 1099511627776) (hbs : b < w.heap.size) (h : Pts w (some ⟨b, 0, none⟩) ps) : Calls Tryz.prog 115 #[.agg #[.int .i64 id, .int .i64 fr, .int .i64 te, .int .i64 kd, .slice (some ⟨b, 0, none⟩) ps.length cap]] w fun e w' => ∃ sv lo up, e = .returned (.agg #[.int .i64 id, .int .i64 fr, .int .i64 te, .int .i64 kd, sv]) ∧ KR.sub lo up w' sv (id, fr, te, kd, ps) ∧ w.heap.size ≤ lo ∧ Below w.heap.size w w' := by
  have hB : Below w.heap.size w ((w.alloc (.cells #[.int .i64 id, .int .i64 fr, .int .i64 te, .int .i64 kd, .slice (some ⟨b, 0, none⟩) ps.length cap] 126)).alloc (.cells #[.int .i64 0, .int .i64 0, .int .i64 0, .int .i64 0, .slice none 0 0] 126)) := balloc (balloc (Below.refl _ _) _) _
  have HC := hid (impl_copyG kd b 0 cap ps _ hm (h.below hB) (Nat.lt_of_lt_of_le hbs hB.size))
  clear h
  have g0 := old_alloc (o' := .cells #[.int .i64 0, .int .i64 0, .int .i64 0, .int .i64 0, .slice none 0 0] 126) (new_alloc w w.heap.size (.cells #[.int .i64 id, .int .i64 fr, .int .i64 te, .int .i64 kd, .slice (some ⟨b, 0, none⟩) ps.length cap] 126) rfl)
  have g1 := new_alloc (w.alloc (.cells #[.int .i64 id, .int .i64 fr, .int .i64 te, .int .i64 kd, .slice (some ⟨b, 0, none⟩) ps.length cap] 126)) (w.heap.size + 1) (.cells #[.int .i64 0, .int .i64 0, .int .i64 0, .int .i64 0, .slice none 0 0] 126) (by simp)
  go_enter Tryz.func115, Tryz.ntmps115
  go_upto_region 1 with fail
  have hWz : ((w.alloc (.cells #[.int .i64 id, .int .i64 fr, .int .i64 te, .int .i64 kd, .slice (some ⟨b, 0, none⟩) ps.length cap] 126)).alloc (.cells #[.int .i64 0, .int .i64 0, .int .i64 0, .int .i64 0, .slice none 0 0] 126)).heap.size = w.heap.size + 2 := by simp
  generalize (w.alloc (.cells #[.int .i64 id, .int .i64 fr, .int .i64 te, .int .i64 kd, .slice (some ⟨b, 0, none⟩) ps.length cap] 126)).alloc (.cells #[.int .i64 0, .int .i64 0, .int .i64 0, .int .i64 0, .slice none 0 0] 126) = W at *
  obtain ⟨⟨x0, x1, x2, x3, x4⟩, _⟩ := cell5g g0
  go_wp2_with fail
  refine HC.out.mono ?_
  rintro e y ⟨g, cp, rfl, hcp, hgs, ho, hy⟩
  obtain ⟨sv, hsv⟩ : ∃ sv, sv = Value.slice (some ⟨g, 0, none⟩) ps.length cp := ⟨_, rfl⟩
  rw [← hsv]
  have hWs := lt_of_block g1
  replace g0 := keepheap2 hy g0
  replace g1 := keepheap2 hy g1
  have HB := hid (btrans hB hy)
  have hyz := hy.size
  have HO := hid ho
  clear hB hy ho HC x0 x1 x2 x3 x4
  obtain ⟨⟨x0, x1, x2, x3, x4⟩, y0, y1, y2, y3, y4⟩ := cell5g g0
  obtain ⟨⟨v0, v1, v2, v3, v4⟩, u0, u1, u2, u3, u4⟩ := cell5g g1
  rw [hsv]
  go_wp2_with fail
  rw [← hsv]
  have gF := set5 (set_far (q := w.heap.size) (k := 4) (u := sv) (set_far (q := w.heap.size) (k := 3) (u := .int .i64 kd) g1 (by omega)) (by omega)) (.int .i64 id) (.int .i64 fr) (.int .i64 te) (.int .i64 kd) (sv)
  have bF := (bset (bset (bset (bset (bset (bset (bset HB.out (q := w.heap.size) (k := 3) (Nat.le_refl _) (.int .i64 kd)) (q := w.heap.size) (k := 4) (Nat.le_refl _) (sv)) (q := w.heap.size + 1) (k := 0) (by omega) (.int .i64 id)) (q := w.heap.size + 1) (k := 1) (by omega) (.int .i64 fr)) (q := w.heap.size + 1) (k := 2) (by omega) (.int .i64 te)) (q := w.heap.size + 1) (k := 3) (by omega) (.int .i64 kd)) (q := w.heap.size + 1) (k := 4) (by omega) (sv))
  have oF := own_blk (w' := (((((((y.setCell ⟨w.heap.size, 3, none⟩ (.int .i64 kd)).setCell ⟨w.heap.size, 4, none⟩ (sv)).setCell ⟨w.heap.size + 1, 0, none⟩ (.int .i64 id)).setCell ⟨w.heap.size + 1, 1, none⟩ (.int .i64 fr)).setCell ⟨w.heap.size + 1, 2, none⟩ (.int .i64 te)).setCell ⟨w.heap.size + 1, 3, none⟩ (.int .i64 kd)).setCell ⟨w.heap.size + 1, 4, none⟩ (sv))) HO.out (by rw [Below.heap_setCell _ _ _ _ (by dsimp only; omega), Below.heap_setCell _ _ _ _ (by dsimp only; omega), Below.heap_setCell _ _ _ _ (by dsimp only; omega), Below.heap_setCell _ _ _ _ (by dsimp only; omega), Below.heap_setCell _ _ _ _ (by dsimp only; omega), Below.heap_setCell _ _ _ _ (by dsimp only; omega), Below.heap_setCell _ _ _ _ (by dsimp only; omega)]) (by simp only [World.size_setCell]; exact HO.out.1)
  have hwz : (((((((y.setCell ⟨w.heap.size, 3, none⟩ (.int .i64 kd)).setCell ⟨w.heap.size, 4, none⟩ (sv)).setCell ⟨w.heap.size + 1, 0, none⟩ (.int .i64 id)).setCell ⟨w.heap.size + 1, 1, none⟩ (.int .i64 fr)).setCell ⟨w.heap.size + 1, 2, none⟩ (.int .i64 te)).setCell ⟨w.heap.size + 1, 3, none⟩ (.int .i64 kd)).setCell ⟨w.heap.size + 1, 4, none⟩ (sv)).heap.size = y.heap.size := by simp only [World.size_setCell]
  generalize (((((((y.setCell ⟨w.heap.size, 3, none⟩ (.int .i64 kd)).setCell ⟨w.heap.size, 4, none⟩ (sv)).setCell ⟨w.heap.size + 1, 0, none⟩ (.int .i64 id)).setCell ⟨w.heap.size + 1, 1, none⟩ (.int .i64 fr)).setCell ⟨w.heap.size + 1, 2, none⟩ (.int .i64 te)).setCell ⟨w.heap.size + 1, 3, none⟩ (.int .i64 kd)).setCell ⟨w.heap.size + 1, 4, none⟩ (sv)) = wf at *
  obtain ⟨⟨z0, z1, z2, z3, z4⟩, _⟩ := cell5g gF
  exact bodyPost_ret (v := .agg #[.int .i64 id, .int .i64 fr, .int .i64 te, .int .i64 kd, sv]) (by simp [results, Tryz.results115, go_sem, z0, z1, z2, z3, z4]) rfl ⟨sv, g, g + 1, rfl, ⟨by have := HO.out.1; omega, g, cp, hsv, hcp, hm, Nat.le_refl _, by omega, oF⟩, by omega, bF⟩
set_option maxRecDepth 100000 in
set_option maxHeartbeats 1000000 in
theorem rwX_clo (id : Int) (fr : Int) (te : Int) (kd : Int) (ps : List (Int × Int)) (b cap : Nat) (w : World) (hm : ps.length ≤ 1099511627776) (hbs : b < w.heap.size) (h : Pts w (some ⟨b, 0, none⟩) ps) : Calls Tryz.prog 114 #[.agg #[.int .i64 id, .int .i64 fr, .int .i64 te, .int .i64 kd, .slice (some ⟨b, 0, none⟩) ps.length cap]] w fun e w' => ∃ sv lo up, e = .returned (.tuple #[.agg #[.int .i64 id, .int .i64 fr, .int .i64 te, .int .i64 kd, sv], .bool true]) ∧ KR.sub lo up w' sv (id, fr, te, kd, ps) ∧ w.heap.size ≤ lo ∧ Below w.heap.size w w' := by
  have hB : Below w.heap.size w ((w.alloc (.cells #[.int .i64 id, .int .i64 fr, .int .i64 te, .int .i64 kd, .slice (some ⟨b, 0, none⟩) ps.length cap] 126)).alloc (.cells #[.int .i64 0, .int .i64 0, .int .i64 0, .int .i64 0, .slice none 0 0] 126)) := balloc (balloc (Below.refl _ _) _) _
  have HC := hid (rwX_copied id fr te kd ps b cap _ hm (Nat.lt_of_lt_of_le hbs hB.size) (h.below hB))
  clear h
  have g0 := old_alloc (o' := .cells #[.int .i64 0, .int .i64 0, .int .i64 0, .int .i64 0, .slice none 0 0] 126) (new_alloc w w.heap.size (.cells #[.int .i64 id, .int .i64 fr, .int .i64 te, .int .i64 kd, .slice (some ⟨b, 0, none⟩) ps.length cap] 126) rfl)
  have g1 := new_alloc (w.alloc (.cells #[.int .i64 id, .int .i64 fr, .int .i64 te, .int .i64 kd, .slice (some ⟨b, 0, none⟩) ps.length cap] 126)) (w.heap.size + 1) (.cells #[.int .i64 0, .int .i64 0, .int .i64 0, .int .i64 0, .slice none 0 0] 126) (by simp)
  go_enter Tryz.func114, Tryz.ntmps114
  go_upto_region 1 with fail
  have hWz : ((w.alloc (.cells #[.int .i64 id, .int .i64 fr, .int .i64 te, .int .i64 kd, .slice (some ⟨b, 0, none⟩) ps.length cap] 126)).alloc (.cells #[.int .i64 0, .int .i64 0, .int .i64 0, .int .i64 0, .slice none 0 0] 126)).heap.size = w.heap.size + 2 := by simp
  generalize (w.alloc (.cells #[.int .i64 id, .int .i64 fr, .int .i64 te, .int .i64 kd, .slice (some ⟨b, 0, none⟩) ps.length cap] 126)).alloc (.cells #[.int .i64 0, .int .i64 0, .int .i64 0, .int .i64 0, .slice none 0 0] 126) = W at *
  obtain ⟨⟨x0, x1, x2, x3, x4⟩, _⟩ := cell5g g0
  go_wp2_with fail
  refine HC.out.mono ?_
  rintro e y ⟨sv, lo, up, rfl, hsub, hlo, hy⟩
  have hyz := hy.size
  replace g1 := keepheap2 hy g1
  have HB := hid (btrans hB hy)
  have HO := hid hsub
  have hone := KR.one hsub sv (by simp [KR])
  clear hB hy hsub HC g0 x0 x1 x2 x3 x4
  obtain ⟨⟨v0, v1, v2, v3, v4⟩, u0, u1, u2, u3, u4⟩ := cell5g g1
  obtain ⟨sa, sn, sc, hsv⟩ : ∃ a n c, sv = .slice a n c := by obtain ⟨_, c, cp, e, _⟩ := HO.out; exact ⟨_, _, _, e⟩
  have HSV := hid hsv.symm
  subst hsv
  go_wp2_with fail
  have gF := set5 g1 (.int .i64 id) (.int .i64 fr) (.int .i64 te) (.int .i64 kd) (.slice sa sn sc)
  have bF := (bset (bset (bset (bset (bset HB.out (q := w.heap.size + 1) (k := 0) (by omega) (.int .i64 id)) (q := w.heap.size + 1) (k := 1) (by omega) (.int .i64 fr)) (q := w.heap.size + 1) (k := 2) (by omega) (.int .i64 te)) (q := w.heap.size + 1) (k := 3) (by omega) (.int .i64 kd)) (q := w.heap.size + 1) (k := 4) (by omega) (.slice sa sn sc))
  have oF := KR.frame (w' := (((((y.setCell ⟨w.heap.size + 1, 0, none⟩ (.int .i64 id)).setCell ⟨w.heap.size + 1, 1, none⟩ (.int .i64 fr)).setCell ⟨w.heap.size + 1, 2, none⟩ (.int .i64 te)).setCell ⟨w.heap.size + 1, 3, none⟩ (.int .i64 kd)).setCell ⟨w.heap.size + 1, 4, none⟩ (.slice sa sn sc))) HO.out (fun c c1 c2 => by rw [Below.heap_setCell _ _ _ _ (by dsimp only; omega), Below.heap_setCell _ _ _ _ (by dsimp only; omega), Below.heap_setCell _ _ _ _ (by dsimp only; omega), Below.heap_setCell _ _ _ _ (by dsimp only; omega), Below.heap_setCell _ _ _ _ (by dsimp only; omega)]) (by simp only [World.size_setCell]; omega)
  generalize (((((y.setCell ⟨w.heap.size + 1, 0, none⟩ (.int .i64 id)).setCell ⟨w.heap.size + 1, 1, none⟩ (.int .i64 fr)).setCell ⟨w.heap.size + 1, 2, none⟩ (.int .i64 te)).setCell ⟨w.heap.size + 1, 3, none⟩ (.int .i64 kd)).setCell ⟨w.heap.size + 1, 4, none⟩ (.slice sa sn sc)) = wf at *
  obtain ⟨⟨z0, z1, z2, z3, z4⟩, _⟩ := cell5g gF
  exact bodyPost_ret (v := .tuple #[.agg #[.int .i64 id, .int .i64 fr, .int .i64 te, .int .i64 kd, .slice sa sn sc], .bool true]) (by simp [results, Tryz.results114, go_sem, z0, z1, z2, z3, z4]) rfl ⟨_, lo, up, rfl, oF, by omega, bF⟩
theorem make_rwX0 (n : Nat) (hn : n ≤ 1099511627776) (w : World) : (Instr.makeSlice 33 (.int .i64 0) (.int .i64 n)).run Tryz.prog w = .ok (.slice (some ⟨w.heap.size, 0, none⟩) 0 n) (w.alloc (.cells (madeCells #[.int .i64 0, .int .i64 0, .int .i64 0, .int .i64 0, .slice none 0 0] (n * 5)) 126)) := by
  obtain ⟨i0, hi, hz0, hz1, hz2⟩ := info_parts Tryz.infoRow
  have := run_make (P := Tryz.prog) w 33 126 i0 _ Tryz.underlying33 hi hz0 .i64 .i64 0 n (by omega) (by omega) (by rw [hz2]; omega) (by omega)
  rw [hz1] at this
  exact this
set_option maxRecDepth 100000 in
set_option maxHeartbeats 2000000 in
theorem kept_rw (B cap : Nat) (xs : List Rw) (w : World) (hm : xs.length ≤ 1099511627776) (h : RwsZ w B xs) : Calls Tryz.prog 113 #[.slice (some ⟨B, 0, none⟩) xs.length cap, .func (.func 114) #[] #[]] w fun e w' => ∃ v ps, e = .returned v ∧ LX KR 126 w.heap.size w'.heap.size w' v xs ps ∧ (∃ g c, v = .slice (some ⟨g, 0, none⟩) xs.length c) ∧ Below w.heap.size w w' := by
  obtain ⟨i0, hi0, hz0, hz1, hz2⟩ := info_parts Tryz.infoRow
  have HR := hid h
  clear h
  have hmk := make_rwX0 xs.length hm
  obtain ⟨n, hn⟩ : ∃ n, n = xs.length := ⟨_, rfl⟩
  have HN := hid hn.symm
  rw [← hn] at hm hmk ⊢
  clear hn
  have hB0 : Below w.heap.size w (w.alloc (.cells (madeCells #[.int .i64 0, .int .i64 0, .int .i64 0, .int .i64 0, .slice none 0 0] (n * 5)) 126)) := balloc (Below.refl _ _) _
  have HI : Hid (LX KR 126 w.heap.size (w.alloc (.cells (madeCells #[.int .i64 0, .int .i64 0, .int .i64 0, .int .i64 0, .slice none 0 0] (n * 5)) 126)).heap.size (w.alloc (.cells (madeCells #[.int .i64 0, .int .i64 0, .int .i64 0, .int .i64 0, .slice none 0 0] (n * 5)) 126)) (.slice (some ⟨w.heap.size, 0, none⟩) 0 n) [] []) := hid (by
    have := World.ownsRow_made (base := w.heap.size) (e := 126) (size := 5) w (madeCells #[.int .i64 0, .int .i64 0, .int .i64 0, .int .i64 0, .slice none 0 0] (n * 5)) n (Nat.le_refl _) (by unfold maxLen; omega) (size_madeCells _ _)
    exact LX.nil this (fun g e => by simp [Value.ownBlock] at e; subst e; simp) (Nat.le_refl _))
  go_enter Tryz.func113, Tryz.ntmps113
  go_upto_region 2 with fail
  generalize w.alloc (.cells (madeCells #[.int .i64 0, .int .i64 0, .int .i64 0, .int .i64 0, .slice none 0 0] (n * 5)) 126) = W0 at *
  clear hmk
  go_wp2_with fail
  go_loopw [5, 15] (fun tv ti wr => ∃ i : Nat, ∃ g5 c5 : Nat, ∃ ps' : List (Rw × Value), ti = .int .i64 i ∧ i ≤ n ∧ tv = .slice (some ⟨g5, 0, none⟩) i c5 ∧ Hid (LX KR 126 w.heap.size wr.heap.size wr (.slice (some ⟨g5, 0, none⟩) i c5) (xs.take i) ps') ∧ Hid (Below w.heap.size w wr)) (fun _ ti _ => n - (intOf ti).toNat)
  case atStart => exact ⟨0, w.heap.size, n, [], rfl, Nat.zero_le _, rfl, HI, hid hB0⟩
  case round =>
    clear HI hB0
    obtain ⟨i, g5, c5, ps', rfl, hi, rfl, HV, HBW⟩ := hrel
    have hwX := HBW.out.size
    by_cases hlt : i < n
    · have d1 : (i : Int) < (n : Int) := by omega
      have hir : i < xs.length := by rw [HN.out]; exact hlt
      obtain ⟨ci, cpi, k9, ⟨k0, k1, k2, k3, k4⟩, k6, k7⟩ := (HR.out.below HBW.out).2 i hir
      have HX : Hid (xs.take (i + 1) = xs.take i ++ [xs[i]]) := hid (by rw [List.take_add_one, List.getElem?_eq_getElem hir]; rfl)
      have hil : (xs.take i).length = i := by rw [List.length_take]; omega
      obtain ⟨r, hr⟩ : ∃ r, r = xs[i] := ⟨_, rfl⟩
      rw [← hr] at k0 k1 k2 k3 k4 k6 k7 HX
      clear hr
      obtain ⟨id, fr, te, kd, ps⟩ := r
      simp only at k0 k1 k2 k3 k4 k6 k7
      have hbx : Below wr.heap.size wr (wr.alloc (.cells #[.int .i64 id, .int .i64 fr, .int .i64 te, .int .i64 kd, .slice (some ⟨ci, 0, none⟩) ps.length cpi] 126)) := balloc (Below.refl _ _) _
      have HT1 := hid (rwX_clo id fr te kd ps ci cpi _ k6 (Nat.lt_of_lt_of_le k9 hbx.size) (k7.below hbx))
      clear k7
      go_upto_region 5 with fail
      have gx := new_alloc wr wr.heap.size (.cells #[.int .i64 id, .int .i64 fr, .int .i64 te, .int .i64 kd, .slice (some ⟨ci, 0, none⟩) ps.length cpi] 126) rfl
      have HI1 := hid (HV.out.below hbx)
      have HB1 := hid (btrans HBW.out hbx)
      have hs1 := hbx.size
      have hs2 : wr.heap.size < (wr.alloc (.cells #[.int .i64 id, .int .i64 fr, .int .i64 te, .int .i64 kd, .slice (some ⟨ci, 0, none⟩) ps.length cpi] 126)).heap.size := by simp
      clear k0 k1 k2 k3 k4 hbx HV
      generalize wr.alloc (.cells #[.int .i64 id, .int .i64 fr, .int .i64 te, .int .i64 kd, .slice (some ⟨ci, 0, none⟩) ps.length cpi] 126) = W1 at *
      generalize wr.heap.size = Xh at *
      obtain ⟨⟨x0, x1, x2, x3, x4⟩, _⟩ := cell5g gx
      clear gx
      go_wp2_with fail
      refine HT1.out.mono ?_
      rintro e z ⟨sv, lo, up, rfl, hsub, hlo, hz⟩
      have HBz := hid (btrans HB1.out hz)
      have HIz := hid (HI1.out.below hz)
      have HO := hid hsub
      have hzs := hz.size
      have hwz := HBz.out.size
      obtain ⟨sa, sn, sc, hsv⟩ : ∃ a n c, sv = .slice a n c := by obtain ⟨_, c, cp, e, _⟩ := HO.out; exact ⟨_, _, _, e⟩
      clear hz hsub x0 x1 x2 x3 x4 HT1 HI1 HB1
      subst hsv
      go_upto_region 7 with fail
      have hal : Below z.heap.size z (z.alloc (.cells #[.int .i64 id, .int .i64 fr, .int .i64 te, .int .i64 kd, .slice sa sn sc] 126)) := balloc (Below.refl _ _) _
      have gy := new_alloc z z.heap.size (.cells #[.int .i64 id, .int .i64 fr, .int .i64 te, .int .i64 kd, .slice sa sn sc] 126) rfl
      have HIa := hid (HIz.out.below hal)
      have HBa := hid (btrans HBz.out hal)
      have HOa := hid (KR.frame HO.out (fun c _ h2 => hal.block c (by have := KR.top HO.out; omega)) hal.size)
      have has : z.heap.size < (z.alloc (.cells #[.int .i64 id, .int .i64 fr, .int .i64 te, .int .i64 kd, .slice sa sn sc] 126)).heap.size := by simp
      clear hal HO HIz HBz
      generalize z.alloc (.cells #[.int .i64 id, .int .i64 fr, .int .i64 te, .int .i64 kd, .slice sa sn sc] 126) = Z at *
      obtain ⟨⟨x0, x1, x2, x3, x4⟩, _⟩ := cell5g gy
      clear gy
      have hownZ : Z.ownsRow w.heap.size 126 5 (.slice (some ⟨g5, 0, none⟩) i c5) i (flatK KR ps') := by have := HIa.out.2.1; rw [hil] at this; exact this
      go_wp2_with (at_builtin; (refine wpList_append_lies _ rfl (.tmp 26) (.tmp 28) 33 rfl w.heap.size 126 i0 _ 5 56 Tryz.underlying33 hi0 hz0 hz1 hz2 rfl (by decide) (.slice (some ⟨g5, 0, none⟩) i c5) i (flatK KR ps') rfl (hownZ.alloc _) ⟨Z.heap.size, 0, none⟩ 1 1 [.int .i64 id, .int .i64 fr, .int .i64 te, .int .i64 kd, .slice sa sn sc] rfl rfl (World.news_of_block (cs := #[.int .i64 id, .int .i64 fr, .int .i64 te, .int .i64 kd, .slice sa sn sc]) (t := 126) (fr := (0, 0)) (heap_alloc_new Z _)) (by simp [Value.oneCell']) (by omega) (by unfold maxLen; omega) (by omega) (by simp; omega) (Z.heap.size + 1) (by simp) ?_; intro gg cq w2 hown2 hgrow hat hlt2))
      have hal2 : Below Z.heap.size Z (Z.alloc (.cells #[.int .i64 id, .int .i64 fr, .int .i64 te, .int .i64 kd, .slice sa sn sc] 126)) := balloc (Below.refl _ _) _
      have hsn := LX.snoc (x := (id, fr, te, kd, ps)) (sv := .slice sa sn sc) (l := lo) (u := up) (g := gg) (cap := cq) (HIa.out.below hal2) (by omega) (by omega) (KR.frame HOa.out (fun c _ h2 => hal2.block c (by have := KR.top HOa.out; omega)) hal2.size) (by rw [hil]; exact hown2) hgrow (by simpa using hat) hlt2
      rw [hil] at hsn
      have hb2 : Below w.heap.size w w2 := Below.grown (balloc HBa.out _) hgrow (by simp; omega) (fun k e => (hownZ.lt k e).1)
      have HSN2 : Hid (LX KR 126 w.heap.size w2.heap.size w2 (.slice (some ⟨gg, 0, none⟩) (i + 1) cq) (xs.take (i + 1)) (ps' ++ [((id, fr, te, kd, ps), .slice sa sn sc)])) := hid (by rw [HX.out]; exact hsn)
      have HB2 := hid hb2
      clear hsn hb2 hown2 hgrow hal2 hownZ x0 x1 x2 x3 x4
      go_roundw
      case rel => exact ⟨i + 1, gg, cq, _, by go_num, by omega, rfl, HSN2, HB2⟩
      case measure => simp [intOf]; omega
    · have d1 : (n : Int) ≤ (i : Int) := by omega
      have hin : i = n := by omega
      subst hin
      have HF : Hid (LX KR 126 w.heap.size wr.heap.size wr (.slice (some ⟨g5, 0, none⟩) i c5) xs ps') := hid (by have := HV.out; rw [← HN.out, List.take_length] at this; rw [← HN.out]; exact this)
      clear HV
      go_wp2_with fail
      go_ret
      exact ⟨_, ps', rfl, HF.out, ⟨g5, c5, rfl⟩, HBW.out⟩
end Go.Proofs.YtnajddjalagmoaaGreatDoor
namespace Go.Proofs.YtnajddjalagmoaaGreatDoor
open Go.RowKit
set_option linter.unusedSimpArgs false
set_option linter.unusedVariables false
/-- Rows as the law hands them in: each list of points has an address. -/
def RwsS (w : World) (B : Nat) (rs : List Rw) : Prop := B < w.heap.size ∧ ∀ j (h : j < rs.length), ∃ c cp, c < w.heap.size ∧ w.cell? ⟨B, j * 5, none⟩ = some (.int .i64 rs[j].1) ∧ w.cell? ⟨B, j * 5 + 1, none⟩ = some (.int .i64 rs[j].2.1) ∧ w.cell? ⟨B, j * 5 + 2, none⟩ = some (.int .i64 rs[j].2.2.1) ∧ w.cell? ⟨B, j * 5 + 3, none⟩ = some (.int .i64 rs[j].2.2.2.1) ∧ w.cell? ⟨B, j * 5 + 4, none⟩ = some (.slice (some ⟨c, 0, none⟩) rs[j].2.2.2.2.length cp) ∧ rs[j].2.2.2.2.length ≤ 1099511627776 ∧ Pts w (some ⟨c, 0, none⟩) rs[j].2.2.2.2
theorem rwsS_of {N : Nat → Prop} {hi : Nat} {w : World} {B : Nat} {rs : List Rw} (hB : B < w.heap.size) (h : RwsAt N w B 0 rs) (ho : RwsO hi w B rs) (hh : hi ≤ w.heap.size) : RwsS w B rs := by
  refine ⟨hB, fun j hj => ?_⟩
  obtain ⟨a, cap, h0, h1, h2, h3, h4, h5, h6, h7, h8⟩ := h j hj
  obtain ⟨c, q0, q1, q2, q3⟩ := ho j hj
  simp only [Nat.zero_add] at h0 h1 h2 h3 h4
  rw [h4] at q0
  cases q0
  exact ⟨c, _, by omega, h0, h1, h2, h3, h4, h6, h7⟩
theorem RwsS.below {w w' : World} {B : Nat} {rs : List Rw} (h : RwsS w B rs) (H : Below w.heap.size w w') : RwsS w' B rs := by
  refine ⟨Nat.lt_of_lt_of_le h.1 H.size, fun j hj => ?_⟩
  obtain ⟨c, cp, a0, a1, a2, a3, a4, a5, a6, a7⟩ := h.2 j hj
  exact ⟨c, cp, Nat.lt_of_lt_of_le a0 H.size, keepcell H a1, keepcell H a2, keepcell H a3, keepcell H a4, keepcell H a5, a6, a7.below H⟩
theorem kept_form {base hi : Nat} {w : World} {v : Value} {rs : List Rw} {xs : List El} (h : RowsX base hi w v rs xs) : ∃ a cap, v = .slice a rs.length cap := by
  rcases h.rows with ⟨rfl, _, e⟩ | ⟨g, cap, e, _⟩
  · exact ⟨none, 0, e⟩
  · exact ⟨_, cap, e⟩
/-- Rows that a call answers, in memory of its own. -/
def VR (w : World) (now : Int) (rs : List Rw) (e : Ending) (w' : World) : Prop :=
  ∃ a cap xs, e = .returned (.agg #[.int .i64 now, .slice a rs.length cap]) ∧ RowsX w.heap.size w'.heap.size w' (.slice a rs.length cap) rs xs ∧ Below w.heap.size w w'
end Go.Proofs.YtnajddjalagmoaaGreatDoor
namespace Go.Proofs.YtnajddjalagmoaaGreatDoor
open Go.RowKit
set_option linter.unusedSimpArgs false
set_option linter.unusedVariables false
theorem RwsS.z {w : World} {B : Nat} {rs : List Rw} (h : RwsS w B rs) : RwsZ w B rs := by
  refine ⟨h.1, fun j hj => ?_⟩
  obtain ⟨c, cp, a0, a1, a2, a3, a4, a5, a6, a7⟩ := h.2 j hj
  exact ⟨c, cp, a0, ⟨a1, a2, a3, a4, a5⟩, a6, a7⟩
theorem RwsZ.s {w : World} {B : Nat} {rs : List Rw} (h : RwsZ w B rs) : RwsS w B rs := by
  refine ⟨h.1, fun j hj => ?_⟩
  obtain ⟨c, cp, a0, ⟨a1, a2, a3, a4, a5⟩, a6, a7⟩ := h.2 j hj
  exact ⟨c, cp, a0, a1, a2, a3, a4, a5, a6, a7⟩
set_option maxRecDepth 100000 in
set_option maxHeartbeats 1000000 in
theorem rowsZ_copied (now : Int) (B cap : Nat) (rs : List Rw) (w : World) (hm : rs.length ≤ 1099511627776) (h : RwsZ w B rs) : Calls Tryz.prog 87 #[.agg #[.int .i64 now, .slice (some ⟨B, 0, none⟩) rs.length cap]] w fun e w' => ∃ g c ps, e = .returned (.agg #[.int .i64 now, .slice (some ⟨g, 0, none⟩) rs.length c]) ∧ LX KR 126 w.heap.size w'.heap.size w' (.slice (some ⟨g, 0, none⟩) rs.length c) rs ps ∧ Below w.heap.size w w' := by
  have HK := hid (fun (W : World) (hb : Below w.heap.size w W) => kept_rw B cap rs W hm (h.below hb))
  clear h
  generalize hn : rs.length = n at *
  have HN := hid hn
  clear hn
  have hB : Below w.heap.size w ((w.alloc (.cells #[.int .i64 now, .slice (some ⟨B, 0, none⟩) n cap] 35)).alloc (.cells #[.int .i64 0, .slice none 0 0] 35)) := balloc (balloc (Below.refl _ _) _) _
  have g0 := old_alloc (o' := .cells #[.int .i64 0, .slice none 0 0] 35) (new_alloc w w.heap.size (.cells #[.int .i64 now, .slice (some ⟨B, 0, none⟩) n cap] 35) rfl)
  have g1 := new_alloc (w.alloc (.cells #[.int .i64 now, .slice (some ⟨B, 0, none⟩) n cap] 35)) (w.heap.size + 1) (.cells #[.int .i64 0, .slice none 0 0] 35) (by simp)
  go_enter Tryz.func87, Tryz.ntmps87
  go_upto_region 1 with fail
  generalize (w.alloc (.cells #[.int .i64 now, .slice (some ⟨B, 0, none⟩) n cap] 35)).alloc (.cells #[.int .i64 0, .slice none 0 0] 35) = W at *
  obtain ⟨d0, d1, _, _⟩ := cell2f g0
  have hWs := lt_of_block g1
  go_wp2_with fail
  refine (HK.out _ hB).mono ?_
  rintro e y ⟨v, xs, rfl, hX, ⟨a, c, rfl⟩, hy⟩
  replace g0 := keepheap2 hy g0
  replace g1 := keepheap2 hy g1
  have HB := hid (btrans hB hy)
  have HX := hid hX
  have hyz := hy.size
  clear hB hy hX HK d0 d1
  obtain ⟨d0, d1, f0, f1⟩ := cell2f g0
  obtain ⟨v0, v1, u0, u1⟩ := cell2f g1
  go_wp2_with fail
  have gF := set2r (set_far (q := w.heap.size) (k := 1) (u := .slice (some ⟨a, 0, none⟩) n c) g1 (by omega)) (.int .i64 now) (.slice (some ⟨a, 0, none⟩) n c)
  have bF := bset (bset (bset HB.out (q := w.heap.size) (k := 1) (Nat.le_refl _) (.slice (some ⟨a, 0, none⟩) n c)) (q := w.heap.size + 1) (k := 0) (by omega) (.int .i64 now)) (q := w.heap.size + 1) (k := 1) (by omega) (.slice (some ⟨a, 0, none⟩) n c)
  have xF := (HX.out.frame (w' := ((y.setCell ⟨w.heap.size, 1, none⟩ (.slice (some ⟨a, 0, none⟩) n c)).setCell ⟨w.heap.size + 1, 0, none⟩ (.int .i64 now)).setCell ⟨w.heap.size + 1, 1, none⟩ (.slice (some ⟨a, 0, none⟩) n c)) (fun b h1 h2 => by rw [Below.heap_setCell _ _ _ _ (by dsimp only; omega), Below.heap_setCell _ _ _ _ (by dsimp only; omega), Below.heap_setCell _ _ _ _ (by dsimp only; omega)]) (by simp)).mono (base' := w.heap.size) (hi' := (((y.setCell ⟨w.heap.size, 1, none⟩ (.slice (some ⟨a, 0, none⟩) n c)).setCell ⟨w.heap.size + 1, 0, none⟩ (.int .i64 now)).setCell ⟨w.heap.size + 1, 1, none⟩ (.slice (some ⟨a, 0, none⟩) n c)).heap.size) (by omega) (by simp) (Nat.le_refl _)
  generalize ((y.setCell ⟨w.heap.size, 1, none⟩ (.slice (some ⟨a, 0, none⟩) n c)).setCell ⟨w.heap.size + 1, 0, none⟩ (.int .i64 now)).setCell ⟨w.heap.size + 1, 1, none⟩ (.slice (some ⟨a, 0, none⟩) n c) = wf at *
  obtain ⟨z0, z1, _, _⟩ := cell2f gF
  exact bodyPost_ret (v := .agg #[.int .i64 now, .slice (some ⟨a, 0, none⟩) n c]) (by simp [results, Tryz.results87, go_sem, z0, z1]) rfl ⟨a, c, xs, rfl, xF, bF⟩
theorem LC.rwsZ {base hi : Nat} {w : World} {g cap : Nat} {xs : List Rw} (h : LC KR base hi w (.slice (some ⟨g, 0, none⟩) xs.length cap) xs) : RwsZ w g xs := by
  obtain ⟨h0, h⟩ := h
  rcases h with ⟨_, e⟩ | ⟨g', cp, ss, lo, up, e, h1, h2, h3, h4, h5, h6⟩
  · cases e
  · cases e
    refine ⟨by omega, fun j hj => ?_⟩
    obtain ⟨⟨b1, _, c, cq, e, b2, b3, b4, b5, b6⟩, a2, a3, a4⟩ := h5 j hj
    have k0 := b1 0 (by decide)
    have k1 := b1 1 (by decide)
    have k2 := b1 2 (by decide)
    have k3 := b1 3 (by decide)
    have k4 := b1 4 (by decide)
    simp only [KR, e] at k0 k1 k2 k3 k4
    exact ⟨c, cq, b6.1, ⟨k0, k1, k2, k3, k4⟩, b3, b6.pts⟩
/-- A store in memory of its own: the rows from b1 on below u1, the transactions from b2 on below u2. -/
def StX (b1 u1 b2 u2 : Nat) (w : World) (a ta : Option Addr) (cap tcap : Nat) (rs : List Rw) (ts : List Tx) : Prop := LC KR b1 u1 w (.slice a rs.length cap) rs ∧ LC KT b2 u2 w (.slice ta ts.length tcap) ts
theorem StX.below {b1 u1 b2 u2 : Nat} {w w' : World} {a ta : Option Addr} {cap tcap : Nat} {rs : List Rw} {ts : List Tx} (h : StX b1 u1 b2 u2 w a ta cap tcap rs ts) (H : Below w.heap.size w w') : StX b1 u1 b2 u2 w' a ta cap tcap rs ts := ⟨h.1.below H, h.2.below H⟩
end Go.Proofs.YtnajddjalagmoaaGreatDoor
namespace Go.Proofs.YtnajddjalagmoaaGreatDoor
open Go.RowKit
set_option linter.unusedSimpArgs false
set_option linter.unusedVariables false
theorem LC.cells3 {base hi g cap i : Nat} {w : World} {ts : List Tx} (h : LC KT base hi w (.slice (some ⟨g, 0, none⟩) ts.length cap) ts) (hi' : i < ts.length) : (∃ u0 u1 u2, w.cell? ⟨g, i * 3, none⟩ = some u0 ∧ w.cell? ⟨g, i * 3 + 1, none⟩ = some u1 ∧ w.cell? ⟨g, i * 3 + 2, none⟩ = some u2) ∧ w.frozen? ⟨g, i * 3, none⟩ = false ∧ w.frozen? ⟨g, i * 3 + 1, none⟩ = false ∧ w.frozen? ⟨g, i * 3 + 2, none⟩ = false ∧ base ≤ g ∧ g < hi := by
  obtain ⟨h0, ⟨_, h⟩ | ⟨g2, cap2, ss, lo, up, h1, h2, h3, h4, h5, h6, h7⟩⟩ := h
  · cases h
  · cases h1
    have ht : ∀ k, k < ts.length * 3 → ∃ u, w.cell? ⟨g, k, none⟩ = some u := fun k hk => by
      obtain ⟨c0, _⟩ := h5 k hk
      obtain ⟨u0, hu0⟩ := Option.isSome_iff_exists.1 c0
      exact ⟨u0, by simpa using hu0⟩
    have hf : ∀ k, k < ts.length * 3 → w.frozen? ⟨g, k, none⟩ = false := fun k hk => by simpa using (h5 k hk).2
    obtain ⟨u0, q0⟩ := ht (i * 3) (by omega)
    obtain ⟨u1, q1⟩ := ht (i * 3 + 1) (by omega)
    obtain ⟨u2, q2⟩ := ht (i * 3 + 2) (by omega)
    exact ⟨⟨u0, u1, u2, q0, q1, q2⟩, hf _ (by omega), hf _ (by omega), hf _ (by omega), h3, h4⟩
theorem LC.some_form {α : Type} {K : Kd α} {base hi n : Nat} {w : World} {a : Option Addr} {cap : Nat} {xs : List α} (h : LC K base hi w (.slice a n cap) xs) (hx : 0 < xs.length) : ∃ g, a = some ⟨g, 0, none⟩ := by
  obtain ⟨h0, ⟨e, h⟩ | ⟨g2, cap2, ss, lo, up, h1, h2, h3, h4, h5, h6, h7⟩⟩ := h
  · subst e; simp at hx
  · cases h1; exact ⟨g2, rfl⟩
end Go.Proofs.YtnajddjalagmoaaGreatDoor
namespace Go.Proofs.YtnajddjalagmoaaGreatDoor
open Go.RowKit
set_option linter.unusedSimpArgs false
set_option linter.unusedVariables false
theorem set1r {w : World} {p : Nat} {o0 o1 : Value} {t : TypeId} (h : w.heap[p]? = some (.cells #[o0, o1] t (0, 0))) (b : Value) : (w.setCell ⟨p, 1, none⟩ b).heap[p]? = some (.cells #[o0, b] t (0, 0)) := by
  have hlt := lt_of_block h
  have h' : w.heap[p] = .cells #[o0, o1] t (0, 0) := by simpa [Array.getElem?_eq_getElem hlt] using h
  show (w.heap.modify p _)[p]? = _
  rw [Array.getElem?_eq_getElem (by simpa using hlt), Array.getElem_modify_self, h']
  rfl
theorem own_nilR {w : World} {B : Nat} : w.ownsRow B 126 5 (.slice none 0 0) 0 [] := ⟨by simp, .inl ⟨rfl, rfl⟩⟩
set_option maxRecDepth 100000 in
set_option maxHeartbeats 4000000 in
theorem spec_copyRows (now : Int) (B : Nat) (rs : List Rw) (w : World) (hm : rs.length ≤ 1099511627776) (h : RwsS w B rs) : Calls Tryz.prog 46 #[.agg #[.int .i64 now, .slice (some ⟨B, 0, none⟩) rs.length rs.length]] w fun e w' => VR w now rs e w' := by
  obtain ⟨i0, hi0, hz0, hz1, hz2⟩ := info_parts Tryz.infoRow
  have HR := hid h
  clear h
  unfold VR
  obtain ⟨n, hn⟩ : ∃ n, n = rs.length := ⟨_, rfl⟩
  have HN := hid hn.symm
  rw [← hn] at hm ⊢
  clear hn
  have hBx : Below w.heap.size w (((w.alloc (.cells #[.int .i64 now, .slice (some ⟨B, 0, none⟩) n n] 35)).alloc (.cells #[.int .i64 0, .slice none 0 0] 35)).alloc (.cells #[.int .i64 now, .slice none 0 0] 35)) := balloc (balloc (balloc (Below.refl _ _) _) _) _
  have g0 := old_alloc (o' := .cells #[.int .i64 now, .slice none 0 0] 35) (old_alloc (o' := .cells #[.int .i64 0, .slice none 0 0] 35) (new_alloc w w.heap.size (.cells #[.int .i64 now, .slice (some ⟨B, 0, none⟩) n n] 35) rfl))
  have g1 := old_alloc (o' := .cells #[.int .i64 now, .slice none 0 0] 35) (new_alloc (w.alloc (.cells #[.int .i64 now, .slice (some ⟨B, 0, none⟩) n n] 35)) (w.heap.size + 1) (.cells #[.int .i64 0, .slice none 0 0] 35) (by simp))
  have g2 := new_alloc ((w.alloc (.cells #[.int .i64 now, .slice (some ⟨B, 0, none⟩) n n] 35)).alloc (.cells #[.int .i64 0, .slice none 0 0] 35)) (w.heap.size + 1 + 1) (.cells #[.int .i64 now, .slice none 0 0] 35) (by simp)
  have hs3 : (((w.alloc (.cells #[.int .i64 now, .slice (some ⟨B, 0, none⟩) n n] 35)).alloc (.cells #[.int .i64 0, .slice none 0 0] 35)).alloc (.cells #[.int .i64 now, .slice none 0 0] 35)).heap.size = w.heap.size + 3 := by simp
  go_enter Tryz.func46, Tryz.ntmps46
  go_upto_region 2 with fail
  generalize (((w.alloc (.cells #[.int .i64 now, .slice (some ⟨B, 0, none⟩) n n] 35)).alloc (.cells #[.int .i64 0, .slice none 0 0] 35)).alloc (.cells #[.int .i64 now, .slice none 0 0] 35)) = W0 at *
  have HX0 := hid (RowsX.nil (base := w.heap.size + 3) (hi := W0.heap.size) (own_nilR (w := W0)) (fun g e => by cases e) (Nat.le_refl _))
  go_wp2_with fail
  go_loopw [4] (fun ti wr => ∃ i : Nat, ∃ v : Value, ∃ xs : List El, ti = .int .i64 i ∧ i ≤ n ∧ Hid (RowsX (w.heap.size + 3) wr.heap.size wr v (rs.take i) xs) ∧ Hid (wr.heap[w.heap.size]? = some (.cells #[.int .i64 now, .slice (some ⟨B, 0, none⟩) n n] 35 (0, 0))) ∧ Hid (wr.heap[w.heap.size + 1]? = some (.cells #[.int .i64 0, .slice none 0 0] 35 (0, 0))) ∧ Hid (wr.heap[w.heap.size + 1 + 1]? = some (.cells #[.int .i64 now, v] 35 (0, 0))) ∧ Hid (w.heap.size + 3 ≤ wr.heap.size) ∧ Hid (Below w.heap.size w wr)) (fun ti _ => n - (intOf ti).toNat)
  case atStart => exact ⟨0, _, [], rfl, Nat.zero_le _, HX0, hid g0, hid g1, hid g2, hid (by omega), hid hBx⟩
  case round =>
    clear HX0 g0 g1 g2 hBx hs3
    obtain ⟨i, v, xs, rfl, hi, HV, G0, G1, G2, HS, HBW⟩ := hrel
    obtain ⟨d0, d1, _, _⟩ := cell2f G0.out
    have hws := HS.out
    by_cases hlt : i < n
    · have c1 : (i : Int) < (n : Int) := by omega
      have hir : i < rs.length := by rw [HN.out]; exact hlt
      obtain ⟨ci, cpi, k9, k0, k1, k2, k3, k4, k6, k7⟩ := (HR.out.below HBW.out).2 i hir
      have htk : rs.take (i + 1) = rs.take i ++ [rs[i]] := by rw [List.take_add_one, List.getElem?_eq_getElem hir]; rfl
      have hil : (rs.take i).length ≤ i := by simp; omega
      have HSC := hid (fun (W : World) (hb : Below wr.heap.size wr W) => spec_copyG rs[i].2.2.2.1 ci 0 cpi rs[i].2.2.2.2 W k6 (k7.below hb) (Nat.lt_of_lt_of_le k9 hb.size))
      unfold CP at HSC
      obtain ⟨r, hr⟩ : ∃ r, r = rs[i] := ⟨_, rfl⟩
      rw [← hr] at k0 k1 k2 k3 k4 k6 htk HSC
      have HTK := hid htk
      clear hr htk k7 k9
      generalize rs.take i = zs at *
      obtain ⟨id, fr, te, kd, ps⟩ := r
      simp only at k0 k1 k2 k3 k4 k6 HSC
      go_upto_region 6 with fail
      have hbx : Below wr.heap.size wr (wr.alloc (.cells #[.int .i64 id, .int .i64 fr, .int .i64 te, .int .i64 kd, .slice (some ⟨ci, 0, none⟩) ps.length cpi] 126)) := balloc (Below.refl _ _) _
      have gx := new_alloc wr wr.heap.size (.cells #[.int .i64 id, .int .i64 fr, .int .i64 te, .int .i64 kd, .slice (some ⟨ci, 0, none⟩) ps.length cpi] 126) rfl
      have HV1 := hid (HV.out.below hbx)
      have HG0 := hid (keepheap2 hbx G0.out)
      have HG1 := hid (keepheap2 hbx G1.out)
      have HG2 := hid (keepheap2 hbx G2.out)
      have HB1 := hid (btrans HBW.out hbx)
      have HC1 := hid (HSC.out _ hbx)
      have hs1 : wr.heap.size < (wr.alloc (.cells #[.int .i64 id, .int .i64 fr, .int .i64 te, .int .i64 kd, .slice (some ⟨ci, 0, none⟩) ps.length cpi] 126)).heap.size := by simp
      clear k0 k1 k2 k3 k4 d0 d1 hbx HSC HV G0 G1 G2
      generalize wr.alloc (.cells #[.int .i64 id, .int .i64 fr, .int .i64 te, .int .i64 kd, .slice (some ⟨ci, 0, none⟩) ps.length cpi] 126) = W1 at *
      generalize wr.heap.size = X at *
      obtain ⟨⟨x0, x1, x2, x3, x4⟩, _⟩ := cell5g gx
      go_wp2_with fail
      refine HC1.out.mono ?_
      rintro e y ⟨g, cp, rfl, hcp, hgs, ho, hy⟩
      have gy := keepheap2 hy gx
      have hys := hy.size
      have hwy := (btrans HB1.out hy).size
      have HV2 := hid (HV1.out.below hy)
      have HG0' := hid (keepheap2 hy HG0.out)
      have HG1' := hid (keepheap2 hy HG1.out)
      have HG2' := hid (keepheap2 hy HG2.out)
      have HBy := hid (btrans HB1.out hy)
      have HO := hid ho
      clear hy ho gx HC1 HV1 HG0 HG1 HG2 HB1 x0 x1 x2 x3 x4
      obtain ⟨⟨x0, x1, x2, x3, x4⟩, y0, y1, y2, y3, y4⟩ := cell5g gy
      go_upto_region 7 with fail
      have gq := set34 gy (.int .i64 kd) (.slice (some ⟨g, 0, none⟩) ps.length cp)
      have hfar : ∀ b, b ≠ X → ((y.setCell ⟨X, 3, none⟩ (.int .i64 kd)).setCell ⟨X, 4, none⟩ (.slice (some ⟨g, 0, none⟩) ps.length cp)).heap[b]? = y.heap[b]? := fun b hb => by rw [Below.heap_setCell _ _ _ _ (by dsimp only; omega), Below.heap_setCell _ _ _ _ (by dsimp only; omega)]
      have HV3 := hid (HV2.out.frame (w' := (y.setCell ⟨X, 3, none⟩ (.int .i64 kd)).setCell ⟨X, 4, none⟩ (.slice (some ⟨g, 0, none⟩) ps.length cp)) (fun b h1 h2 => hfar b (by omega)) (by simp))
      have HG0 := hid ((hfar w.heap.size (by omega)).trans HG0'.out)
      have HG1 := hid ((hfar (w.heap.size + 1) (by omega)).trans HG1'.out)
      have g2 := (hfar (w.heap.size + 1 + 1) (by omega)).trans HG2'.out
      have HB3 := hid (bset (bset HBy.out (q := X) (k := 3) (by omega) (.int .i64 kd)) (q := X) (k := 4) (by omega) (.slice (some ⟨g, 0, none⟩) ps.length cp))
      have HO3 := hid (own_blk HO.out (hfar g (by omega)) (by simp; exact HO.out.1))
      have hs3 : ((y.setCell ⟨X, 3, none⟩ (.int .i64 kd)).setCell ⟨X, 4, none⟩ (.slice (some ⟨g, 0, none⟩) ps.length cp)).heap.size = y.heap.size := by simp
      have hs3a := Nat.le_of_eq hs3
      have hs3b := Nat.le_of_eq hs3.symm
      have hgy := HO.out.1
      clear hs3
      clear hfar HV2 HG0' HG1' HG2' HBy HO gy x0 x1 x2 x3 x4 y0 y1 y2 y3 y4
      generalize (y.setCell ⟨X, 3, none⟩ (.int .i64 kd)).setCell ⟨X, 4, none⟩ (.slice (some ⟨g, 0, none⟩) ps.length cp) = Y at *
      obtain ⟨⟨x0, x1, x2, x3, x4⟩, _⟩ := cell5g gq
      obtain ⟨v0, v1, _, _⟩ := cell2f g2
      have hownZ := HV3.out.2.1
      have hal2 : Below Y.heap.size Y (Y.alloc (.cells #[.int .i64 id, .int .i64 fr, .int .i64 te, .int .i64 kd, .slice (some ⟨g, 0, none⟩) ps.length cp] 126)) := balloc (Below.refl _ _) _
      have HGE := hid (keepheap2 hal2 g2)
      have hvb : v.ownBlock ≠ some (w.heap.size + 1 + 1) := fun e => by have := (hownZ.lt _ e).1; omega
      clear gq g2
      go_wp2_with (at_builtin; (refine wpList_append_lies _ rfl (.tmp 26) (.tmp 28) 33 rfl (w.heap.size + 3) 126 i0 _ 5 56 Tryz.underlying33 hi0 hz0 hz1 hz2 rfl (by decide) v zs.length (flat5 xs) rfl (hownZ.alloc _) ⟨Y.heap.size, 0, none⟩ 1 1 (ev (elR (id, fr, te, kd, ps) g cp)) rfl rfl (World.news_of_block (cs := #[.int .i64 id, .int .i64 fr, .int .i64 te, .int .i64 kd, .slice (some ⟨g, 0, none⟩) ps.length cp]) (t := 126) (fr := (0, 0)) (heap_alloc_new Y _)) (by simp [ev, elR, Value.oneCell']) (by omega) (by unfold maxLen; omega) (by omega) (by simp; omega) (Y.heap.size + 1) (by simp) ?_; intro gg cq w2 hown2 hgrow hat hlt2; have g2 := (hgrow.block (w.heap.size + 1 + 1) (lt_of_block HGE.out) (fun e => hvb e.symm)).trans HGE.out; obtain ⟨t0, t1, s0, s1⟩ := cell2f g2))
      have hsn := RowsX.snoc (r := (id, fr, te, kd, ps)) (c := g) (cp := cp) (HV3.out.below hal2) (by omega) (by omega) (by simp; omega) hcp k6 (HO3.out.below hal2) hown2 hgrow (by simpa using hat) hlt2
      have hb2 : Below w.heap.size w w2 := Below.grown (balloc HB3.out _) hgrow (by simp; omega) (fun k e => by have := (hownZ.lt k e).1; omega)
      have hw2 := hgrow.size
      have HG0e := hid ((hgrow.block w.heap.size (by simp; omega) (fun e => by have := (hownZ.lt _ e.symm).1; omega)).trans (keepheap2 hal2 HG0.out))
      have HG1e := hid ((hgrow.block (w.heap.size + 1) (by simp; omega) (fun e => by have := (hownZ.lt _ e.symm).1; omega)).trans (keepheap2 hal2 HG1.out))
      have hfar : ∀ b, b ≠ w.heap.size + 1 + 1 → (w2.setCell ⟨w.heap.size + 1 + 1, 1, none⟩ (.slice (some ⟨gg, 0, none⟩) (zs.length + 1) cq)).heap[b]? = w2.heap[b]? := fun b hb => by rw [Below.heap_setCell _ _ _ _ (by dsimp only; omega)]
      have HF1 := hid ((hsn.frame (w' := w2.setCell ⟨w.heap.size + 1 + 1, 1, none⟩ (.slice (some ⟨gg, 0, none⟩) (zs.length + 1) cq)) (fun b h1 h2 => hfar b (by omega)) (by simp)).mono (hi' := (w2.setCell ⟨w.heap.size + 1 + 1, 1, none⟩ (.slice (some ⟨gg, 0, none⟩) (zs.length + 1) cq)).heap.size) (Nat.le_refl _) (by simp) (Nat.le_refl _))
      rw [← HTK.out] at HF1
      have HF2 := hid ((hfar w.heap.size (by omega)).trans HG0e.out)
      have HF3 := hid ((hfar (w.heap.size + 1) (by omega)).trans HG1e.out)
      have HF4 : Hid ((w2.setCell ⟨w.heap.size + 1 + 1, 1, none⟩ (.slice (some ⟨gg, 0, none⟩) (zs.length + 1) cq)).heap[w.heap.size + 1 + 1]? = some (.cells #[.int .i64 now, .slice (some ⟨gg, 0, none⟩) (zs.length + 1) cq] 35 (0, 0))) := hid (set1r g2 _)
      have HF5 : Hid (w.heap.size + 3 ≤ (w2.setCell ⟨w.heap.size + 1 + 1, 1, none⟩ (.slice (some ⟨gg, 0, none⟩) (zs.length + 1) cq)).heap.size) := hid (by simp at hw2 ⊢; omega)
      have HF6 := hid (bset hb2 (q := w.heap.size + 1 + 1) (k := 1) (by omega) (.slice (some ⟨gg, 0, none⟩) (zs.length + 1) cq))
      clear hsn hb2 hown2 hgrow hal2 hownZ hfar g2 t0 t1 s0 s1 HGE HG0e HG1e
      go_roundw
      case rel => exact ⟨i + 1, _, _, by go_num, by omega, HF1, HF2, HF3, HF4, HF5, HF6⟩
      case measure => simp [intOf]; omega
    · have c1 : (n : Int) ≤ (i : Int) := by omega
      have hin : i = rs.length := by have := HN.out; omega
      have hX : RowsX (w.heap.size + 3) wr.heap.size wr v rs xs := by have := HV.out; rw [hin, List.take_length] at this; exact this
      obtain ⟨a, c, rfl⟩ := kept_form hX
      rw [HN.out] at hX G2
      have HX := hid hX
      clear hin HV hX
      obtain ⟨v0, v1, _, _⟩ := cell2f G1.out
      obtain ⟨t0, t1, _, _⟩ := cell2f G2.out
      obtain ⟨_, _, s0, s1⟩ := cell2f G1.out
      go_wp2_with fail
      have gF := set2r G1.out (.int .i64 now) (.slice a n c)
      have bF := bset (bset HBW.out (q := w.heap.size + 1) (k := 0) (by omega) (.int .i64 now)) (q := w.heap.size + 1) (k := 1) (by omega) (.slice a n c)
      have xF := (HX.out.frame (w' := (wr.setCell ⟨w.heap.size + 1, 0, none⟩ (.int .i64 now)).setCell ⟨w.heap.size + 1, 1, none⟩ (.slice a n c)) (fun b h1 h2 => by rw [Below.heap_setCell _ _ _ _ (by dsimp only; omega), Below.heap_setCell _ _ _ _ (by dsimp only; omega)]) (by simp)).mono (base' := w.heap.size) (hi' := ((wr.setCell ⟨w.heap.size + 1, 0, none⟩ (.int .i64 now)).setCell ⟨w.heap.size + 1, 1, none⟩ (.slice a n c)).heap.size) (by omega) (by simp) (Nat.le_refl _)
      generalize (wr.setCell ⟨w.heap.size + 1, 0, none⟩ (.int .i64 now)).setCell ⟨w.heap.size + 1, 1, none⟩ (.slice a n c) = wf at *
      obtain ⟨z0, z1, _, _⟩ := cell2f gF
      exact bodyPost_ret (v := .agg #[.int .i64 now, .slice a n c]) (by simp [results, Tryz.results46, go_sem, z0, z1]) rfl ⟨a, c, xs, rfl, xF, bF⟩
end Go.Proofs.YtnajddjalagmoaaGreatDoor
namespace Go.Proofs.YtnajddjalagmoaaGreatDoor
open Go.RowKit
set_option linter.unusedSimpArgs false
set_option linter.unusedVariables false
theorem setk4_23 {w : World} {p : Nat} {o0 o1 o2 o3 : Value} {t : TypeId} (h : w.heap[p]? = some (.cells #[o0, o1, o2, o3] t (0, 0))) (c d : Value) : ((w.setCell ⟨p, 2, none⟩ c).setCell ⟨p, 3, none⟩ d).heap[p]? = some (.cells #[o0, o1, c, d] t (0, 0)) := set_at (set_at h)
theorem setk3_2 {w : World} {p : Nat} {o0 o1 o2 : Value} {t : TypeId} (h : w.heap[p]? = some (.cells #[o0, o1, o2] t (0, 0))) (c : Value) : (w.setCell ⟨p, 2, none⟩ c).heap[p]? = some (.cells #[o0, o1, c] t (0, 0)) := set_at h
set_option maxRecDepth 100000 in
set_option maxHeartbeats 2000000 in
theorem spec_copyChs (B cap : Nat) (xs : List Ch) (w : World) (hm : xs.length ≤ 1099511627776) (h : ChsS w B xs) : Calls Tryz.prog 47 #[.slice (some ⟨B, 0, none⟩) xs.length cap] w fun e w' => ∃ v ps, e = .returned v ∧ LX KC 66 w.heap.size w'.heap.size w' v xs ps ∧ (∃ g c, v = .slice (some ⟨g, 0, none⟩) xs.length c) ∧ Below w.heap.size w w' := by
  obtain ⟨i0, hi0, hz0, hz1, hz2⟩ := info_parts Tryz.infoCh
  have HR := hid h
  clear h
  obtain ⟨n, hn⟩ : ∃ n, n = xs.length := ⟨_, rfl⟩
  have HN := hid hn.symm
  rw [← hn] at hm ⊢
  clear hn
  have hB0 : Below w.heap.size w (w.alloc (.cells #[] 66)) := balloc (Below.refl _ _) _
  have HI : Hid (LX KC 66 w.heap.size (w.alloc (.cells #[] 66)).heap.size (w.alloc (.cells #[] 66)) (.slice (some ⟨w.heap.size, 0, none⟩) 0 0) [] []) := hid (by
    have := World.ownsRow_made (base := w.heap.size) (e := 66) (size := 4) w #[] 0 (Nat.le_refl _) (by unfold maxLen; omega) rfl
    exact LX.nil this (fun g e => by simp [Value.ownBlock] at e; subst e; simp) (Nat.le_refl _))
  go_enter Tryz.func47, Tryz.ntmps47
  go_upto_region 2 with fail
  generalize w.alloc (.cells #[] 66) = W0 at *
  go_wp2_with fail
  go_loopw [3, 4] (fun tv ti wr => ∃ i : Nat, ∃ g5 c5 : Nat, ∃ ps' : List (Ch × Value), ti = .int .i64 i ∧ i ≤ n ∧ tv = .slice (some ⟨g5, 0, none⟩) i c5 ∧ Hid (LX KC 66 w.heap.size wr.heap.size wr (.slice (some ⟨g5, 0, none⟩) i c5) (xs.take i) ps') ∧ Hid (Below w.heap.size w wr)) (fun _ ti _ => n - (intOf ti).toNat)
  case atStart => exact ⟨0, w.heap.size, 0, [], rfl, Nat.zero_le _, rfl, HI, hid hB0⟩
  case round =>
    clear HI hB0
    obtain ⟨i, g5, c5, ps', rfl, hi, rfl, HV, HBW⟩ := hrel
    have hwX := HBW.out.size
    by_cases hlt : i < n
    · have d1 : (i : Int) < (n : Int) := by omega
      have hir : i < xs.length := by rw [HN.out]; exact hlt
      obtain ⟨ci, cpi, k9, ⟨k0, k1, k2, k3⟩, k6, k7⟩ := (HR.out.below HBW.out).2 i hir
      have HX : Hid (xs.take (i + 1) = xs.take i ++ [xs[i]]) := hid (by rw [List.take_add_one, List.getElem?_eq_getElem hir]; rfl)
      have hil : (xs.take i).length = i := by rw [List.length_take]; omega
      have HIL := hid hil
      obtain ⟨r, hr⟩ : ∃ r, r = xs[i] := ⟨_, rfl⟩
      rw [← hr] at k0 k1 k2 k3 k6 k7 HX
      clear hr hil
      obtain ⟨id, gn, kd, ps⟩ := r
      simp only at k0 k1 k2 k3 k6 k7
      have hbx : Below wr.heap.size wr (wr.alloc (.cells #[.int .i64 id, .bool gn, .int .i64 kd, .slice (some ⟨ci, 0, none⟩) ps.length cpi] 66)) := balloc (Below.refl _ _) _
      have HC1 := hid (spec_copyG kd ci 0 cpi ps _ k6 (k7.below hbx) (Nat.lt_of_lt_of_le k9 hbx.size))
      unfold CP at HC1
      clear k7
      go_upto_region 6 with fail
      have gx := new_alloc wr wr.heap.size (.cells #[.int .i64 id, .bool gn, .int .i64 kd, .slice (some ⟨ci, 0, none⟩) ps.length cpi] 66) rfl
      have HI1 := hid (HV.out.below hbx)
      have HB1 := hid (btrans HBW.out hbx)
      have hs1 : wr.heap.size < (wr.alloc (.cells #[.int .i64 id, .bool gn, .int .i64 kd, .slice (some ⟨ci, 0, none⟩) ps.length cpi] 66)).heap.size := by simp
      clear k0 k1 k2 k3 hbx HV
      generalize wr.alloc (.cells #[.int .i64 id, .bool gn, .int .i64 kd, .slice (some ⟨ci, 0, none⟩) ps.length cpi] 66) = W1 at *
      generalize wr.heap.size = Xh at *
      obtain ⟨⟨x0, x1, x2, x3⟩, _⟩ := cellk4 gx
      go_wp2_with fail
      refine HC1.out.mono ?_
      rintro e y ⟨g, cp, rfl, hcp, hgs, ho, hy⟩
      have gy := keepheap2 hy gx
      have hys := hy.size
      have HBy := hid (btrans HB1.out hy)
      have HIy := hid (HI1.out.below hy)
      have hwy := HBy.out.size
      have HO := hid ho
      clear hy ho gx HC1 HI1 HB1 x0 x1 x2 x3
      obtain ⟨⟨x0, x1, x2, x3⟩, y0, y1, y2, y3⟩ := cellk4 gy
      go_upto_region 7 with fail
      have gq := setk4_23 gy (.int .i64 kd) (.slice (some ⟨g, 0, none⟩) ps.length cp)
      have hfar : ∀ b, b ≠ Xh → ((y.setCell ⟨Xh, 2, none⟩ (.int .i64 kd)).setCell ⟨Xh, 3, none⟩ (.slice (some ⟨g, 0, none⟩) ps.length cp)).heap[b]? = y.heap[b]? := fun b hb => by rw [Below.heap_setCell _ _ _ _ (by dsimp only; omega), Below.heap_setCell _ _ _ _ (by dsimp only; omega)]
      have HI3 := hid (HIy.out.frame (w' := (y.setCell ⟨Xh, 2, none⟩ (.int .i64 kd)).setCell ⟨Xh, 3, none⟩ (.slice (some ⟨g, 0, none⟩) ps.length cp)) (fun b h1 h2 => hfar b (by omega)) (by simp))
      have HB3 := hid (bset (bset HBy.out (q := Xh) (k := 2) (by omega) (.int .i64 kd)) (q := Xh) (k := 3) (by omega) (.slice (some ⟨g, 0, none⟩) ps.length cp))
      have HO3 := hid (own_blk HO.out (hfar g (by omega)) (by simp; exact HO.out.1))
      have hs3 : ((y.setCell ⟨Xh, 2, none⟩ (.int .i64 kd)).setCell ⟨Xh, 3, none⟩ (.slice (some ⟨g, 0, none⟩) ps.length cp)).heap.size = y.heap.size := by simp
      have hs3a := Nat.le_of_eq hs3
      have hs3b := Nat.le_of_eq hs3.symm
      have hgy := HO.out.1
      clear hs3 hfar HIy HBy HO gy x0 x1 x2 x3 y0 y1 y2 y3
      generalize (y.setCell ⟨Xh, 2, none⟩ (.int .i64 kd)).setCell ⟨Xh, 3, none⟩ (.slice (some ⟨g, 0, none⟩) ps.length cp) = Y at *
      obtain ⟨⟨x0, x1, x2, x3⟩, _⟩ := cellk4 gq
      have hownZ : Y.ownsRow w.heap.size 66 4 (.slice (some ⟨g5, 0, none⟩) i c5) i (flatK KC ps') := by have := HI3.out.2.1; rw [HIL.out] at this; exact this
      clear gq
      go_wp2_with (at_builtin; (refine wpList_append_lies _ rfl (.tmp 21) (.tmp 23) 60 rfl w.heap.size 66 i0 _ 4 48 Tryz.underlying60 hi0 hz0 hz1 hz2 rfl (by decide) (.slice (some ⟨g5, 0, none⟩) i c5) i (flatK KC ps') rfl (hownZ.alloc _) ⟨Y.heap.size, 0, none⟩ 1 1 [.int .i64 id, .bool gn, .int .i64 kd, .slice (some ⟨g, 0, none⟩) ps.length cp] rfl rfl (World.news_of_block (cs := #[.int .i64 id, .bool gn, .int .i64 kd, .slice (some ⟨g, 0, none⟩) ps.length cp]) (t := 66) (fr := (0, 0)) (heap_alloc_new Y _)) (by simp [Value.oneCell']) (by omega) (by unfold maxLen; omega) (by omega) (by simp; omega) (Y.heap.size + 1) (by simp) ?_; intro gg cq w2 hown2 hgrow hat hlt2))
      have hal2 : Below Y.heap.size Y (Y.alloc (.cells #[.int .i64 id, .bool gn, .int .i64 kd, .slice (some ⟨g, 0, none⟩) ps.length cp] 66)) := balloc (Below.refl _ _) _
      have hsub : KC.sub g (g + 1) (Y.alloc (.cells #[.int .i64 id, .bool gn, .int .i64 kd, .slice (some ⟨g, 0, none⟩) ps.length cp] 66)) (.slice (some ⟨g, 0, none⟩) ps.length cp) (id, gn, kd, ps) := ⟨by have := (HO3.out.below hal2).1; omega, g, cp, rfl, hcp, k6, Nat.le_refl _, by omega, HO3.out.below hal2⟩
      have hsn := LX.snoc (x := (id, gn, kd, ps)) (sv := .slice (some ⟨g, 0, none⟩) ps.length cp) (l := g) (u := g + 1) (g := gg) (cap := cq) (HI3.out.below hal2) (by omega) (by omega) hsub (by rw [HIL.out]; exact hown2) hgrow (by simpa using hat) hlt2
      rw [HIL.out] at hsn
      have hb2 : Below w.heap.size w w2 := Below.grown (balloc HB3.out _) hgrow (by simp; omega) (fun k e => (hownZ.lt k e).1)
      have HSN2 : Hid (LX KC 66 w.heap.size w2.heap.size w2 (.slice (some ⟨gg, 0, none⟩) (i + 1) cq) (xs.take (i + 1)) (ps' ++ [((id, gn, kd, ps), .slice (some ⟨g, 0, none⟩) ps.length cp)])) := hid (by rw [HX.out]; exact hsn)
      have HB2 := hid hb2
      clear hsn hb2 hown2 hgrow hal2 hownZ hsub x0 x1 x2 x3
      go_roundw
      case rel => exact ⟨i + 1, gg, cq, _, by go_num, by omega, rfl, HSN2, HB2⟩
      case measure => simp [intOf]; omega
    · have d1 : (n : Int) ≤ (i : Int) := by omega
      have hin : i = n := by omega
      subst hin
      have HF : Hid (LX KC 66 w.heap.size wr.heap.size wr (.slice (some ⟨g5, 0, none⟩) i c5) xs ps') := hid (by have := HV.out; rw [← HN.out, List.take_length] at this; rw [← HN.out]; exact this)
      clear HV
      go_wp2_with fail
      go_ret
      exact ⟨_, ps', rfl, HF.out, ⟨g5, c5, rfl⟩, HBW.out⟩
end Go.Proofs.YtnajddjalagmoaaGreatDoor
namespace Go.Proofs.YtnajddjalagmoaaGreatDoor
open Go.RowKit
set_option linter.unusedSimpArgs false
set_option linter.unusedVariables false
theorem own_nilT {w : World} {B : Nat} : w.ownsRow B 63 3 (.slice none 0 0) 0 [] := ⟨by simp, .inl ⟨rfl, rfl⟩⟩
theorem LX.form {α : Type} {K : Kd α} {t : TypeId} {base hi : Nat} {w : World} {v : Value} {xs : List α} {ps : List (α × Value)} (h : LX K t base hi w v xs ps) : ∃ a cap, v = .slice a xs.length cap := by
  obtain ⟨a, cap, e, _⟩ := h.lc.form
  exact ⟨a, cap, e⟩
end Go.Proofs.YtnajddjalagmoaaGreatDoor
