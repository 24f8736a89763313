/- Texts of stores, joined: Gl, Hd2. -/
import Derived.Test.YtdaheepfmnjadaaGreatDoorJ20
import Derived.Test.YtdaheepfmnjadaaGreatDoorJ21
import Derived.Test.YtdaheepfmnjadaaGreatDoorJ5
import Derived.Deep.MidRow
import Derived.Test.YtdaheepfmnjadaaGreatDoorJ8
namespace Go.Proofs.YtdaheepfmnjadaaGreatDoor
open Go.RowKit
set_option linter.unusedSimpArgs false
set_option linter.unusedVariables false
theorem own_frame {w w' : World} {B : Nat} {e : TypeId} {sz : Nat} {v : Value} {n : Nat} {xs : List Value} (h : w.ownsRow B e sz v n xs) (hb : ∀ g, v.ownBlock = some g → w'.heap[g]? = w.heap[g]?) : w'.ownsRow B e sz v n xs := by
  refine ⟨h.1, ?_⟩
  rcases h.2 with q | ⟨g, c, cur, e1, q1, q2, q3⟩
  · exact .inl q
  · refine .inr ⟨g, c, cur, e1, q1, ?_, q3⟩
    rw [hb g (by rw [e1]; rfl)]; exact q2
def tkk (k : Int) (n : Nat) : List (Int × Int) := tk (fun i => (k + 2 * (i : Int), k + 2 * (i : Int) + 1)) n
theorem tkk_len (k : Int) (n : Nat) : (tkk k n).length = n := tk_len _ _
/-- A kind of element: its cells, with the value in the last one, and what is said of that value and its blocks. -/
structure Kd (α : Type) where
  sz : Nat
  vals : α → Value → List Value
  sub : Nat → Nat → World → Value → α → Prop
  len : ∀ x v, (vals x v).length = sz
  one : ∀ {lo up : Nat} {w : World} {v : Value} {x : α}, sub lo up w v x → ∀ u ∈ vals x v, u.oneCell' = true
  frame : ∀ {lo up : Nat} {w w' : World} {v : Value} {x : α}, sub lo up w v x → (∀ c, lo ≤ c → c < up → w'.heap[c]? = w.heap[c]?) → w.heap.size ≤ w'.heap.size → sub lo up w' v x
  top : ∀ {lo up : Nat} {w : World} {v : Value} {x : α}, sub lo up w v x → up ≤ w.heap.size
def flatK {α : Type} (K : Kd α) (ps : List (α × Value)) : List Value := ps.flatMap (fun p => K.vals p.1 p.2)
theorem flatK_snoc {α : Type} (K : Kd α) (ps : List (α × Value)) (p : α × Value) : flatK K (ps ++ [p]) = flatK K ps ++ K.vals p.1 p.2 := by simp [flatK]
theorem flatK_len {α : Type} (K : Kd α) (ps : List (α × Value)) : (flatK K ps).length = ps.length * K.sz := by
  induction ps with
  | nil => simp [flatK]
  | cons x r ih =>
    show (K.vals x.1 x.2 ++ flatK K r).length = _
    rw [List.length_append, ih, K.len, List.length_cons, Nat.succ_mul]
    omega
theorem flatX_at {α : Type} (K : Kd α) : ∀ (ps : List (α × Value)) (j t : Nat) (h : j < ps.length), t < K.sz → (flatK K ps)[j * K.sz + t]? = (K.vals ps[j].1 ps[j].2)[t]?
  | [], j, t, h, _ => by simp at h
  | x :: r, 0, t, h, ht => by
    show (K.vals x.1 x.2 ++ flatK K r)[0 * K.sz + t]? = _
    rw [Nat.zero_mul, Nat.zero_add, List.getElem?_append_left (by rw [K.len]; exact ht)]
    rfl
  | x :: r, j + 1, t, h, ht => by
    have ih := flatX_at K r j t (by simpa using h) ht
    show (K.vals x.1 x.2 ++ flatK K r)[(j + 1) * K.sz + t]? = _
    rw [List.getElem?_append_right (by rw [K.len, Nat.succ_mul]; omega), K.len, show (j + 1) * K.sz + t - K.sz = j * K.sz + t by rw [Nat.succ_mul]; omega, ih]
    rfl
/-- A list as the call makes it. -/
def LX {α : Type} (K : Kd α) (t : TypeId) (base hi : Nat) (w : World) (v : Value) (xs : List α) (ps : List (α × Value)) : Prop :=
  ps.map Prod.fst = xs ∧ w.ownsRow base t K.sz v xs.length (flatK K ps) ∧ (∀ g, v.ownBlock = some g → g < hi) ∧ hi ≤ w.heap.size ∧
  ∃ lo up : Nat → Nat, (∀ j (h : j < ps.length), K.sub (lo j) (up j) w ps[j].2 ps[j].1 ∧ base ≤ lo j ∧ up j ≤ hi ∧ (∀ g, v.ownBlock = some g → g < lo j ∨ up j ≤ g)) ∧ (∀ i j, i < j → j < ps.length → up i ≤ lo j)
theorem LX.plen {α : Type} {K : Kd α} {t : TypeId} {base hi : Nat} {w : World} {v : Value} {xs : List α} {ps : List (α × Value)} (h : LX K t base hi w v xs ps) : ps.length = xs.length := by
  have := congrArg List.length h.1
  simpa using this
theorem LX.frame {α : Type} {K : Kd α} {t : TypeId} {base hi : Nat} {w w' : World} {v : Value} {xs : List α} {ps : List (α × Value)} (h : LX K t base hi w v xs ps) (hb : ∀ c, base ≤ c → c < hi → w'.heap[c]? = w.heap[c]?) (hs : w.heap.size ≤ w'.heap.size) : LX K t base hi w' v xs ps := by
  obtain ⟨h1, h2, h3, h4, lo, up, h5, h6⟩ := h
  refine ⟨h1, own_frame h2 (fun g e => hb g (h2.lt g e).1 (h3 g e)), h3, by omega, lo, up, fun j hj => ?_, h6⟩
  obtain ⟨a1, a2, a3, a4⟩ := h5 j hj
  exact ⟨K.frame a1 (fun c c1 c2 => hb c (by omega) (by omega)) hs, a2, a3, a4⟩
theorem LX.below {α : Type} {K : Kd α} {t : TypeId} {base hi : Nat} {w w' : World} {v : Value} {xs : List α} {ps : List (α × Value)} (h : LX K t base hi w v xs ps) (H : Below w.heap.size w w') : LX K t base hi w' v xs ps :=
  h.frame (fun c _ h2 => H.block c (by have := h.2.2.2.1; omega)) H.size
theorem LX.mono {α : Type} {K : Kd α} {t : TypeId} {base base' hi hi' : Nat} {w : World} {v : Value} {xs : List α} {ps : List (α × Value)} (h : LX K t base hi w v xs ps) (hb : base' ≤ base) (hh : hi ≤ hi') (hs : hi' ≤ w.heap.size) : LX K t base' hi' w v xs ps := by
  obtain ⟨h1, h2, h3, h4, lo, up, h5, h6⟩ := h
  refine ⟨h1, ⟨h2.1, ?_⟩, fun g e => by have := h3 g e; omega, hs, lo, up, fun j hj => ?_, h6⟩
  · rcases h2.2 with q | ⟨g, cc, cur, e1, q1, q2, q3⟩
    · exact .inl q
    · exact .inr ⟨g, cc, cur, e1, by omega, q2, q3⟩
  · obtain ⟨a1, a2, a3, a4⟩ := h5 j hj
    exact ⟨a1, by omega, by omega, a4⟩
theorem LX.nil {α : Type} {K : Kd α} {t : TypeId} {base hi : Nat} {w : World} {v : Value} (h : w.ownsRow base t K.sz v 0 []) (h3 : ∀ g, v.ownBlock = some g → g < hi) (h4 : hi ≤ w.heap.size) : LX K t base hi w v [] [] :=
  ⟨rfl, by simpa [flatK] using h, h3, h4, fun _ => 0, fun _ => 0, fun j hj => absurd hj (by simp), fun i j _ hj => absurd hj (by simp)⟩
theorem LX.snoc {α : Type} {K : Kd α} {t : TypeId} {base hi : Nat} {W w' : World} {v : Value} {xs : List α} {ps : List (α × Value)} {x : α} {sv : Value} {l u g cap : Nat} (h : LX K t base hi W v xs ps) (hl : hi ≤ l) (hbl : base ≤ l) (hsub : K.sub l u W sv x)
    (hown : w'.ownsRow base t K.sz (.slice (some ⟨g, 0, none⟩) (xs.length + 1) cap) (xs.length + 1) (flatK K ps ++ K.vals x sv)) (hg : W.grownBy w' v.ownBlock) (hat : v.ownBlock = some g ∨ g = W.heap.size) (hlt : g < w'.heap.size) :
    LX K t base w'.heap.size w' (.slice (some ⟨g, 0, none⟩) (xs.length + 1) cap) (xs ++ [x]) (ps ++ [(x, sv)]) := by
  have hpl := h.plen
  obtain ⟨h1, h2, h3, h4, lo, up, h5, h6⟩ := h
  have hu := K.top hsub
  have hsz := hg.size
  have hfr : ∀ c, c < W.heap.size → v.ownBlock ≠ some c → w'.heap[c]? = W.heap[c]? := fun c hc hne => hg.block c hc (fun e => hne e.symm)
  refine ⟨by simp [h1], by rw [flatK_snoc, List.length_append]; exact hown, fun g' e => by simp [Value.ownBlock] at e; omega, Nat.le_refl _, fun j => if j = ps.length then l else lo j, fun j => if j = ps.length then u else up j, fun j hj => ?_, fun i j hij hj => ?_⟩
  · by_cases e : j = ps.length
    · subst e
      simp only [if_true]
      have er : (ps ++ [(x, sv)])[ps.length]'(by simp) = (x, sv) := by simp
      rw [er]
      refine ⟨K.frame hsub (fun c c1 c2 => hfr c (by omega) (fun e => by have := h3 c e; omega)) hsz, hbl, by omega, fun g' e => ?_⟩
      simp [Value.ownBlock] at e
      rcases hat with q | q
      · have := h3 g q; omega
      · omega
    · have hjl : j < ps.length := by simp at hj; omega
      simp only [if_neg e]
      have er : (ps ++ [(x, sv)])[j]'(by simpa using hj) = ps[j] := by rw [List.getElem_append_left hjl]
      rw [er]
      obtain ⟨a1, a2, a3, a4⟩ := h5 j hjl
      refine ⟨K.frame a1 (fun c c1 c2 => hfr c (by omega) (fun e => by have := a4 c e; omega)) hsz, a2, by omega, fun g' e => ?_⟩
      simp [Value.ownBlock] at e
      rcases hat with q | q
      · have := a4 g q; omega
      · omega
  · have hil : i < ps.length := by simp at hj; omega
    simp only [if_neg (show i ≠ ps.length by omega)]
    by_cases e : j = ps.length
    · simp only [if_pos e]
      obtain ⟨_, _, a3, _⟩ := h5 i hil
      omega
    · simp only [if_neg e]
      exact h6 i j hij (by simp at hj; omega)
/-- An element at its place. -/
def ElX {α : Type} (K : Kd α) (w : World) (g i : Nat) (x : α) (s : Value) (lo up : Nat) : Prop :=
  (∀ t, t < K.sz → w.cell? ⟨g, i * K.sz + t, none⟩ = (K.vals x s)[t]?) ∧ K.sub lo up w s x
/-- A list in memory of its own, cell by cell. -/
def LC {α : Type} (K : Kd α) (base hi : Nat) (w : World) (v : Value) (xs : List α) : Prop :=
  hi ≤ w.heap.size ∧ ((xs = [] ∧ v = .slice none 0 0) ∨ ∃ (g cap : Nat) (ss : Nat → Value) (lo up : Nat → Nat), v = .slice (some ⟨g, 0, none⟩) xs.length cap ∧ xs.length ≤ cap ∧ base ≤ g ∧ g < hi ∧ w.there g 0 (xs.length * K.sz) ∧
  (∀ j (h : j < xs.length), ElX K w g j xs[j] (ss j) (lo j) (up j) ∧ base ≤ lo j ∧ up j ≤ hi ∧ (g < lo j ∨ up j ≤ g)) ∧ (∀ i j, i ≠ j → i < xs.length → j < xs.length → up i ≤ lo j ∨ up j ≤ lo i))
theorem LX.lc {α : Type} {K : Kd α} {t : TypeId} {base hi : Nat} {w : World} {v : Value} {xs : List α} {ps : List (α × Value)} (h : LX K t base hi w v xs ps) : LC K base hi w v xs := by
  have hpl := h.plen
  obtain ⟨h1, h2, h3, h4, lo, up, h5, h6⟩ := h
  refine ⟨h4, ?_⟩
  have h2' := h2
  rcases h2.2 with ⟨q, hn⟩ | ⟨g, cap, cur, rfl, hb, hg, hc, _⟩
  · left
    exact ⟨List.length_eq_zero_iff.1 hn, q⟩
  · right
    refine ⟨g, cap, fun j => if h : j < ps.length then (ps[j]'h).2 else .bool false, lo, up, rfl, hc, hb, h3 g rfl, fun j hj => ?_, fun j hj => ?_, fun i j hne hi' hj => (Nat.lt_or_gt_of_ne hne).elim (fun q => .inl (h6 i j q (by omega))) (fun q => .inr (h6 j i q (by omega)))⟩
    · simp only [Nat.zero_add]
      refine ⟨?_, World.ownsRow.frozenAt h2' j⟩
      rw [World.ownsRow.cellAt h2' j hj, List.getElem?_eq_getElem (by rw [flatK_len, hpl]; exact hj)]
      rfl
    · have hjp : j < ps.length := by omega
      obtain ⟨a1, a2, a3, a4⟩ := h5 j hjp
      have ex : xs[j] = (ps[j]).1 := by
        have : xs[j]? = (ps.map Prod.fst)[j]? := by rw [h1]
        rw [List.getElem?_map, List.getElem?_eq_getElem hj, List.getElem?_eq_getElem hjp] at this
        exact Option.some.inj this
      simp only [dif_pos hjp, ex]
      refine ⟨⟨fun t ht => ?_, a1⟩, a2, a3, a4 g rfl⟩
      have hlt : j * K.sz + t < xs.length * K.sz := by
        have : (j + 1) * K.sz ≤ xs.length * K.sz := Nat.mul_le_mul_right _ (by omega)
        rw [Nat.succ_mul] at this
        omega
      rw [World.ownsRow.cellAt h2' _ hlt, flatX_at K ps j t hjp ht]
theorem ElX.blk {α : Type} {K : Kd α} {w w' : World} {g i : Nat} {x : α} {s : Value} {lo up : Nat} (h : ElX K w g i x s lo up) (hg : w'.heap[g]? = w.heap[g]?) (hb : ∀ c, lo ≤ c → c < up → w'.heap[c]? = w.heap[c]?) (hs : w.heap.size ≤ w'.heap.size) : ElX K w' g i x s lo up :=
  ⟨fun t ht => by rw [World.cell?_of_block (w := w) hg]; exact h.1 t ht, K.frame h.2 hb hs⟩
theorem LC.frame {α : Type} {K : Kd α} {base hi : Nat} {w w' : World} {v : Value} {xs : List α} (h : LC K base hi w v xs) (hb : ∀ c, base ≤ c → c < hi → w'.heap[c]? = w.heap[c]?) (hs : w.heap.size ≤ w'.heap.size) : LC K base hi w' v xs := by
  obtain ⟨h0, h⟩ := h
  refine ⟨by omega, ?_⟩
  rcases h with h | ⟨g, cap, ss, lo, up, e, h1, h2, h3, h4, h5, h6⟩
  · exact .inl h
  · have hg := hb g h2 h3
    refine .inr ⟨g, cap, ss, lo, up, e, h1, h2, h3, fun i hi' => ?_, fun j hj => ?_, h6⟩
    · have := h4 i hi'
      simp only [World.cell?, World.frozen?, hg] at this ⊢
      exact this
    · obtain ⟨a1, a2, a3, a4⟩ := h5 j hj
      exact ⟨a1.blk hg (fun c c1 c2 => hb c (by omega) (by omega)) hs, a2, a3, a4⟩
theorem LC.below {α : Type} {K : Kd α} {base hi : Nat} {w w' : World} {v : Value} {xs : List α} (h : LC K base hi w v xs) (H : Below w.heap.size w w') : LC K base hi w' v xs :=
  h.frame (fun c _ h2 => H.block c (by have := h.1; omega)) H.size
theorem LC.form {α : Type} {K : Kd α} {base hi : Nat} {w : World} {v : Value} {xs : List α} (h : LC K base hi w v xs) : ∃ a cap, v = .slice a xs.length cap ∧ xs.length ≤ cap ∧ (∀ c off, a = some ⟨c, off, none⟩ → base ≤ c ∧ c < hi) := by
  rcases h.2 with ⟨rfl, e⟩ | ⟨g, cap, ss, lo, up, e, h1, h2, h3, h4, h5, h6⟩
  · exact ⟨none, 0, e, by simp, fun c off e => by cases e⟩
  · exact ⟨_, cap, e, h1, fun c off e => by cases e; exact ⟨h2, h3⟩⟩
/-- The points of a change, in a block of their own. -/
def subC (lo up : Nat) (w : World) (v : Value) (x : Ch) : Prop := up ≤ w.heap.size ∧ ∃ c cp, v = .slice (some ⟨c, 0, none⟩) x.2.2.2.length cp ∧ x.2.2.2.length ≤ cp ∧ x.2.2.2.length ≤ 1099511627776 ∧ lo ≤ c ∧ c < up ∧ PtsOwn w c x.2.2.2
def KC : Kd Ch where
  sz := 4
  vals := fun x v => [.int .i64 x.1, .bool x.2.1, .int .i64 x.2.2.1, v]
  sub := subC
  len := fun _ _ => rfl
  one := by
    rintro lo up w v x ⟨_, c, cp, rfl, _⟩ u hu
    simp at hu
    rcases hu with rfl | rfl | rfl | rfl <;> rfl
  frame := by
    rintro lo up w w' v x ⟨h0, c, cp, e, h1, h2, h3, h4, h5⟩ hb hs
    exact ⟨by omega, c, cp, e, h1, h2, h3, h4, own_blk h5 (hb c h3 h4) (by omega)⟩
  top := fun h => h.1
/-- A change's points, or none. -/
def subN (lo up : Nat) (w : World) (v : Value) (x : Ch) : Prop := subC lo up w v x ∨ (up ≤ w.heap.size ∧ v = .slice none 0 0 ∧ x.2.2.2 = [])
def KN : Kd Ch where
  sz := 4
  vals := fun x v => [.int .i64 x.1, .bool x.2.1, .int .i64 x.2.2.1, v]
  sub := subN
  len := fun _ _ => rfl
  one := by
    rintro lo up w v x h u hu
    have hv : ∃ a n c, v = .slice a n c := by
      rcases h with ⟨_, c, cp, e, _⟩ | ⟨_, e, _⟩ <;> exact ⟨_, _, _, e⟩
    obtain ⟨a, n, c, rfl⟩ := hv
    simp at hu
    rcases hu with rfl | rfl | rfl | rfl <;> rfl
  frame := by
    rintro lo up w w' v x h hb hs
    rcases h with h | ⟨h1, h2, h3⟩
    · exact .inl (KC.frame h hb hs)
    · exact .inr ⟨by omega, h2, h3⟩
  top := fun h => by
    rcases h with h | h
    · exact h.1
    · exact h.1
theorem LC.chsN {base hi : Nat} {w : World} {a : Option Addr} {n cap : Nat} {xs : List Ch} (h : LC KN base hi w (.slice a n cap) xs) : Chs (fun c => base ≤ c ∧ c < hi) 1099511627776 w a xs := by
  obtain ⟨h0, h⟩ := h
  rcases h with ⟨rfl, _⟩ | ⟨g, cp, ss, lo, up, e, h1, h2, h3, h4, h5, h6⟩
  · exact .inl rfl
  · cases e
    refine .inr ⟨g, 0, rfl, by omega, fun j hj => ?_⟩
    obtain ⟨⟨b1, hb⟩, a2, a3, a4⟩ := h5 j hj
    have k0 := b1 0 (by decide)
    have k1 := b1 1 (by decide)
    have k2 := b1 2 (by decide)
    have k3 := b1 3 (by decide)
    rw [Nat.zero_add]
    rcases hb with ⟨_, c, cq, e, b2, b3, b4, b5, b6⟩ | ⟨_, e, hn⟩
    · simp only [KN, e] at k0 k1 k2 k3
      exact ⟨_, _, k0, k1, k2, k3, b2, b3, b6.pts, fun c' off e' => by cases e'; omega⟩
    · simp only [KN, e] at k0 k1 k2 k3
      refine ⟨none, 0, k0, k1, k2, ?_, by rw [hn]; simp, by rw [hn]; simp, .inl hn, fun c' off e' => by cases e'⟩
      rw [hn]; exact k3
theorem ElX.set {α : Type} {K : Kd α} {w : World} {g i k : Nat} {x : α} {s : Value} {lo up : Nat} (h : ElX K w g i x s lo up) (hg : g < lo ∨ up ≤ g) (hk : k < i * K.sz ∨ i * K.sz + K.sz ≤ k) (u : Value) : ElX K (w.setCell ⟨g, k, none⟩ u) g i x s lo up := by
  refine ⟨fun t ht => ?_, K.frame h.2 (fun c c1 c2 => Below.heap_setCell _ _ _ _ (by dsimp only; omega)) (by simp)⟩
  rw [World.cell?_setCell_other _ _ _ _ (by intro e; injection e; omega)]
  exact h.1 t ht
def kcn (xs : List Ch) : Int := (xs.map (fun r => 3 + 2 * (r.2.2.2.length : Int))).sum
def kkc (k0 : Int) (xs : List Ch) (j : Nat) : Int := k0 + kcn (xs.take j)
theorem kkc_next {k0 : Int} {xs : List Ch} {j : Nat} (h : j < xs.length) : kkc k0 xs (j + 1) = kkc k0 xs j + 3 + 2 * (xs[j].2.2.2.length : Int) := by
  unfold kkc kcn
  rw [List.take_add_one, List.getElem?_eq_getElem h, List.map_append, List.sum_append]
  simp only [Option.toList, List.map_cons, List.map_nil, List.sum_cons, List.sum_nil]
  omega
theorem kkc_bound {k0 : Int} {xs : List Ch} (hl : ∀ m (h : m < xs.length), xs[m].2.2.2.length ≤ 1048576) : ∀ j, j ≤ xs.length → k0 ≤ kkc k0 xs j ∧ kkc k0 xs j ≤ k0 + (j : Int) * 2097155 := by
  intro j
  induction j with
  | zero => intro _; simp [kkc, kcn]
  | succ j ih =>
    intro hj
    obtain ⟨h1, h2⟩ := ih (by omega)
    have h3 := hl j (by omega)
    rw [kkc_next (by omega)]
    constructor <;> omega
def mke (k : Int) (r : Ch) : Ch := (k, ((k + 1) % 3 == 0), k + 2, tkk (k + 3) r.2.2.2.length)
def mkc (k0 : Int) (xs : List Ch) : List Ch := xs.mapIdx (fun j r => mke (kkc k0 xs j) r)
theorem mkc_len (k0 : Int) (xs : List Ch) : (mkc k0 xs).length = xs.length := by simp [mkc]
theorem mkc_at {k0 : Int} {xs : List Ch} {j : Nat} (h : j < xs.length) : (mkc k0 xs)[j]'(by rw [mkc_len]; exact h) = mke (kkc k0 xs j) xs[j] := by simp [mkc]
theorem mkc_S {k0 : Int} {xs : List Ch} (h : chS xs) : chS (mkc k0 xs) := by
  refine ⟨by rw [mkc_len]; exact h.1, fun m hm => ?_⟩
  have hm' := hm
  rw [mkc_len] at hm'
  rw [mkc_at hm']
  simp only [mke, tkk_len]
  exact h.2 m hm'
theorem mid_wide {lo hi lo' hi' : Nat} {w w' : World} (h : Mid lo' hi' w w') (h1 : lo ≤ lo') (h2 : hi' ≤ hi) : Mid lo hi w w' := ⟨h.1, h.2.1, h.2.2.1, h.2.2.2.1, fun k hk h3 => h.2.2.2.2 k hk (by omega)⟩
/-- Of what was there only blocks from lo on below hi have turned, and none from p on below q. -/
def MidH (lo hi p q : Nat) (w w' : World) : Prop := Mid lo hi w w' ∧ ∀ k, k < w.heap.size → p ≤ k → k < q → w'.heap[k]? = w.heap[k]?
theorem midh_refl (lo hi p q : Nat) (w : World) : MidH lo hi p q w w := ⟨mid_refl _ _ _, fun _ _ _ _ => rfl⟩
theorem midh_trans {lo hi p q : Nat} {a b c : World} (h : MidH lo hi p q a b) (k : MidH lo hi p q b c) : MidH lo hi p q a c :=
  ⟨mid_trans h.1 k.1, fun x hx h1 h2 => (k.2 x (Nat.lt_of_lt_of_le hx h.1.2.2.2.1) h1 h2).trans (h.2 x hx h1 h2)⟩
theorem midh_set {lo hi p q b k : Nat} {w w1 : World} (h : MidH lo hi p q w w1) (h1 : lo ≤ b) (h2 : b < hi) (h3 : b < p ∨ q ≤ b) (u : Value) : MidH lo hi p q w (w1.setCell ⟨b, k, none⟩ u) :=
  ⟨mid_set h.1 h1 h2 u, fun x hx e1 e2 => by rw [Below.heap_setCell _ _ _ _ (by dsimp only; omega)]; exact h.2 x hx e1 e2⟩
theorem midh_wide {lo hi p q l u : Nat} {w w' : World} (h : Mid l u w w') (h1 : lo ≤ l) (h2 : u ≤ hi) (h3 : u ≤ p ∨ q ≤ l) : MidH lo hi p q w w' :=
  ⟨mid_wide h h1 h2, fun x hx e1 e2 => mid_blk h hx (by omega)⟩
/-- A list in memory of its own, cell by cell, none of it in the hole from p on below q. -/
def LCH {α : Type} (K : Kd α) (base hi p q : Nat) (w : World) (v : Value) (xs : List α) : Prop :=
  hi ≤ w.heap.size ∧ ((xs = [] ∧ v = .slice none 0 0) ∨ ∃ (g cap : Nat) (ss : Nat → Value) (lo up : Nat → Nat), v = .slice (some ⟨g, 0, none⟩) xs.length cap ∧ xs.length ≤ cap ∧ base ≤ g ∧ g < hi ∧ w.there g 0 (xs.length * K.sz) ∧
  (∀ j (h : j < xs.length), ElX K w g j xs[j] (ss j) (lo j) (up j) ∧ base ≤ lo j ∧ up j ≤ hi ∧ (g < lo j ∨ up j ≤ g)) ∧ (∀ i j, i ≠ j → i < xs.length → j < xs.length → up i ≤ lo j ∨ up j ≤ lo i) ∧ (g < p ∨ q ≤ g) ∧ (∀ j, j < xs.length → up j ≤ p ∨ q ≤ lo j))
theorem LCH.lc {α : Type} {K : Kd α} {base hi p q : Nat} {w : World} {v : Value} {xs : List α} (h : LCH K base hi p q w v xs) : LC K base hi w v xs := by
  obtain ⟨h0, h | ⟨g, cap, ss, lo, up, h1, h2, h3, h4, h5, h6, h7, _, _⟩⟩ := h
  · exact ⟨h0, .inl h⟩
  · exact ⟨h0, .inr ⟨g, cap, ss, lo, up, h1, h2, h3, h4, h5, h6, h7⟩⟩
theorem LC.hole {α : Type} {K : Kd α} {base hi p q : Nat} {w : World} {v : Value} {xs : List α} (h : LC K base hi w v xs) (hd : hi ≤ p ∨ q ≤ base) : LCH K base hi p q w v xs := by
  obtain ⟨h0, h | ⟨g, cap, ss, lo, up, h1, h2, h3, h4, h5, h6, h7⟩⟩ := h
  · exact ⟨h0, .inl h⟩
  · exact ⟨h0, .inr ⟨g, cap, ss, lo, up, h1, h2, h3, h4, h5, h6, h7, by omega, fun j hj => by have := (h6 j hj).2; omega⟩⟩
/-- It stands where only the hole has turned. -/
theorem LCH.frame {α : Type} {K : Kd α} {base hi p q : Nat} {w w' : World} {v : Value} {xs : List α} (h : LCH K base hi p q w v xs) (hb : ∀ c, base ≤ c → c < hi → (c < p ∨ q ≤ c) → w'.heap[c]? = w.heap[c]?) (hs : w.heap.size ≤ w'.heap.size) : LCH K base hi p q w' v xs := by
  obtain ⟨h0, h | ⟨g, cap, ss, lo, up, h1, h2, h3, h4, h5, h6, h7, h8, h9⟩⟩ := h
  · exact ⟨by omega, .inl h⟩
  · have eg := hb g h3 h4 h8
    refine ⟨by omega, .inr ⟨g, cap, ss, lo, up, h1, h2, h3, h4, fun j hj => ?_, fun j hj => ?_, h7, h8, h9⟩⟩
    · obtain ⟨s1, s2⟩ := h5 j hj
      simp only [World.cell?, World.frozen?, eg]; exact ⟨s1, s2⟩
    · obtain ⟨a1, a2, a3, a4⟩ := h6 j hj
      have a5 := h9 j hj
      exact ⟨a1.blk eg (fun c c1 c2 => hb c (by omega) (by omega) (by omega)) hs, a2, a3, a4⟩
theorem LCH.below {α : Type} {K : Kd α} {base hi p q : Nat} {w w' : World} {v : Value} {xs : List α} (h : LCH K base hi p q w v xs) (H : Below w.heap.size w w') : LCH K base hi p q w' v xs :=
  h.frame (fun c _ h2 _ => H.block c (by have := h.1; omega)) H.size
theorem midh_grown {lo hi p q b : Nat} {w w1 w2 : World} (h : MidH lo hi p q w w1) (g : w1.grownBy w2 (some b)) (h1 : lo ≤ b) (h2 : b < hi) (h3 : b < p ∨ q ≤ b) : MidH lo hi p q w w2 :=
  ⟨mid_grown h.1 g h1 h2, fun x hx e1 e2 => (g.block x (Nat.lt_of_lt_of_le hx h.1.2.2.2.1) (fun e => by cases e; omega)).trans (h.2 x hx e1 e2)⟩
theorem ElX.kn {w : World} {g i : Nat} {x : Ch} {s : Value} {lo up : Nat} (h : ElX KC w g i x s lo up) : ElX KN w g i x s lo up := ⟨h.1, .inl h.2⟩
theorem LCH.kn {base hi p q : Nat} {w : World} {v : Value} {xs : List Ch} (h : LCH KC base hi p q w v xs) : LCH KN base hi p q w v xs := by
  obtain ⟨h0, h | ⟨g, cap, ss, lo, up, a1, a2, a3, a4, a5, a6, a7, a8⟩⟩ := h
  · exact ⟨h0, .inl h⟩
  · exact ⟨h0, .inr ⟨g, cap, ss, lo, up, a1, a2, a3, a4, a5, fun j hj => ⟨(a6 j hj).1.kn, (a6 j hj).2⟩, a7, a8⟩⟩
theorem flat_kn (ps : List (Ch × Value)) : flatK KN ps = flatK KC ps := rfl
theorem LX.kn {t : TypeId} {base hi : Nat} {w : World} {v : Value} {xs : List Ch} {ps : List (Ch × Value)} (h : LX KC t base hi w v xs ps) : LX KN t base hi w v xs ps := by
  obtain ⟨h1, h2, h3, h4, lo, up, h5, h6⟩ := h
  exact ⟨h1, h2, h3, h4, lo, up, fun j hj => ⟨.inl (h5 j hj).1, (h5 j hj).2⟩, h6⟩
theorem bnes (b : Bool) : (b != b) = false := by cases b <;> rfl
end Go.Proofs.YtdaheepfmnjadaaGreatDoor
namespace Go.Proofs.YtdaheepfmnjadaaGreatDoor
open Go.RowKit
set_option linter.unusedSimpArgs false
set_option linter.unusedVariables false
/-- A change under way: what the call answers in lies at the old end, the change in the block Q. -/
def CG (w : World) (p : Nat) (a : Option Addr) (len cap : Nat) (Q : Nat) (id : Int) (gn : Bool) (kd : Int) (vs : Value) (ps : List (Int × Int)) (v : World) : Prop :=
  v.heap[w.heap.size]? = some (.cells #[.int .i64 0, .bool false, .int .i64 0, .slice none 0 0] 63 (0, 0)) ∧ v.heap[Q]? = some (.cells #[.int .i64 id, .bool gn, .int .i64 kd, vs] 63 (0, 0)) ∧ w.heap.size < Q ∧ ps.length ≤ 61 ∧ PtRow v w.heap.size vs ps ∧ vs.ownBlock ≠ some Q ∧ vs.ownBlock ≠ some w.heap.size ∧ Ready v p a len cap ∧ w.grownBy v (some p) ∧ p < w.heap.size
theorem PtRow.grown {w w' : World} {B p : Nat} {v : Value} {ps : List (Int × Int)} (h : PtRow w B v ps) (hg : w.grownBy w' (some p)) (hp : p < B) : PtRow w' B v ps :=
  own_frame h (fun g e => hg.block g (World.ownsRow.lt h g e).2 (fun q => by have := (World.ownsRow.lt h g e).1; injection q with q; omega))
theorem PtRow.low {w : World} {B B' : Nat} {v : Value} {ps : List (Int × Int)} (h : PtRow w B v ps) (hB : B' ≤ B) : PtRow w B' v ps := by
  refine ⟨h.1, ?_⟩
  rcases h.2 with q | ⟨g, c, cur, e1, q1, q2, q3⟩
  · exact .inl q
  · exact .inr ⟨g, c, cur, e1, Nat.le_trans hB q1, q2, q3⟩
theorem CG.grown {w : World} {p : Nat} {a : Option Addr} {len cap Q : Nat} {id : Int} {gn : Bool} {kd : Int} {vs : Value} {ps : List (Int × Int)} {v v' : World} (h : CG w p a len cap Q id gn kd vs ps v) (hr : Ready v' p a len cap) (hg : v.grownBy v' (some p)) : CG w p a len cap Q id gn kd vs ps v' := by
  obtain ⟨h1, h2, h3, h4, h5, h6, h7, h8, h9, h10⟩ := h
  exact ⟨grown_blk hg h1 (by omega), grown_blk hg h2 (by omega), h3, h4, h5.grown hg h10, h6, h7, hr, grown_trans h9 hg, h10⟩
theorem CG.id {w : World} {p : Nat} {a : Option Addr} {len cap Q : Nat} {id : Int} {gn : Bool} {kd : Int} {vs : Value} {ps : List (Int × Int)} {v : World} (h : CG w p a len cap Q id gn kd vs ps v) (id' : Int) : CG w p a len cap Q id' gn kd vs ps (v.setCell ⟨Q, 0, none⟩ (.int .i64 id')) := by
  obtain ⟨h1, h2, h3, h4, h5, h6, h7, h8, h9, h10⟩ := h
  exact ⟨set_far h1 (by omega), set_at h2, h3, h4, own_frame h5 (fun g e => Below.heap_setCell _ _ _ _ (fun q => h6 (e.trans (congrArg some q)))), h6, h7, h8.set (by omega) _, grown_setn h9 (by omega) _, h10⟩
theorem CG.sh {w : World} {p : Nat} {a : Option Addr} {len cap Q : Nat} {id : Int} {gn : Bool} {kd : Int} {vs : Value} {ps : List (Int × Int)} {v v' : World} (h : CG w p a len cap Q id gn kd vs ps v) {vs' : Value} {ps' : List (Int × Int)} (hr : Ready v' p a len cap) (hg : v.grownBy v' (some p)) (hl : ps'.length ≤ 61) (hp : PtRow v' v.heap.size vs' ps') (kd' : Int) : CG w p a len cap Q id gn kd' vs' ps' ((v'.setCell ⟨Q, 2, none⟩ (.int .i64 kd')).setCell ⟨Q, 3, none⟩ vs') := by
  have hQ := lt_of_block h.2.1
  have hW := lt_of_block h.1
  have hX := h.grown hr hg
  have n1 : ∀ g, vs'.ownBlock = some g → v.heap.size ≤ g := fun g e => (World.ownsRow.lt hp g e).1
  obtain ⟨h1, h2, h3, h4, h5, h6, h7, h8, h9, h10⟩ := hX
  refine ⟨set_far (set_far h1 (by omega)) (by omega), set_at (set_at h2), h3, hl, PtRow.low (own_frame hp (fun g e => ?_)) (Nat.le_of_lt hW), fun e => by have := n1 _ e; omega, fun e => by have := n1 _ e; omega, (h8.set (by omega) _).set (by omega) _, grown_setn (grown_setn h9 (by omega) _) (by omega) _, h10⟩
  have := n1 g e
  rw [Below.heap_setCell _ _ _ _ (by dsimp only; omega), Below.heap_setCell _ _ _ _ (by dsimp only; omega)]
theorem CG.fin {w : World} {p : Nat} {a : Option Addr} {len cap Q : Nat} {id : Int} {gn : Bool} {kd : Int} {vs : Value} {ps : List (Int × Int)} {v : World} (h : CG w p a len cap Q id gn kd vs ps v) :
    ((((v.setCell ⟨w.heap.size, 0, none⟩ (.int .i64 id)).setCell ⟨w.heap.size, 1, none⟩ (.bool gn)).setCell ⟨w.heap.size, 2, none⟩ (.int .i64 kd)).setCell ⟨w.heap.size, 3, none⟩ vs).heap[w.heap.size]? = some (.cells #[.int .i64 id, .bool gn, .int .i64 kd, vs] 63 (0, 0)) ∧ PtRow ((((v.setCell ⟨w.heap.size, 0, none⟩ (.int .i64 id)).setCell ⟨w.heap.size, 1, none⟩ (.bool gn)).setCell ⟨w.heap.size, 2, none⟩ (.int .i64 kd)).setCell ⟨w.heap.size, 3, none⟩ vs) w.heap.size vs ps ∧ Ready ((((v.setCell ⟨w.heap.size, 0, none⟩ (.int .i64 id)).setCell ⟨w.heap.size, 1, none⟩ (.bool gn)).setCell ⟨w.heap.size, 2, none⟩ (.int .i64 kd)).setCell ⟨w.heap.size, 3, none⟩ vs) p a len cap ∧ w.grownBy ((((v.setCell ⟨w.heap.size, 0, none⟩ (.int .i64 id)).setCell ⟨w.heap.size, 1, none⟩ (.bool gn)).setCell ⟨w.heap.size, 2, none⟩ (.int .i64 kd)).setCell ⟨w.heap.size, 3, none⟩ vs) (some p) := by
  obtain ⟨h1, h2, h3, h4, h5, h6, h7, h8, h9, h10⟩ := h
  refine ⟨set_at (set_at (set_at (set_at h1))), own_frame h5 (fun g e => ?_), (((h8.set h10 _).set h10 _).set h10 _).set h10 _, grown_setn (grown_setn (grown_setn (grown_setn h9 (Nat.le_refl _) _) (Nat.le_refl _) _) (Nat.le_refl _) _) (Nat.le_refl _) _⟩
  have hne : g ≠ w.heap.size := fun q => h7 (e.trans (congrArg some q))
  rw [Below.heap_setCell _ _ _ _ hne, Below.heap_setCell _ _ _ _ hne, Below.heap_setCell _ _ _ _ hne, Below.heap_setCell _ _ _ _ hne]
theorem cell4c {w : World} {p : Nat} {a b c d : Value} {t : TypeId} (h : w.heap[p]? = some (.cells #[a, b, c, d] t (0, 0))) : (w.cell? ⟨p, 0, none⟩ = some a ∧ w.cell? ⟨p, 1, none⟩ = some b ∧ w.cell? ⟨p, 2, none⟩ = some c ∧ w.cell? ⟨p, 3, none⟩ = some d) ∧ w.frozen? ⟨p, 0, none⟩ = false ∧ w.frozen? ⟨p, 1, none⟩ = false ∧ w.frozen? ⟨p, 2, none⟩ = false ∧ w.frozen? ⟨p, 3, none⟩ = false := by
  refine ⟨⟨?_, ?_, ?_, ?_⟩, ?_, ?_, ?_, ?_⟩ <;> simp [World.cell?, World.frozen?, h]
set_option maxRecDepth 100000 in
set_option maxHeartbeats 8000000 in
theorem change_r (w : World) (p : Nat) (a : Option Addr) (len cap : Nat) (h : Ready w p a len cap) : Calls Tryz.prog 45 #[.pointer (some ⟨p, 0, none⟩)] w fun e w' => ∃ id : Int, ∃ gn : Bool, ∃ kd : Int, ∃ ps : List (Int × Int), ∃ v, e = .returned (.agg #[.int .i64 id, .bool gn, .int .i64 kd, v]) ∧ ps.length ≤ 61 ∧ PtRow w' w.heap.size v ps ∧ Ready w' p a len cap ∧ w.grownBy w' (some p) := by
  have hp := h.lt
  go_enter Tryz.func45, Tryz.ntmps45
  go_upto_region 1 with fail
  have gR := heap_alloc_new w (.cells #[.int .i64 0, .bool false, .int .i64 0, .slice none 0 0] 63)
  have hr := h.alloc (.cells #[.int .i64 0, .bool false, .int .i64 0, .slice none 0 0] 63)
  have hg := grown_alloc w (.cells #[.int .i64 0, .bool false, .int .i64 0, .slice none 0 0] 63) (some p)
  generalize w.alloc (.cells #[.int .i64 0, .bool false, .int .i64 0, .slice none 0 0] 63) = v0 at *
  clear h
  go_wp2_with fail
  refine (below_r _ p a len cap 6 (by omega) (by omega) hr).mono ?_
  rintro e v1 ⟨x, rfl, hx0, hx1, hr2, hg2⟩
  replace gR := grown_blk hg2 gR (by omega)
  replace hg := grown_trans hg hg2
  clear hr hg2
  go_wp2_with fail
  refine (once_r _ p a len cap 4 (by omega) (by omega) hr2).mono ?_
  rintro e v2 ⟨b, rfl, hr, hg2⟩
  replace gR := grown_blk hg2 gR (by omega)
  replace hg := grown_trans hg hg2
  clear hr2 hg2
  have hwx : IntKind.i64.wrap (1 + x) = 1 + x := by rw [IntKind.wrap_i64]; omega
  go_upto_region 2 with fail
  generalize 1 + x = id at *
  have hlR := lt_of_block gR
  have HC : CG w p a len cap v2.heap.size id b 0 (.slice none 0 0) [] (v2.alloc (.cells #[.int .i64 id, .bool b, .int .i64 0, .slice none 0 0] 63)) := ⟨old_alloc gR, heap_alloc_new v2 _, hlR, by simp, ⟨rfl, .inl ⟨rfl, rfl⟩⟩, by simp [Value.ownBlock], by simp [Value.ownBlock], hr.alloc _, grown_trans hg (grown_alloc _ _ _), hp⟩
  clear gR hr hg hlR hx0 hx1 hwx
  generalize v2.alloc (.cells #[.int .i64 id, .bool b, .int .i64 0, .slice none 0 0] 63) = v3 at *
  generalize v2.heap.size = Q at *
  have H := hid HC
  clear HC
  cases b
  · skip
    obtain ⟨⟨k0, k1, k2, k3⟩, j0, j1, j2, j3⟩ := cell4c H.out.2.1
    go_wp2_with fail
    refine (right_r _ p a len cap H.out.2.2.2.2.2.2.2.1).mono ?_
    rintro e v4 ⟨kd, ps, vs, rfl, hl1, hl2, hrow, hr, hg⟩
    obtain ⟨ao, cp, rfl, _, _⟩ := hrow.pts
    clear k0 k1 k2 k3 j0 j1 j2 j3
    obtain ⟨⟨k0, k1, k2, k3⟩, j0, j1, j2, j3⟩ := cell4c (H.out.grown hr hg).2.1
    replace H := hid (H.out.sh hr hg (by omega) hrow kd)
    clear hr hg hrow
    go_upto_region 4 with fail
    clear k0 k1 k2 k3 j0 j1 j2 j3
    generalize (v4.setCell ⟨Q, 2, none⟩ (.int .i64 kd)).setCell ⟨Q, 3, none⟩ (.slice ao ps.length cp) = v4x at *
    go_wp2_with fail
    refine (below_r _ p a len cap 30 (by omega) (by omega) H.out.2.2.2.2.2.2.2.1).mono ?_
    rintro e v5 ⟨x, rfl, hx0, hx1, hr, hg⟩
    replace H := hid (H.out.grown hr hg)
    clear hr hg
    by_cases hx : x = 0
    · subst hx
      have hr := H.out.2.2.2.2.2.2.2.1
      have hpv := hr.lt
      obtain ⟨⟨k0, k1, k2, k3⟩, j0, j1, j2, j3⟩ := cell4c H.out.2.1
      go_wp2_with fail
      refine (pick_p (fun _ => True) _ p a len cap _ 3 (by omega) (by omega) (by omega) (intsP_new (fun _ => True) v5 [0, 999999999, 1000000000] 3 (fun _ _ => trivial)) (hr.alloc _)).mono ?_
      rintro e v6 ⟨id', rfl, _, hr2, hg2⟩
      replace H := hid (H.out.grown hr2 (grown_trans (grown_alloc _ _ _) hg2))
      clear k0 k1 k2 k3 j0 j1 j2 j3
      clear hr hpv hr2 hg2
      obtain ⟨⟨k0, k1, k2, k3⟩, j0, j1, j2, j3⟩ := cell4c H.out.2.1
      go_upto_region 9 with fail
      replace H := hid (H.out.id id')
      clear k0 k1 k2 k3 j0 j1 j2 j3
      generalize v6.setCell ⟨Q, 0, none⟩ (.int .i64 id') = v7 at *
      obtain ⟨⟨k0, k1, k2, k3⟩, j0, j1, j2, j3⟩ := cell4c H.out.2.1
      obtain ⟨_, s0, s1, s2, s3⟩ := cell4c H.out.1
      obtain ⟨gF, pF, rF, wF⟩ := H.out.fin
      have HL := hid H.out.2.2.2.1
      have HP := hid pF
      clear pF H
      go_wp2_with fail
      generalize (((v7.setCell ⟨w.heap.size, 0, none⟩ (.int .i64 id')).setCell ⟨w.heap.size, 1, none⟩ (.bool false)).setCell ⟨w.heap.size, 2, none⟩ (.int .i64 kd)).setCell ⟨w.heap.size, 3, none⟩ (.slice ao ps.length cp) = wf at *
      obtain ⟨⟨z0, z1, z2, z3⟩, _⟩ := cell4c gF
      exact bodyPost_ret (v := .agg #[.int .i64 id', .bool false, .int .i64 kd, (.slice ao ps.length cp)]) (by simp [results, Tryz.results45, go_sem, z0, z1, z2, z3]) rfl ⟨_, _, _, _, _, rfl, HL.out, HP.out, rF, wF⟩
    by_cases hy : x = 1
    · subst hy
      obtain ⟨⟨k0, k1, k2, k3⟩, j0, j1, j2, j3⟩ := cell4c H.out.2.1
      go_wp2_with fail
      refine (any_r _ p a len cap H.out.2.2.2.2.2.2.2.1).mono ?_
      rintro e v6 ⟨kd', ps', vs', rfl, hl, hrow, hr, hg⟩
      obtain ⟨ao', cp', rfl, _, _⟩ := hrow.pts
      clear k0 k1 k2 k3 j0 j1 j2 j3
      obtain ⟨⟨k0, k1, k2, k3⟩, j0, j1, j2, j3⟩ := cell4c (H.out.grown hr hg).2.1
      replace H := hid (H.out.sh hr hg (by omega) hrow kd')
      clear hr hg hrow
      go_upto_region 9 with fail
      clear k0 k1 k2 k3 j0 j1 j2 j3
      generalize (v6.setCell ⟨Q, 2, none⟩ (.int .i64 kd')).setCell ⟨Q, 3, none⟩ (.slice ao' ps'.length cp') = v7 at *
      obtain ⟨⟨k0, k1, k2, k3⟩, j0, j1, j2, j3⟩ := cell4c H.out.2.1
      obtain ⟨_, s0, s1, s2, s3⟩ := cell4c H.out.1
      obtain ⟨gF, pF, rF, wF⟩ := H.out.fin
      have HL := hid H.out.2.2.2.1
      have HP := hid pF
      clear pF H
      go_wp2_with fail
      generalize (((v7.setCell ⟨w.heap.size, 0, none⟩ (.int .i64 id)).setCell ⟨w.heap.size, 1, none⟩ (.bool false)).setCell ⟨w.heap.size, 2, none⟩ (.int .i64 kd')).setCell ⟨w.heap.size, 3, none⟩ (.slice ao' ps'.length cp') = wf at *
      obtain ⟨⟨z0, z1, z2, z3⟩, _⟩ := cell4c gF
      exact bodyPost_ret (v := .agg #[.int .i64 id, .bool false, .int .i64 kd', (.slice ao' ps'.length cp')]) (by simp [results, Tryz.results45, go_sem, z0, z1, z2, z3]) rfl ⟨_, _, _, _, _, rfl, HL.out, HP.out, rF, wF⟩
    go_upto_region 9 with fail
    obtain ⟨⟨k0, k1, k2, k3⟩, j0, j1, j2, j3⟩ := cell4c H.out.2.1
    obtain ⟨_, s0, s1, s2, s3⟩ := cell4c H.out.1
    obtain ⟨gF, pF, rF, wF⟩ := H.out.fin
    have HL := hid H.out.2.2.2.1
    have HP := hid pF
    clear pF H
    go_wp2_with fail
    generalize (((v5.setCell ⟨w.heap.size, 0, none⟩ (.int .i64 id)).setCell ⟨w.heap.size, 1, none⟩ (.bool false)).setCell ⟨w.heap.size, 2, none⟩ (.int .i64 kd)).setCell ⟨w.heap.size, 3, none⟩ (.slice ao ps.length cp) = wf at *
    obtain ⟨⟨z0, z1, z2, z3⟩, _⟩ := cell4c gF
    exact bodyPost_ret (v := .agg #[.int .i64 id, .bool false, .int .i64 kd, (.slice ao ps.length cp)]) (by simp [results, Tryz.results45, go_sem, z0, z1, z2, z3]) rfl ⟨_, _, _, _, _, rfl, HL.out, HP.out, rF, wF⟩
  · skip
    obtain ⟨⟨k0, k1, k2, k3⟩, j0, j1, j2, j3⟩ := cell4c H.out.2.1
    go_upto_region 4 with fail
    clear k0 k1 k2 k3 j0 j1 j2 j3
    go_wp2_with fail
    refine (below_r _ p a len cap 30 (by omega) (by omega) H.out.2.2.2.2.2.2.2.1).mono ?_
    rintro e v5 ⟨x, rfl, hx0, hx1, hr, hg⟩
    replace H := hid (H.out.grown hr hg)
    clear hr hg
    by_cases hx : x = 0
    · subst hx
      have hr := H.out.2.2.2.2.2.2.2.1
      have hpv := hr.lt
      obtain ⟨⟨k0, k1, k2, k3⟩, j0, j1, j2, j3⟩ := cell4c H.out.2.1
      go_wp2_with fail
      refine (pick_p (fun _ => True) _ p a len cap _ 3 (by omega) (by omega) (by omega) (intsP_new (fun _ => True) v5 [0, 999999999, 1000000000] 3 (fun _ _ => trivial)) (hr.alloc _)).mono ?_
      rintro e v6 ⟨id', rfl, _, hr2, hg2⟩
      replace H := hid (H.out.grown hr2 (grown_trans (grown_alloc _ _ _) hg2))
      clear k0 k1 k2 k3 j0 j1 j2 j3
      clear hr hpv hr2 hg2
      obtain ⟨⟨k0, k1, k2, k3⟩, j0, j1, j2, j3⟩ := cell4c H.out.2.1
      go_upto_region 9 with fail
      replace H := hid (H.out.id id')
      clear k0 k1 k2 k3 j0 j1 j2 j3
      generalize v6.setCell ⟨Q, 0, none⟩ (.int .i64 id') = v7 at *
      obtain ⟨⟨k0, k1, k2, k3⟩, j0, j1, j2, j3⟩ := cell4c H.out.2.1
      obtain ⟨_, s0, s1, s2, s3⟩ := cell4c H.out.1
      obtain ⟨gF, pF, rF, wF⟩ := H.out.fin
      have HL := hid H.out.2.2.2.1
      have HP := hid pF
      clear pF H
      go_wp2_with fail
      generalize (((v7.setCell ⟨w.heap.size, 0, none⟩ (.int .i64 id')).setCell ⟨w.heap.size, 1, none⟩ (.bool true)).setCell ⟨w.heap.size, 2, none⟩ (.int .i64 0)).setCell ⟨w.heap.size, 3, none⟩ (.slice none 0 0) = wf at *
      obtain ⟨⟨z0, z1, z2, z3⟩, _⟩ := cell4c gF
      exact bodyPost_ret (v := .agg #[.int .i64 id', .bool true, .int .i64 0, (.slice none 0 0)]) (by simp [results, Tryz.results45, go_sem, z0, z1, z2, z3]) rfl ⟨_, _, _, _, _, rfl, HL.out, HP.out, rF, wF⟩
    by_cases hy : x = 1
    · subst hy
      obtain ⟨⟨k0, k1, k2, k3⟩, j0, j1, j2, j3⟩ := cell4c H.out.2.1
      go_wp2_with fail
      refine (any_r _ p a len cap H.out.2.2.2.2.2.2.2.1).mono ?_
      rintro e v6 ⟨kd', ps', vs', rfl, hl, hrow, hr, hg⟩
      obtain ⟨ao', cp', rfl, _, _⟩ := hrow.pts
      clear k0 k1 k2 k3 j0 j1 j2 j3
      obtain ⟨⟨k0, k1, k2, k3⟩, j0, j1, j2, j3⟩ := cell4c (H.out.grown hr hg).2.1
      replace H := hid (H.out.sh hr hg (by omega) hrow kd')
      clear hr hg hrow
      go_upto_region 9 with fail
      clear k0 k1 k2 k3 j0 j1 j2 j3
      generalize (v6.setCell ⟨Q, 2, none⟩ (.int .i64 kd')).setCell ⟨Q, 3, none⟩ (.slice ao' ps'.length cp') = v7 at *
      obtain ⟨⟨k0, k1, k2, k3⟩, j0, j1, j2, j3⟩ := cell4c H.out.2.1
      obtain ⟨_, s0, s1, s2, s3⟩ := cell4c H.out.1
      obtain ⟨gF, pF, rF, wF⟩ := H.out.fin
      have HL := hid H.out.2.2.2.1
      have HP := hid pF
      clear pF H
      go_wp2_with fail
      generalize (((v7.setCell ⟨w.heap.size, 0, none⟩ (.int .i64 id)).setCell ⟨w.heap.size, 1, none⟩ (.bool true)).setCell ⟨w.heap.size, 2, none⟩ (.int .i64 kd')).setCell ⟨w.heap.size, 3, none⟩ (.slice ao' ps'.length cp') = wf at *
      obtain ⟨⟨z0, z1, z2, z3⟩, _⟩ := cell4c gF
      exact bodyPost_ret (v := .agg #[.int .i64 id, .bool true, .int .i64 kd', (.slice ao' ps'.length cp')]) (by simp [results, Tryz.results45, go_sem, z0, z1, z2, z3]) rfl ⟨_, _, _, _, _, rfl, HL.out, HP.out, rF, wF⟩
    go_upto_region 9 with fail
    obtain ⟨⟨k0, k1, k2, k3⟩, j0, j1, j2, j3⟩ := cell4c H.out.2.1
    obtain ⟨_, s0, s1, s2, s3⟩ := cell4c H.out.1
    obtain ⟨gF, pF, rF, wF⟩ := H.out.fin
    have HL := hid H.out.2.2.2.1
    have HP := hid pF
    clear pF H
    go_wp2_with fail
    generalize (((v5.setCell ⟨w.heap.size, 0, none⟩ (.int .i64 id)).setCell ⟨w.heap.size, 1, none⟩ (.bool true)).setCell ⟨w.heap.size, 2, none⟩ (.int .i64 0)).setCell ⟨w.heap.size, 3, none⟩ (.slice none 0 0) = wf at *
    obtain ⟨⟨z0, z1, z2, z3⟩, _⟩ := cell4c gF
    exact bodyPost_ret (v := .agg #[.int .i64 id, .bool true, .int .i64 0, (.slice none 0 0)]) (by simp [results, Tryz.results45, go_sem, z0, z1, z2, z3]) rfl ⟨_, _, _, _, _, rfl, HL.out, HP.out, rF, wF⟩
end Go.Proofs.YtdaheepfmnjadaaGreatDoor
