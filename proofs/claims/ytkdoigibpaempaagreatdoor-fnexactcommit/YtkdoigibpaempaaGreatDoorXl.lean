import Derived.Test.YtkdoigibpaempaaGreatDoorJ13
import Derived.Test.YtkdoigibpaempaaGreatDoorSi
set_option linter.unusedSimpArgs false
set_option linter.unusedVariables false
namespace Go.Proofs.YtkdoigibpaempaaGreatDoor
open Go.RowKit
structure Kd (α : Type) where
  sz : Nat
  vals : α → Value → List Value
  sub : Nat → Nat → World → Value → α → Prop
  len : ∀ x v, (vals x v).length = sz
  one : ∀ {lo up : Nat} {w : World} {v : Value} {x : α}, sub lo up w v x → ∀ u ∈ vals x v, u.oneCell' = true
  frame : ∀ {lo up : Nat} {w w' : World} {v : Value} {x : α}, sub lo up w v x → (∀ c, lo ≤ c → c < up → w'.heap[c]? = w.heap[c]?) → w.heap.size ≤ w'.heap.size → sub lo up w' v x
  top : ∀ {lo up : Nat} {w : World} {v : Value} {x : α}, sub lo up w v x → up ≤ w.heap.size
def flatK {α : Type} (K : Kd α) (ps : List (α × Value)) : List Value := ps.flatMap (fun p => K.vals p.1 p.2)
theorem flatK_snoc {α : Type} (K : Kd α) (ps : List (α × Value)) (p : α × Value) : flatK K (ps ++ [p]) = flatK K ps ++ K.vals p.1 p.2 := by simp [flatK]
theorem flatK_len {α : Type} (K : Kd α) (ps : List (α × Value)) : (flatK K ps).length = ps.length * K.sz := by
  induction ps with
  | nil => simp [flatK]
  | cons x r ih =>
    show (K.vals x.1 x.2 ++ flatK K r).length = _
    rw [List.length_append, ih, K.len, List.length_cons, Nat.succ_mul]
    omega
theorem flatX_at {α : Type} (K : Kd α) : ∀ (ps : List (α × Value)) (j t : Nat) (h : j < ps.length), t < K.sz → (flatK K ps)[j * K.sz + t]? = (K.vals ps[j].1 ps[j].2)[t]?
  | [], j, t, h, _ => by simp at h
  | x :: r, 0, t, h, ht => by
    show (K.vals x.1 x.2 ++ flatK K r)[0 * K.sz + t]? = _
    rw [Nat.zero_mul, Nat.zero_add, List.getElem?_append_left (by rw [K.len]; exact ht)]
    rfl
  | x :: r, j + 1, t, h, ht => by
    have ih := flatX_at K r j t (by simpa using h) ht
    show (K.vals x.1 x.2 ++ flatK K r)[(j + 1) * K.sz + t]? = _
    rw [List.getElem?_append_right (by rw [K.len, Nat.succ_mul]; omega), K.len, show (j + 1) * K.sz + t - K.sz = j * K.sz + t by rw [Nat.succ_mul]; omega, ih]
    rfl
def LX {α : Type} (K : Kd α) (t : TypeId) (base hi : Nat) (w : World) (v : Value) (xs : List α) (ps : List (α × Value)) : Prop :=
  ps.map Prod.fst = xs ∧ w.ownsRow base t K.sz v xs.length (flatK K ps) ∧ (∀ g, v.ownBlock = some g → g < hi) ∧ hi ≤ w.heap.size ∧
  ∃ lo up : Nat → Nat, (∀ j (h : j < ps.length), K.sub (lo j) (up j) w ps[j].2 ps[j].1 ∧ base ≤ lo j ∧ up j ≤ hi ∧ (∀ g, v.ownBlock = some g → g < lo j ∨ up j ≤ g)) ∧ (∀ i j, i < j → j < ps.length → up i ≤ lo j)
theorem LX.plen {α : Type} {K : Kd α} {t : TypeId} {base hi : Nat} {w : World} {v : Value} {xs : List α} {ps : List (α × Value)} (h : LX K t base hi w v xs ps) : ps.length = xs.length := by
  have := congrArg List.length h.1
  simpa using this
theorem LX.frame {α : Type} {K : Kd α} {t : TypeId} {base hi : Nat} {w w' : World} {v : Value} {xs : List α} {ps : List (α × Value)} (h : LX K t base hi w v xs ps) (hb : ∀ c, base ≤ c → c < hi → w'.heap[c]? = w.heap[c]?) (hs : w.heap.size ≤ w'.heap.size) : LX K t base hi w' v xs ps := by
  obtain ⟨h1, h2, h3, h4, lo, up, h5, h6⟩ := h
  refine ⟨h1, own_frame h2 (fun g e => hb g (h2.lt g e).1 (h3 g e)), h3, by omega, lo, up, fun j hj => ?_, h6⟩
  obtain ⟨a1, a2, a3, a4⟩ := h5 j hj
  exact ⟨K.frame a1 (fun c c1 c2 => hb c (by omega) (by omega)) hs, a2, a3, a4⟩
theorem LX.below {α : Type} {K : Kd α} {t : TypeId} {base hi : Nat} {w w' : World} {v : Value} {xs : List α} {ps : List (α × Value)} (h : LX K t base hi w v xs ps) (H : Below w.heap.size w w') : LX K t base hi w' v xs ps :=
  h.frame (fun c _ h2 => H.block c (by have := h.2.2.2.1; omega)) H.size
theorem LX.mono {α : Type} {K : Kd α} {t : TypeId} {base base' hi hi' : Nat} {w : World} {v : Value} {xs : List α} {ps : List (α × Value)} (h : LX K t base hi w v xs ps) (hb : base' ≤ base) (hh : hi ≤ hi') (hs : hi' ≤ w.heap.size) : LX K t base' hi' w v xs ps := by
  obtain ⟨h1, h2, h3, h4, lo, up, h5, h6⟩ := h
  refine ⟨h1, ⟨h2.1, ?_⟩, fun g e => by have := h3 g e; omega, hs, lo, up, fun j hj => ?_, h6⟩
  · rcases h2.2 with q | ⟨g, cc, cur, e1, q1, q2, q3⟩
    · exact .inl q
    · exact .inr ⟨g, cc, cur, e1, by omega, q2, q3⟩
  · obtain ⟨a1, a2, a3, a4⟩ := h5 j hj
    exact ⟨a1, by omega, by omega, a4⟩
theorem LX.nil {α : Type} {K : Kd α} {t : TypeId} {base hi : Nat} {w : World} {v : Value} (h : w.ownsRow base t K.sz v 0 []) (h3 : ∀ g, v.ownBlock = some g → g < hi) (h4 : hi ≤ w.heap.size) : LX K t base hi w v [] [] :=
  ⟨rfl, by simpa [flatK] using h, h3, h4, fun _ => 0, fun _ => 0, fun j hj => absurd hj (by simp), fun i j _ hj => absurd hj (by simp)⟩
theorem LX.snoc {α : Type} {K : Kd α} {t : TypeId} {base hi : Nat} {W w' : World} {v : Value} {xs : List α} {ps : List (α × Value)} {x : α} {sv : Value} {l u g cap : Nat} (h : LX K t base hi W v xs ps) (hl : hi ≤ l) (hbl : base ≤ l) (hsub : K.sub l u W sv x)
    (hown : w'.ownsRow base t K.sz (.slice (some ⟨g, 0, none⟩) (xs.length + 1) cap) (xs.length + 1) (flatK K ps ++ K.vals x sv)) (hg : W.grownBy w' v.ownBlock) (hat : v.ownBlock = some g ∨ g = W.heap.size) (hlt : g < w'.heap.size) :
    LX K t base w'.heap.size w' (.slice (some ⟨g, 0, none⟩) (xs.length + 1) cap) (xs ++ [x]) (ps ++ [(x, sv)]) := by
  have hpl := h.plen
  obtain ⟨h1, h2, h3, h4, lo, up, h5, h6⟩ := h
  have hu := K.top hsub
  have hsz := hg.size
  have hfr : ∀ c, c < W.heap.size → v.ownBlock ≠ some c → w'.heap[c]? = W.heap[c]? := fun c hc hne => hg.block c hc (fun e => hne e.symm)
  refine ⟨by simp [h1], by rw [flatK_snoc, List.length_append]; exact hown, fun g' e => by simp [Value.ownBlock] at e; omega, Nat.le_refl _, fun j => if j = ps.length then l else lo j, fun j => if j = ps.length then u else up j, fun j hj => ?_, fun i j hij hj => ?_⟩
  · by_cases e : j = ps.length
    · subst e
      simp only [if_true]
      have er : (ps ++ [(x, sv)])[ps.length]'(by simp) = (x, sv) := by simp
      rw [er]
      refine ⟨K.frame hsub (fun c c1 c2 => hfr c (by omega) (fun e => by have := h3 c e; omega)) hsz, hbl, by omega, fun g' e => ?_⟩
      simp [Value.ownBlock] at e
      rcases hat with q | q
      · have := h3 g q; omega
      · omega
    · have hjl : j < ps.length := by simp at hj; omega
      simp only [if_neg e]
      have er : (ps ++ [(x, sv)])[j]'(by simpa using hj) = ps[j] := by rw [List.getElem_append_left hjl]
      rw [er]
      obtain ⟨a1, a2, a3, a4⟩ := h5 j hjl
      refine ⟨K.frame a1 (fun c c1 c2 => hfr c (by omega) (fun e => by have := a4 c e; omega)) hsz, a2, by omega, fun g' e => ?_⟩
      simp [Value.ownBlock] at e
      rcases hat with q | q
      · have := a4 g q; omega
      · omega
  · have hil : i < ps.length := by simp at hj; omega
    simp only [if_neg (show i ≠ ps.length by omega)]
    by_cases e : j = ps.length
    · simp only [if_pos e]
      obtain ⟨_, _, a3, _⟩ := h5 i hil
      omega
    · simp only [if_neg e]
      exact h6 i j hij (by simp at hj; omega)
def ElX {α : Type} (K : Kd α) (w : World) (g i : Nat) (x : α) (s : Value) (lo up : Nat) : Prop :=
  (∀ t, t < K.sz → w.cell? ⟨g, i * K.sz + t, none⟩ = (K.vals x s)[t]?) ∧ K.sub lo up w s x
def LC {α : Type} (K : Kd α) (base hi : Nat) (w : World) (v : Value) (xs : List α) : Prop :=
  hi ≤ w.heap.size ∧ ((xs = [] ∧ v = .slice none 0 0) ∨ ∃ (g cap : Nat) (ss : Nat → Value) (lo up : Nat → Nat), v = .slice (some ⟨g, 0, none⟩) xs.length cap ∧ xs.length ≤ cap ∧ base ≤ g ∧ g < hi ∧ w.there g 0 (xs.length * K.sz) ∧
  (∀ j (h : j < xs.length), ElX K w g j xs[j] (ss j) (lo j) (up j) ∧ base ≤ lo j ∧ up j ≤ hi ∧ (g < lo j ∨ up j ≤ g)) ∧ (∀ i j, i ≠ j → i < xs.length → j < xs.length → up i ≤ lo j ∨ up j ≤ lo i))
theorem LX.lc {α : Type} {K : Kd α} {t : TypeId} {base hi : Nat} {w : World} {v : Value} {xs : List α} {ps : List (α × Value)} (h : LX K t base hi w v xs ps) : LC K base hi w v xs := by
  have hpl := h.plen
  obtain ⟨h1, h2, h3, h4, lo, up, h5, h6⟩ := h
  refine ⟨h4, ?_⟩
  have h2' := h2
  rcases h2.2 with ⟨q, hn⟩ | ⟨g, cap, cur, rfl, hb, hg, hc, _⟩
  · left
    exact ⟨List.length_eq_zero_iff.1 hn, q⟩
  · right
    refine ⟨g, cap, fun j => if h : j < ps.length then (ps[j]'h).2 else .bool false, lo, up, rfl, hc, hb, h3 g rfl, fun j hj => ?_, fun j hj => ?_, fun i j hne hi' hj => (Nat.lt_or_gt_of_ne hne).elim (fun q => .inl (h6 i j q (by omega))) (fun q => .inr (h6 j i q (by omega)))⟩
    · simp only [Nat.zero_add]
      refine ⟨?_, World.ownsRow.frozenAt h2' j⟩
      rw [World.ownsRow.cellAt h2' j hj, List.getElem?_eq_getElem (by rw [flatK_len, hpl]; exact hj)]
      rfl
    · have hjp : j < ps.length := by omega
      obtain ⟨a1, a2, a3, a4⟩ := h5 j hjp
      have ex : xs[j] = (ps[j]).1 := by
        have : xs[j]? = (ps.map Prod.fst)[j]? := by rw [h1]
        rw [List.getElem?_map, List.getElem?_eq_getElem hj, List.getElem?_eq_getElem hjp] at this
        exact Option.some.inj this
      simp only [dif_pos hjp, ex]
      refine ⟨⟨fun t ht => ?_, a1⟩, a2, a3, a4 g rfl⟩
      have hlt : j * K.sz + t < xs.length * K.sz := by
        have : (j + 1) * K.sz ≤ xs.length * K.sz := Nat.mul_le_mul_right _ (by omega)
        rw [Nat.succ_mul] at this
        omega
      rw [World.ownsRow.cellAt h2' _ hlt, flatX_at K ps j t hjp ht]
theorem ElX.blk {α : Type} {K : Kd α} {w w' : World} {g i : Nat} {x : α} {s : Value} {lo up : Nat} (h : ElX K w g i x s lo up) (hg : w'.heap[g]? = w.heap[g]?) (hb : ∀ c, lo ≤ c → c < up → w'.heap[c]? = w.heap[c]?) (hs : w.heap.size ≤ w'.heap.size) : ElX K w' g i x s lo up :=
  ⟨fun t ht => by rw [World.cell?_of_block (w := w) hg]; exact h.1 t ht, K.frame h.2 hb hs⟩
theorem ElX.set {α : Type} {K : Kd α} {w : World} {g i k : Nat} {x : α} {s : Value} {lo up : Nat} (h : ElX K w g i x s lo up) (hg : g < lo ∨ up ≤ g) (hk : k < i * K.sz ∨ i * K.sz + K.sz ≤ k) (u : Value) : ElX K (w.setCell ⟨g, k, none⟩ u) g i x s lo up := by
  refine ⟨fun t ht => ?_, K.frame h.2 (fun c c1 c2 => Below.heap_setCell _ _ _ _ (by dsimp only; omega)) (by simp)⟩
  rw [World.cell?_setCell_other _ _ _ _ (by intro e; injection e; omega)]
  exact h.1 t ht
theorem ElX.mid {α : Type} {K : Kd α} {w w' : World} {g i : Nat} {x : α} {s : Value} {lo up l u : Nat} (h : ElX K w g i x s lo up) (m : Mid l u w w') (hgs : g < w.heap.size) (hg : g < l ∨ u ≤ g) (hd : up ≤ l ∨ u ≤ lo) : ElX K w' g i x s lo up := by
  have ht := K.top h.2
  exact h.blk (mid_blk m hgs hg) (fun c c1 c2 => mid_blk m (by omega) (by omega)) m.2.2.2.1
theorem LC.frame {α : Type} {K : Kd α} {base hi : Nat} {w w' : World} {v : Value} {xs : List α} (h : LC K base hi w v xs) (hb : ∀ c, base ≤ c → c < hi → w'.heap[c]? = w.heap[c]?) (hs : w.heap.size ≤ w'.heap.size) : LC K base hi w' v xs := by
  obtain ⟨h0, h⟩ := h
  refine ⟨by omega, ?_⟩
  rcases h with h | ⟨g, cap, ss, lo, up, e, h1, h2, h3, h4, h5, h6⟩
  · exact .inl h
  · have hg := hb g h2 h3
    refine .inr ⟨g, cap, ss, lo, up, e, h1, h2, h3, fun i hi' => ?_, fun j hj => ?_, h6⟩
    · have := h4 i hi'
      simp only [World.cell?, World.frozen?, hg] at this ⊢
      exact this
    · obtain ⟨a1, a2, a3, a4⟩ := h5 j hj
      exact ⟨a1.blk hg (fun c c1 c2 => hb c (by omega) (by omega)) hs, a2, a3, a4⟩
theorem LC.below {α : Type} {K : Kd α} {base hi : Nat} {w w' : World} {v : Value} {xs : List α} (h : LC K base hi w v xs) (H : Below w.heap.size w w') : LC K base hi w' v xs :=
  h.frame (fun c _ h2 => H.block c (by have := h.1; omega)) H.size
theorem LC.form {α : Type} {K : Kd α} {base hi : Nat} {w : World} {v : Value} {xs : List α} (h : LC K base hi w v xs) : ∃ a cap, v = .slice a xs.length cap ∧ xs.length ≤ cap ∧ (∀ c off, a = some ⟨c, off, none⟩ → base ≤ c ∧ c < hi) := by
  rcases h.2 with ⟨rfl, e⟩ | ⟨g, cap, ss, lo, up, e, h1, h2, h3, h4, h5, h6⟩
  · exact ⟨none, 0, e, by simp, fun c off e => by cases e⟩
  · exact ⟨_, cap, e, h1, fun c off e => by cases e; exact ⟨h2, h3⟩⟩
def subC (lo up : Nat) (w : World) (v : Value) (x : Ch) : Prop := up ≤ w.heap.size ∧ ∃ c cp, v = .slice (some ⟨c, 0, none⟩) x.2.2.2.length cp ∧ x.2.2.2.length ≤ cp ∧ x.2.2.2.length ≤ 1099511627776 ∧ lo ≤ c ∧ c < up ∧ PtsOwn w c x.2.2.2
def KC : Kd Ch where
  sz := 4
  vals := fun x v => [.int .i64 x.1, .bool x.2.1, .int .i64 x.2.2.1, v]
  sub := subC
  len := fun _ _ => rfl
  one := by
    rintro lo up w v x ⟨_, c, cp, rfl, _⟩ u hu
    simp at hu
    rcases hu with rfl | rfl | rfl | rfl <;> rfl
  frame := by
    rintro lo up w w' v x ⟨h0, c, cp, e, h1, h2, h3, h4, h5⟩ hb hs
    exact ⟨by omega, c, cp, e, h1, h2, h3, h4, own_blk h5 (hb c h3 h4) (by omega)⟩
  top := fun h => h.1
def KT : Kd Tx where
  sz := 3
  vals := fun x v => [.int .i64 x.1, .bool x.2.1, v]
  sub := fun lo up w v x => LC KC lo up w v x.2.2
  len := fun _ _ => rfl
  one := by
    intro lo up w v x h u hu
    obtain ⟨a, cap, rfl, _⟩ := h.form
    simp at hu
    rcases hu with rfl | rfl | rfl <;> rfl
  frame := fun h hb hs => h.frame hb hs
  top := fun h => h.1
theorem LC.chs {base hi : Nat} {w : World} {a : Option Addr} {n cap : Nat} {xs : List Ch} (h : LC KC base hi w (.slice a n cap) xs) : Chs (fun c => base ≤ c ∧ c < hi) 1099511627776 w a xs := by
  obtain ⟨h0, h⟩ := h
  rcases h with ⟨rfl, _⟩ | ⟨g, cp, ss, lo, up, e, h1, h2, h3, h4, h5, h6⟩
  · exact .inl rfl
  · cases e
    refine .inr ⟨g, 0, rfl, by omega, fun j hj => ?_⟩
    obtain ⟨⟨b1, _, c, cq, e, b2, b3, b4, b5, b6⟩, a2, a3, a4⟩ := h5 j hj
    have k0 := b1 0 (by decide)
    have k1 := b1 1 (by decide)
    have k2 := b1 2 (by decide)
    have k3 := b1 3 (by decide)
    simp only [KC, e] at k0 k1 k2 k3
    rw [Nat.zero_add]
    exact ⟨_, _, k0, k1, k2, k3, b2, b3, b6.pts, fun c' off e' => by cases e'; omega⟩
theorem LC.txs {base hi : Nat} {w : World} {a : Option Addr} {n cap : Nat} {xs : List Tx} (h : LC KT base hi w (.slice a n cap) xs) (hm : ∀ j (h : j < xs.length), xs[j].2.2.length ≤ 1099511627776) : Txs (fun c => base ≤ c ∧ c < hi) 1099511627776 w a xs := by
  obtain ⟨h0, h⟩ := h
  rcases h with ⟨rfl, _⟩ | ⟨g, cp, ss, lo, up, e, h1, h2, h3, h4, h5, h6⟩
  · exact .inl rfl
  · cases e
    refine .inr ⟨g, 0, rfl, by omega, fun j hj => ?_⟩
    obtain ⟨⟨b1, b2⟩, a2, a3, a4⟩ := h5 j hj
    obtain ⟨a', cap', e, f1, f2⟩ := LC.form b2
    have k0 := b1 0 (by decide)
    have k1 := b1 1 (by decide)
    have k2 := b1 2 (by decide)
    simp only [KT, e] at k0 k1 k2
    rw [Nat.zero_add]
    rw [e] at b2
    have hc := LC.chs b2
    refine ⟨a', cap', k0, k1, k2, f1, hm j hj, ?_, fun c' off e' => by have := f2 c' off e'; omega⟩
    rcases hc with hc | ⟨b, o, e2, hb, hc⟩
    · exact .inl hc
    · refine .inr ⟨b, o, e2, hb, fun i hi' => ?_⟩
      obtain ⟨a4', cap4, q0, q1, q2, q3, q4, q5, q6, q7⟩ := hc i hi'
      exact ⟨a4', cap4, q0, q1, q2, q3, q4, q5, q6, fun c' off e' => by have := q7 c' off e'; omega⟩
def subR (lo up : Nat) (w : World) (v : Value) (x : Rw) : Prop := up ≤ w.heap.size ∧ ∃ c cp, v = .slice (some ⟨c, 0, none⟩) x.2.2.2.2.length cp ∧ x.2.2.2.2.length ≤ cp ∧ x.2.2.2.2.length ≤ 1099511627776 ∧ lo ≤ c ∧ c < up ∧ PtsOwn w c x.2.2.2.2
def KR : Kd Rw where
  sz := 5
  vals := fun x v => [.int .i64 x.1, .int .i64 x.2.1, .int .i64 x.2.2.1, .int .i64 x.2.2.2.1, v]
  sub := subR
  len := fun _ _ => rfl
  one := by
    rintro lo up w v x ⟨_, c, cp, rfl, _⟩ u hu
    simp at hu
    rcases hu with rfl | rfl | rfl | rfl | rfl <;> rfl
  frame := by
    rintro lo up w w' v x ⟨h0, c, cp, e, h1, h2, h3, h4, h5⟩ hb hs
    exact ⟨by omega, c, cp, e, h1, h2, h3, h4, own_blk h5 (hb c h3 h4) (by omega)⟩
  top := fun h => h.1
theorem LC.rws {base hi : Nat} {w : World} {a : Option Addr} {n cap : Nat} {xs : List Rw} (h : LC KR base hi w (.slice a n cap) xs) : Rws (fun _ => True) w a xs := by
  obtain ⟨h0, h⟩ := h
  rcases h with ⟨rfl, _⟩ | ⟨g, cp, ss, lo, up, e, h1, h2, h3, h4, h5, h6⟩
  · exact .inl rfl
  · cases e
    refine .inr ⟨g, 0, rfl, by omega, fun j hj => ?_⟩
    obtain ⟨⟨b1, _, c, cq, e, b2, b3, b4, b5, b6⟩, a2, a3, a4⟩ := h5 j hj
    have k0 := b1 0 (by decide)
    have k1 := b1 1 (by decide)
    have k2 := b1 2 (by decide)
    have k3 := b1 3 (by decide)
    have k4 := b1 4 (by decide)
    simp only [KR, e] at k0 k1 k2 k3 k4
    rw [Nat.zero_add]
    exact ⟨_, _, k0, k1, k2, k3, k4, b2, b3, b6.pts, fun c' off e' => trivial⟩
theorem RowsX.lc {base hi : Nat} {w : World} {v : Value} {rs : List Rw} {xs : List El} (h : RowsX base hi w v rs xs) : LC KR base hi w v rs := by
  have h0 := h.2.2.2.1
  refine ⟨h0, ?_⟩
  rcases h.rows with ⟨rfl, _, e⟩ | ⟨g, cp, e, h1, h2, h3, h4, h5, c, cpf, h6, h7⟩
  · exact .inl ⟨rfl, e⟩
  · refine .inr ⟨g, cp, fun j => if hj : j < rs.length then .slice (some ⟨c j, 0, none⟩) (rs[j]'hj).2.2.2.2.length (cpf j) else .bool false, c, fun j => c j + 1, e, h4, h1, h2, h5, fun j hj => ?_, fun i j hne hi' hj => ?_⟩
    · obtain ⟨⟨a0, a1, a2, a3, a4, a5⟩, b1, b2, b3, b4, b5⟩ := h6 j hj
      simp only [dif_pos hj]
      refine ⟨⟨fun t ht => ?_, by have := a5.1; omega, c j, cpf j, rfl, b1, b2, Nat.le_refl _, by omega, a5⟩, b3, by omega, by omega⟩
      rcases (show t = 0 ∨ t = 1 ∨ t = 2 ∨ t = 3 ∨ t = 4 by have : KR.sz = 5 := rfl; omega) with e | e | e | e | e <;> subst e
      · exact a0
      · exact a1
      · exact a2
      · exact a3
      · exact a4
    · rcases Nat.lt_or_gt_of_ne hne with q | q
      · have := h7 i j q hj; show c i + 1 ≤ c j ∨ c j + 1 ≤ c i; omega
      · have := h7 j i q hi'; show c i + 1 ≤ c j ∨ c j + 1 ≤ c i; omega
end Go.Proofs.YtkdoigibpaempaaGreatDoor
