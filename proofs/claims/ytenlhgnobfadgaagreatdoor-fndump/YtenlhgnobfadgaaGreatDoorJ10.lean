/- Texts of stores, joined: Gl, He. -/
import Derived.Test.YtenlhgnobfadgaaGreatDoorJ9
import Derived.Deep.MidRow
import Derived.Deep.AppendLies
set_option maxRecDepth 100000
set_option maxHeartbeats 16000000
set_option linter.unusedSimpArgs false
set_option linter.unusedVariables false
namespace Go.Proofs.YtenlhgnobfadgaaGreatDoor
open Go.RowKit
structure Kd (α : Type) where
 sz : Nat
 vals : α → Value → List Value
 sub : Nat → Nat → World → Value → α → Prop
 len : ∀ x v, (vals x v).length = sz
 one : ∀ {lo up : Nat} {w : World} {v : Value} {x : α}, sub lo up w v x → ∀ u ∈ vals x v, u.oneCell' = true
 frame : ∀ {lo up : Nat} {w w' : World} {v : Value} {x : α}, sub lo up w v x → (∀ c, lo ≤ c → c < up → w'.heap[c]? = w.heap[c]?) → w.heap.size ≤ w'.heap.size → sub lo up w' v x
 top : ∀ {lo up : Nat} {w : World} {v : Value} {x : α}, sub lo up w v x → up ≤ w.heap.size
def flatK {α : Type} (K : Kd α) (ps : List (α × Value)) : List Value := ps.flatMap (fun p => K.vals p.1 p.2)
theorem flatK_snoc {α : Type} (K : Kd α) (ps : List (α × Value)) (p : α × Value) : flatK K (ps ++ [p]) = flatK K ps ++ K.vals p.1 p.2 := by simp [flatK]
theorem flatK_len {α : Type} (K : Kd α) (ps : List (α × Value)) : (flatK K ps).length = ps.length * K.sz := by
 induction ps with
 | nil => simp [flatK]
 | cons x r ih =>
  show (K.vals x.1 x.2 ++ flatK K r).length = _
  rw [List.length_append, ih, K.len, List.length_cons, Nat.succ_mul]
  omega
theorem flatX_at {α : Type} (K : Kd α) : ∀ (ps : List (α × Value)) (j t : Nat) (h : j < ps.length), t < K.sz → (flatK K ps)[j * K.sz + t]? = (K.vals ps[j].1 ps[j].2)[t]?
 | [], j, t, h, _ => by simp at h
 | x :: r, 0, t, h, ht => by
  show (K.vals x.1 x.2 ++ flatK K r)[0 * K.sz + t]? = _
  rw [Nat.zero_mul, Nat.zero_add, List.getElem?_append_left (by rw [K.len]; exact ht)]
  rfl
 | x :: r, j + 1, t, h, ht => by
  have ih := flatX_at K r j t (by simpa using h) ht
  show (K.vals x.1 x.2 ++ flatK K r)[(j + 1) * K.sz + t]? = _
  rw [List.getElem?_append_right (by rw [K.len, Nat.succ_mul]; omega), K.len, show (j + 1) * K.sz + t - K.sz = j * K.sz + t by rw [Nat.succ_mul]; omega, ih]
  rfl
def LX {α : Type} (K : Kd α) (t : TypeId) (base hi : Nat) (w : World) (v : Value) (xs : List α) (ps : List (α × Value)) : Prop :=
 ps.map Prod.fst = xs ∧ w.ownsRow base t K.sz v xs.length (flatK K ps) ∧ (∀ g, v.ownBlock = some g → g < hi) ∧ hi ≤ w.heap.size ∧
 ∃ lo up : Nat → Nat, (∀ j (h : j < ps.length), K.sub (lo j) (up j) w ps[j].2 ps[j].1 ∧ base ≤ lo j ∧ up j ≤ hi ∧ (∀ g, v.ownBlock = some g → g < lo j ∨ up j ≤ g)) ∧ (∀ i j, i < j → j < ps.length → up i ≤ lo j)
theorem LX.plen {α : Type} {K : Kd α} {t : TypeId} {base hi : Nat} {w : World} {v : Value} {xs : List α} {ps : List (α × Value)} (h : LX K t base hi w v xs ps) : ps.length = xs.length := by
 have := congrArg List.length h.1
 simpa using this
theorem LX.frame {α : Type} {K : Kd α} {t : TypeId} {base hi : Nat} {w w' : World} {v : Value} {xs : List α} {ps : List (α × Value)} (h : LX K t base hi w v xs ps) (hb : ∀ c, base ≤ c → c < hi → w'.heap[c]? = w.heap[c]?) (hs : w.heap.size ≤ w'.heap.size) : LX K t base hi w' v xs ps := by
 obtain ⟨h1, h2, h3, h4, lo, up, h5, h6⟩ := h
 refine ⟨h1, own_frame h2 (fun g e => hb g (h2.lt g e).1 (h3 g e)), h3, by omega, lo, up, fun j hj => ?_, h6⟩
 obtain ⟨a1, a2, a3, a4⟩ := h5 j hj
 exact ⟨K.frame a1 (fun c c1 c2 => hb c (by omega) (by omega)) hs, a2, a3, a4⟩
theorem LX.below {α : Type} {K : Kd α} {t : TypeId} {base hi : Nat} {w w' : World} {v : Value} {xs : List α} {ps : List (α × Value)} (h : LX K t base hi w v xs ps) (H : Below w.heap.size w w') : LX K t base hi w' v xs ps :=
 h.frame (fun c _ h2 => H.block c (by have := h.2.2.2.1; omega)) H.size
theorem LX.mono {α : Type} {K : Kd α} {t : TypeId} {base base' hi hi' : Nat} {w : World} {v : Value} {xs : List α} {ps : List (α × Value)} (h : LX K t base hi w v xs ps) (hb : base' ≤ base) (hh : hi ≤ hi') (hs : hi' ≤ w.heap.size) : LX K t base' hi' w v xs ps := by
 obtain ⟨h1, h2, h3, h4, lo, up, h5, h6⟩ := h
 refine ⟨h1, ⟨h2.1, ?_⟩, fun g e => by have := h3 g e; omega, hs, lo, up, fun j hj => ?_, h6⟩
 ·rcases h2.2 with q | ⟨g, cc, cur, e1, q1, q2, q3⟩
  ·exact .inl q
  ·exact .inr ⟨g, cc, cur, e1, by omega, q2, q3⟩
 ·obtain ⟨a1, a2, a3, a4⟩ := h5 j hj
  exact ⟨a1, by omega, by omega, a4⟩
theorem LX.nil {α : Type} {K : Kd α} {t : TypeId} {base hi : Nat} {w : World} {v : Value} (h : w.ownsRow base t K.sz v 0 []) (h3 : ∀ g, v.ownBlock = some g → g < hi) (h4 : hi ≤ w.heap.size) : LX K t base hi w v [] [] :=
 ⟨rfl, by simpa [flatK] using h, h3, h4, fun _ => 0, fun _ => 0, fun j hj => absurd hj (by simp), fun i j _ hj => absurd hj (by simp)⟩
theorem LX.snoc {α : Type} {K : Kd α} {t : TypeId} {base hi : Nat} {W w' : World} {v : Value} {xs : List α} {ps : List (α × Value)} {x : α} {sv : Value} {l u g cap : Nat} (h : LX K t base hi W v xs ps) (hl : hi ≤ l) (hbl : base ≤ l) (hsub : K.sub l u W sv x)
  (hown : w'.ownsRow base t K.sz (.slice (some ⟨g, 0, none⟩) (xs.length + 1) cap) (xs.length + 1) (flatK K ps ++ K.vals x sv)) (hg : W.grownBy w' v.ownBlock) (hat : v.ownBlock = some g ∨ g = W.heap.size) (hlt : g < w'.heap.size) :
  LX K t base w'.heap.size w' (.slice (some ⟨g, 0, none⟩) (xs.length + 1) cap) (xs ++ [x]) (ps ++ [(x, sv)]) := by
 have hpl := h.plen
 obtain ⟨h1, h2, h3, h4, lo, up, h5, h6⟩ := h
 have hu := K.top hsub
 have hsz := hg.size
 have hfr : ∀ c, c < W.heap.size → v.ownBlock ≠ some c → w'.heap[c]? = W.heap[c]? := fun c hc hne => hg.block c hc (fun e => hne e.symm)
 refine ⟨by simp [h1], by rw [flatK_snoc, List.length_append]; exact hown, fun g' e => by simp [Value.ownBlock] at e; omega, Nat.le_refl _, fun j => if j = ps.length then l else lo j, fun j => if j = ps.length then u else up j, fun j hj => ?_, fun i j hij hj => ?_⟩
 ·by_cases e : j = ps.length
  ·subst e
   simp only [if_true]
   have er : (ps ++ [(x, sv)])[ps.length]'(by simp) = (x, sv) := by simp
   rw [er]
   refine ⟨K.frame hsub (fun c c1 c2 => hfr c (by omega) (fun e => by have := h3 c e; omega)) hsz, hbl, by omega, fun g' e => ?_⟩
   simp [Value.ownBlock] at e
   rcases hat with q | q
   ·have := h3 g q; omega
   ·omega
  ·have hjl : j < ps.length := by simp at hj; omega
   simp only [if_neg e]
   have er : (ps ++ [(x, sv)])[j]'(by simpa using hj) = ps[j] := by rw [List.getElem_append_left hjl]
   rw [er]
   obtain ⟨a1, a2, a3, a4⟩ := h5 j hjl
   refine ⟨K.frame a1 (fun c c1 c2 => hfr c (by omega) (fun e => by have := a4 c e; omega)) hsz, a2, by omega, fun g' e => ?_⟩
   simp [Value.ownBlock] at e
   rcases hat with q | q
   ·have := a4 g q; omega
   ·omega
 ·have hil : i < ps.length := by simp at hj; omega
  simp only [if_neg (show i ≠ ps.length by omega)]
  by_cases e : j = ps.length
  ·simp only [if_pos e]
   obtain ⟨_, _, a3, _⟩ := h5 i hil
   omega
  ·simp only [if_neg e]
   exact h6 i j hij (by simp at hj; omega)
def ElX {α : Type} (K : Kd α) (w : World) (g i : Nat) (x : α) (s : Value) (lo up : Nat) : Prop :=
 (∀ t, t < K.sz → w.cell? ⟨g, i * K.sz + t, none⟩ = (K.vals x s)[t]?) ∧ K.sub lo up w s x
def LC {α : Type} (K : Kd α) (base hi : Nat) (w : World) (v : Value) (xs : List α) : Prop :=
 hi ≤ w.heap.size ∧ ((xs = [] ∧ v = .slice none 0 0) ∨ ∃ (g cap : Nat) (ss : Nat → Value) (lo up : Nat → Nat), v = .slice (some ⟨g, 0, none⟩) xs.length cap ∧ xs.length ≤ cap ∧ base ≤ g ∧ g < hi ∧ w.there g 0 (xs.length * K.sz) ∧
 (∀ j (h : j < xs.length), ElX K w g j xs[j] (ss j) (lo j) (up j) ∧ base ≤ lo j ∧ up j ≤ hi ∧ (g < lo j ∨ up j ≤ g)) ∧ (∀ i j, i ≠ j → i < xs.length → j < xs.length → up i ≤ lo j ∨ up j ≤ lo i))
theorem LX.lc {α : Type} {K : Kd α} {t : TypeId} {base hi : Nat} {w : World} {v : Value} {xs : List α} {ps : List (α × Value)} (h : LX K t base hi w v xs ps) : LC K base hi w v xs := by
 have hpl := h.plen
 obtain ⟨h1, h2, h3, h4, lo, up, h5, h6⟩ := h
 refine ⟨h4, ?_⟩
 have h2' := h2
 rcases h2.2 with ⟨q, hn⟩ | ⟨g, cap, cur, rfl, hb, hg, hc, _⟩
 ·left
  exact ⟨List.length_eq_zero_iff.1 hn, q⟩
 ·right
  refine ⟨g, cap, fun j => if h : j < ps.length then (ps[j]'h).2 else .bool false, lo, up, rfl, hc, hb, h3 g rfl, fun j hj => ?_, fun j hj => ?_, fun i j hne hi' hj => (Nat.lt_or_gt_of_ne hne).elim (fun q => .inl (h6 i j q (by omega))) (fun q => .inr (h6 j i q (by omega)))⟩
  ·simp only [Nat.zero_add]
   refine ⟨?_, World.ownsRow.frozenAt h2' j⟩
   rw [World.ownsRow.cellAt h2' j hj, List.getElem?_eq_getElem (by rw [flatK_len, hpl]; exact hj)]
   rfl
  ·have hjp : j < ps.length := by omega
   obtain ⟨a1, a2, a3, a4⟩ := h5 j hjp
   have ex : xs[j] = (ps[j]).1 := by
    have : xs[j]? = (ps.map Prod.fst)[j]? := by rw [h1]
    rw [List.getElem?_map, List.getElem?_eq_getElem hj, List.getElem?_eq_getElem hjp] at this
    exact Option.some.inj this
   simp only [dif_pos hjp, ex]
   refine ⟨⟨fun t ht => ?_, a1⟩, a2, a3, a4 g rfl⟩
   have hlt : j * K.sz + t < xs.length * K.sz := by
    have : (j + 1) * K.sz ≤ xs.length * K.sz := Nat.mul_le_mul_right _ (by omega)
    rw [Nat.succ_mul] at this
    omega
   rw [World.ownsRow.cellAt h2' _ hlt, flatX_at K ps j t hjp ht]
theorem ElX.blk {α : Type} {K : Kd α} {w w' : World} {g i : Nat} {x : α} {s : Value} {lo up : Nat} (h : ElX K w g i x s lo up) (hg : w'.heap[g]? = w.heap[g]?) (hb : ∀ c, lo ≤ c → c < up → w'.heap[c]? = w.heap[c]?) (hs : w.heap.size ≤ w'.heap.size) : ElX K w' g i x s lo up :=
 ⟨fun t ht => by rw [World.cell?_of_block (w := w) hg]; exact h.1 t ht, K.frame h.2 hb hs⟩
theorem LC.frame {α : Type} {K : Kd α} {base hi : Nat} {w w' : World} {v : Value} {xs : List α} (h : LC K base hi w v xs) (hb : ∀ c, base ≤ c → c < hi → w'.heap[c]? = w.heap[c]?) (hs : w.heap.size ≤ w'.heap.size) : LC K base hi w' v xs := by
 obtain ⟨h0, h⟩ := h
 refine ⟨by omega, ?_⟩
 rcases h with h | ⟨g, cap, ss, lo, up, e, h1, h2, h3, h4, h5, h6⟩
 ·exact .inl h
 ·have hg := hb g h2 h3
  refine .inr ⟨g, cap, ss, lo, up, e, h1, h2, h3, fun i hi' => ?_, fun j hj => ?_, h6⟩
  ·have := h4 i hi'
   simp only [World.cell?, World.frozen?, hg] at this ⊢
   exact this
  ·obtain ⟨a1, a2, a3, a4⟩ := h5 j hj
   exact ⟨a1.blk hg (fun c c1 c2 => hb c (by omega) (by omega)) hs, a2, a3, a4⟩
theorem LC.below {α : Type} {K : Kd α} {base hi : Nat} {w w' : World} {v : Value} {xs : List α} (h : LC K base hi w v xs) (H : Below w.heap.size w w') : LC K base hi w' v xs :=
 h.frame (fun c _ h2 => H.block c (by have := h.1; omega)) H.size
theorem LC.form {α : Type} {K : Kd α} {base hi : Nat} {w : World} {v : Value} {xs : List α} (h : LC K base hi w v xs) : ∃ a cap, v = .slice a xs.length cap ∧ xs.length ≤ cap ∧ (∀ c off, a = some ⟨c, off, none⟩ → base ≤ c ∧ c < hi) := by
 rcases h.2 with ⟨rfl, e⟩ | ⟨g, cap, ss, lo, up, e, h1, h2, h3, h4, h5, h6⟩
 ·exact ⟨none, 0, e, by simp, fun c off e => by cases e⟩
 ·exact ⟨_, cap, e, h1, fun c off e => by cases e; exact ⟨h2, h3⟩⟩
def subC (lo up : Nat) (w : World) (v : Value) (x : Ch) : Prop := up ≤ w.heap.size ∧ ∃ c cp, v = .slice (some ⟨c, 0, none⟩) x.2.2.2.length cp ∧ x.2.2.2.length ≤ cp ∧ x.2.2.2.length ≤ 1099511627776 ∧ lo ≤ c ∧ c < up ∧ PtsOwn w c x.2.2.2
def KC : Kd Ch where
 sz := 4
 vals := fun x v => [.int .i64 x.1, .bool x.2.1, .int .i64 x.2.2.1, v]
 sub := subC
 len := fun _ _ => rfl
 one := by
  rintro lo up w v x ⟨_, c, cp, rfl, _⟩ u hu
  simp at hu
  rcases hu with rfl | rfl | rfl | rfl <;> rfl
 frame := by
  rintro lo up w w' v x ⟨h0, c, cp, e, h1, h2, h3, h4, h5⟩ hb hs
  exact ⟨by omega, c, cp, e, h1, h2, h3, h4, own_blk h5 (hb c h3 h4) (by omega)⟩
 top := fun h => h.1
def subN (lo up : Nat) (w : World) (v : Value) (x : Ch) : Prop := subC lo up w v x ∨ (up ≤ w.heap.size ∧ v = .slice none 0 0 ∧ x.2.2.2 = [])
def KN : Kd Ch where
 sz := 4
 vals := fun x v => [.int .i64 x.1, .bool x.2.1, .int .i64 x.2.2.1, v]
 sub := subN
 len := fun _ _ => rfl
 one := by
  rintro lo up w v x h u hu
  have hv : ∃ a n c, v = .slice a n c := by
   rcases h with ⟨_, c, cp, e, _⟩ | ⟨_, e, _⟩ <;> exact ⟨_, _, _, e⟩
  obtain ⟨a, n, c, rfl⟩ := hv
  simp at hu
  rcases hu with rfl | rfl | rfl | rfl <;> rfl
 frame := by
  rintro lo up w w' v x h hb hs
  rcases h with h | ⟨h1, h2, h3⟩
  ·exact .inl (KC.frame h hb hs)
  ·exact .inr ⟨by omega, h2, h3⟩
 top := fun h => by
  rcases h with h | h
  ·exact h.1
  ·exact h.1
theorem LC.chsN {base hi : Nat} {w : World} {a : Option Addr} {n cap : Nat} {xs : List Ch} (h : LC KN base hi w (.slice a n cap) xs) : Chs (fun c => base ≤ c ∧ c < hi) 1099511627776 w a xs := by
 obtain ⟨h0, h⟩ := h
 rcases h with ⟨rfl, _⟩ | ⟨g, cp, ss, lo, up, e, h1, h2, h3, h4, h5, h6⟩
 ·exact .inl rfl
 ·cases e
  refine .inr ⟨g, 0, rfl, by omega, fun j hj => ?_⟩
  obtain ⟨⟨b1, hb⟩, a2, a3, a4⟩ := h5 j hj
  have k0 := b1 0 (by decide)
  have k1 := b1 1 (by decide)
  have k2 := b1 2 (by decide)
  have k3 := b1 3 (by decide)
  rw [Nat.zero_add]
  rcases hb with ⟨_, c, cq, e, b2, b3, b4, b5, b6⟩ | ⟨_, e, hn⟩
  ·simp only [KN, e] at k0 k1 k2 k3
   exact ⟨_, _, k0, k1, k2, k3, b2, b3, b6.pts, fun c' off e' => by cases e'; omega⟩
  ·simp only [KN, e] at k0 k1 k2 k3
   refine ⟨none, 0, k0, k1, k2, ?_, by rw [hn]; simp, by rw [hn]; simp, .inl hn, fun c' off e' => by cases e'⟩
   rw [hn]; exact k3
theorem bnes (b : Bool) : (b != b) = false := by cases b <;> rfl
theorem Ready.bel {w w' : World} {p : Nat} {a : Option Addr} {len cap : Nat} (h : Ready w p a len cap) (hb : Below w.heap.size w w') : Ready w' p a len cap := by
 obtain ⟨⟨i, x, hi, hh⟩, hc⟩ := h
 have hl := lt_of_block hh
 exact ⟨⟨i, x, hi, (hb.block p hl).trans hh⟩, hc.below (hb.mono (Nat.le_of_lt hl))⟩
theorem grown_bel {w w1 w2 : World} {r : Option Nat} (h : w.grownBy w1 r) (hb : Below w1.heap.size w1 w2) : w.grownBy w2 r := grown_trans h ⟨hb.os, hb.tape, hb.output, hb.size, fun k hk _ => hb.block k hk⟩
theorem LX.grown {α : Type} {K : Kd α} {t : TypeId} {base hi p : Nat} {w w' : World} {v : Value} {xs : List α} {ps : List (α × Value)} (h : LX K t base hi w v xs ps) (hg : w.grownBy w' (some p)) (hp : p < base) : LX K t base hi w' v xs ps :=
 h.frame (fun c h1 h2 => hg.block c (by have := h.2.2.2.1; omega) (fun e => by injection e with e; omega)) hg.size
theorem subN_of {w : World} {B : Nat} {v : Value} {x : Ch} (h : PtRow w B v x.2.2.2) (hl : x.2.2.2.length ≤ 61) : KN.sub B w.heap.size w v x := by
 obtain ⟨ao, cp, rfl, hcp, hpt⟩ := h.pts
 have h' := h
 rcases h.2 with ⟨e, hn⟩ | ⟨g, c, cur, e, hb, hg, hc, hx⟩
 ·exact .inr ⟨Nat.le_refl _, e, List.length_eq_zero_iff.1 hn⟩
 ·cases e
  refine .inl ⟨Nat.le_refl _, g, cp, rfl, hcp, by omega, hb, lt_of_block hg, lt_of_block hg, ?_, fun j hj => ?_⟩
  ·rcases hpt with q | ⟨b, off, e, _, q⟩
   ·rw [q]; exact fun j hj => absurd hj (by simp)
   ·cases e; exact q
  ·simp only [Nat.zero_add]
   have hfl : (flat2 x.2.2.2).length = x.2.2.2.length * 2 := by
    generalize x.2.2.2 = l
    induction l with
    | nil => rfl
    | cons y r ih => show (([Value.int .i64 y.1, Value.int .i64 y.2]) ++ flat2 r).length = _; rw [List.length_append, ih, List.length_cons]; simp; omega
   refine ⟨?_, World.ownsRow.frozenAt h' j⟩
   rw [World.ownsRow.cellAt h' j hj, List.getElem?_eq_getElem (by rw [hfl]; exact hj)]
   rfl
theorem changes_r (w : World) (p : Nat) (a : Option Addr) (len cap : Nat) (n : Nat) (hn : n ≤ 8) (h : Ready w p a len cap) : Calls Tryz.prog 71 #[.pointer (some ⟨p, 0, none⟩), .int .i64 n] w fun e w' => ∃ (cs : List Ch) (ao : Option Addr) (cp : Nat), e = .returned (.slice ao cs.length cp) ∧ cs.length ≤ n ∧ Chs (fun c => w.heap.size ≤ c ∧ c < w'.heap.size) 1099511627776 w' ao cs ∧ (∀ b off, ao = some ⟨b, off, none⟩ → w.heap.size ≤ b) ∧ Ready w' p a len cap ∧ w.grownBy w' (some p) := by
 obtain ⟨i0, hi0, hz0, hz1, hz2⟩ := info_parts Tryz.infoCh
 have hp := h.lt
 have HI : Hid (LX KN 50 w.heap.size (w.alloc (.cells #[] 50)).heap.size (w.alloc (.cells #[] 50)) (.slice (some ⟨w.heap.size, 0, none⟩) 0 0) [] []) := hid (by
  have := World.ownsRow_made (base := w.heap.size) (e := 50) (size := 4) w #[] 0 (Nat.le_refl _) (by unfold maxLen; omega) rfl
  exact LX.nil this (fun g e => by simp [Value.ownBlock] at e; subst e; simp) (Nat.le_refl _))
 have HR0 := hid (h.alloc (.cells #[] 50))
 have HG0 := hid (grown_alloc w (.cells #[] 50) (some p))
 clear h
 go_enter Tryz.func71, Tryz.ntmps71
 go_upto_region 2 with fail
 generalize w.alloc (.cells #[] 50) = W0 at *
 go_wp2_with fail
 go_loopw [5, 6] (fun tv ti wr => ∃ (i : Nat) (cs : List Ch) (us : List (Ch × Value)), ti = .int .i64 i ∧ i ≤ n ∧ cs.length ≤ i ∧ Hid (LX KN 50 w.heap.size wr.heap.size wr tv cs us) ∧ Hid (Ready wr p a len cap) ∧ Hid (w.grownBy wr (some p))) (fun _ ti _ => n - (intOf ti).toNat)
 case atStart => exact ⟨0, [], [], rfl, Nat.zero_le _, by simp, HI, HR0, HG0⟩
 case round =>
  clear HI HR0 HG0
  obtain ⟨i, cs, us, rfl, hi, hci, HV, HR, HG⟩ := hrel
  obtain ⟨av, cv, ev, hlv, hvr⟩ := HV.out.lc.form
  have HVR := hid hvr
  clear hvr
  subst ev
  have hwX := HG.out.size
  by_cases hlt : i < n
  ·have c1 : (i : Int) < (n : Int) := by omega
   go_wp2_with fail
   refine (change_r _ p a len cap HR.out).mono ?_
   rintro e w1 ⟨id, gn, kd, ps, v, rfl, hl, hrow, hr, hg⟩
   obtain ⟨avv, cvv, rfl, _, _⟩ := hrow.pts
   have hw1 := hg.size
   have hsub := subN_of (x := (id, gn, kd, ps)) hrow hl
   go_upto_region 6 with fail
   have gQ := heap_alloc_new w1 (.cells #[.int .i64 id, .bool gn, .int .i64 kd, .slice avv ps.length cvv] 50)
   have hal : Below w1.heap.size w1 (w1.alloc (.cells #[.int .i64 id, .bool gn, .int .i64 kd, .slice avv ps.length cvv] 50)) := balloc (Below.refl _ _) _
   have HV1 := hid ((HV.out.grown hg hp).below hal)
   have HR1 := hid (hr.alloc (.cells #[.int .i64 id, .bool gn, .int .i64 kd, .slice avv ps.length cvv] 50))
   have HG1 := hid (grown_bel (grown_trans HG.out hg) hal)
   have HS1 := hid (KN.frame hsub (fun c _ hc => hal.block c hc) hal.size)
   have hw2 : w1.heap.size < (w1.alloc (.cells #[.int .i64 id, .bool gn, .int .i64 kd, .slice avv ps.length cvv] 50)).heap.size := by simp
   clear HV HR HG hr hg hrow hal hsub
   generalize w1.alloc (.cells #[.int .i64 id, .bool gn, .int .i64 kd, .slice avv ps.length cvv] 50) = W1 at *
   generalize w1.heap.size = Q at *
   generalize wr.heap.size = X at *
   obtain ⟨⟨x0, x1, x2, x3⟩, _⟩ := cell4c gQ
   have HQ := hid gQ
   clear gQ
   go_wp2_with fail
   go_loopw [8, 9] (fun th tk wq => ∃ (b : Bool) (k : Nat), th = .bool b ∧ tk = .int .i64 k ∧ k ≤ cs.length ∧ Hid (Below W1.heap.size W1 wq)) (fun _ tk _ => cs.length - (intOf tk).toNat)
   case atStart => exact ⟨false, 0, rfl, rfl, Nat.zero_le _, hid (Below.refl _ _)⟩
   case round =>
    clear x0 x1 x2 x3
    obtain ⟨b, k, rfl, rfl, hk, HB⟩ := hrel
    have gq := (HB.out.block Q (lt_of_block HQ.out)).trans HQ.out
    obtain ⟨⟨x0, x1, x2, x3⟩, _⟩ := cell4c gq
    by_cases hkl : k < cs.length
    ·have c2 : (k : Int) < (cs.length : Int) := by omega
     obtain ⟨bb, oo, hav, _, hch⟩ : ∃ bb oo, av = some ⟨bb, oo, none⟩ ∧ bb < wr.heap.size ∧ ChsAt (fun c => w.heap.size ≤ c ∧ c < X) 1099511627776 wr bb oo cs := by
      rcases ((HV1.out.lc.below HB.out).chsN) with q | ⟨bb, oo, e1, e2, e3⟩
      ·subst q; simp at hkl
      ·exact ⟨bb, oo, e1, e2, e3⟩
     subst hav
     obtain ⟨ca, cc, k0, _⟩ := hch k hkl
     have HBd := hid (bdrew HB.out)
     clear hch
     generalize cs[k].1 = ck at *
     cases b
     ·go_upto_region 10 with fail
      refine wp_region_held_drew (S := (fun w' => w'.cell? ⟨bb, (oo + k * 4), none⟩ = some (.int .i64 ck) ∧ w'.cell? ⟨Q, 0, none⟩ = some (.int .i64 id))) (by kernel_rfl) ?_ (fun hHeld => ?_)
      ·(repeat' apply And.intro) <;> (with_reducible repeat (first | assumption | refine keepdrew ?_))
      refine tkR ?_ 0 rfl (fun _ _ _ h => h) hHeld ?_ ?_
      rotate_left
      ·intro w hSw; (try dsimp only at hSw); go_simp; try (with_reducible rfl)
      try simp only [sq]
      refine tkR ?_ 1 rfl (fun _ _ _ h => h) hHeld ?_ ?_
      rotate_left
      ·intro w hSw; (try dsimp only at hSw); go_simp; try (with_reducible rfl)
      try simp only [sq]
      refine tkR ?_ 2 rfl (fun _ _ _ h => h) hHeld ?_ ?_
      rotate_left
      ·intro w hSw; (try dsimp only at hSw); go_simp; try (with_reducible rfl)
      try simp only [sq]
      refine tkR ?_ 3 rfl (fun _ _ _ h => h) hHeld ?_ ?_
      rotate_left
      ·intro w hSw; (try dsimp only at hSw); go_simp; try (with_reducible rfl)
      try simp only [sq]
      refine tkR ?_ 4 rfl (fun _ _ _ h => h) hHeld ?_ ?_
      rotate_left
      ·intro w hSw; (try dsimp only at hSw); go_simp; try (with_reducible rfl)
      try simp only [sq]
      refine tkR ?_ 5 rfl (fun _ _ _ h => h) hHeld ?_ ?_
      rotate_left
      ·intro w hSw; (try dsimp only at hSw); go_simp; try (with_reducible rfl)
      try simp only [sq]
      refine tkR ?_ 6 rfl (fun _ _ _ h => h) hHeld ?_ ?_
      rotate_left
      ·intro w hSw; (try dsimp only at hSw); go_simp; try (with_reducible rfl)
      try simp only [sq]
      refine tkR ?_ 7 rfl (fun _ _ _ h => h) hHeld ?_ ?_
      rotate_left
      ·intro w hSw; (try dsimp only at hSw); go_simp; try (with_reducible rfl)
      try simp only [sq]
      refine tkR ?_ 8 rfl (fun _ _ _ h => h) hHeld ?_ ?_
      rotate_left
      ·intro w hSw; (try dsimp only at hSw); go_simp; try (with_reducible rfl)
      try simp only [sq]
      refine tkR ?_ 9 rfl (fun _ _ _ h => h) hHeld ?_ ?_
      rotate_left
      ·intro w hSw; (try dsimp only at hSw); go_simp; try (with_reducible rfl)
      try simp only [sq]
      refine tkR ?_ 10 rfl (fun _ _ _ h => h) hHeld ?_ ?_
      rotate_left
      ·intro w hSw; (try dsimp only at hSw); go_simp; try (with_reducible rfl)
      try simp only [sq]
      refine tkR ?_ 11 rfl (fun _ _ _ h => h) hHeld ?_ ?_
      rotate_left
      ·intro w hSw; (try dsimp only at hSw); go_simp; try (with_reducible rfl)
      try simp only [sq]
      refine wpAnyH_done (by kernel_rfl) ?_ _
      go_wp2_with fail
      go_roundw
      case rel => exact ⟨_, k + 1, rfl, by go_num, by omega, HBd⟩
      case measure => simp [intOf]; omega
     ·go_upto_region 10 with fail
      refine wp_region_held_drew (S := (fun w' => w'.cell? ⟨Q, 0, none⟩ = some (.int .i64 id))) (by kernel_rfl) ?_ (fun hHeld => ?_)
      ·(repeat' apply And.intro) <;> (with_reducible repeat (first | assumption | refine keepdrew ?_))
      refine tkR ?_ 0 rfl (fun _ _ _ h => h) hHeld ?_ ?_
      rotate_left
      ·intro w hSw; (try dsimp only at hSw); go_simp; try (with_reducible rfl)
      try simp only [sq]
      refine tkR ?_ 1 rfl (fun _ _ _ h => h) hHeld ?_ ?_
      rotate_left
      ·intro w hSw; (try dsimp only at hSw); go_simp; try (with_reducible rfl)
      try simp only [sq]
      refine wpAnyH_take (i := 2) (v := undef) rfl (by kernel_rfl) (by kernel_rfl) (by kernel_rfl) (fun _ _ _ h => h) (Or.inr ⟨by rfl, rfl⟩) hHeld ?_
      try simp only [sq]
      refine wpAnyH_take (i := 3) (v := undef) rfl (by kernel_rfl) (by kernel_rfl) (by kernel_rfl) (fun _ _ _ h => h) (Or.inr ⟨by rfl, rfl⟩) hHeld ?_
      try simp only [sq]
      refine wpAnyH_take (i := 4) (v := undef) rfl (by kernel_rfl) (by kernel_rfl) (by kernel_rfl) (fun _ _ _ h => h) (Or.inr ⟨by rfl, rfl⟩) hHeld ?_
      try simp only [sq]
      refine wpAnyH_take (i := 5) (v := undef) rfl (by kernel_rfl) (by kernel_rfl) (by kernel_rfl) (fun _ _ _ h => h) (Or.inr ⟨by rfl, rfl⟩) hHeld ?_
      try simp only [sq]
      refine wpAnyH_take (i := 6) (v := undef) rfl (by kernel_rfl) (by kernel_rfl) (by kernel_rfl) (fun _ _ _ h => h) (Or.inr ⟨by rfl, rfl⟩) hHeld ?_
      try simp only [sq]
      refine wpAnyH_take (i := 7) (v := undef) rfl (by kernel_rfl) (by kernel_rfl) (by kernel_rfl) (fun _ _ _ h => h) (Or.inr ⟨by rfl, rfl⟩) hHeld ?_
      try simp only [sq]
      refine wpAnyH_take (i := 8) (v := undef) rfl (by kernel_rfl) (by kernel_rfl) (by kernel_rfl) (fun _ _ _ h => h) (Or.inr ⟨by rfl, rfl⟩) hHeld ?_
      try simp only [sq]
      refine wpAnyH_take (i := 9) (v := undef) rfl (by kernel_rfl) (by kernel_rfl) (by kernel_rfl) (fun _ _ _ h => h) (Or.inr ⟨by rfl, rfl⟩) hHeld ?_
      try simp only [sq]
      refine tkR ?_ 10 rfl (fun _ _ _ h => h) hHeld ?_ ?_
      rotate_left
      ·intro w hSw; (try dsimp only at hSw); go_simp; try (with_reducible rfl)
      try simp only [sq]
      refine tkR ?_ 11 rfl (fun _ _ _ h => h) hHeld ?_ ?_
      rotate_left
      ·intro w hSw; (try dsimp only at hSw); go_simp; try (with_reducible rfl)
      try simp only [sq]
      refine wpAnyH_done (by kernel_rfl) ?_ _
      go_wp2_with fail
      go_roundw
      case rel => exact ⟨true, k + 1, rfl, by go_num, by omega, HBd⟩
      case measure => simp [intOf]; omega
    ·have c2 : (cs.length : Int) ≤ (k : Int) := by omega
     have HVq := hid (HV1.out.below HB.out)
     have HRq := hid (HR1.out.bel HB.out)
     have HGq := hid (grown_bel HG1.out HB.out)
     have HSq := hid (KN.frame HS1.out (fun c _ hc => HB.out.block c (by omega)) HB.out.size)
     have hqs := HB.out.size
     have hqQ := lt_of_block gq
     clear HV1 HR1 HG1 HS1 HB HQ
     have hm := HVq.out.2.2.2.1
     cases b
     ·have hownZ : wr.ownsRow w.heap.size 50 4 (.slice av cs.length cv) cs.length (flatK KN us) := HVq.out.2.1
      go_wp2_with (at_builtin; (refine wpList_append_lies _ rfl (.tmp 41) (.tmp 43) 22 rfl w.heap.size 50 i0 _ 4 48 Tryz.underlying22 hi0 hz0 hz1 hz2 rfl (by decide) (.slice av cs.length cv) cs.length (flatK KN us) rfl (hownZ.alloc _) ⟨wr.heap.size, 0, none⟩ 1 1 [.int .i64 id, .bool gn, .int .i64 kd, .slice avv ps.length cvv] rfl rfl (World.news_of_block (cs := #[.int .i64 id, .bool gn, .int .i64 kd, .slice avv ps.length cvv]) (t := 50) (fr := (0, 0)) (heap_alloc_new wr _)) (by simp [Value.oneCell']) (by omega) (by unfold maxLen; omega) (by omega) (by simp; omega) (wr.heap.size + 1) (by simp) ?_; intro gg cq w2 hown2 hgrow hat hlt2))
      have hal2 : Below wr.heap.size wr (wr.alloc (.cells #[.int .i64 id, .bool gn, .int .i64 kd, .slice avv ps.length cvv] 50)) := balloc (Below.refl _ _) _
      have hsn := LX.snoc (x := (id, gn, kd, ps)) (sv := .slice avv ps.length cvv) (l := X) (u := Q) (g := gg) (cap := cq) (HVq.out.below hal2) (Nat.le_refl _) (by omega) (KN.frame HSq.out (fun c _ hc => hal2.block c (by omega)) hal2.size) hown2 hgrow (by simpa using hat) hlt2
      have hne : (Value.slice av cs.length cv).ownBlock ≠ some p := fun e => by have := (World.ownsRow.lt hownZ _ e).1; omega
      have hgn : w.grownBy w2 (some p) := ⟨hgrow.os.trans HGq.out.os, hgrow.tape.trans HGq.out.tape, hgrow.output.trans HGq.out.output, by have := hgrow.size; have := HGq.out.size; simp at *; omega, fun k hk hkp => (hgrow.block k (by simp; omega) (fun e => by have := (World.ownsRow.lt hownZ k e.symm).1; omega)).trans ((Below.heap_alloc _ _ k (by omega)).trans (HGq.out.block k hk hkp))⟩
      have hrd : Ready w2 p a len cap := by
       have hr2 := HRq.out.alloc (.cells #[.int .i64 id, .bool gn, .int .i64 kd, .slice avv ps.length cvv] 50)
       obtain ⟨⟨j, xx, hj, hh⟩, hc⟩ := hr2
       refine ⟨⟨j, xx, hj, (hgrow.block p (lt_of_block hh) (fun e => hne e.symm)).trans hh⟩, hc.below ⟨hgrow.os, hgrow.tape, hgrow.output, by have := hgrow.size; omega, fun k hk => hgrow.block k (by have := lt_of_block hh; omega) (fun e => by have := (World.ownsRow.lt hownZ k e.symm).1; omega)⟩⟩
      have HSN := hid hsn
      have HGN := hid hgn
      have HRD := hid hrd
      clear hsn hgn hrd hown2 hgrow hal2 hownZ x0 x1 x2 x3
      go_roundw
      case rel => exact ⟨i + 1, cs ++ [(id, gn, kd, ps)], _, by go_num, by omega, by simp; omega, HSN, HRD, HGN⟩
      case measure => simp [intOf]; omega
     ·go_wp2_with fail
      refine (once_r _ p a len cap 12 (by omega) (by omega) HRq.out).mono ?_
      rintro e wz ⟨d, rfl, hr, hg⟩
      have gz := grown_blk hg gq (by omega)
      replace HVq := hid (HVq.out.grown hg hp)
      replace HRq := hid hr
      replace HGq := hid (grown_trans HGq.out hg)
      replace HSq := hid (KN.frame HSq.out (fun c c1 hc => hg.block c (by omega) (fun e => by injection e with e; omega)) hg.size)
      have hzs := hg.size
      clear hr hg x0 x1 x2 x3 gq
      cases d
      ·go_wp2_with fail
       go_roundw
       case rel => exact ⟨i + 1, cs, us, by go_num, by omega, by omega, hid (HVq.out.mono (Nat.le_refl _) (by omega) (Nat.le_refl _)), HRq, HGq⟩
       case measure => simp [intOf]; omega
      ·obtain ⟨⟨x0, x1, x2, x3⟩, _⟩ := cell4c gz
       have hownZ : wz.ownsRow w.heap.size 50 4 (.slice av cs.length cv) cs.length (flatK KN us) := HVq.out.2.1
       go_wp2_with (at_builtin; (refine wpList_append_lies _ rfl (.tmp 41) (.tmp 43) 22 rfl w.heap.size 50 i0 _ 4 48 Tryz.underlying22 hi0 hz0 hz1 hz2 rfl (by decide) (.slice av cs.length cv) cs.length (flatK KN us) rfl (hownZ.alloc _) ⟨wz.heap.size, 0, none⟩ 1 1 [.int .i64 id, .bool gn, .int .i64 kd, .slice avv ps.length cvv] rfl rfl (World.news_of_block (cs := #[.int .i64 id, .bool gn, .int .i64 kd, .slice avv ps.length cvv]) (t := 50) (fr := (0, 0)) (heap_alloc_new wz _)) (by simp [Value.oneCell']) (by omega) (by unfold maxLen; omega) (by omega) (by simp; omega) (wz.heap.size + 1) (by simp) ?_; intro gg cq w2 hown2 hgrow hat hlt2))
       have hal2 : Below wz.heap.size wz (wz.alloc (.cells #[.int .i64 id, .bool gn, .int .i64 kd, .slice avv ps.length cvv] 50)) := balloc (Below.refl _ _) _
       have hsn := LX.snoc (x := (id, gn, kd, ps)) (sv := .slice avv ps.length cvv) (l := X) (u := Q) (g := gg) (cap := cq) (HVq.out.below hal2) (Nat.le_refl _) (by omega) (KN.frame HSq.out (fun c _ hc => hal2.block c (by omega)) hal2.size) hown2 hgrow (by simpa using hat) hlt2
       have hne : (Value.slice av cs.length cv).ownBlock ≠ some p := fun e => by have := (World.ownsRow.lt hownZ _ e).1; omega
       have hgn : w.grownBy w2 (some p) := ⟨hgrow.os.trans HGq.out.os, hgrow.tape.trans HGq.out.tape, hgrow.output.trans HGq.out.output, by have := hgrow.size; have := HGq.out.size; simp at *; omega, fun k hk hkp => (hgrow.block k (by simp; omega) (fun e => by have := (World.ownsRow.lt hownZ k e.symm).1; omega)).trans ((Below.heap_alloc _ _ k (by omega)).trans (HGq.out.block k hk hkp))⟩
       have hrd : Ready w2 p a len cap := by
        have hr2 := HRq.out.alloc (.cells #[.int .i64 id, .bool gn, .int .i64 kd, .slice avv ps.length cvv] 50)
        obtain ⟨⟨j, xx, hj, hh⟩, hc⟩ := hr2
        refine ⟨⟨j, xx, hj, (hgrow.block p (lt_of_block hh) (fun e => hne e.symm)).trans hh⟩, hc.below ⟨hgrow.os, hgrow.tape, hgrow.output, by have := hgrow.size; omega, fun k hk => hgrow.block k (by have := lt_of_block hh; omega) (fun e => by have := (World.ownsRow.lt hownZ k e.symm).1; omega)⟩⟩
       have HSN := hid hsn
       have HGN := hid hgn
       have HRD := hid hrd
       clear hsn hgn hrd hown2 hgrow hal2 hownZ x0 x1 x2 x3
       go_roundw
       case rel => exact ⟨i + 1, cs ++ [(id, gn, kd, ps)], _, by go_num, by omega, by simp; omega, HSN, HRD, HGN⟩
       case measure => simp [intOf]; omega
  ·have c1 : (n : Int) ≤ (i : Int) := by omega
   go_wp2_with fail
   go_ret
   exact ⟨cs, av, cv, rfl, by omega, HV.out.lc.chsN, fun b off e => (HVR.out b off e).1, HR.out, HG.out⟩
end Go.Proofs.YtenlhgnobfadgaaGreatDoor
