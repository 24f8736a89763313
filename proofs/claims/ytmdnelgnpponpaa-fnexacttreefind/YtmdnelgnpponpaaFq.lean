/- Ranges over functions that reach down a tree: what each side keeps, and the law of the statement. -/
import Derived.Test.YtmdnelgnpponpaaFd
import Derived.RangeFuncNested
import Derived.RangeFuncBound
import Derived.RangeFuncCalls
import Derived.RangeFuncLeaves
namespace Go.Proofs.Ytmdnelgnpponpaa
open Go.RowKit
set_option linter.unusedSimpArgs false
set_option linter.unusedVariables false
/-- What an iterator may turn: new blocks, and from B on blocks of one make. -/
structure Tn (M : Obj → Bool) (B : Nat) (W W' : World) : Prop where
  os : W'.os = W.os
  tape : W'.tape = W.tape
  output : W'.output = W.output
  size : W.heap.size ≤ W'.heap.size
  old : ∀ k, k < W.heap.size → (k < B ∨ ∀ o, W.heap[k]? = some o → M o = false) → W'.heap[k]? = W.heap[k]?
theorem Tn.refl (M : Obj → Bool) (B : Nat) (W : World) : Tn M B W W := ⟨rfl, rfl, rfl, Nat.le_refl _, fun _ _ _ => rfl⟩
theorem Tn.trans {M : Obj → Bool} {B : Nat} {X Y Z : World} (h : Tn M B X Y) (k : Tn M B Y Z) : Tn M B X Z :=
  ⟨k.os.trans h.os, k.tape.trans h.tape, k.output.trans h.output, Nat.le_trans h.size k.size, fun i hi hc => by
    have e := h.old i hi hc
    exact (k.old i (Nat.lt_of_lt_of_le hi h.size) (by rw [e]; exact hc)).trans e⟩
theorem Tn.mono {M : Obj → Bool} {B B' : Nat} {X Y : World} (h : Tn M B X Y) (hB : B' ≤ B) : Tn M B' X Y :=
  ⟨h.os, h.tape, h.output, h.size, fun i hi hc => h.old i hi (hc.imp (fun e => Nat.lt_of_lt_of_le e hB) id)⟩
theorem Tn.of_below {M : Obj → Bool} {B : Nat} {X Y : World} (h : Below X.heap.size X Y) : Tn M B X Y := ⟨h.os, h.tape, h.output, h.size, fun i hi _ => h.block i hi⟩
theorem Tn.put {M : Obj → Bool} {B l : Nat} {W : World} {o : Obj} (o' : Obj) (hl : W.heap[l]? = some o) (ho : M o = true) (hB : B ≤ l) : Tn M B W (W.putObj l o') :=
  ⟨rfl, rfl, rfl, by simp, fun i hi hc => by
    refine World.putObj_heap_other (fun e => ?_)
    subst e
    rcases hc with hc | hc
    · omega
    · rw [hc o hl] at ho; cases ho⟩
theorem Tn.set {M : Obj → Bool} {B : Nat} {W : World} {p : Addr} {o : Obj} (v : Value) (hl : W.heap[p.block]? = some o) (ho : M o = true) (hB : B ≤ p.block) : Tn M B W (W.setCell p v) :=
  ⟨rfl, rfl, rfl, (KeepsWalks.setCell W p v).size, fun i hi hc => by
    refine Below.heap_setCell W p v i (fun e => ?_)
    subst e
    rcases hc with hc | hc
    · omega
    · rw [hc o hl] at ho; cases ho⟩
/-- What abides an iterator. -/
def Ab {β : Type} (M : Obj → Bool) (B : Nat) (I : β → World → Prop) : Prop := ∀ s W W', I s W → Tn M B W W' → I s W'
theorem Ab.and {β : Type} {M : Obj → Bool} {B : Nat} {I I' : β → World → Prop} (h : Ab M B I) (h' : Ab M B I') : Ab M B (fun s W => I s W ∧ I' s W) := fun s W W' hs ht => ⟨h s W W' hs.1 ht, h' s W W' hs.2 ht⟩
theorem Ab.mono {β : Type} {M : Obj → Bool} {B B' : Nat} {I : β → World → Prop} (h : Ab M B I) (hB : B ≤ B') : Ab M B' I := fun s W W' hs ht => h s W W' hs (ht.mono hB)
theorem Tn.below {M : Obj → Bool} {B n : Nat} {X Y : World} (h : Tn M B X Y) (hn : n ≤ B) (hx : n ≤ X.heap.size) : Below n X Y :=
  ⟨h.os, h.tape, h.output, h.size, fun i hi => h.old i (Nat.lt_of_lt_of_le hi hx) (.inl (Nat.lt_of_lt_of_le hi hn))⟩
/-- What a round keeps: all below n, and from B on all blocks of one make. -/
structure Kp (M : Obj → Bool) (B n : Nat) (W W' : World) : Prop where
  below : Below n W W'
  mine : ∀ k o, B ≤ k → W.heap[k]? = some o → M o = true → W'.heap[k]? = some o
theorem Kp.refl (M : Obj → Bool) (B n : Nat) (W : World) : Kp M B n W W := ⟨Below.refl _ _, fun _ _ _ h _ => h⟩
theorem Kp.trans {M : Obj → Bool} {B n : Nat} {X Y Z : World} (h : Kp M B n X Y) (k : Kp M B n Y Z) : Kp M B n X Z := ⟨h.below.trans k.below, fun i o hi ho hm => k.mine i o hi (h.mine i o hi ho hm) hm⟩
theorem Kp.mono {M : Obj → Bool} {B B' n : Nat} {X Y : World} (h : Kp M B n X Y) (hB : B ≤ B') : Kp M B' n X Y := ⟨h.below, fun i o hi ho hm => h.mine i o (Nat.le_trans hB hi) ho hm⟩
theorem lt_of_heap {W : World} {k : Nat} {o : Obj} (h : W.heap[k]? = some o) : k < W.heap.size := (Array.getElem?_eq_some_iff.1 h).1
theorem Kp.of_below {M : Obj → Bool} {B n : Nat} {X Y : World} (h : Below X.heap.size X Y) (hn : n ≤ X.heap.size) : Kp M B n X Y := ⟨h.mono hn, fun i o _ ho _ => (h.block i (lt_of_heap ho)).trans ho⟩
theorem Kp.belowR {M : Obj → Bool} {B n : Nat} {X Y Z : World} (h : Kp M B n X Y) (k : Below Y.heap.size Y Z) (hn : n ≤ X.heap.size) : Kp M B n X Z := h.trans (Kp.of_below k (Nat.le_trans hn h.below.size))
/-- What was made since is the call's own: an iterator may turn it. -/
theorem Kp.tn {M : Obj → Bool} {B C n : Nat} {X Y Z : World} (h : Kp M B n X Y) (t : Tn M C Y Z) (hC : X.heap.size ≤ C) (hn : n ≤ X.heap.size) : Kp M B n X Z :=
  ⟨h.below.trans (t.below (Nat.le_trans hn hC) (Nat.le_trans hn h.below.size)), fun i o hi ho hm => by
    have h1 := h.mine i o hi ho hm
    have := lt_of_heap ho
    exact (t.old i (lt_of_heap h1) (.inl (by omega))).trans h1⟩
theorem Kp.put {M : Obj → Bool} {B n l : Nat} {X Y : World} (h : Kp M B n X Y) (o' : Obj) (hn : n ≤ l) (hl : l < B) (hy : n ≤ Y.heap.size) : Kp M B n X (Y.putObj l o') :=
  h.trans ⟨⟨rfl, rfl, rfl, by simp, fun i hi => World.putObj_heap_other (by omega)⟩, fun i o hi ho _ => (World.putObj_heap_other (by omega)).trans ho⟩
theorem Kp.set {M : Obj → Bool} {B n : Nat} {X Y : World} {p : Addr} (h : Kp M B n X Y) (v : Value) (hn : n ≤ p.block) (hl : p.block < B ∨ X.heap.size ≤ p.block ∨ ∀ o, Y.heap[p.block]? = some o → M o = false) : Kp M B n X (Y.setCell p v) :=
  ⟨h.below.setCell hn v, fun i o hi ho hm => by
    have h1 := h.mine i o hi ho hm
    refine (Below.heap_setCell Y p v i (fun e => ?_)).trans h1
    subst e
    rcases hl with hl | hl | hl
    · omega
    · have := lt_of_heap ho; omega
    · rw [hl o h1] at hm; cases hm⟩
theorem Kp.grown {M : Obj → Bool} {B n : Nat} {X Y Z : World} {row : Option Nat} (h : Kp M B n X Y) (hg : Y.grownBy Z row) (hn : n ≤ Y.heap.size) (hr : ∀ r, row = some r → n ≤ r ∧ (r < B ∨ ∀ o, Y.heap[r]? = some o → M o = false)) : Kp M B n X Z :=
  ⟨h.below.grown hg hn (fun k e => (hr k e).1), fun i o hi ho hm => by
    have h1 := h.mine i o hi ho hm
    refine (hg.block i (lt_of_heap h1) (fun e => ?_)).trans h1
    rcases (hr i e.symm).2 with hl | hl
    · omega
    · rw [hl o h1] at hm; cases hm⟩
/-- An iterator over N things: what it is asked, and what it answers. -/
def SeqN (F : Fence) (n : Nat) (P : Program) (M : Obj → Bool) (g : Nat) (first lb : Array Value) (n0 N : Nat) (E : Nat → Value → World → Prop) (G : World → Prop) (w : World) : Prop :=
  ∀ (l : Nat) (J Jx : Nat → World → Prop) (W : World), (∀ k X, J k X → G X) → Below w.heap.size w W → Ab M W.heap.size J → Ab M W.heap.size Jx →
    (∀ k v W1, k < N → J k W1 → E k v W1 → Below n0 W W1 → YieldAt F (n - 1) P l #[v] W1 fun e W' => ((e = .returned (.bool true) ∧ J (k + 1) W') ∨ (e = .returned (.bool false) ∧ Jx k W')) ∧ Kp M W.heap.size n0 W1 W') →
    J 0 W →
    CallsIn F n P g (first ++ #[.func (.yield l) #[] #[]] ++ lb) W fun e W' => (∃ v, e = .returned v) ∧ (J N W' ∨ ∃ k, k < N ∧ Jx k W') ∧ Below n0 W W'
/-- How a round may be left. -/
def postN (K : World → Prop) (I : Nat → World → Prop) (Ix : Code → Nat → World → Prop) (k : Nat) : Exit → Act → World → Prop
  | .normal, _, W' => K W' ∧ I (k + 1) W'
  | .ret, _, W' => K W' ∧ Ix .ret k W'
  | .exit id, _, W' => K W' ∧ Ix (.exit id) k W'
  | .goto t, _, W' => K W' ∧ Ix (.goto t) k W'
  | .panic _, _, _ => False
  | .outgrown, _, _ => False
/-- The statement: a range over a function whose iterator is known. -/
theorem wpIn_rangeN {F : Fence} {n : Nat} {P : Program} {M : Obj → Bool} {g : Operand} {p : Tmp} {assign body : Code} {Q : Exit → Act → World → Prop} {a : Act} {w w0 : World}
    (hro : F.round = none) (h1 : F.depth.isSome = true → 1 ≤ n) {gf : Nat} {first lb : Array Value} (hg : a.eval g = .func (.func gf) first lb) (hFg : F.fn gf) (eg : ∀ args w, (callFunc gf args).run P w = .ok (.enter gf args) w)
    (hM1 : ∀ r, M (.loop r) = true) (hM2 : ∀ d, M (.deferred d) = true) {n0 N : Nat} {E : Nat → Value → World → Prop} {G : World → Prop} (hseq : SeqN F (n - 1) P M gf first lb n0 N E G w0) (hb0 : Below w0.heap.size w0 w) (hn0 : n0 ≤ w.heap.size)
    (I : Nat → World → Prop) (Ix : Code → Nat → World → Prop) (hG : ∀ k X, I k X → G X) (hI : Ab M w.heap.size I) (hIx : ∀ c, Ab M w.heap.size (Ix c)) (h0 : I 0 w)
    (Ax : Nat → Act → World → Prop) (hAx : ∀ k a' W l r r', Ax k a' W → W.heap[l]? = some (.loop r) → w.heap.size ≤ l → Ax k a' (W.putObj l (.loop r')))
    (hassign : ∀ l k v W, k < N → I k W → E k v W → w.heap.size ≤ W.heap.size → Below n0 w W → assign.wpIn (F.inRound l) (n - 1 - 1) P (Exit.then (fun a' W' => Kp M w.heap.size n0 W W' ∧ Ax k a' W') (fun _ _ _ => False)) { tmps := a.tmps.setIfInBounds p v, defers := [] } W)
    (hbody : ∀ l k a' W, k < N → Ax k a' W → body.wpIn (F.inRound l) (n - 1 - 1) P (postN (Kp M w.heap.size n0 W) I Ix k) a' W)
    (hdone : ∀ W, I N W → W.heap[w.heap.size]? = some (.deferred (some [])) → Below n0 w W → Q .normal { a with defers := { target := .collected w.heap.size, args := #[] } :: a.defers } W)
    (hstop : ∀ c k W, k < N → Ix c k W → W.heap[w.heap.size]? = some (.deferred (some [])) → Below n0 w W → c.wpIn F n P Q { a with defers := { target := .collected w.heap.size, args := #[] } :: a.defers } W) :
    (Code.rangeFunc g #[p] assign body).wpIn F n P Q a w := by
  refine wpIn_rangeFunc ?_
  intro fn hfn
  rw [hro]
  obtain ⟨rec, hrec⟩ : ∃ rec : LoopState → Option Code → Loop, rec = fun st pe => { state := st, pending := pe, fn, tmps := a.tmps, params := #[p], assign, body, defers := w.heap.size } := ⟨_, rfl⟩
  obtain ⟨W1, hW1⟩ : ∃ W1, (w.alloc (.deferred (some []))).alloc (.loop (rec .ready none)) = W1 := ⟨_, rfl⟩
  have hL1 : W1.heap[w.heap.size + 1]? = some (.loop (rec .ready none)) := by
    rw [← hW1]; have := World.alloc_heap_new (w.alloc (.deferred (some []))) (.loop (rec .ready none)); rwa [World.size_alloc] at this
  have hD1 : W1.heap[w.heap.size]? = some (.deferred (some [])) := by
    rw [← hW1]; exact (Below.heap_alloc _ _ _ (by simp)).trans (World.alloc_heap_new w _)
  have hbw : Below w.heap.size w W1 := by
    rw [← hW1]; exact ((Below.refl _ w).alloc (Nat.le_refl _) _).alloc (by simp) _
  have hs1 : W1.heap.size = w.heap.size + 2 := by rw [← hW1]; simp
  have hI1 : I 0 W1 := hI _ _ _ h0 (Tn.of_below hbw)
  refine ⟨w.heap.size + 1, [{ target := .collected w.heap.size, args := #[] }], W1, { target := .fn (.func gf) lb, args := first ++ #[.func (.yield (w.heap.size + 1)) #[] #[]] }, W1, gf,
    first ++ #[.func (.yield (w.heap.size + 1)) #[] #[]] ++ lb, W1, ?_, ?_, ?_, ?_, h1, ?_⟩
  · rw [← hW1, hrec]; exact run_enterLoop_outer _ _ _ _ _
  · simp only [resolve, hg]
    simp [go_sem]
  · intro f' hf'; simp [Target.leads] at hf'; subst hf'; exact hFg
  · simp only [invoke, eg]
  · refine (hseq (w.heap.size + 1)
      (fun k W => I k W ∧ W.heap[w.heap.size + 1]? = some (.loop (rec .ready none)) ∧ W.heap[w.heap.size]? = some (.deferred (some [])))
      (fun k W => ∃ c, Ix c k W ∧ W.heap[w.heap.size + 1]? = some (.loop (rec .done (some c))) ∧ W.heap[w.heap.size]? = some (.deferred (some [])))
      W1 (fun k X hx => hG k X hx.1) (hb0.trans (hbw.mono hb0.size))
      (fun s A B hs ht => ⟨hI s A B hs.1 (ht.mono (by omega)), (ht.old _ (lt_of_heap hs.2.1) (.inl (by omega))).trans hs.2.1, (ht.old _ (lt_of_heap hs.2.2) (.inl (by omega))).trans hs.2.2⟩)
      (fun s A B hs ht => by
        obtain ⟨c, hc, hl, hk⟩ := hs
        exact ⟨c, hIx c s A B hc (ht.mono (by omega)), (ht.old _ (lt_of_heap hl) (.inl (by omega))).trans hl, (ht.old _ (lt_of_heap hk) (.inl (by omega))).trans hk⟩)
      ?_ ⟨hI1, hL1, hD1⟩).mono ?_
    · rintro k v W hkN ⟨hi, hl, hk⟩ hE hbW
      have hwW : Below n0 w W := (hbw.mono hn0).trans hbW
      have hy := run_yield (P := P) (args := #[v]) hl (by rw [hrec]; rfl)
      rw [hrec] at hy
      have hz : ((#[p] : Array Tmp).zip #[v]).foldl (fun tmps (x : Tmp × Value) => tmps.setIfInBounds x.1 x.2) a.tmps = a.tmps.setIfInBounds p v := by simp [Array.zip_eq_zipWith]
      simp only [hz] at hy
      refine ⟨fn, _, assign, body, hy, roundIn_of_wpIn hfn ?_⟩
      refine wpIn_mono (hassign (w.heap.size + 1) k v W hkN hi hE hwW.size hwW) ?_
      intro e a' Wa hp
      cases e with
      | normal =>
        obtain ⟨hka, hax⟩ := hp
        have hla := hka.mine _ _ (by omega) hl (hM1 _)
        have hda := hka.mine _ _ (Nat.le_refl _) hk (hM2 _)
        refine ⟨_, run_beginRound hla (by rw [hrec]), ?_⟩
        have hl2 : (Wa.putObj (w.heap.size + 1) (.loop { rec .ready none with state := .busy })).heap[w.heap.size + 1]? = some (.loop { rec .ready none with state := .busy }) := World.putObj_heap_same (lt_of_heap hla)
        have hd2 : (Wa.putObj (w.heap.size + 1) (.loop { rec .ready none with state := .busy })).heap[w.heap.size]? = some (.deferred (some [])) := (World.putObj_heap_other (by omega)).trans hda
        have hn1 : n0 ≤ Wa.heap.size := Nat.le_trans hn0 (Nat.le_trans hwW.size hka.below.size)
        have hkb : Kp M W1.heap.size n0 W (Wa.putObj (w.heap.size + 1) (.loop { rec .ready none with state := .busy })) := (hka.mono (by omega)).put _ (by omega) (by omega) hn1
        refine wpIn_mono (hbody (w.heap.size + 1) k a' _ hkN (hAx k a' Wa _ _ _ hax hla (by omega))) ?_
        have fin : ∀ (jump : Option Code) (W3 : World), Kp M w.heap.size n0 (Wa.putObj (w.heap.size + 1) (.loop { rec .ready none with state := .busy })) W3 →
            (Instr.endRound (w.heap.size + 1) jump).run P W3 = .ok (.bool jump.isNone) (W3.putObj (w.heap.size + 1) (.loop (rec (if jump.isNone then .ready else .done) jump))) ∧
            W3.heap[w.heap.size + 1]? = some (.loop { rec .ready none with state := .busy }) ∧
            (W3.putObj (w.heap.size + 1) (.loop (rec (if jump.isNone then .ready else .done) jump))).heap[w.heap.size + 1]? = some (.loop (rec (if jump.isNone then .ready else .done) jump)) ∧
            (W3.putObj (w.heap.size + 1) (.loop (rec (if jump.isNone then .ready else .done) jump))).heap[w.heap.size]? = some (.deferred (some [])) ∧
            Kp M W1.heap.size n0 W (W3.putObj (w.heap.size + 1) (.loop (rec (if jump.isNone then .ready else .done) jump))) ∧
            Tn M w.heap.size W3 (W3.putObj (w.heap.size + 1) (.loop (rec (if jump.isNone then .ready else .done) jump))) := fun jump W3 hk3 => by
          have hl3 := hk3.mine _ _ (by omega) hl2 (hM1 _)
          have hd3 := hk3.mine _ _ (Nat.le_refl _) hd2 (hM2 _)
          have := run_endRound (P := P) jump hl3
          rw [hrec] at this
          refine ⟨by rw [hrec]; exact this, hl3, World.putObj_heap_same (lt_of_heap hl3), (World.putObj_heap_other (by omega)).trans hd3, ?_, Tn.put _ hl3 (hM1 _) (by omega)⟩
          exact (hkb.trans (hk3.mono (by omega))).put _ (by omega) (by omega) (by have := hk3.below.size; simp at this; omega)
        rintro e a3 W3 hp
        cases e with
        | normal =>
          obtain ⟨hk3, hi3⟩ := hp
          obtain ⟨hr, hl3, hl4, hd4, hk4, ht⟩ := fin none W3 hk3
          exact ⟨_, _, hr, .inl ⟨rfl, hI _ _ _ hi3 ht, hl4, hd4⟩, hk4⟩
        | ret =>
          obtain ⟨hk3, hi3⟩ := hp
          obtain ⟨hr, hl3, hl4, hd4, hk4, ht⟩ := fin (some .ret) W3 hk3
          exact ⟨_, _, hr, .inr ⟨rfl, .ret, hIx _ _ _ _ hi3 ht, hl4, hd4⟩, hk4⟩
        | exit id =>
          obtain ⟨hk3, hi3⟩ := hp
          obtain ⟨hr, hl3, hl4, hd4, hk4, ht⟩ := fin (some (.exit id)) W3 hk3
          exact ⟨_, _, hr, .inr ⟨rfl, .exit id, hIx _ _ _ _ hi3 ht, hl4, hd4⟩, hk4⟩
        | goto t =>
          obtain ⟨hk3, hi3⟩ := hp
          obtain ⟨hr, hl3, hl4, hd4, hk4, ht⟩ := fin (some (.goto t)) W3 hk3
          exact ⟨_, _, hr, .inr ⟨rfl, .goto t, hIx _ _ _ _ hi3 ht, hl4, hd4⟩, hk4⟩
        | panic ch => exact hp.elim
        | outgrown => exact hp.elim
      | ret => exact hp.elim
      | exit id => exact hp.elim
      | goto t => exact hp.elim
      | panic ch => exact hp.elim
      | outgrown => exact hp.elim
    · rintro e W2 ⟨⟨v, rfl⟩, (⟨hi, hl, hk⟩ | ⟨k, hkN, c, hi, hl, hk⟩), hb⟩
      · refine ⟨none, _, by have := run_endLoop (P := P) hl (by rw [hrec]; simp); rw [hrec] at this; exact this, hdone _ (hI _ _ _ hi (Tn.put _ hl (hM1 _) (by omega))) ((World.putObj_heap_other (by omega)).trans hk) ?_⟩
        exact ((hbw.mono hn0).trans hb).trans ⟨rfl, rfl, rfl, by simp, fun i hi => World.putObj_heap_other (by omega)⟩
      · refine ⟨some c, _, by have := run_endLoop (P := P) hl (by rw [hrec]; simp); rw [hrec] at this; exact this, hstop c k _ hkN (hIx _ _ _ _ hi (Tn.put _ hl (hM1 _) (by omega))) ((World.putObj_heap_other (by omega)).trans hk) ?_⟩
        exact ((hbw.mono hn0).trans hb).trans ⟨rfl, rfl, rfl, by simp, fun i hi => World.putObj_heap_other (by omega)⟩
end Go.Proofs.Ytmdnelgnpponpaa
