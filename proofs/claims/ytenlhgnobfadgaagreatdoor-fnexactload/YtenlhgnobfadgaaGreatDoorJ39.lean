/- Texts of stores, joined: Gl. -/
import Derived.Test.YtenlhgnobfadgaaGreatDoorJ37
import Derived.Test.YtenlhgnobfadgaaGreatDoorJ38
import Derived.Test.YtenlhgnobfadgaaGreatDoorJ28
import Derived.Deep.MidRow
namespace Go.Proofs.YtenlhgnobfadgaaGreatDoor
open Go.RowKit
set_option linter.unusedSimpArgs false
set_option linter.unusedVariables false
theorem own_frame {w w' : World} {B : Nat} {e : TypeId} {sz : Nat} {v : Value} {n : Nat} {xs : List Value} (h : w.ownsRow B e sz v n xs) (hb : ∀ g, v.ownBlock = some g → w'.heap[g]? = w.heap[g]?) : w'.ownsRow B e sz v n xs := by
  refine ⟨h.1, ?_⟩
  rcases h.2 with q | ⟨g, c, cur, e1, q1, q2, q3⟩
  · exact .inl q
  · refine .inr ⟨g, c, cur, e1, q1, ?_, q3⟩
    rw [hb g (by rw [e1]; rfl)]; exact q2
def tkk (k : Int) (n : Nat) : List (Int × Int) := tk (fun i => (k + 2 * (i : Int), k + 2 * (i : Int) + 1)) n
theorem tkk_len (k : Int) (n : Nat) : (tkk k n).length = n := tk_len _ _
set_option maxRecDepth 100000 in
set_option maxHeartbeats 1000000 in
theorem mark_ptsK (w : World) (c n cap : Nat) (ps : List (Int × Int)) (k0 : Int) (h0 : 0 ≤ k0) (h1 : k0 ≤ 4611686018427387904) (hn : n ≤ 1048576) (hp : ps.length = n) (ho : PtsOwn w c ps) : Calls Tryz.prog 26 #[.slice (some ⟨c, 0, none⟩) n cap, .int .i64 k0] w fun e w' => e = .returned (.int .i64 (k0 + 2 * (n : Int))) ∧ PtsOwn w' c (tkk k0 n) ∧ w.grownBy w' (some c) := by
  obtain ⟨hb, _, ht⟩ := ho
  rw [hp] at ht
  go_enter Tryz.func26, Tryz.ntmps26
  go_wp2_with fail
  go_loopw [1, 5] (fun tk' ti wr => ∃ k : Nat, ti = .int .i64 k ∧ tk' = .int .i64 (k0 + 2 * (k : Int)) ∧ k ≤ n ∧ Hid (c < wr.heap.size ∧ PtsAt wr c 0 (tkk k0 k) ∧ wr.there c 0 (n * 2) ∧ w.grownBy wr (some c))) (fun _ ti _ => n - (intOf ti).toNat)
  case atStart => exact ⟨0, rfl, by simp, Nat.zero_le _, hid ⟨hb, fun j hj => by rw [tkk_len] at hj; omega, ht, grown_same _ _⟩⟩
  case round =>
    obtain ⟨k, rfl, rfl, hk, HH⟩ := hrel
    by_cases hlt : k < n
    · have c1 : (k : Int) < (n : Int) := by omega
      obtain ⟨u0, hu0, g0'⟩ := there_at HH.out.2.2.1 (show k * 2 < n * 2 by omega)
      obtain ⟨u1, hu1, g1'⟩ := there_at HH.out.2.2.1 (show k * 2 + 1 < n * 2 by omega)
      have hu1' : (wr.setCell ⟨c, k * 2, none⟩ (.int .i64 (k0 + 2 * (k : Int)))).cell? ⟨c, k * 2 + 1, none⟩ = some u1 := by
        rw [World.cell?_setCell_other _ _ _ _ (by simp)]; exact hu1
      have g1'' : (wr.setCell ⟨c, k * 2, none⟩ (.int .i64 (k0 + 2 * (k : Int)))).frozen? ⟨c, k * 2 + 1, none⟩ = false := by rw [World.frozen?_setCell]; exact g1'
      go_wp2_with fail
      go_roundw
      case rel =>
        have hq : PtsAt wr c 0 ((tkk k0 n).take k) := by unfold tkk; rw [take_of _ _ _ (by omega)]; exact HH.out.2.1
        obtain ⟨r1, r2⟩ := put_point (ps := tkk k0 n) (n := n * 2) HH.out.1 (by rw [tkk_len]; exact hlt) (by rw [tkk_len]) hq HH.out.2.2.1 (k0 + 2 * (k : Int)) (k0 + 2 * (k : Int) + 1) (by unfold tkk; rw [tk_getD _ _ _ hlt]) (by unfold tkk; rw [tk_getD _ _ _ hlt])
        have hq2 : (tkk k0 n).take (k + 1) = tkk k0 (k + 1) := by unfold tkk; rw [take_of _ _ _ (by omega)]
        rw [hq2] at r1
        exact ⟨k + 1, by go_num, by go_num, by omega, hid ⟨by simpa using HH.out.1, r1, r2, grown_setb (grown_setb HH.out.2.2.2 _) _⟩⟩
      case measure => simp [intOf]; omega
    · obtain rfl : k = n := by omega
      go_wp2_with fail
      go_ret
      exact ⟨rfl, ⟨HH.out.1, HH.out.2.1, by rw [tkk_len]; exact HH.out.2.2.1⟩, HH.out.2.2.2⟩
set_option maxRecDepth 100000 in
set_option maxHeartbeats 1000000 in
theorem held_ptsK (w : World) (a : Option Addr) (cap n : Nat) (k0 : Int) (h0 : 0 ≤ k0) (h1 : k0 ≤ 4611686018427387904) (hm : n ≤ 1048576) (h : Pts w a (tkk k0 n)) : Calls Tryz.prog 27 #[.slice a n cap, .int .i64 k0] w fun e w' => e = .returned (.int .i64 (k0 + 2 * (n : Int))) ∧ w' = w := by
  have HP := hid h
  clear h
  go_enter Tryz.func27, Tryz.ntmps27
  go_wp2_with fail
  go_loopw [1, 5] (fun tk' ti wr => ∃ k : Nat, ti = .int .i64 k ∧ tk' = .int .i64 (k0 + 2 * (k : Int)) ∧ k ≤ n ∧ wr = w) (fun _ ti _ => n - (intOf ti).toNat)
  case atStart => exact ⟨0, rfl, by simp, Nat.zero_le _, rfl⟩
  case round =>
    obtain ⟨k, rfl, rfl, hk, hw⟩ := hrel
    subst hw
    by_cases hlt : k < n
    · have c1 : (k : Int) < (n : Int) := by omega
      obtain ⟨b, off, rfl, hbs, hp⟩ : ∃ b off, a = some ⟨b, off, none⟩ ∧ b < wr.heap.size ∧ PtsAt wr b off (tkk k0 n) := by
        rcases HP.out with h | h
        · have := congrArg List.length h; rw [tkk_len] at this; simp at this; omega
        · exact h
      obtain ⟨d0, d1⟩ := hp k (by rw [tkk_len]; exact hlt)
      unfold tkk at d0 d1
      rw [tk_getD _ _ _ hlt] at d0 d1
      simp only at d0 d1
      clear hp
      go_wp2_with fail
      go_roundw
      case rel => exact ⟨k + 1, by go_num, by go_num, by omega, by first | rfl | trivial⟩
      case measure => simp [intOf]; omega
    · obtain rfl : k = n := by omega
      go_wp2_with fail
      go_ret
      exact ⟨rfl, rfl⟩
/-- A kind of element: its cells, with the value in the last one, and what is said of that value and its blocks. -/
structure Kd (α : Type) where
  sz : Nat
  vals : α → Value → List Value
  sub : Nat → Nat → World → Value → α → Prop
  len : ∀ x v, (vals x v).length = sz
  one : ∀ {lo up : Nat} {w : World} {v : Value} {x : α}, sub lo up w v x → ∀ u ∈ vals x v, u.oneCell' = true
  frame : ∀ {lo up : Nat} {w w' : World} {v : Value} {x : α}, sub lo up w v x → (∀ c, lo ≤ c → c < up → w'.heap[c]? = w.heap[c]?) → w.heap.size ≤ w'.heap.size → sub lo up w' v x
  top : ∀ {lo up : Nat} {w : World} {v : Value} {x : α}, sub lo up w v x → up ≤ w.heap.size
def flatK {α : Type} (K : Kd α) (ps : List (α × Value)) : List Value := ps.flatMap (fun p => K.vals p.1 p.2)
theorem flatK_snoc {α : Type} (K : Kd α) (ps : List (α × Value)) (p : α × Value) : flatK K (ps ++ [p]) = flatK K ps ++ K.vals p.1 p.2 := by simp [flatK]
theorem flatK_len {α : Type} (K : Kd α) (ps : List (α × Value)) : (flatK K ps).length = ps.length * K.sz := by
  induction ps with
  | nil => simp [flatK]
  | cons x r ih =>
    show (K.vals x.1 x.2 ++ flatK K r).length = _
    rw [List.length_append, ih, K.len, List.length_cons, Nat.succ_mul]
    omega
theorem flatX_at {α : Type} (K : Kd α) : ∀ (ps : List (α × Value)) (j t : Nat) (h : j < ps.length), t < K.sz → (flatK K ps)[j * K.sz + t]? = (K.vals ps[j].1 ps[j].2)[t]?
  | [], j, t, h, _ => by simp at h
  | x :: r, 0, t, h, ht => by
    show (K.vals x.1 x.2 ++ flatK K r)[0 * K.sz + t]? = _
    rw [Nat.zero_mul, Nat.zero_add, List.getElem?_append_left (by rw [K.len]; exact ht)]
    rfl
  | x :: r, j + 1, t, h, ht => by
    have ih := flatX_at K r j t (by simpa using h) ht
    show (K.vals x.1 x.2 ++ flatK K r)[(j + 1) * K.sz + t]? = _
    rw [List.getElem?_append_right (by rw [K.len, Nat.succ_mul]; omega), K.len, show (j + 1) * K.sz + t - K.sz = j * K.sz + t by rw [Nat.succ_mul]; omega, ih]
    rfl
/-- A list as the call makes it. -/
def LX {α : Type} (K : Kd α) (t : TypeId) (base hi : Nat) (w : World) (v : Value) (xs : List α) (ps : List (α × Value)) : Prop :=
  ps.map Prod.fst = xs ∧ w.ownsRow base t K.sz v xs.length (flatK K ps) ∧ (∀ g, v.ownBlock = some g → g < hi) ∧ hi ≤ w.heap.size ∧
  ∃ lo up : Nat → Nat, (∀ j (h : j < ps.length), K.sub (lo j) (up j) w ps[j].2 ps[j].1 ∧ base ≤ lo j ∧ up j ≤ hi ∧ (∀ g, v.ownBlock = some g → g < lo j ∨ up j ≤ g)) ∧ (∀ i j, i < j → j < ps.length → up i ≤ lo j)
theorem LX.plen {α : Type} {K : Kd α} {t : TypeId} {base hi : Nat} {w : World} {v : Value} {xs : List α} {ps : List (α × Value)} (h : LX K t base hi w v xs ps) : ps.length = xs.length := by
  have := congrArg List.length h.1
  simpa using this
theorem LX.frame {α : Type} {K : Kd α} {t : TypeId} {base hi : Nat} {w w' : World} {v : Value} {xs : List α} {ps : List (α × Value)} (h : LX K t base hi w v xs ps) (hb : ∀ c, base ≤ c → c < hi → w'.heap[c]? = w.heap[c]?) (hs : w.heap.size ≤ w'.heap.size) : LX K t base hi w' v xs ps := by
  obtain ⟨h1, h2, h3, h4, lo, up, h5, h6⟩ := h
  refine ⟨h1, own_frame h2 (fun g e => hb g (h2.lt g e).1 (h3 g e)), h3, by omega, lo, up, fun j hj => ?_, h6⟩
  obtain ⟨a1, a2, a3, a4⟩ := h5 j hj
  exact ⟨K.frame a1 (fun c c1 c2 => hb c (by omega) (by omega)) hs, a2, a3, a4⟩
theorem LX.below {α : Type} {K : Kd α} {t : TypeId} {base hi : Nat} {w w' : World} {v : Value} {xs : List α} {ps : List (α × Value)} (h : LX K t base hi w v xs ps) (H : Below w.heap.size w w') : LX K t base hi w' v xs ps :=
  h.frame (fun c _ h2 => H.block c (by have := h.2.2.2.1; omega)) H.size
theorem LX.mono {α : Type} {K : Kd α} {t : TypeId} {base base' hi hi' : Nat} {w : World} {v : Value} {xs : List α} {ps : List (α × Value)} (h : LX K t base hi w v xs ps) (hb : base' ≤ base) (hh : hi ≤ hi') (hs : hi' ≤ w.heap.size) : LX K t base' hi' w v xs ps := by
  obtain ⟨h1, h2, h3, h4, lo, up, h5, h6⟩ := h
  refine ⟨h1, ⟨h2.1, ?_⟩, fun g e => by have := h3 g e; omega, hs, lo, up, fun j hj => ?_, h6⟩
  · rcases h2.2 with q | ⟨g, cc, cur, e1, q1, q2, q3⟩
    · exact .inl q
    · exact .inr ⟨g, cc, cur, e1, by omega, q2, q3⟩
  · obtain ⟨a1, a2, a3, a4⟩ := h5 j hj
    exact ⟨a1, by omega, by omega, a4⟩
theorem LX.nil {α : Type} {K : Kd α} {t : TypeId} {base hi : Nat} {w : World} {v : Value} (h : w.ownsRow base t K.sz v 0 []) (h3 : ∀ g, v.ownBlock = some g → g < hi) (h4 : hi ≤ w.heap.size) : LX K t base hi w v [] [] :=
  ⟨rfl, by simpa [flatK] using h, h3, h4, fun _ => 0, fun _ => 0, fun j hj => absurd hj (by simp), fun i j _ hj => absurd hj (by simp)⟩
theorem LX.snoc {α : Type} {K : Kd α} {t : TypeId} {base hi : Nat} {W w' : World} {v : Value} {xs : List α} {ps : List (α × Value)} {x : α} {sv : Value} {l u g cap : Nat} (h : LX K t base hi W v xs ps) (hl : hi ≤ l) (hbl : base ≤ l) (hsub : K.sub l u W sv x)
    (hown : w'.ownsRow base t K.sz (.slice (some ⟨g, 0, none⟩) (xs.length + 1) cap) (xs.length + 1) (flatK K ps ++ K.vals x sv)) (hg : W.grownBy w' v.ownBlock) (hat : v.ownBlock = some g ∨ g = W.heap.size) (hlt : g < w'.heap.size) :
    LX K t base w'.heap.size w' (.slice (some ⟨g, 0, none⟩) (xs.length + 1) cap) (xs ++ [x]) (ps ++ [(x, sv)]) := by
  have hpl := h.plen
  obtain ⟨h1, h2, h3, h4, lo, up, h5, h6⟩ := h
  have hu := K.top hsub
  have hsz := hg.size
  have hfr : ∀ c, c < W.heap.size → v.ownBlock ≠ some c → w'.heap[c]? = W.heap[c]? := fun c hc hne => hg.block c hc (fun e => hne e.symm)
  refine ⟨by simp [h1], by rw [flatK_snoc, List.length_append]; exact hown, fun g' e => by simp [Value.ownBlock] at e; omega, Nat.le_refl _, fun j => if j = ps.length then l else lo j, fun j => if j = ps.length then u else up j, fun j hj => ?_, fun i j hij hj => ?_⟩
  · by_cases e : j = ps.length
    · subst e
      simp only [if_true]
      have er : (ps ++ [(x, sv)])[ps.length]'(by simp) = (x, sv) := by simp
      rw [er]
      refine ⟨K.frame hsub (fun c c1 c2 => hfr c (by omega) (fun e => by have := h3 c e; omega)) hsz, hbl, by omega, fun g' e => ?_⟩
      simp [Value.ownBlock] at e
      rcases hat with q | q
      · have := h3 g q; omega
      · omega
    · have hjl : j < ps.length := by simp at hj; omega
      simp only [if_neg e]
      have er : (ps ++ [(x, sv)])[j]'(by simpa using hj) = ps[j] := by rw [List.getElem_append_left hjl]
      rw [er]
      obtain ⟨a1, a2, a3, a4⟩ := h5 j hjl
      refine ⟨K.frame a1 (fun c c1 c2 => hfr c (by omega) (fun e => by have := a4 c e; omega)) hsz, a2, by omega, fun g' e => ?_⟩
      simp [Value.ownBlock] at e
      rcases hat with q | q
      · have := a4 g q; omega
      · omega
  · have hil : i < ps.length := by simp at hj; omega
    simp only [if_neg (show i ≠ ps.length by omega)]
    by_cases e : j = ps.length
    · simp only [if_pos e]
      obtain ⟨_, _, a3, _⟩ := h5 i hil
      omega
    · simp only [if_neg e]
      exact h6 i j hij (by simp at hj; omega)
/-- An element at its place. -/
def ElX {α : Type} (K : Kd α) (w : World) (g i : Nat) (x : α) (s : Value) (lo up : Nat) : Prop :=
  (∀ t, t < K.sz → w.cell? ⟨g, i * K.sz + t, none⟩ = (K.vals x s)[t]?) ∧ K.sub lo up w s x
/-- A list in memory of its own, cell by cell. -/
def LC {α : Type} (K : Kd α) (base hi : Nat) (w : World) (v : Value) (xs : List α) : Prop :=
  hi ≤ w.heap.size ∧ ((xs = [] ∧ v = .slice none 0 0) ∨ ∃ (g cap : Nat) (ss : Nat → Value) (lo up : Nat → Nat), v = .slice (some ⟨g, 0, none⟩) xs.length cap ∧ xs.length ≤ cap ∧ base ≤ g ∧ g < hi ∧ w.there g 0 (xs.length * K.sz) ∧
  (∀ j (h : j < xs.length), ElX K w g j xs[j] (ss j) (lo j) (up j) ∧ base ≤ lo j ∧ up j ≤ hi ∧ (g < lo j ∨ up j ≤ g)) ∧ (∀ i j, i ≠ j → i < xs.length → j < xs.length → up i ≤ lo j ∨ up j ≤ lo i))
theorem LX.lc {α : Type} {K : Kd α} {t : TypeId} {base hi : Nat} {w : World} {v : Value} {xs : List α} {ps : List (α × Value)} (h : LX K t base hi w v xs ps) : LC K base hi w v xs := by
  have hpl := h.plen
  obtain ⟨h1, h2, h3, h4, lo, up, h5, h6⟩ := h
  refine ⟨h4, ?_⟩
  have h2' := h2
  rcases h2.2 with ⟨q, hn⟩ | ⟨g, cap, cur, rfl, hb, hg, hc, _⟩
  · left
    exact ⟨List.length_eq_zero_iff.1 hn, q⟩
  · right
    refine ⟨g, cap, fun j => if h : j < ps.length then (ps[j]'h).2 else .bool false, lo, up, rfl, hc, hb, h3 g rfl, fun j hj => ?_, fun j hj => ?_, fun i j hne hi' hj => (Nat.lt_or_gt_of_ne hne).elim (fun q => .inl (h6 i j q (by omega))) (fun q => .inr (h6 j i q (by omega)))⟩
    · simp only [Nat.zero_add]
      refine ⟨?_, World.ownsRow.frozenAt h2' j⟩
      rw [World.ownsRow.cellAt h2' j hj, List.getElem?_eq_getElem (by rw [flatK_len, hpl]; exact hj)]
      rfl
    · have hjp : j < ps.length := by omega
      obtain ⟨a1, a2, a3, a4⟩ := h5 j hjp
      have ex : xs[j] = (ps[j]).1 := by
        have : xs[j]? = (ps.map Prod.fst)[j]? := by rw [h1]
        rw [List.getElem?_map, List.getElem?_eq_getElem hj, List.getElem?_eq_getElem hjp] at this
        exact Option.some.inj this
      simp only [dif_pos hjp, ex]
      refine ⟨⟨fun t ht => ?_, a1⟩, a2, a3, a4 g rfl⟩
      have hlt : j * K.sz + t < xs.length * K.sz := by
        have : (j + 1) * K.sz ≤ xs.length * K.sz := Nat.mul_le_mul_right _ (by omega)
        rw [Nat.succ_mul] at this
        omega
      rw [World.ownsRow.cellAt h2' _ hlt, flatX_at K ps j t hjp ht]
theorem ElX.blk {α : Type} {K : Kd α} {w w' : World} {g i : Nat} {x : α} {s : Value} {lo up : Nat} (h : ElX K w g i x s lo up) (hg : w'.heap[g]? = w.heap[g]?) (hb : ∀ c, lo ≤ c → c < up → w'.heap[c]? = w.heap[c]?) (hs : w.heap.size ≤ w'.heap.size) : ElX K w' g i x s lo up :=
  ⟨fun t ht => by rw [World.cell?_of_block (w := w) hg]; exact h.1 t ht, K.frame h.2 hb hs⟩
theorem LC.frame {α : Type} {K : Kd α} {base hi : Nat} {w w' : World} {v : Value} {xs : List α} (h : LC K base hi w v xs) (hb : ∀ c, base ≤ c → c < hi → w'.heap[c]? = w.heap[c]?) (hs : w.heap.size ≤ w'.heap.size) : LC K base hi w' v xs := by
  obtain ⟨h0, h⟩ := h
  refine ⟨by omega, ?_⟩
  rcases h with h | ⟨g, cap, ss, lo, up, e, h1, h2, h3, h4, h5, h6⟩
  · exact .inl h
  · have hg := hb g h2 h3
    refine .inr ⟨g, cap, ss, lo, up, e, h1, h2, h3, fun i hi' => ?_, fun j hj => ?_, h6⟩
    · have := h4 i hi'
      simp only [World.cell?, World.frozen?, hg] at this ⊢
      exact this
    · obtain ⟨a1, a2, a3, a4⟩ := h5 j hj
      exact ⟨a1.blk hg (fun c c1 c2 => hb c (by omega) (by omega)) hs, a2, a3, a4⟩
theorem LC.below {α : Type} {K : Kd α} {base hi : Nat} {w w' : World} {v : Value} {xs : List α} (h : LC K base hi w v xs) (H : Below w.heap.size w w') : LC K base hi w' v xs :=
  h.frame (fun c _ h2 => H.block c (by have := h.1; omega)) H.size
theorem LC.form {α : Type} {K : Kd α} {base hi : Nat} {w : World} {v : Value} {xs : List α} (h : LC K base hi w v xs) : ∃ a cap, v = .slice a xs.length cap ∧ xs.length ≤ cap ∧ (∀ c off, a = some ⟨c, off, none⟩ → base ≤ c ∧ c < hi) := by
  rcases h.2 with ⟨rfl, e⟩ | ⟨g, cap, ss, lo, up, e, h1, h2, h3, h4, h5, h6⟩
  · exact ⟨none, 0, e, by simp, fun c off e => by cases e⟩
  · exact ⟨_, cap, e, h1, fun c off e => by cases e; exact ⟨h2, h3⟩⟩
/-- The points of a change, in a block of their own. -/
def subC (lo up : Nat) (w : World) (v : Value) (x : Ch) : Prop := up ≤ w.heap.size ∧ ∃ c cp, v = .slice (some ⟨c, 0, none⟩) x.2.2.2.length cp ∧ x.2.2.2.length ≤ cp ∧ x.2.2.2.length ≤ 1099511627776 ∧ lo ≤ c ∧ c < up ∧ PtsOwn w c x.2.2.2
def KC : Kd Ch where
  sz := 4
  vals := fun x v => [.int .i64 x.1, .bool x.2.1, .int .i64 x.2.2.1, v]
  sub := subC
  len := fun _ _ => rfl
  one := by
    rintro lo up w v x ⟨_, c, cp, rfl, _⟩ u hu
    simp at hu
    rcases hu with rfl | rfl | rfl | rfl <;> rfl
  frame := by
    rintro lo up w w' v x ⟨h0, c, cp, e, h1, h2, h3, h4, h5⟩ hb hs
    exact ⟨by omega, c, cp, e, h1, h2, h3, h4, own_blk h5 (hb c h3 h4) (by omega)⟩
  top := fun h => h.1
/-- A change's points, or none. -/
def subN (lo up : Nat) (w : World) (v : Value) (x : Ch) : Prop := subC lo up w v x ∨ (up ≤ w.heap.size ∧ v = .slice none 0 0 ∧ x.2.2.2 = [])
def KN : Kd Ch where
  sz := 4
  vals := fun x v => [.int .i64 x.1, .bool x.2.1, .int .i64 x.2.2.1, v]
  sub := subN
  len := fun _ _ => rfl
  one := by
    rintro lo up w v x h u hu
    have hv : ∃ a n c, v = .slice a n c := by
      rcases h with ⟨_, c, cp, e, _⟩ | ⟨_, e, _⟩ <;> exact ⟨_, _, _, e⟩
    obtain ⟨a, n, c, rfl⟩ := hv
    simp at hu
    rcases hu with rfl | rfl | rfl | rfl <;> rfl
  frame := by
    rintro lo up w w' v x h hb hs
    rcases h with h | ⟨h1, h2, h3⟩
    · exact .inl (KC.frame h hb hs)
    · exact .inr ⟨by omega, h2, h3⟩
  top := fun h => by
    rcases h with h | h
    · exact h.1
    · exact h.1
theorem LC.chsN {base hi : Nat} {w : World} {a : Option Addr} {n cap : Nat} {xs : List Ch} (h : LC KN base hi w (.slice a n cap) xs) : Chs (fun c => base ≤ c ∧ c < hi) 1099511627776 w a xs := by
  obtain ⟨h0, h⟩ := h
  rcases h with ⟨rfl, _⟩ | ⟨g, cp, ss, lo, up, e, h1, h2, h3, h4, h5, h6⟩
  · exact .inl rfl
  · cases e
    refine .inr ⟨g, 0, rfl, by omega, fun j hj => ?_⟩
    obtain ⟨⟨b1, hb⟩, a2, a3, a4⟩ := h5 j hj
    have k0 := b1 0 (by decide)
    have k1 := b1 1 (by decide)
    have k2 := b1 2 (by decide)
    have k3 := b1 3 (by decide)
    rw [Nat.zero_add]
    rcases hb with ⟨_, c, cq, e, b2, b3, b4, b5, b6⟩ | ⟨_, e, hn⟩
    · simp only [KN, e] at k0 k1 k2 k3
      exact ⟨_, _, k0, k1, k2, k3, b2, b3, b6.pts, fun c' off e' => by cases e'; omega⟩
    · simp only [KN, e] at k0 k1 k2 k3
      refine ⟨none, 0, k0, k1, k2, ?_, by rw [hn]; simp, by rw [hn]; simp, .inl hn, fun c' off e' => by cases e'⟩
      rw [hn]; exact k3
theorem ElX.set {α : Type} {K : Kd α} {w : World} {g i k : Nat} {x : α} {s : Value} {lo up : Nat} (h : ElX K w g i x s lo up) (hg : g < lo ∨ up ≤ g) (hk : k < i * K.sz ∨ i * K.sz + K.sz ≤ k) (u : Value) : ElX K (w.setCell ⟨g, k, none⟩ u) g i x s lo up := by
  refine ⟨fun t ht => ?_, K.frame h.2 (fun c c1 c2 => Below.heap_setCell _ _ _ _ (by dsimp only; omega)) (by simp)⟩
  rw [World.cell?_setCell_other _ _ _ _ (by intro e; injection e; omega)]
  exact h.1 t ht
def kcn (xs : List Ch) : Int := (xs.map (fun r => 3 + 2 * (r.2.2.2.length : Int))).sum
def kkc (k0 : Int) (xs : List Ch) (j : Nat) : Int := k0 + kcn (xs.take j)
theorem kkc_next {k0 : Int} {xs : List Ch} {j : Nat} (h : j < xs.length) : kkc k0 xs (j + 1) = kkc k0 xs j + 3 + 2 * (xs[j].2.2.2.length : Int) := by
  unfold kkc kcn
  rw [List.take_add_one, List.getElem?_eq_getElem h, List.map_append, List.sum_append]
  simp only [Option.toList, List.map_cons, List.map_nil, List.sum_cons, List.sum_nil]
  omega
theorem kkc_bound {k0 : Int} {xs : List Ch} (hl : ∀ m (h : m < xs.length), xs[m].2.2.2.length ≤ 1048576) : ∀ j, j ≤ xs.length → k0 ≤ kkc k0 xs j ∧ kkc k0 xs j ≤ k0 + (j : Int) * 2097155 := by
  intro j
  induction j with
  | zero => intro _; simp [kkc, kcn]
  | succ j ih =>
    intro hj
    obtain ⟨h1, h2⟩ := ih (by omega)
    have h3 := hl j (by omega)
    rw [kkc_next (by omega)]
    constructor <;> omega
def mke (k : Int) (r : Ch) : Ch := (k, ((k + 1) % 3 == 0), k + 2, tkk (k + 3) r.2.2.2.length)
def mkc (k0 : Int) (xs : List Ch) : List Ch := xs.mapIdx (fun j r => mke (kkc k0 xs j) r)
theorem mkc_len (k0 : Int) (xs : List Ch) : (mkc k0 xs).length = xs.length := by simp [mkc]
theorem mkc_at {k0 : Int} {xs : List Ch} {j : Nat} (h : j < xs.length) : (mkc k0 xs)[j]'(by rw [mkc_len]; exact h) = mke (kkc k0 xs j) xs[j] := by simp [mkc]
theorem mkc_S {k0 : Int} {xs : List Ch} (h : chS xs) : chS (mkc k0 xs) := by
  refine ⟨by rw [mkc_len]; exact h.1, fun m hm => ?_⟩
  have hm' := hm
  rw [mkc_len] at hm'
  rw [mkc_at hm']
  simp only [mke, tkk_len]
  exact h.2 m hm'
theorem mid_wide {lo hi lo' hi' : Nat} {w w' : World} (h : Mid lo' hi' w w') (h1 : lo ≤ lo') (h2 : hi' ≤ hi) : Mid lo hi w w' := ⟨h.1, h.2.1, h.2.2.1, h.2.2.2.1, fun k hk h3 => h.2.2.2.2 k hk (by omega)⟩
/-- Of what was there only blocks from lo on below hi have turned, and none from p on below q. -/
def MidH (lo hi p q : Nat) (w w' : World) : Prop := Mid lo hi w w' ∧ ∀ k, k < w.heap.size → p ≤ k → k < q → w'.heap[k]? = w.heap[k]?
theorem midh_refl (lo hi p q : Nat) (w : World) : MidH lo hi p q w w := ⟨mid_refl _ _ _, fun _ _ _ _ => rfl⟩
theorem midh_trans {lo hi p q : Nat} {a b c : World} (h : MidH lo hi p q a b) (k : MidH lo hi p q b c) : MidH lo hi p q a c :=
  ⟨mid_trans h.1 k.1, fun x hx h1 h2 => (k.2 x (Nat.lt_of_lt_of_le hx h.1.2.2.2.1) h1 h2).trans (h.2 x hx h1 h2)⟩
theorem midh_set {lo hi p q b k : Nat} {w w1 : World} (h : MidH lo hi p q w w1) (h1 : lo ≤ b) (h2 : b < hi) (h3 : b < p ∨ q ≤ b) (u : Value) : MidH lo hi p q w (w1.setCell ⟨b, k, none⟩ u) :=
  ⟨mid_set h.1 h1 h2 u, fun x hx e1 e2 => by rw [Below.heap_setCell _ _ _ _ (by dsimp only; omega)]; exact h.2 x hx e1 e2⟩
theorem midh_wide {lo hi p q l u : Nat} {w w' : World} (h : Mid l u w w') (h1 : lo ≤ l) (h2 : u ≤ hi) (h3 : u ≤ p ∨ q ≤ l) : MidH lo hi p q w w' :=
  ⟨mid_wide h h1 h2, fun x hx e1 e2 => mid_blk h hx (by omega)⟩
/-- A list in memory of its own, cell by cell, none of it in the hole from p on below q. -/
def LCH {α : Type} (K : Kd α) (base hi p q : Nat) (w : World) (v : Value) (xs : List α) : Prop :=
  hi ≤ w.heap.size ∧ ((xs = [] ∧ v = .slice none 0 0) ∨ ∃ (g cap : Nat) (ss : Nat → Value) (lo up : Nat → Nat), v = .slice (some ⟨g, 0, none⟩) xs.length cap ∧ xs.length ≤ cap ∧ base ≤ g ∧ g < hi ∧ w.there g 0 (xs.length * K.sz) ∧
  (∀ j (h : j < xs.length), ElX K w g j xs[j] (ss j) (lo j) (up j) ∧ base ≤ lo j ∧ up j ≤ hi ∧ (g < lo j ∨ up j ≤ g)) ∧ (∀ i j, i ≠ j → i < xs.length → j < xs.length → up i ≤ lo j ∨ up j ≤ lo i) ∧ (g < p ∨ q ≤ g) ∧ (∀ j, j < xs.length → up j ≤ p ∨ q ≤ lo j))
theorem LCH.lc {α : Type} {K : Kd α} {base hi p q : Nat} {w : World} {v : Value} {xs : List α} (h : LCH K base hi p q w v xs) : LC K base hi w v xs := by
  obtain ⟨h0, h | ⟨g, cap, ss, lo, up, h1, h2, h3, h4, h5, h6, h7, _, _⟩⟩ := h
  · exact ⟨h0, .inl h⟩
  · exact ⟨h0, .inr ⟨g, cap, ss, lo, up, h1, h2, h3, h4, h5, h6, h7⟩⟩
theorem LC.hole {α : Type} {K : Kd α} {base hi p q : Nat} {w : World} {v : Value} {xs : List α} (h : LC K base hi w v xs) (hd : hi ≤ p ∨ q ≤ base) : LCH K base hi p q w v xs := by
  obtain ⟨h0, h | ⟨g, cap, ss, lo, up, h1, h2, h3, h4, h5, h6, h7⟩⟩ := h
  · exact ⟨h0, .inl h⟩
  · exact ⟨h0, .inr ⟨g, cap, ss, lo, up, h1, h2, h3, h4, h5, h6, h7, by omega, fun j hj => by have := (h6 j hj).2; omega⟩⟩
/-- It stands where only the hole has turned. -/
theorem LCH.frame {α : Type} {K : Kd α} {base hi p q : Nat} {w w' : World} {v : Value} {xs : List α} (h : LCH K base hi p q w v xs) (hb : ∀ c, base ≤ c → c < hi → (c < p ∨ q ≤ c) → w'.heap[c]? = w.heap[c]?) (hs : w.heap.size ≤ w'.heap.size) : LCH K base hi p q w' v xs := by
  obtain ⟨h0, h | ⟨g, cap, ss, lo, up, h1, h2, h3, h4, h5, h6, h7, h8, h9⟩⟩ := h
  · exact ⟨by omega, .inl h⟩
  · have eg := hb g h3 h4 h8
    refine ⟨by omega, .inr ⟨g, cap, ss, lo, up, h1, h2, h3, h4, fun j hj => ?_, fun j hj => ?_, h7, h8, h9⟩⟩
    · obtain ⟨s1, s2⟩ := h5 j hj
      simp only [World.cell?, World.frozen?, eg]; exact ⟨s1, s2⟩
    · obtain ⟨a1, a2, a3, a4⟩ := h6 j hj
      have a5 := h9 j hj
      exact ⟨a1.blk eg (fun c c1 c2 => hb c (by omega) (by omega) (by omega)) hs, a2, a3, a4⟩
theorem LCH.below {α : Type} {K : Kd α} {base hi p q : Nat} {w w' : World} {v : Value} {xs : List α} (h : LCH K base hi p q w v xs) (H : Below w.heap.size w w') : LCH K base hi p q w' v xs :=
  h.frame (fun c _ h2 _ => H.block c (by have := h.1; omega)) H.size
theorem midh_grown {lo hi p q b : Nat} {w w1 w2 : World} (h : MidH lo hi p q w w1) (g : w1.grownBy w2 (some b)) (h1 : lo ≤ b) (h2 : b < hi) (h3 : b < p ∨ q ≤ b) : MidH lo hi p q w w2 :=
  ⟨mid_grown h.1 g h1 h2, fun x hx e1 e2 => (g.block x (Nat.lt_of_lt_of_le hx h.1.2.2.2.1) (fun e => by cases e; omega)).trans (h.2 x hx e1 e2)⟩
theorem ElX.kn {w : World} {g i : Nat} {x : Ch} {s : Value} {lo up : Nat} (h : ElX KC w g i x s lo up) : ElX KN w g i x s lo up := ⟨h.1, .inl h.2⟩
theorem LCH.kn {base hi p q : Nat} {w : World} {v : Value} {xs : List Ch} (h : LCH KC base hi p q w v xs) : LCH KN base hi p q w v xs := by
  obtain ⟨h0, h | ⟨g, cap, ss, lo, up, a1, a2, a3, a4, a5, a6, a7, a8⟩⟩ := h
  · exact ⟨h0, .inl h⟩
  · exact ⟨h0, .inr ⟨g, cap, ss, lo, up, a1, a2, a3, a4, a5, fun j hj => ⟨(a6 j hj).1.kn, (a6 j hj).2⟩, a7, a8⟩⟩
theorem flat_kn (ps : List (Ch × Value)) : flatK KN ps = flatK KC ps := rfl
theorem LX.kn {t : TypeId} {base hi : Nat} {w : World} {v : Value} {xs : List Ch} {ps : List (Ch × Value)} (h : LX KC t base hi w v xs ps) : LX KN t base hi w v xs ps := by
  obtain ⟨h1, h2, h3, h4, lo, up, h5, h6⟩ := h
  exact ⟨h1, h2, h3, h4, lo, up, fun j hj => ⟨.inl (h5 j hj).1, (h5 j hj).2⟩, h6⟩
set_option maxHeartbeats 400000 in
theorem mark_ptsNil (k0 : Int) (w : World) : Calls Tryz.prog 26 #[.slice none 0 0, .int .i64 k0] w fun e w' => e = .returned (.int .i64 k0) ∧ w' = w := by
  go_enter Tryz.func26, Tryz.ntmps26
  go_wp2_with fail
  go_loopw [1, 5] (fun tk' ti wr => tk' = .int .i64 k0 ∧ ti = .int .i64 0 ∧ wr = w) (fun _ _ _ => 0)
  case atStart => exact ⟨rfl, rfl, rfl⟩
  case round =>
    obtain ⟨rfl, rfl, rfl⟩ := hrel
    go_wp2_with fail
    go_ret
    exact ⟨rfl, rfl⟩
set_option maxRecDepth 100000 in
set_option maxHeartbeats 4000000 in
theorem mark_chsH (base hi p q : Nat) (v : Value) (xs : List Ch) (k0 : Int) (w : World) (hs : chS xs) (h0 : 0 ≤ k0) (h1 : k0 ≤ 4500000000000000000) (h : LCH KN base hi p q w v xs) : Calls Tryz.prog 8 #[v, .int .i64 k0] w fun e w' => e = .returned (.int .i64 (kkc k0 xs xs.length)) ∧ LCH KN base hi p q w' v (mkc k0 xs) ∧ MidH base hi p q w w' := by
  obtain ⟨hih, h⟩ := h
  rcases h with ⟨rfl, rfl⟩ | ⟨g, cap, ss, lo, up, rfl, hcap, hbg, hgh, hth, hel, hd, hgp, hsp⟩
  · go_enter Tryz.func8, Tryz.ntmps8
    go_wp2_with fail
    go_loopw [1, 5] (fun tk' ti wr => tk' = .int .i64 k0 ∧ ti = .int .i64 0 ∧ wr = w) (fun _ _ _ => 0)
    case atStart => exact ⟨rfl, rfl, rfl⟩
    case round =>
      obtain ⟨rfl, rfl, rfl⟩ := hrel
      go_wp2_with fail
      go_ret
      exact ⟨by simp [kkc, kcn], ⟨hih, .inl ⟨by simp [mkc], rfl⟩⟩, midh_refl _ _ _ _ _⟩
  have HL := hid hs.2
  have hm := hs.1
  have HE := hid (fun j hj => (hel j hj).1)
  have HC := hid (fun j hj => (hel j hj).2)
  have HD := hid hd
  have HSP := hid hsp
  have HK := hid (kkc_bound (k0 := k0) hs.2)
  clear hs hel hd hsp
  obtain ⟨n, hn⟩ : ∃ n, n = xs.length := ⟨_, rfl⟩
  have HN := hid hn.symm
  rw [← hn] at hm hth hcap ⊢
  have HTT := hid hth
  have HF : Hid (∀ (W : World) (q' : Int), q' = kkc k0 xs n → MidH base hi p q w W → W.there g 0 (n * 4) → (∀ i (h : i < xs.length), i < n → ElX KN W g i (mke (kkc k0 xs i) xs[i]) (ss i) (lo i) (up i)) → (Ending.returned (.int .i64 q') = .returned (.int .i64 (kkc k0 xs n)) ∧ LCH KN base hi p q W (.slice (some ⟨g, 0, none⟩) n cap) (mkc k0 xs))) := hid (fun W q' hq hM hT h => ⟨by rw [hq], by
    refine ⟨Nat.le_trans hih hM.1.2.2.2.1, .inr ⟨g, cap, ss, lo, up, by rw [mkc_len, ← hn], by rw [mkc_len, ← hn]; exact hcap, hbg, hgh, by rw [mkc_len, ← hn]; exact hT, fun j hj => ?_, fun i j hne hi' hj => ?_, hgp, fun j hj => by rw [mkc_len] at hj; exact HSP.out j hj⟩⟩
    · have hj' := hj
      rw [mkc_len] at hj'
      rw [mkc_at hj']
      exact ⟨h j hj' (by omega), HC.out j hj'⟩
    · rw [mkc_len] at hi' hj
      exact HD.out i j hne hi' hj⟩)
  clear hth hcap hn
  have hmid0 := midh_refl base hi p q w
  have hgw : g < w.heap.size := by omega
  go_enter Tryz.func8, Tryz.ntmps8
  go_wp2_with fail
  go_loopw [1, 5] (fun tk' ti wr => ∃ j : Nat, ∃ k : Int, ti = .int .i64 j ∧ tk' = .int .i64 k ∧ j ≤ n ∧ Hid (k = kkc k0 xs j) ∧ Hid (MidH base hi p q w wr) ∧ Hid (wr.there g 0 (n * 4)) ∧ Hid (∀ i (h : i < xs.length), i < j → ElX KN wr g i (mke (kkc k0 xs i) xs[i]) (ss i) (lo i) (up i)) ∧ Hid (∀ i (h : i < xs.length), j ≤ i → ElX KN wr g i xs[i] (ss i) (lo i) (up i))) (fun _ ti _ => n - (intOf ti).toNat)
  case atStart => exact ⟨0, k0, rfl, rfl, Nat.zero_le _, hid (by simp [kkc, kcn]), hid hmid0, HTT, hid (fun i h hh => absurd hh (by omega)), hid (fun i h _ => HE.out i h)⟩
  case round =>
    clear hmid0
    obtain ⟨j, k, rfl, rfl, hj, HKJ, HM, HT, HA, HZ⟩ := hrel
    by_cases hlt : j < n
    · have c1 : (j : Int) < (n : Int) := by omega
      have hjr : j < xs.length := by rw [HN.out]; exact hlt
      obtain ⟨hk0, hk1⟩ := HK.out j (by omega)
      rw [← HKJ.out] at hk0 hk1
      have hk2 : k ≤ 4600000000000000000 := by omega
      have hk3 : 0 ≤ k := by omega
      have HKN := hid (kkc_next (k0 := k0) hjr)
      rw [← HKJ.out] at HKN
      obtain ⟨zc, zs⟩ := HZ.out j hjr (Nat.le_refl _)
      obtain ⟨hcb, hch, hcg⟩ := HC.out j hjr
      have hws := HM.out.1.2.2.2.1
      rcases zs with ⟨_, c, cp, esv, b1, b2, b3, b4, b5⟩ | ⟨hupw, esv, enil⟩
      · skip
        have hnp := HL.out j hjr
        have HMK : Hid (∀ W, (∀ t, t < 4 → W.cell? ⟨g, j * 4 + t, none⟩ = ([.int .i64 k, .bool ((k + 1) % 3 == 0), .int .i64 (k + 2), ss j] : List Value)[t]?) → PtsOwn W c (tkk (k + 3) xs[j].2.2.2.length) → up j ≤ W.heap.size → ElX KN W g j (mke (kkc k0 xs j) xs[j]) (ss j) (lo j) (up j)) := hid (fun W h1 h2 h3 => by
          rw [← HKJ.out]
          refine ⟨h1, .inl ⟨h3, c, cp, ?_, ?_, ?_, b3, b4, h2⟩⟩
          · simp only [mke, tkk_len]; exact esv
          · simp only [mke, tkk_len]; exact b1
          · simp only [mke, tkk_len]; exact b2)
        generalize hps : xs[j].2.2.2 = ps at *
        clear hps
        obtain ⟨sv, hsv⟩ : ∃ sv, sv = ss j := ⟨_, rfl⟩
        have HSJ := hid hsv
        rw [← hsv] at zc HMK esv
        clear hsv
        subst esv
        have q3 := zc 3 (by decide)
        simp only [KN, List.getElem?_cons_succ, List.getElem?_cons_zero] at q3
        have HDJ : Hid (∀ i, i < xs.length → i ≠ j → up i ≤ lo j ∨ up j ≤ lo i) := hid (fun i hi' hne => HD.out i j hne hi' hjr)
        obtain ⟨u0, z0, y0⟩ := there_at HT.out (show j * 4 < n * 4 by omega)
        obtain ⟨u1, z1, y1⟩ := there_at HT.out (show j * 4 + 1 < n * 4 by omega)
        obtain ⟨u2, z2, y2⟩ := there_at HT.out (show j * 4 + 2 < n * 4 by omega)
        have z1' : ∀ a0, (wr.setCell ⟨g, j * 4, none⟩ a0).cell? ⟨g, j * 4 + 1, none⟩ = some u1 := fun a0 => by rw [World.cell?_setCell_other _ _ _ _ (by simp)]; exact z1
        have y1' : ∀ a0, (wr.setCell ⟨g, j * 4, none⟩ a0).frozen? ⟨g, j * 4 + 1, none⟩ = false := fun a0 => by rw [World.frozen?_setCell]; exact y1
        have z2' : ∀ a0 a1, ((wr.setCell ⟨g, j * 4, none⟩ a0).setCell ⟨g, j * 4 + 1, none⟩ a1).cell? ⟨g, j * 4 + 2, none⟩ = some u2 := fun a0 a1 => by rw [World.cell?_setCell_other _ _ _ _ (by simp), World.cell?_setCell_other _ _ _ _ (by simp)]; exact z2
        have y2' : ∀ a0 a1, ((wr.setCell ⟨g, j * 4, none⟩ a0).setCell ⟨g, j * 4 + 1, none⟩ a1).frozen? ⟨g, j * 4 + 2, none⟩ = false := fun a0 a1 => by rw [World.frozen?_setCell, World.frozen?_setCell]; exact y2
        have zl' : ∀ a0 a1 a2, (((wr.setCell ⟨g, j * 4, none⟩ a0).setCell ⟨g, j * 4 + 1, none⟩ a1).setCell ⟨g, j * 4 + 2, none⟩ a2).cell? ⟨g, j * 4 + 3, none⟩ = some (.slice (some ⟨c, 0, none⟩) ps.length cp) := fun a0 a1 a2 => by rw [World.cell?_setCell_other _ _ _ _ (by simp), World.cell?_setCell_other _ _ _ _ (by simp), World.cell?_setCell_other _ _ _ _ (by simp)]; exact q3
        have HM3 := hid (fun a0 a1 a2 => (midh_set (midh_set (midh_set (HM.out) hbg hgh hgp a0) hbg hgh hgp a1) hbg hgh hgp a2 : MidH base hi p q w (((wr.setCell ⟨g, j * 4, none⟩ a0).setCell ⟨g, j * 4 + 1, none⟩ a1).setCell ⟨g, j * 4 + 2, none⟩ a2)))
        have HT3 := hid (fun a0 a1 a2 => (there_set (there_set (there_set (HT.out) a0) a1) a2 : (((wr.setCell ⟨g, j * 4, none⟩ a0).setCell ⟨g, j * 4 + 1, none⟩ a1).setCell ⟨g, j * 4 + 2, none⟩ a2).there g 0 (n * 4)))
        have HA3 : Hid (∀ a0 a1 a2 i (h : i < xs.length), i < j → ElX KN (((wr.setCell ⟨g, j * 4, none⟩ a0).setCell ⟨g, j * 4 + 1, none⟩ a1).setCell ⟨g, j * 4 + 2, none⟩ a2) g i (mke (kkc k0 xs i) xs[i]) (ss i) (lo i) (up i)) := hid (fun a0 a1 a2 i h h1 => ((((HA.out i h h1).set (HC.out i h).2.2 (by show _ < i * 4 ∨ i * 4 + 4 ≤ _; omega) a0).set (HC.out i h).2.2 (by show _ < i * 4 ∨ i * 4 + 4 ≤ _; omega) a1).set (HC.out i h).2.2 (by show _ < i * 4 ∨ i * 4 + 4 ≤ _; omega) a2))
        have HZ3 : Hid (∀ a0 a1 a2 i (h : i < xs.length), j + 1 ≤ i → ElX KN (((wr.setCell ⟨g, j * 4, none⟩ a0).setCell ⟨g, j * 4 + 1, none⟩ a1).setCell ⟨g, j * 4 + 2, none⟩ a2) g i xs[i] (ss i) (lo i) (up i)) := hid (fun a0 a1 a2 i h h1 => ((((HZ.out i h (by omega)).set (HC.out i h).2.2 (by show _ < i * 4 ∨ i * 4 + 4 ≤ _; omega) a0).set (HC.out i h).2.2 (by show _ < i * 4 ∨ i * 4 + 4 ≤ _; omega) a1).set (HC.out i h).2.2 (by show _ < i * 4 ∨ i * 4 + 4 ≤ _; omega) a2))
        have x0 : ∀ a0 a1 a2, (((wr.setCell ⟨g, j * 4, none⟩ a0).setCell ⟨g, j * 4 + 1, none⟩ a1).setCell ⟨g, j * 4 + 2, none⟩ a2).cell? ⟨g, j * 4, none⟩ = some a0 := fun a0 a1 a2 => by rw [World.cell?_setCell_other _ _ _ _ (by simp), World.cell?_setCell_other _ _ _ _ (by simp)]; exact World.cell?_setCell_same _ _ _ z0
        have x1 : ∀ a0 a1 a2, (((wr.setCell ⟨g, j * 4, none⟩ a0).setCell ⟨g, j * 4 + 1, none⟩ a1).setCell ⟨g, j * 4 + 2, none⟩ a2).cell? ⟨g, j * 4 + 1, none⟩ = some a1 := fun a0 a1 a2 => by rw [World.cell?_setCell_other _ _ _ _ (by simp)]; exact World.cell?_setCell_same _ _ _ (z1' a0)
        have x2 : ∀ a0 a1 a2, (((wr.setCell ⟨g, j * 4, none⟩ a0).setCell ⟨g, j * 4 + 1, none⟩ a1).setCell ⟨g, j * 4 + 2, none⟩ a2).cell? ⟨g, j * 4 + 2, none⟩ = some a2 := fun a0 a1 a2 => by exact World.cell?_setCell_same _ _ _ (z2' a0 a1)
        have HX := hid (fun a0 a1 a2 => (⟨x0 a0 a1 a2, x1 a0 a1 a2, x2 a0 a1 a2, zl' a0 a1 a2⟩ : (((wr.setCell ⟨g, j * 4, none⟩ a0).setCell ⟨g, j * 4 + 1, none⟩ a1).setCell ⟨g, j * 4 + 2, none⟩ a2).cell? ⟨g, j * 4, none⟩ = some a0 ∧ (((wr.setCell ⟨g, j * 4, none⟩ a0).setCell ⟨g, j * 4 + 1, none⟩ a1).setCell ⟨g, j * 4 + 2, none⟩ a2).cell? ⟨g, j * 4 + 1, none⟩ = some a1 ∧ (((wr.setCell ⟨g, j * 4, none⟩ a0).setCell ⟨g, j * 4 + 1, none⟩ a1).setCell ⟨g, j * 4 + 2, none⟩ a2).cell? ⟨g, j * 4 + 2, none⟩ = some a2 ∧ (((wr.setCell ⟨g, j * 4, none⟩ a0).setCell ⟨g, j * 4 + 1, none⟩ a1).setCell ⟨g, j * 4 + 2, none⟩ a2).cell? ⟨g, j * 4 + 3, none⟩ = some (.slice (some ⟨c, 0, none⟩) ps.length cp)))
        have HP3 := hid (fun a0 a1 a2 => (own_blk b5 (by rw [Below.heap_setCell _ _ _ _ (by dsimp only; omega), Below.heap_setCell _ _ _ _ (by dsimp only; omega), Below.heap_setCell _ _ _ _ (by dsimp only; omega)]) (by simp only [World.size_setCell]; exact b5.1) : PtsOwn (((wr.setCell ⟨g, j * 4, none⟩ a0).setCell ⟨g, j * 4 + 1, none⟩ a1).setCell ⟨g, j * 4 + 2, none⟩ a2) c ps))
        have HSZ := hid (fun a0 a1 a2 => (by simp only [World.size_setCell] : (((wr.setCell ⟨g, j * 4, none⟩ a0).setCell ⟨g, j * 4 + 1, none⟩ a1).setCell ⟨g, j * 4 + 2, none⟩ a2).heap.size = wr.heap.size))
        clear b5 zc
        clear HM HT HA HZ q3 z1 y1 z2 y2 x0 x1 x2
        go_wp2_with fail
        refine (mark_ptsK _ c ps.length cp ps (k + 1 + 1 + 1) (by omega) (by omega) hnp rfl (HP3.out _ _ _)).mono ?_
        rintro e w1 ⟨rfl, hp1, hg⟩
        have hgne : some g ≠ some c := fun e => by cases e; omega
        have hsz1 := hg.size
        rw [HSZ.out] at hsz1
        have HM5 := hid (midh_grown (HM3.out (.int .i64 k) (.bool ((k + 1) % 3 == 0)) (.int .i64 (k + 1 + 1))) hg (by omega) (by omega) (by have := HSP.out j hjr; omega))
        have HT5 : Hid (w1.there g 0 (n * 4)) := hid (fun i hi' => by
          obtain ⟨s1, s2⟩ := HT3.out (.int .i64 k) (.bool ((k + 1) % 3 == 0)) (.int .i64 (k + 1 + 1)) i hi'
          have hb := hg.block g (by rw [HSZ.out]; omega) hgne
          simp only [World.cell?, World.frozen?, hb]; exact ⟨s1, s2⟩)
        have HFR : Hid (∀ i, i < xs.length → i ≠ j → ∀ q, lo i ≤ q → q < up i → q < wr.heap.size → w1.heap[q]? = _) := hid (fun i hi' hne q q1 q2 q3 => hg.block q (by rw [HSZ.out]; exact q3) (fun e => by cases e; have := HDJ.out i hi' hne; omega))
        have HA5 : Hid (∀ i (h : i < xs.length), i < j + 1 → ElX KN w1 g i (mke (kkc k0 xs i) xs[i]) (ss i) (lo i) (up i)) := hid (fun i h h1 => by
          by_cases e : i = j
          · subst e
            obtain ⟨s0, s1, s2, s3⟩ := HX.out (.int .i64 k) (.bool ((k + 1) % 3 == 0)) (.int .i64 (k + 1 + 1))
            rw [← HSJ.out]
            refine HMK.out w1 (fun t ht => ?_) (by rw [show k + 3 = k + 1 + 1 + 1 by omega]; exact hp1) (by omega)
            rcases (show t = 0 ∨ t = 1 ∨ t = 2 ∨ t = 3 by omega) with e | e | e | e <;> subst e
            · exact hg.cell s0 hgne
            · exact hg.cell s1 hgne
            · show _ = some (Value.int .i64 (k + 2)); rw [show k + 2 = k + 1 + 1 by omega]; exact hg.cell s2 hgne
            · exact hg.cell s3 hgne
          · have hx := HA3.out (.int .i64 k) (.bool ((k + 1) % 3 == 0)) (.int .i64 (k + 1 + 1)) i h (by omega)
            have htp := KN.top hx.2
            rw [HSZ.out] at htp
            exact hx.blk (hg.block g (by rw [HSZ.out]; omega) hgne) (fun q q1 q2 => HFR.out i h e q q1 q2 (by omega)) (by rw [HSZ.out]; exact hsz1))
        have HZ5 : Hid (∀ i (h : i < xs.length), j + 1 ≤ i → ElX KN w1 g i xs[i] (ss i) (lo i) (up i)) := hid (fun i h h1 => by
          have hx := HZ3.out (.int .i64 k) (.bool ((k + 1) % 3 == 0)) (.int .i64 (k + 1 + 1)) i h h1
          have htp := KN.top hx.2
          rw [HSZ.out] at htp
          exact hx.blk (hg.block g (by rw [HSZ.out]; omega) hgne) (fun q q1 q2 => HFR.out i h (by omega) q q1 q2 (by omega)) (by rw [HSZ.out]; exact hsz1))
        have HK5 : Hid (k + 1 + 1 + 1 + 2 * (ps.length : Int) = kkc k0 xs (j + 1)) := hid (by rw [HKN.out]; omega)
        clear hg hp1 HM3 HT3 HA3 HZ3 HX HFR HP3 HSZ zl' z1' z2' y1' y2' 
        go_wp2_with fail
        go_roundw
        case rel => exact ⟨j + 1, _, by go_num, rfl, by omega, HK5, HM5, HT5, HA5, HZ5⟩
        case measure => simp [intOf]; omega
      · skip
        have hnp := HL.out j hjr
        have HMK : Hid (∀ W, (∀ t, t < 4 → W.cell? ⟨g, j * 4 + t, none⟩ = ([.int .i64 k, .bool ((k + 1) % 3 == 0), .int .i64 (k + 2), ss j] : List Value)[t]?) → up j ≤ W.heap.size → ElX KN W g j (mke (kkc k0 xs j) xs[j]) (ss j) (lo j) (up j)) := hid (fun W h1 h3 => by
          rw [← HKJ.out]
          exact ⟨h1, .inr ⟨h3, esv, by simp only [mke]; rw [enil]; rfl⟩⟩)
        rw [enil] at HKN
        obtain ⟨sv, hsv⟩ : ∃ sv, sv = ss j := ⟨_, rfl⟩
        have HSJ := hid hsv
        rw [← hsv] at zc HMK esv
        clear hsv
        subst esv
        have q3 := zc 3 (by decide)
        simp only [KN, List.getElem?_cons_succ, List.getElem?_cons_zero] at q3
        have HDJ : Hid (∀ i, i < xs.length → i ≠ j → up i ≤ lo j ∨ up j ≤ lo i) := hid (fun i hi' hne => HD.out i j hne hi' hjr)
        obtain ⟨u0, z0, y0⟩ := there_at HT.out (show j * 4 < n * 4 by omega)
        obtain ⟨u1, z1, y1⟩ := there_at HT.out (show j * 4 + 1 < n * 4 by omega)
        obtain ⟨u2, z2, y2⟩ := there_at HT.out (show j * 4 + 2 < n * 4 by omega)
        have z1' : ∀ a0, (wr.setCell ⟨g, j * 4, none⟩ a0).cell? ⟨g, j * 4 + 1, none⟩ = some u1 := fun a0 => by rw [World.cell?_setCell_other _ _ _ _ (by simp)]; exact z1
        have y1' : ∀ a0, (wr.setCell ⟨g, j * 4, none⟩ a0).frozen? ⟨g, j * 4 + 1, none⟩ = false := fun a0 => by rw [World.frozen?_setCell]; exact y1
        have z2' : ∀ a0 a1, ((wr.setCell ⟨g, j * 4, none⟩ a0).setCell ⟨g, j * 4 + 1, none⟩ a1).cell? ⟨g, j * 4 + 2, none⟩ = some u2 := fun a0 a1 => by rw [World.cell?_setCell_other _ _ _ _ (by simp), World.cell?_setCell_other _ _ _ _ (by simp)]; exact z2
        have y2' : ∀ a0 a1, ((wr.setCell ⟨g, j * 4, none⟩ a0).setCell ⟨g, j * 4 + 1, none⟩ a1).frozen? ⟨g, j * 4 + 2, none⟩ = false := fun a0 a1 => by rw [World.frozen?_setCell, World.frozen?_setCell]; exact y2
        have zl' : ∀ a0 a1 a2, (((wr.setCell ⟨g, j * 4, none⟩ a0).setCell ⟨g, j * 4 + 1, none⟩ a1).setCell ⟨g, j * 4 + 2, none⟩ a2).cell? ⟨g, j * 4 + 3, none⟩ = some (.slice none 0 0) := fun a0 a1 a2 => by rw [World.cell?_setCell_other _ _ _ _ (by simp), World.cell?_setCell_other _ _ _ _ (by simp), World.cell?_setCell_other _ _ _ _ (by simp)]; exact q3
        have HM3 := hid (fun a0 a1 a2 => (midh_set (midh_set (midh_set (HM.out) hbg hgh hgp a0) hbg hgh hgp a1) hbg hgh hgp a2 : MidH base hi p q w (((wr.setCell ⟨g, j * 4, none⟩ a0).setCell ⟨g, j * 4 + 1, none⟩ a1).setCell ⟨g, j * 4 + 2, none⟩ a2)))
        have HT3 := hid (fun a0 a1 a2 => (there_set (there_set (there_set (HT.out) a0) a1) a2 : (((wr.setCell ⟨g, j * 4, none⟩ a0).setCell ⟨g, j * 4 + 1, none⟩ a1).setCell ⟨g, j * 4 + 2, none⟩ a2).there g 0 (n * 4)))
        have HA3 : Hid (∀ a0 a1 a2 i (h : i < xs.length), i < j → ElX KN (((wr.setCell ⟨g, j * 4, none⟩ a0).setCell ⟨g, j * 4 + 1, none⟩ a1).setCell ⟨g, j * 4 + 2, none⟩ a2) g i (mke (kkc k0 xs i) xs[i]) (ss i) (lo i) (up i)) := hid (fun a0 a1 a2 i h h1 => ((((HA.out i h h1).set (HC.out i h).2.2 (by show _ < i * 4 ∨ i * 4 + 4 ≤ _; omega) a0).set (HC.out i h).2.2 (by show _ < i * 4 ∨ i * 4 + 4 ≤ _; omega) a1).set (HC.out i h).2.2 (by show _ < i * 4 ∨ i * 4 + 4 ≤ _; omega) a2))
        have HZ3 : Hid (∀ a0 a1 a2 i (h : i < xs.length), j + 1 ≤ i → ElX KN (((wr.setCell ⟨g, j * 4, none⟩ a0).setCell ⟨g, j * 4 + 1, none⟩ a1).setCell ⟨g, j * 4 + 2, none⟩ a2) g i xs[i] (ss i) (lo i) (up i)) := hid (fun a0 a1 a2 i h h1 => ((((HZ.out i h (by omega)).set (HC.out i h).2.2 (by show _ < i * 4 ∨ i * 4 + 4 ≤ _; omega) a0).set (HC.out i h).2.2 (by show _ < i * 4 ∨ i * 4 + 4 ≤ _; omega) a1).set (HC.out i h).2.2 (by show _ < i * 4 ∨ i * 4 + 4 ≤ _; omega) a2))
        have x0 : ∀ a0 a1 a2, (((wr.setCell ⟨g, j * 4, none⟩ a0).setCell ⟨g, j * 4 + 1, none⟩ a1).setCell ⟨g, j * 4 + 2, none⟩ a2).cell? ⟨g, j * 4, none⟩ = some a0 := fun a0 a1 a2 => by rw [World.cell?_setCell_other _ _ _ _ (by simp), World.cell?_setCell_other _ _ _ _ (by simp)]; exact World.cell?_setCell_same _ _ _ z0
        have x1 : ∀ a0 a1 a2, (((wr.setCell ⟨g, j * 4, none⟩ a0).setCell ⟨g, j * 4 + 1, none⟩ a1).setCell ⟨g, j * 4 + 2, none⟩ a2).cell? ⟨g, j * 4 + 1, none⟩ = some a1 := fun a0 a1 a2 => by rw [World.cell?_setCell_other _ _ _ _ (by simp)]; exact World.cell?_setCell_same _ _ _ (z1' a0)
        have x2 : ∀ a0 a1 a2, (((wr.setCell ⟨g, j * 4, none⟩ a0).setCell ⟨g, j * 4 + 1, none⟩ a1).setCell ⟨g, j * 4 + 2, none⟩ a2).cell? ⟨g, j * 4 + 2, none⟩ = some a2 := fun a0 a1 a2 => by exact World.cell?_setCell_same _ _ _ (z2' a0 a1)
        have HX := hid (fun a0 a1 a2 => (⟨x0 a0 a1 a2, x1 a0 a1 a2, x2 a0 a1 a2, zl' a0 a1 a2⟩ : (((wr.setCell ⟨g, j * 4, none⟩ a0).setCell ⟨g, j * 4 + 1, none⟩ a1).setCell ⟨g, j * 4 + 2, none⟩ a2).cell? ⟨g, j * 4, none⟩ = some a0 ∧ (((wr.setCell ⟨g, j * 4, none⟩ a0).setCell ⟨g, j * 4 + 1, none⟩ a1).setCell ⟨g, j * 4 + 2, none⟩ a2).cell? ⟨g, j * 4 + 1, none⟩ = some a1 ∧ (((wr.setCell ⟨g, j * 4, none⟩ a0).setCell ⟨g, j * 4 + 1, none⟩ a1).setCell ⟨g, j * 4 + 2, none⟩ a2).cell? ⟨g, j * 4 + 2, none⟩ = some a2 ∧ (((wr.setCell ⟨g, j * 4, none⟩ a0).setCell ⟨g, j * 4 + 1, none⟩ a1).setCell ⟨g, j * 4 + 2, none⟩ a2).cell? ⟨g, j * 4 + 3, none⟩ = some (.slice none 0 0)))
        have HSZ := hid (fun a0 a1 a2 => (by simp only [World.size_setCell] : (((wr.setCell ⟨g, j * 4, none⟩ a0).setCell ⟨g, j * 4 + 1, none⟩ a1).setCell ⟨g, j * 4 + 2, none⟩ a2).heap.size = wr.heap.size))
        clear zc
        clear HM HT HA HZ q3 z1 y1 z2 y2 x0 x1 x2
        go_wp2_with fail
        refine (mark_ptsNil (k + 1 + 1 + 1) _).mono ?_
        rintro e w1 ⟨rfl, hw1⟩
        have hsz1 : w1.heap.size = wr.heap.size := by rw [hw1]; exact HSZ.out _ _ _
        have HM5 : Hid (MidH base hi p q w w1) := hid (by rw [hw1]; exact HM3.out _ _ _)
        have HT5 : Hid (w1.there g 0 (n * 4)) := hid (by rw [hw1]; exact HT3.out _ _ _)
        have HA5 : Hid (∀ i (h : i < xs.length), i < j + 1 → ElX KN w1 g i (mke (kkc k0 xs i) xs[i]) (ss i) (lo i) (up i)) := hid (fun i h h1 => by
          by_cases e : i = j
          · subst e
            obtain ⟨s0, s1, s2, s3⟩ := HX.out (.int .i64 k) (.bool ((k + 1) % 3 == 0)) (.int .i64 (k + 1 + 1))
            rw [← hw1] at s0 s1 s2 s3
            rw [← HSJ.out]
            refine HMK.out w1 (fun t ht => ?_) (by omega)
            rcases (show t = 0 ∨ t = 1 ∨ t = 2 ∨ t = 3 by omega) with e | e | e | e <;> subst e
            · exact s0
            · exact s1
            · show _ = some (Value.int .i64 (k + 2)); rw [show k + 2 = k + 1 + 1 by omega]; exact s2
            · exact s3
          · rw [hw1]; exact HA3.out _ _ _ i h (by omega))
        have HZ5 : Hid (∀ i (h : i < xs.length), j + 1 ≤ i → ElX KN w1 g i xs[i] (ss i) (lo i) (up i)) := hid (fun i h h1 => by rw [hw1]; exact HZ3.out _ _ _ i h h1)
        have HK5 : Hid (k + 1 + 1 + 1 = kkc k0 xs (j + 1)) := hid (by rw [HKN.out]; simp; omega)
        clear hw1 hsz1 HM3 HT3 HA3 HZ3 HX HSZ zl' z1' z2' y1' y2'
        go_wp2_with fail
        go_roundw
        case rel => exact ⟨j + 1, _, by go_num, rfl, by omega, HK5, HM5, HT5, HA5, HZ5⟩
        case measure => simp [intOf]; omega
    · obtain rfl : j = n := by omega
      have c1 : (j : Int) ≤ (j : Int) := by omega
      go_wp2_with fail
      go_ret
      obtain ⟨e1, e2⟩ := HF.out wr k HKJ.out HM.out HT.out HA.out
      exact ⟨e1, e2, HM.out⟩
theorem bnes (b : Bool) : (b != b) = false := by cases b <;> rfl
set_option maxRecDepth 100000 in
set_option maxHeartbeats 2000000 in
theorem held_chsX {N : Nat → Prop} (a : Option Addr) (n cap : Nat) (xs : List Ch) (k0 : Int) (w : World) (hn : xs.length = n) (hs : chS xs) (h0 : 0 ≤ k0) (h1 : k0 ≤ 4500000000000000000) (h : Chs N 1099511627776 w a (mkc k0 xs)) : Calls Tryz.prog 9 #[.slice a n cap, .int .i64 k0] w fun e w' => e = .returned (.int .i64 (kkc k0 xs n)) ∧ w' = w := by
  have hm := hs.1
  rw [hn] at hm
  have HL := hid hs.2
  have HR := hid h
  have HN := hid hn
  have HK := hid (kkc_bound (k0 := k0) hs.2)
  clear hs h hn
  have HF : Hid (∀ k : Int, k = kkc k0 xs n → Ending.returned (.int .i64 k) = .returned (.int .i64 (kkc k0 xs n))) := hid (fun k e => by rw [e])
  go_enter Tryz.func9, Tryz.ntmps9
  go_wp2_with fail
  go_loopw [1, 5] (fun tk' ti wr => ∃ j : Nat, ∃ k : Int, ti = .int .i64 j ∧ tk' = .int .i64 k ∧ j ≤ n ∧ Hid (k = kkc k0 xs j) ∧ wr = w) (fun _ ti _ => n - (intOf ti).toNat)
  case atStart => exact ⟨0, k0, rfl, rfl, Nat.zero_le _, hid (by simp [kkc, kcn]), rfl⟩
  case round =>
    obtain ⟨j, k, rfl, rfl, hj, HKJ, hw⟩ := hrel
    subst hw
    by_cases hlt : j < n
    · have c1 : (j : Int) < (n : Int) := by omega
      have hjr : j < xs.length := by rw [HN.out]; exact hlt
      obtain ⟨hk0, hk1⟩ := HK.out j (by omega)
      rw [← HKJ.out] at hk0 hk1
      have hk2 : k ≤ 4600000000000000000 := by omega
      have hk3 : 0 ≤ k := by omega
      have HKN := hid (kkc_next (k0 := k0) hjr)
      rw [← HKJ.out] at HKN
      have hma := mkc_at (k0 := k0) hjr
      rw [← HKJ.out] at hma
      obtain ⟨b, o, rfl, hbs, a', cap', q0, q1, q2, q4, q5, q6, q7, _⟩ := HR.out.at j (by rw [mkc_len]; exact hjr)
      rw [hma] at q0 q1 q2 q4 q5 q6 q7
      simp only [mke, tkk_len] at q0 q1 q2 q4 q5 q6 q7
      have hnp := HL.out j hjr
      generalize hps : xs[j].2.2.2.length = np at *
      clear hps hma
      rw [show k + 2 = k + 1 + 1 by omega] at q2
      rw [show k + 3 = k + 1 + 1 + 1 by omega] at q7
      have HP := hid (held_ptsK wr a' cap' np (k + 1 + 1 + 1) (by omega) (by omega) hnp q7)
      have HK5 : Hid (k + 1 + 1 + 1 + 2 * (np : Int) = kkc k0 xs (j + 1)) := hid (by rw [HKN.out]; omega)
      have hpos : ¬ (k + 1 + 1 + 1 + 2 * (np : Int) < 0) := by omega
      have hbb := bnes ((k + 1) % 3 == 0)
      clear q5 q6 q7
      go_wp2_with fail
      refine HP.out.mono ?_
      rintro e w1 ⟨rfl, hw1⟩
      replace hw1 := hw1.symm
      subst hw1
      go_wp2_with fail
      go_roundw
      case rel => exact ⟨j + 1, _, by go_num, rfl, by omega, HK5, by first | rfl | trivial⟩
      case measure => simp [intOf]; omega
    · obtain rfl : j = n := by omega
      have c1 : (j : Int) ≤ (j : Int) := by omega
      go_wp2_with fail
      go_ret
      exact ⟨HF.out k HKJ.out, rfl⟩
end Go.Proofs.YtenlhgnobfadgaaGreatDoor
