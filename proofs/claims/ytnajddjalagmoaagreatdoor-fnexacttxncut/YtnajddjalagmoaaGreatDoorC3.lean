/- Texts of stores, joined: Vb, Sh0, Si, Xl, Va. -/
import Derived.Test.YtnajddjalagmoaaGreatDoorRwK
import Derived.Test.YtnajddjalagmoaaGreatDoorRwP
import Derived.Test.YtnajddjalagmoaaGreatDoorC2
import Derived.Test.YtnajddjalagmoaaGreatDoorSb
import Derived.Maps.AppendAt
namespace Go.Proofs.YtnajddjalagmoaaGreatDoor
open Go.RowKit
set_option linter.unusedSimpArgs false
set_option linter.unusedVariables false
def elR (r : Rw) (c cap : Nat) : El := (r.1, r.2.1, r.2.2.1, r.2.2.2.1, some ⟨c, 0, none⟩, r.2.2.2.2.length, cap)
/-- Rows that the call has made: the list's block and the points' blocks lie from base on, below hi, each another one. -/
def RowsX (base hi : Nat) (w : World) (v : Value) (rs : List Rw) (xs : List El) : Prop :=
  xs.length = rs.length ∧ w.ownsRow base 126 5 v rs.length (flat5 xs) ∧ (∀ g, v.ownBlock = some g → g < hi) ∧ hi ≤ w.heap.size ∧
  ∃ c cp : Nat → Nat, (∀ j (h : j < rs.length), xs[j]? = some (elR rs[j] (c j) (cp j)) ∧ rs[j].2.2.2.2.length ≤ cp j ∧ rs[j].2.2.2.2.length ≤ 1099511627776 ∧ base ≤ c j ∧ c j < hi ∧ v.ownBlock ≠ some (c j) ∧ PtsOwn w (c j) rs[j].2.2.2.2) ∧ (∀ i j, i < j → j < rs.length → c i ≠ c j)
theorem own_frame {w w' : World} {B : Nat} {e : TypeId} {sz : Nat} {v : Value} {n : Nat} {xs : List Value} (h : w.ownsRow B e sz v n xs) (hb : ∀ g, v.ownBlock = some g → w'.heap[g]? = w.heap[g]?) : w'.ownsRow B e sz v n xs := by
  refine ⟨h.1, ?_⟩
  rcases h.2 with q | ⟨g, c, cur, e1, q1, q2, q3⟩
  · exact .inl q
  · refine .inr ⟨g, c, cur, e1, q1, ?_, q3⟩
    rw [hb g (by rw [e1]; rfl)]; exact q2
theorem RowsX.frame {base hi : Nat} {w w' : World} {v : Value} {rs : List Rw} {xs : List El} (h : RowsX base hi w v rs xs) (hb : ∀ c, base ≤ c → c < hi → w'.heap[c]? = w.heap[c]?) (hs : w.heap.size ≤ w'.heap.size) : RowsX base hi w' v rs xs := by
  obtain ⟨h1, h2, h3, h4, c, cp, h5, h6⟩ := h
  refine ⟨h1, own_frame h2 (fun g e => hb g (h2.lt g e).1 (h3 g e)), h3, by omega, c, cp, fun j hj => ?_, h6⟩
  obtain ⟨a1, a2, a3, a4, a5, a6, a7⟩ := h5 j hj
  exact ⟨a1, a2, a3, a4, a5, a6, own_blk a7 (hb _ a4 a5) (by omega)⟩
theorem RowsX.below {base hi : Nat} {w w' : World} {v : Value} {rs : List Rw} {xs : List El} (h : RowsX base hi w v rs xs) (H : Below w.heap.size w w') : RowsX base hi w' v rs xs :=
  h.frame (fun c _ h2 => H.block c (by have := h.2.2.2.1; omega)) H.size
theorem RowsX.mono {base base' hi hi' : Nat} {w : World} {v : Value} {rs : List Rw} {xs : List El} (h : RowsX base hi w v rs xs) (hb : base' ≤ base) (hh : hi ≤ hi') (hs : hi' ≤ w.heap.size) : RowsX base' hi' w v rs xs := by
  obtain ⟨h1, h2, h3, h4, c, cp, h5, h6⟩ := h
  refine ⟨h1, ⟨h2.1, ?_⟩, fun g e => by have := h3 g e; omega, hs, c, cp, fun j hj => ?_, h6⟩
  · rcases h2.2 with q | ⟨g, cc, cur, e1, q1, q2, q3⟩
    · exact .inl q
    · exact .inr ⟨g, cc, cur, e1, by omega, q2, q3⟩
  · obtain ⟨a1, a2, a3, a4, a5, a6, a7⟩ := h5 j hj
    exact ⟨a1, a2, a3, by omega, by omega, a6, a7⟩
theorem RowsX.nil {base hi : Nat} {w : World} {v : Value} (h : w.ownsRow base 126 5 v 0 []) (h3 : ∀ g, v.ownBlock = some g → g < hi) (h4 : hi ≤ w.heap.size) : RowsX base hi w v [] [] :=
  ⟨rfl, by simpa [flat5] using h, h3, h4, fun _ => 0, fun _ => 0, fun j hj => absurd hj (by simp), fun i j _ hj => absurd hj (by simp)⟩
theorem RowsX.snoc {base hi : Nat} {W w' : World} {v : Value} {rs : List Rw} {xs : List El} {r : Rw} {c cp g cap : Nat} (h : RowsX base hi W v rs xs) (hcb : base ≤ c) (hc1 : hi ≤ c) (hc2 : c < W.heap.size) (hcp : r.2.2.2.2.length ≤ cp) (hl : r.2.2.2.2.length ≤ 1099511627776) (hp : PtsOwn W c r.2.2.2.2)
    (hown : w'.ownsRow base 126 5 (.slice (some ⟨g, 0, none⟩) (rs.length + 1) cap) (rs.length + 1) (flat5 xs ++ ev (elR r c cp))) (hg : W.grownBy w' v.ownBlock) (hat : v.ownBlock = some g ∨ g = W.heap.size) (hlt : g < w'.heap.size) :
    RowsX base w'.heap.size w' (.slice (some ⟨g, 0, none⟩) (rs.length + 1) cap) (rs ++ [r]) (xs ++ [elR r c cp]) := by
  obtain ⟨h1, h2, h3, h4, cf, cpf, h5, h6⟩ := h
  have hgc : ∀ d, d < W.heap.size → v.ownBlock ≠ some d → g ≠ d := by
    intro d hd hne e
    subst e
    rcases hat with q | q
    · exact hne q
    · omega
  have hvc : v.ownBlock ≠ some c := fun e => by have := h3 c e; omega
  have hlr : (rs ++ [r]).length = rs.length + 1 := by simp
  refine ⟨by simp [h1], by rw [flat5_snoc, hlr]; exact hown, fun g' e => by simp [Value.ownBlock] at e; omega, Nat.le_refl _, fun j => if j = rs.length then c else cf j, fun j => if j = rs.length then cp else cpf j, fun j hj => ?_, fun i j hij hj => ?_⟩
  · by_cases e : j = rs.length
    · subst e
      simp only [if_true]
      have er : (rs ++ [r])[rs.length]'(by simp) = r := by simp
      rw [er]
      refine ⟨by rw [← h1]; simp, hcp, hl, hcb, by have := hg.size; omega, by simp only [Value.ownBlock, ne_eq, Option.some.injEq]; exact hgc c hc2 hvc, own_blk hp (hg.block c hc2 (fun e => hvc e.symm)) (by have := hg.size; omega)⟩
    · have hjl : j < rs.length := by simp at hj; omega
      simp only [if_neg e]
      have er : (rs ++ [r])[j]'(by simpa using hj) = rs[j] := by rw [List.getElem_append_left hjl]
      rw [er]
      obtain ⟨a1, a2, a3, a4, a5, a6, a7⟩ := h5 j hjl
      refine ⟨by rw [List.getElem?_append_left (by omega)]; exact a1, a2, a3, a4, by have := hg.size; omega, by simp only [Value.ownBlock, ne_eq, Option.some.injEq]; exact hgc _ (by omega) a6, own_blk a7 (hg.block _ (by omega) (fun e => a6 e.symm)) (by have := hg.size; omega)⟩
  · have hil : i < rs.length := by simp at hj; omega
    simp only [if_neg (show i ≠ rs.length by omega)]
    by_cases e : j = rs.length
    · simp only [if_pos e]
      obtain ⟨_, _, _, _, a5, _⟩ := h5 i hil
      omega
    · simp only [if_neg e]
      exact h6 i j hij (by simp at hj; omega)
/-- A row at a place, with its points' block. -/
def RowC (w : World) (g o : Nat) (r : Rw) (c cp : Nat) : Prop := w.cell? ⟨g, o, none⟩ = some (.int .i64 r.1) ∧ w.cell? ⟨g, o + 1, none⟩ = some (.int .i64 r.2.1) ∧ w.cell? ⟨g, o + 2, none⟩ = some (.int .i64 r.2.2.1) ∧ w.cell? ⟨g, o + 3, none⟩ = some (.int .i64 r.2.2.2.1) ∧ w.cell? ⟨g, o + 4, none⟩ = some (.slice (some ⟨c, 0, none⟩) r.2.2.2.2.length cp) ∧ PtsOwn w c r.2.2.2.2
theorem RowC.at {w : World} {g o : Nat} {r : Rw} {c cp : Nat} (h : RowC w g o r c cp) (h1 : r.2.2.2.2.length ≤ cp) (h2 : r.2.2.2.2.length ≤ 1099511627776) : RwAt (fun _ => True) w g o r := by
  obtain ⟨a0, a1, a2, a3, a4, a5⟩ := h
  exact ⟨_, _, a0, a1, a2, a3, a4, h1, h2, a5.pts, fun _ _ _ => trivial⟩
theorem RowsX.rows {base hi : Nat} {w : World} {v : Value} {rs : List Rw} {xs : List El} (h : RowsX base hi w v rs xs) : (rs = [] ∧ v.ownBlock = none ∧ v = .slice none 0 0) ∨ ∃ g cap, v = .slice (some ⟨g, 0, none⟩) rs.length cap ∧ base ≤ g ∧ g < hi ∧ hi ≤ w.heap.size ∧ rs.length ≤ cap ∧ w.there g 0 (rs.length * 5) ∧ ∃ c cp : Nat → Nat, (∀ j (h : j < rs.length), RowC w g (j * 5) rs[j] (c j) (cp j) ∧ rs[j].2.2.2.2.length ≤ cp j ∧ rs[j].2.2.2.2.length ≤ 1099511627776 ∧ base ≤ c j ∧ c j < hi ∧ c j ≠ g) ∧ (∀ i j, i < j → j < rs.length → c i ≠ c j) := by
  obtain ⟨h1, h2, h3, h4, c, cp, h5, h6⟩ := h
  have h2' := h2
  rcases h2.2 with ⟨q, hn⟩ | ⟨g, cap, cur, rfl, hb, hg, hc, _⟩
  · left
    subst q
    exact ⟨List.length_eq_zero_iff.1 hn, rfl, rfl⟩
  · right
    refine ⟨g, cap, rfl, hb, h3 g rfl, h4, hc, fun j hj => ?_, c, cp, fun j hj => ?_, h6⟩
    · simp only [Nat.zero_add]
      refine ⟨?_, World.ownsRow.frozenAt h2' j⟩
      rw [World.ownsRow.cellAt h2' j hj, List.getElem?_eq_getElem (by rw [flat5_len, h1]; exact hj)]
      rfl
    · obtain ⟨a1, a2, a3, a4, a5, a6, a7⟩ := h5 j hj
      have hjx : j < xs.length := by omega
      have ex : xs[j] = elR rs[j] (c j) (cp j) := by
        rw [List.getElem?_eq_getElem hjx] at a1
        exact Option.some.inj a1
      obtain ⟨f0, f1, f2, f3, f4⟩ := flat5_at xs j hjx
      rw [ex] at f0 f1 f2 f3 f4
      refine ⟨⟨?_, ?_, ?_, ?_, ?_, a7⟩, a2, a3, a4, a5, fun e => a6 (by rw [e]; rfl)⟩
      · rw [World.ownsRow.cellAt h2' _ (by omega)]; exact f0
      · rw [World.ownsRow.cellAt h2' _ (by omega)]; exact f1
      · rw [World.ownsRow.cellAt h2' _ (by omega)]; exact f2
      · rw [World.ownsRow.cellAt h2' _ (by omega)]; exact f3
      · rw [World.ownsRow.cellAt h2' _ (by omega)]; exact f4
theorem RowsX.rws {base hi : Nat} {w : World} {a : Option Addr} {n cap : Nat} {rs : List Rw} {xs : List El} (h : RowsX base hi w (.slice a n cap) rs xs) : Rws (fun _ => True) w a rs := by
  rcases h.rows with ⟨rfl, _⟩ | ⟨g, cp, e, h1, h2, h3, h4, h5, c, cpf, h6, h7⟩
  · exact .inl rfl
  · cases e
    exact .inr ⟨g, 0, rfl, by omega, fun j hj => by
      obtain ⟨a1, a2, a3, _⟩ := h6 j hj
      rw [Nat.zero_add]; exact a1.at a2 a3⟩
theorem RowC.grown {w w' : World} {g o : Nat} {r : Rw} {c cp d : Nat} (h : RowC w g o r c cp) (hg : w.grownBy w' (some d)) (h1 : d ≠ g) (h2 : d ≠ c) : RowC w' g o r c cp := by
  obtain ⟨a0, a1, a2, a3, a4, a5⟩ := h
  have hne : some g ≠ some d := fun e => h1 (by cases e; rfl)
  exact ⟨hg.cell a0 hne, hg.cell a1 hne, hg.cell a2 hne, hg.cell a3 hne, hg.cell a4 hne, own_blk a5 (hg.block c a5.1 (fun e => h2 (by cases e; rfl))) (Nat.lt_of_lt_of_le a5.1 hg.size)⟩
def tkk (k : Int) (n : Nat) : List (Int × Int) := tk (fun i => (k + 2 * (i : Int), k + 2 * (i : Int) + 1)) n
theorem tkk_len (k : Int) (n : Nat) : (tkk k n).length = n := tk_len _ _
set_option maxRecDepth 100000 in
set_option maxHeartbeats 1000000 in
theorem mark_ptsK (w : World) (c n cap : Nat) (ps : List (Int × Int)) (k0 : Int) (h0 : 0 ≤ k0) (h1 : k0 ≤ 4611686018427387904) (hn : n ≤ 1048576) (hp : ps.length = n) (ho : PtsOwn w c ps) : Calls Tryz.prog 38 #[.slice (some ⟨c, 0, none⟩) n cap, .int .i64 k0] w fun e w' => e = .returned (.int .i64 (k0 + 2 * (n : Int))) ∧ PtsOwn w' c (tkk k0 n) ∧ w.grownBy w' (some c) := by
  obtain ⟨hb, _, ht⟩ := ho
  rw [hp] at ht
  go_enter Tryz.func38, Tryz.ntmps38
  go_wp2_with fail
  go_loopw [1, 5] (fun tk' ti wr => ∃ k : Nat, ti = .int .i64 k ∧ tk' = .int .i64 (k0 + 2 * (k : Int)) ∧ k ≤ n ∧ Hid (c < wr.heap.size ∧ PtsAt wr c 0 (tkk k0 k) ∧ wr.there c 0 (n * 2) ∧ w.grownBy wr (some c))) (fun _ ti _ => n - (intOf ti).toNat)
  case atStart => exact ⟨0, rfl, by simp, Nat.zero_le _, hid ⟨hb, fun j hj => by rw [tkk_len] at hj; omega, ht, grown_same _ _⟩⟩
  case round =>
    obtain ⟨k, rfl, rfl, hk, HH⟩ := hrel
    by_cases hlt : k < n
    · have c1 : (k : Int) < (n : Int) := by omega
      obtain ⟨u0, hu0, g0'⟩ := there_at HH.out.2.2.1 (show k * 2 < n * 2 by omega)
      obtain ⟨u1, hu1, g1'⟩ := there_at HH.out.2.2.1 (show k * 2 + 1 < n * 2 by omega)
      have hu1' : (wr.setCell ⟨c, k * 2, none⟩ (.int .i64 (k0 + 2 * (k : Int)))).cell? ⟨c, k * 2 + 1, none⟩ = some u1 := by
        rw [World.cell?_setCell_other _ _ _ _ (by simp)]; exact hu1
      have g1'' : (wr.setCell ⟨c, k * 2, none⟩ (.int .i64 (k0 + 2 * (k : Int)))).frozen? ⟨c, k * 2 + 1, none⟩ = false := by rw [World.frozen?_setCell]; exact g1'
      go_wp2_with fail
      go_roundw
      case rel =>
        have hq : PtsAt wr c 0 ((tkk k0 n).take k) := by unfold tkk; rw [take_of _ _ _ (by omega)]; exact HH.out.2.1
        obtain ⟨r1, r2⟩ := put_point (ps := tkk k0 n) (n := n * 2) HH.out.1 (by rw [tkk_len]; exact hlt) (by rw [tkk_len]) hq HH.out.2.2.1 (k0 + 2 * (k : Int)) (k0 + 2 * (k : Int) + 1) (by unfold tkk; rw [tk_getD _ _ _ hlt]) (by unfold tkk; rw [tk_getD _ _ _ hlt])
        have hq2 : (tkk k0 n).take (k + 1) = tkk k0 (k + 1) := by unfold tkk; rw [take_of _ _ _ (by omega)]
        rw [hq2] at r1
        exact ⟨k + 1, by go_num, by go_num, by omega, hid ⟨by simpa using HH.out.1, r1, r2, grown_setb (grown_setb HH.out.2.2.2 _) _⟩⟩
      case measure => simp [intOf]; omega
    · obtain rfl : k = n := by omega
      go_wp2_with fail
      go_ret
      exact ⟨rfl, ⟨HH.out.1, HH.out.2.1, by rw [tkk_len]; exact HH.out.2.2.1⟩, HH.out.2.2.2⟩
set_option maxRecDepth 100000 in
set_option maxHeartbeats 1000000 in
theorem held_ptsK (w : World) (a : Option Addr) (cap n : Nat) (k0 : Int) (h0 : 0 ≤ k0) (h1 : k0 ≤ 4611686018427387904) (hm : n ≤ 1048576) (h : Pts w a (tkk k0 n)) : Calls Tryz.prog 99 #[.slice a n cap, .int .i64 k0] w fun e w' => e = .returned (.int .i64 (k0 + 2 * (n : Int))) ∧ w' = w := by
  have HP := hid h
  clear h
  go_enter Tryz.func99, Tryz.ntmps99
  go_wp2_with fail
  go_loopw [1, 5] (fun tk' ti wr => ∃ k : Nat, ti = .int .i64 k ∧ tk' = .int .i64 (k0 + 2 * (k : Int)) ∧ k ≤ n ∧ wr = w) (fun _ ti _ => n - (intOf ti).toNat)
  case atStart => exact ⟨0, rfl, by simp, Nat.zero_le _, rfl⟩
  case round =>
    obtain ⟨k, rfl, rfl, hk, hw⟩ := hrel
    subst hw
    by_cases hlt : k < n
    · have c1 : (k : Int) < (n : Int) := by omega
      obtain ⟨b, off, rfl, hbs, hp⟩ : ∃ b off, a = some ⟨b, off, none⟩ ∧ b < wr.heap.size ∧ PtsAt wr b off (tkk k0 n) := by
        rcases HP.out with h | h
        · have := congrArg List.length h; rw [tkk_len] at this; simp at this; omega
        · exact h
      obtain ⟨d0, d1⟩ := hp k (by rw [tkk_len]; exact hlt)
      unfold tkk at d0 d1
      rw [tk_getD _ _ _ hlt] at d0 d1
      simp only at d0 d1
      clear hp
      go_wp2_with fail
      go_roundw
      case rel => exact ⟨k + 1, by go_num, by go_num, by omega, by first | rfl | trivial⟩
      case measure => simp [intOf]; omega
    · obtain rfl : k = n := by omega
      go_wp2_with fail
      go_ret
      exact ⟨rfl, rfl⟩
end Go.Proofs.YtnajddjalagmoaaGreatDoor
namespace Go.Proofs.YtnajddjalagmoaaGreatDoor
open Go.RowKit
set_option linter.unusedSimpArgs false
set_option linter.unusedVariables false
def ChO (hi : Nat) (w : World) (B o : Nat) (x : Ch) : Prop := ∃ c, w.cell? ⟨B, o + 3, none⟩ = some (.slice (some ⟨c, 0, none⟩) x.2.2.2.length x.2.2.2.length) ∧ B < c ∧ c < hi ∧ w.there c 0 (x.2.2.2.length * 2)
def ChsO (hi : Nat) (w : World) (B : Nat) (xs : List Ch) : Prop := w.there B 0 (xs.length * 4) ∧ ∀ j (h : j < xs.length), ChO hi w B (j * 4) xs[j]
def TxO (hi : Nat) (w : World) (B o : Nat) (x : Tx) (c : Nat) : Prop := w.cell? ⟨B, o + 2, none⟩ = some (.slice (some ⟨c, 0, none⟩) x.2.2.length x.2.2.length) ∧ B < c ∧ c < hi ∧ ChsO hi w c x.2.2
/-- Transactions whose lists may be written into: those of each lie from its block on, below its bound, one behind the other. -/
def TxsO (hi : Nat) (w : World) (B : Nat) (xs : List Tx) : Prop := w.there B 0 (xs.length * 3) ∧ ∃ c h : Nat → Nat, (∀ j (hj : j < xs.length), TxO (h j) w B (j * 3) xs[j] (c j) ∧ h j ≤ hi) ∧ ∀ i j, i < j → j < xs.length → h i ≤ c j
theorem ChO.below {hi : Nat} {w w' : World} {B o : Nat} {x : Ch} (h : ChO hi w B o x) (hh : hi ≤ w.heap.size) (H : Below w.heap.size w w') : ChO hi w' B o x := by
  obtain ⟨c, h0, h1, h2, h3⟩ := h
  exact ⟨c, keepcell H h0, h1, h2, there_below h3 (by omega) H⟩
theorem ChO.mono {hi hi' : Nat} {w : World} {B o : Nat} {x : Ch} (h : ChO hi w B o x) (hh : hi ≤ hi') : ChO hi' w B o x := by
  obtain ⟨c, h0, h1, h2, h3⟩ := h
  exact ⟨c, h0, h1, by omega, h3⟩
theorem ChO.set {hi : Nat} {w : World} {B o q k : Nat} {x : Ch} (h : ChO hi w B o x) (hq : q ≠ B ∨ k ≠ o + 3) (u : Value) : ChO hi (w.setCell ⟨q, k, none⟩ u) B o x := by
  obtain ⟨c, h0, h1, h2, h3⟩ := h
  refine ⟨c, ?_, h1, h2, there_set h3 _⟩
  rw [World.cell?_setCell_other _ _ _ _ (by intro e; injection e; omega)]
  exact h0
theorem ChsO.below {hi : Nat} {w w' : World} {B : Nat} {xs : List Ch} (h : ChsO hi w B xs) (hb : B < w.heap.size) (hh : hi ≤ w.heap.size) (H : Below w.heap.size w w') : ChsO hi w' B xs := ⟨there_below h.1 hb H, fun j hj => (h.2 j hj).below hh H⟩
theorem ChsO.mono {hi hi' : Nat} {w : World} {B : Nat} {xs : List Ch} (h : ChsO hi w B xs) (hh : hi ≤ hi') : ChsO hi' w B xs := ⟨h.1, fun j hj => (h.2 j hj).mono hh⟩
theorem ChsO.set {hi : Nat} {w : World} {B q k : Nat} {xs : List Ch} (h : ChsO hi w B xs) (hq : q ≠ B) (u : Value) : ChsO hi (w.setCell ⟨q, k, none⟩ u) B xs := ⟨there_set h.1 _, fun j hj => (h.2 j hj).set (.inl hq) u⟩
theorem TxO.below {hi : Nat} {w w' : World} {B o c : Nat} {x : Tx} (h : TxO hi w B o x c) (hh : hi ≤ w.heap.size) (H : Below w.heap.size w w') : TxO hi w' B o x c := by
  obtain ⟨h0, h1, h2, h3⟩ := h
  exact ⟨keepcell H h0, h1, h2, h3.below (by omega) hh H⟩
theorem TxO.set {hi : Nat} {w : World} {B o q k c : Nat} {x : Tx} (h : TxO hi w B o x c) (hq : q < B ∨ (q = B ∧ k ≠ o + 2)) (u : Value) : TxO hi (w.setCell ⟨q, k, none⟩ u) B o x c := by
  obtain ⟨h0, h1, h2, h3⟩ := h
  refine ⟨?_, h1, h2, h3.set (by omega) _⟩
  rw [World.cell?_setCell_other _ _ _ _ (by intro e; injection e; omega)]
  exact h0
theorem TxsO.below {hi : Nat} {w w' : World} {B : Nat} {xs : List Tx} (h : TxsO hi w B xs) (hb : B < w.heap.size) (hh : hi ≤ w.heap.size) (H : Below w.heap.size w w') : TxsO hi w' B xs := by
  obtain ⟨h1, c, f, h2, h3⟩ := h
  exact ⟨there_below h1 hb H, c, f, fun j hj => ⟨(h2 j hj).1.below (by have := (h2 j hj).2; omega) H, (h2 j hj).2⟩, h3⟩
theorem TxsO.set {hi : Nat} {w : World} {B q k : Nat} {xs : List Tx} (h : TxsO hi w B xs) (hq : q < B) (u : Value) : TxsO hi (w.setCell ⟨q, k, none⟩ u) B xs := by
  obtain ⟨h1, c, f, h2, h3⟩ := h
  exact ⟨there_set h1 _, c, f, fun j hj => ⟨(h2 j hj).1.set (.inl hq) u, (h2 j hj).2⟩, h3⟩
theorem TxsO.mono {hi hi' : Nat} {w : World} {B : Nat} {xs : List Tx} (h : TxsO hi w B xs) (hh : hi ≤ hi') : TxsO hi' w B xs := by
  obtain ⟨h1, c, f, h2, h3⟩ := h
  exact ⟨h1, c, f, fun j hj => ⟨(h2 j hj).1, by have := (h2 j hj).2; omega⟩, h3⟩
end Go.Proofs.YtnajddjalagmoaaGreatDoor
namespace Go.Proofs.YtnajddjalagmoaaGreatDoor
open Go.RowKit
set_option linter.unusedSimpArgs false
set_option linter.unusedVariables false
theorem grown_cell {w w' : World} {c B k : Nat} (g : w.grownBy w' (some c)) (hB : B < w.heap.size) (h : c ≠ B) : w'.cell? ⟨B, k, none⟩ = w.cell? ⟨B, k, none⟩ := by
  have := g.block B hB (by intro e; injection e; omega)
  simp only [World.cell?, this]
theorem mid_wide {lo hi lo' hi' : Nat} {w w' : World} (h : Mid lo' hi' w w') (h1 : lo ≤ lo') (h2 : hi' ≤ hi) : Mid lo hi w w' := ⟨h.1, h.2.1, h.2.2.1, h.2.2.2.1, fun k hk h3 => h.2.2.2.2 k hk (by omega)⟩
theorem ChO.mid {lo' hi' hi : Nat} {w w' : World} {B o : Nat} {x : Ch} (h : ChO hi w B o x) (k : Mid lo' hi' w w') (ht : ∀ d m, d < w.heap.size → w.there d 0 m → w'.there d 0 m) (hh : hi ≤ w.heap.size) (hB : hi' ≤ B) : ChO hi w' B o x := by
  obtain ⟨c, h0, h1, h2, h3⟩ := h
  exact ⟨c, mid_cell k h0 (.inr hB), h1, h2, ht _ _ (by omega) h3⟩
theorem ChsO.mid {lo' hi' hi : Nat} {w w' : World} {B : Nat} {xs : List Ch} (h : ChsO hi w B xs) (k : Mid lo' hi' w w') (ht : ∀ d m, d < w.heap.size → w.there d 0 m → w'.there d 0 m) (hb : B < w.heap.size) (hh : hi ≤ w.heap.size) (hB : hi' ≤ B) : ChsO hi w' B xs := ⟨ht _ _ hb h.1, fun j hj => (h.2 j hj).mid k ht hh hB⟩
theorem TxO.mid {lo' hi' hi : Nat} {w w' : World} {B o c : Nat} {x : Tx} (h : TxO hi w B o x c) (k : Mid lo' hi' w w') (ht : ∀ d m, d < w.heap.size → w.there d 0 m → w'.there d 0 m) (hh : hi ≤ w.heap.size) (hB : B < lo' ∨ hi' ≤ B) (hc : hi' ≤ c) : TxO hi w' B o x c := by
  obtain ⟨h0, h1, h2, h3⟩ := h
  exact ⟨mid_cell k h0 hB, h1, h2, h3.mid k ht (by omega) hh hc⟩
theorem TxsO.mid {lo' hi' hi : Nat} {w w' : World} {B : Nat} {xs : List Tx} (h : TxsO hi w B xs) (k : Mid lo' hi' w w') (ht : ∀ d m, d < w.heap.size → w.there d 0 m → w'.there d 0 m) (hb : B < w.heap.size) (hh : hi ≤ w.heap.size) (hB : hi' ≤ B) : TxsO hi w' B xs := by
  obtain ⟨h1, c, f, h2, h3⟩ := h
  exact ⟨ht _ _ hb h1, c, f, fun j hj => ⟨(h2 j hj).1.mid k ht (by have := (h2 j hj).2; omega) (.inr hB) (by have := (h2 j hj).1.2.1; omega), (h2 j hj).2⟩, h3⟩
set_option maxRecDepth 100000 in
set_option maxHeartbeats 2000000 in
theorem mark_chs (lo hi B : Nat) (xs : List Ch) (k0 : Int) (w : World) (hlo : lo ≤ B) (hBh : B < hi) (hih : hi ≤ w.heap.size) (hs : chS xs) (h0 : 0 ≤ k0) (h1 : k0 ≤ 4000000000000000000) (ho : ChsO hi w B xs) : Calls Tryz.prog 69 #[.slice (some ⟨B, 0, none⟩) xs.length xs.length, .int .i64 k0] w fun e w' => (∃ v : Int, e = .returned (.int .i64 v) ∧ 0 ≤ v ∧ v ≤ k0 + 2199026401280) ∧ Mid lo hi w w' ∧ (∀ d m, d < w.heap.size → w.there d 0 m → w'.there d 0 m) := by
  have HL := hid hs.2
  have HO := hid ho.2
  have hm := hs.1
  have HTT := hid ho.1
  clear hs ho
  obtain ⟨n, hn⟩ : ∃ n, n = xs.length := ⟨_, rfl⟩
  have HN := hid hn.symm
  rw [← hn] at hm HTT ⊢
  clear hn
  go_enter Tryz.func69, Tryz.ntmps69
  go_wp2_with fail
  go_loopw [1, 5] (fun tk' ti wr => ∃ j : Nat, ∃ k : Int, ti = .int .i64 j ∧ tk' = .int .i64 k ∧ j ≤ n ∧ 0 ≤ k ∧ k ≤ k0 + (j : Int) * 2097155 ∧ Hid (Mid lo hi w wr) ∧ Hid (∀ d m, w.there d 0 m → wr.there d 0 m) ∧ Hid (∀ i, j ≤ i → i < n → wr.cell? ⟨B, i * 4 + 3, none⟩ = w.cell? ⟨B, i * 4 + 3, none⟩)) (fun _ ti _ => n - (intOf ti).toNat)
  case atStart => exact ⟨0, k0, rfl, rfl, Nat.zero_le _, by omega, by omega, hid (mid_refl _ _ _), hid (fun _ _ h => h), hid (fun _ _ _ => rfl)⟩
  case round =>
    obtain ⟨j, k, rfl, rfl, hj, hk0, hk1, HM, HT, HC⟩ := hrel
    by_cases hlt : j < n
    · have c1 : (j : Int) < (n : Int) := by omega
      have hjr : j < xs.length := by rw [HN.out]; exact hlt
      obtain ⟨c, q0, q1, q2, q3⟩ := HO.out j hjr
      have hnp := HL.out j hjr
      generalize xs[j].2.2.2.length = np at *
      have hk2 : k ≤ 4000002199026401280 := by omega
      have hT := HT.out _ _ HTT.out
      rw [← HC.out j (Nat.le_refl _) hlt] at q0
      obtain ⟨u0, z0, y0⟩ := there_at hT (show j * 4 < n * 4 by omega)
      obtain ⟨u1, z1, y1⟩ := there_at hT (show j * 4 + 1 < n * 4 by omega)
      obtain ⟨u2, z2, y2⟩ := there_at hT (show j * 4 + 2 < n * 4 by omega)
      have z1' : ∀ a0, (wr.setCell ⟨B, j * 4, none⟩ a0).cell? ⟨B, j * 4 + 1, none⟩ = some u1 := fun a0 => by rw [World.cell?_setCell_other _ _ _ _ (by simp)]; exact z1
      have z2' : ∀ a0 a1, ((wr.setCell ⟨B, j * 4, none⟩ a0).setCell ⟨B, j * 4 + 1, none⟩ a1).cell? ⟨B, j * 4 + 2, none⟩ = some u2 := fun a0 a1 => by rw [World.cell?_setCell_other _ _ _ _ (by simp), World.cell?_setCell_other _ _ _ _ (by simp)]; exact z2
      have z3' : ∀ a0 a1 a2, (((wr.setCell ⟨B, j * 4, none⟩ a0).setCell ⟨B, j * 4 + 1, none⟩ a1).setCell ⟨B, j * 4 + 2, none⟩ a2).cell? ⟨B, j * 4 + 3, none⟩ = some (.slice (some ⟨c, 0, none⟩) np np) := fun a0 a1 a2 => by rw [World.cell?_setCell_other _ _ _ _ (by simp), World.cell?_setCell_other _ _ _ _ (by simp), World.cell?_setCell_other _ _ _ _ (by simp)]; exact q0
      have y1' : ∀ a0, (wr.setCell ⟨B, j * 4, none⟩ a0).frozen? ⟨B, j * 4 + 1, none⟩ = false := fun a0 => by rw [World.frozen?_setCell]; exact y1
      have y2' : ∀ a0 a1, ((wr.setCell ⟨B, j * 4, none⟩ a0).setCell ⟨B, j * 4 + 1, none⟩ a1).frozen? ⟨B, j * 4 + 2, none⟩ = false := fun a0 a1 => by rw [World.frozen?_setCell, World.frozen?_setCell]; exact y2
      have HM3 := hid (fun a0 a1 a2 => (mid_set (mid_set (mid_set HM.out hlo hBh a0) hlo hBh a1) hlo hBh a2 : Mid lo hi w (((wr.setCell ⟨B, j * 4, none⟩ a0).setCell ⟨B, j * 4 + 1, none⟩ a1).setCell ⟨B, j * 4 + 2, none⟩ a2)))
      have HT3 := hid (fun a0 a1 a2 d m (h : w.there d 0 m) => (there_set (there_set (there_set (HT.out d m h) a0) a1) a2 : (((wr.setCell ⟨B, j * 4, none⟩ a0).setCell ⟨B, j * 4 + 1, none⟩ a1).setCell ⟨B, j * 4 + 2, none⟩ a2).there d 0 m))
      have HC3 := hid (fun a0 a1 a2 i (h1 : j + 1 ≤ i) (h2 : i < n) => (by
        rw [World.cell?_setCell_other _ _ _ _ (by intro e; injection e; omega), World.cell?_setCell_other _ _ _ _ (by intro e; injection e; omega), World.cell?_setCell_other _ _ _ _ (by intro e; injection e; omega)]
        exact HC.out i (by omega) h2 : (((wr.setCell ⟨B, j * 4, none⟩ a0).setCell ⟨B, j * 4 + 1, none⟩ a1).setCell ⟨B, j * 4 + 2, none⟩ a2).cell? ⟨B, i * 4 + 3, none⟩ = w.cell? ⟨B, i * 4 + 3, none⟩))
      have HQ3 := hid q3
      have hws := HM.out.2.2.2.1
      clear hT z1 z2 y1 y2 HM HT HC q3 q0
      go_wp2_with fail
      refine (mark_ptsN _ c np (k + 1 + 1 + 1) (by omega) (by omega) hnp (by simp only [World.size_setCell]; omega) (HT3.out _ _ _ _ _ HQ3.out)).mono ?_
      rintro e w1 ⟨rfl, hg, hth⟩
      have HM5 := hid (mid_grown (HM3.out _ _ _) hg (by omega) q2)
      have HT5 := hid (fun d m (h : w.there d 0 m) => hth d m (HT3.out _ _ _ d m h))
      have HC5 : Hid (∀ i, j + 1 ≤ i → i < n → w1.cell? ⟨B, i * 4 + 3, none⟩ = w.cell? ⟨B, i * 4 + 3, none⟩) := hid (fun i h1 h2 => (grown_cell hg (by simp only [World.size_setCell]; omega) (by omega)).trans (HC3.out _ _ _ i h1 h2))
      clear hg hth HM3 HT3 HC3 z0 z1' z2' z3' y0 y1' y2'
      go_wp2_with fail
      go_roundw
      case rel => exact ⟨j + 1, _, by go_num, rfl, by omega, by omega, by omega, HM5, HT5, HC5⟩
      case measure => simp [intOf]; omega
    · have c1 : (n : Int) ≤ (j : Int) := by omega
      go_wp2_with fail
      go_ret
      exact ⟨⟨_, rfl, hk0, by omega⟩, HM.out, fun d m _ h => HT.out d m h⟩
set_option maxRecDepth 100000 in
set_option maxHeartbeats 2000000 in
theorem mark_rowSB (lo hi B : Nat) (rs : List Rw) (w : World) (hlo : lo ≤ B) (hBh : B < hi) (hih : hi ≤ w.heap.size) (hm : rs.length ≤ 1048576) (hl : ∀ m (h : m < rs.length), rs[m].2.2.2.2.length ≤ 1048576) (ht : w.there B 0 (rs.length * 5)) (ho : RwsO hi w B rs) : Calls Tryz.prog 68 #[.slice (some ⟨B, 0, none⟩) rs.length rs.length, .int .i64 1] w fun e w' => (∃ v : Int, e = .returned (.int .i64 v) ∧ 0 ≤ v ∧ v ≤ 2199027449858) ∧ Mid lo hi w w' ∧ (∀ d m, d < w.heap.size → w.there d 0 m → w'.there d 0 m) := by
  have HL := hid hl
  have HO := hid ho
  clear hl ho
  obtain ⟨n, hn⟩ : ∃ n, n = rs.length := ⟨_, rfl⟩
  have HN := hid hn.symm
  rw [← hn] at hm ht ⊢
  clear hn
  have HTT := hid ht
  clear ht
  go_enter Tryz.func68, Tryz.ntmps68
  go_wp2_with fail
  go_loopw [1, 5] (fun tk' ti wr => ∃ j : Nat, ∃ k : Int, ti = .int .i64 j ∧ tk' = .int .i64 k ∧ j ≤ n ∧ 0 ≤ k ∧ k ≤ 1 + (j : Int) * 2097156 ∧ Hid (Mid lo hi w wr) ∧ Hid (∀ d m, w.there d 0 m → wr.there d 0 m) ∧ Hid (∀ i, j ≤ i → i < n → wr.cell? ⟨B, i * 5 + 4, none⟩ = w.cell? ⟨B, i * 5 + 4, none⟩)) (fun _ ti _ => n - (intOf ti).toNat)
  case atStart => exact ⟨0, 1, rfl, rfl, Nat.zero_le _, by omega, by omega, hid (mid_refl _ _ _), hid (fun _ _ h => h), hid (fun _ _ _ => rfl)⟩
  case round =>
    obtain ⟨j, k, rfl, rfl, hj, hk0, hk1, HM, HT, HC⟩ := hrel
    by_cases hlt : j < n
    · have c1 : (j : Int) < (n : Int) := by omega
      have hjr : j < rs.length := by rw [HN.out]; exact hlt
      obtain ⟨c, q0, q1, q2, q3⟩ := HO.out j hjr
      have hnp := HL.out j hjr
      generalize rs[j].2.2.2.2.length = np at *
      have hk2 : k ≤ 2199027449858 := by omega
      have hT := HT.out _ _ HTT.out
      rw [← HC.out j (Nat.le_refl _) hlt] at q0
      obtain ⟨u0, z0, y0⟩ := there_at hT (show j * 5 < n * 5 by omega)
      obtain ⟨u1, z1, y1⟩ := there_at hT (show j * 5 + 1 < n * 5 by omega)
      obtain ⟨u2, z2, y2⟩ := there_at hT (show j * 5 + 2 < n * 5 by omega)
      obtain ⟨u3, z3, y3⟩ := there_at hT (show j * 5 + 3 < n * 5 by omega)
      have z1' : (wr.setCell ⟨B, j * 5, none⟩ (.int .i64 k)).cell? ⟨B, j * 5 + 1, none⟩ = some u1 := by
        rw [World.cell?_setCell_other _ _ _ _ (by simp)]; exact z1
      have z2' : ((wr.setCell ⟨B, j * 5, none⟩ (.int .i64 k)).setCell ⟨B, j * 5 + 1, none⟩ (.int .i64 (k + 1))).cell? ⟨B, j * 5 + 2, none⟩ = some u2 := by
        rw [World.cell?_setCell_other _ _ _ _ (by simp), World.cell?_setCell_other _ _ _ _ (by simp)]; exact z2
      have z3' : (((wr.setCell ⟨B, j * 5, none⟩ (.int .i64 k)).setCell ⟨B, j * 5 + 1, none⟩ (.int .i64 (k + 1))).setCell ⟨B, j * 5 + 2, none⟩ (.int .i64 (k + 1 + 1))).cell? ⟨B, j * 5 + 3, none⟩ = some u3 := by
        rw [World.cell?_setCell_other _ _ _ _ (by simp), World.cell?_setCell_other _ _ _ _ (by simp), World.cell?_setCell_other _ _ _ _ (by simp)]; exact z3
      have z4' : ((((wr.setCell ⟨B, j * 5, none⟩ (.int .i64 k)).setCell ⟨B, j * 5 + 1, none⟩ (.int .i64 (k + 1))).setCell ⟨B, j * 5 + 2, none⟩ (.int .i64 (k + 1 + 1))).setCell ⟨B, j * 5 + 3, none⟩ (.int .i64 (k + 1 + 1 + 1))).cell? ⟨B, j * 5 + 4, none⟩ = some (.slice (some ⟨c, 0, none⟩) np np) := by
        rw [World.cell?_setCell_other _ _ _ _ (by simp), World.cell?_setCell_other _ _ _ _ (by simp), World.cell?_setCell_other _ _ _ _ (by simp), World.cell?_setCell_other _ _ _ _ (by simp)]; exact q0
      have y1' : (wr.setCell ⟨B, j * 5, none⟩ (.int .i64 k)).frozen? ⟨B, j * 5 + 1, none⟩ = false := by rw [World.frozen?_setCell]; exact y1
      have y2' : ((wr.setCell ⟨B, j * 5, none⟩ (.int .i64 k)).setCell ⟨B, j * 5 + 1, none⟩ (.int .i64 (k + 1))).frozen? ⟨B, j * 5 + 2, none⟩ = false := by rw [World.frozen?_setCell, World.frozen?_setCell]; exact y2
      have y3' : (((wr.setCell ⟨B, j * 5, none⟩ (.int .i64 k)).setCell ⟨B, j * 5 + 1, none⟩ (.int .i64 (k + 1))).setCell ⟨B, j * 5 + 2, none⟩ (.int .i64 (k + 1 + 1))).frozen? ⟨B, j * 5 + 3, none⟩ = false := by rw [World.frozen?_setCell, World.frozen?_setCell, World.frozen?_setCell]; exact y3
      have hsz : c < ((((wr.setCell ⟨B, j * 5, none⟩ (.int .i64 k)).setCell ⟨B, j * 5 + 1, none⟩ (.int .i64 (k + 1))).setCell ⟨B, j * 5 + 2, none⟩ (.int .i64 (k + 1 + 1))).setCell ⟨B, j * 5 + 3, none⟩ (.int .i64 (k + 1 + 1 + 1))).heap.size := by
        have := HM.out.2.2.2.1
        simp only [World.size_setCell]; omega
      have hM4 : Mid lo hi w ((((wr.setCell ⟨B, j * 5, none⟩ (.int .i64 k)).setCell ⟨B, j * 5 + 1, none⟩ (.int .i64 (k + 1))).setCell ⟨B, j * 5 + 2, none⟩ (.int .i64 (k + 1 + 1))).setCell ⟨B, j * 5 + 3, none⟩ (.int .i64 (k + 1 + 1 + 1))) := mid_set (mid_set (mid_set (mid_set HM.out hlo hBh _) hlo hBh _) hlo hBh _) hlo hBh _
      have hT4 : ∀ d m, w.there d 0 m → ((((wr.setCell ⟨B, j * 5, none⟩ (.int .i64 k)).setCell ⟨B, j * 5 + 1, none⟩ (.int .i64 (k + 1))).setCell ⟨B, j * 5 + 2, none⟩ (.int .i64 (k + 1 + 1))).setCell ⟨B, j * 5 + 3, none⟩ (.int .i64 (k + 1 + 1 + 1))).there d 0 m := fun d m h => there_set (there_set (there_set (there_set (HT.out d m h) _) _) _) _
      have hC4 : ∀ i, j + 1 ≤ i → i < n → ((((wr.setCell ⟨B, j * 5, none⟩ (.int .i64 k)).setCell ⟨B, j * 5 + 1, none⟩ (.int .i64 (k + 1))).setCell ⟨B, j * 5 + 2, none⟩ (.int .i64 (k + 1 + 1))).setCell ⟨B, j * 5 + 3, none⟩ (.int .i64 (k + 1 + 1 + 1))).cell? ⟨B, i * 5 + 4, none⟩ = w.cell? ⟨B, i * 5 + 4, none⟩ := fun i h1 h2 => by
        rw [World.cell?_setCell_other _ _ _ _ (by intro e; injection e; omega), World.cell?_setCell_other _ _ _ _ (by intro e; injection e; omega), World.cell?_setCell_other _ _ _ _ (by intro e; injection e; omega), World.cell?_setCell_other _ _ _ _ (by intro e; injection e; omega)]
        exact HC.out i (by omega) h2
      have HM4 := hid hM4
      have HT4 := hid hT4
      have HC4 := hid hC4
      have MP := hid (mark_ptsN _ c np (k + 1 + 1 + 1 + 1) (by omega) (by omega) hnp hsz (hT4 _ _ q3))
      clear hM4 hT4 hC4 q0 q3 hT z1 z2 z3 y1 y2 y3 HM HT HC
      go_wp2_with fail
      refine MP.out.mono ?_
      rintro e w1 ⟨rfl, hg, hth⟩
      have HM5 := hid (mid_grown HM4.out hg (by omega) q2)
      have HT5 := hid (fun d m (h : w.there d 0 m) => hth d m (HT4.out d m h))
      have HC5 : Hid (∀ i, j + 1 ≤ i → i < n → w1.cell? ⟨B, i * 5 + 4, none⟩ = w.cell? ⟨B, i * 5 + 4, none⟩) := hid (fun i h1 h2 => by
        rw [← HC4.out i h1 h2]
        have hBs : B < ((((wr.setCell ⟨B, j * 5, none⟩ (.int .i64 k)).setCell ⟨B, j * 5 + 1, none⟩ (.int .i64 (k + 1))).setCell ⟨B, j * 5 + 2, none⟩ (.int .i64 (k + 1 + 1))).setCell ⟨B, j * 5 + 3, none⟩ (.int .i64 (k + 1 + 1 + 1))).heap.size := by omega
        have := hg.block B hBs (by intro e; injection e; omega)
        simp only [World.cell?, this])
      clear hg hth MP HM4 HT4 HC4 hsz
      go_wp2_with fail
      go_roundw
      case rel => exact ⟨j + 1, _, by go_num, rfl, by omega, by omega, by omega, HM5, HT5, HC5⟩
      case measure => simp [intOf]; omega
    · have c1 : (n : Int) ≤ (j : Int) := by omega
      go_wp2_with fail
      go_ret
      exact ⟨⟨_, rfl, hk0, by omega⟩, HM.out, fun d m _ h => HT.out d m h⟩
set_option maxHeartbeats 400000 in
theorem mark_rowsB (lo hi B : Nat) (now : Int) (rs : List Rw) (w : World) (hlo : lo ≤ B) (hBh : B < hi) (hih : hi ≤ w.heap.size) (hm : rs.length ≤ 1048576) (hl : ∀ m (h : m < rs.length), rs[m].2.2.2.2.length ≤ 1048576) (ht : w.there B 0 (rs.length * 5)) (ho : RwsO hi w B rs) : Calls Tryz.prog 36 #[.agg #[.int .i64 now, .slice (some ⟨B, 0, none⟩) rs.length rs.length], .int .i64 1] w fun e w' => (∃ v : Int, e = .returned (.int .i64 v) ∧ 0 ≤ v ∧ v ≤ 2199027449858) ∧ Mid lo hi w w' ∧ (∀ d m, d < w.heap.size → w.there d 0 m → w'.there d 0 m) := by
  have hB : Below w.heap.size w (w.alloc (.cells #[.int .i64 now, .slice (some ⟨B, 0, none⟩) rs.length rs.length] 35)) := balloc (Below.refl _ _) _
  have HM := hid (mark_rowSB lo hi B rs _ hlo hBh (Nat.le_trans hih hB.size) hm hl (there_below ht (by omega) hB) (ho.below hih hB))
  clear ht ho hl
  go_enter Tryz.func36, Tryz.ntmps36
  go_wp2_with fail
  refine HM.out.mono ?_
  rintro e w1 ⟨⟨v, rfl, hv, hv'⟩, hmid, hth⟩
  have HTH := hid (fun d m (h' : d < w.heap.size) (h : w.there d 0 m) => hth d m (Nat.lt_of_lt_of_le h' hB.size) (there_below h h' hB))
  have HMM := hid (mid_trans (mid_below hB) hmid)
  clear hmid hth
  go_wp2_with fail
  go_ret
  exact ⟨⟨_, rfl, hv, hv'⟩, HMM.out, HTH.out⟩
end Go.Proofs.YtnajddjalagmoaaGreatDoor
namespace Go.Proofs.YtnajddjalagmoaaGreatDoor
open Go.RowKit
set_option linter.unusedSimpArgs false
set_option linter.unusedVariables false
/-- A kind of element: its cells, with the value in the last one, and what is said of that value and its blocks. -/
structure Kd (α : Type) where
  sz : Nat
  vals : α → Value → List Value
  sub : Nat → Nat → World → Value → α → Prop
  len : ∀ x v, (vals x v).length = sz
  one : ∀ {lo up : Nat} {w : World} {v : Value} {x : α}, sub lo up w v x → ∀ u ∈ vals x v, u.oneCell' = true
  frame : ∀ {lo up : Nat} {w w' : World} {v : Value} {x : α}, sub lo up w v x → (∀ c, lo ≤ c → c < up → w'.heap[c]? = w.heap[c]?) → w.heap.size ≤ w'.heap.size → sub lo up w' v x
  top : ∀ {lo up : Nat} {w : World} {v : Value} {x : α}, sub lo up w v x → up ≤ w.heap.size
def flatK {α : Type} (K : Kd α) (ps : List (α × Value)) : List Value := ps.flatMap (fun p => K.vals p.1 p.2)
theorem flatK_snoc {α : Type} (K : Kd α) (ps : List (α × Value)) (p : α × Value) : flatK K (ps ++ [p]) = flatK K ps ++ K.vals p.1 p.2 := by simp [flatK]
theorem flatK_len {α : Type} (K : Kd α) (ps : List (α × Value)) : (flatK K ps).length = ps.length * K.sz := by
  induction ps with
  | nil => simp [flatK]
  | cons x r ih =>
    show (K.vals x.1 x.2 ++ flatK K r).length = _
    rw [List.length_append, ih, K.len, List.length_cons, Nat.succ_mul]
    omega
theorem flatX_at {α : Type} (K : Kd α) : ∀ (ps : List (α × Value)) (j t : Nat) (h : j < ps.length), t < K.sz → (flatK K ps)[j * K.sz + t]? = (K.vals ps[j].1 ps[j].2)[t]?
  | [], j, t, h, _ => by simp at h
  | x :: r, 0, t, h, ht => by
    show (K.vals x.1 x.2 ++ flatK K r)[0 * K.sz + t]? = _
    rw [Nat.zero_mul, Nat.zero_add, List.getElem?_append_left (by rw [K.len]; exact ht)]
    rfl
  | x :: r, j + 1, t, h, ht => by
    have ih := flatX_at K r j t (by simpa using h) ht
    show (K.vals x.1 x.2 ++ flatK K r)[(j + 1) * K.sz + t]? = _
    rw [List.getElem?_append_right (by rw [K.len, Nat.succ_mul]; omega), K.len, show (j + 1) * K.sz + t - K.sz = j * K.sz + t by rw [Nat.succ_mul]; omega, ih]
    rfl
/-- A list as the call makes it. -/
def LX {α : Type} (K : Kd α) (t : TypeId) (base hi : Nat) (w : World) (v : Value) (xs : List α) (ps : List (α × Value)) : Prop :=
  ps.map Prod.fst = xs ∧ w.ownsRow base t K.sz v xs.length (flatK K ps) ∧ (∀ g, v.ownBlock = some g → g < hi) ∧ hi ≤ w.heap.size ∧
  ∃ lo up : Nat → Nat, (∀ j (h : j < ps.length), K.sub (lo j) (up j) w ps[j].2 ps[j].1 ∧ base ≤ lo j ∧ up j ≤ hi ∧ (∀ g, v.ownBlock = some g → g < lo j ∨ up j ≤ g)) ∧ (∀ i j, i < j → j < ps.length → up i ≤ lo j)
theorem LX.plen {α : Type} {K : Kd α} {t : TypeId} {base hi : Nat} {w : World} {v : Value} {xs : List α} {ps : List (α × Value)} (h : LX K t base hi w v xs ps) : ps.length = xs.length := by
  have := congrArg List.length h.1
  simpa using this
theorem LX.frame {α : Type} {K : Kd α} {t : TypeId} {base hi : Nat} {w w' : World} {v : Value} {xs : List α} {ps : List (α × Value)} (h : LX K t base hi w v xs ps) (hb : ∀ c, base ≤ c → c < hi → w'.heap[c]? = w.heap[c]?) (hs : w.heap.size ≤ w'.heap.size) : LX K t base hi w' v xs ps := by
  obtain ⟨h1, h2, h3, h4, lo, up, h5, h6⟩ := h
  refine ⟨h1, own_frame h2 (fun g e => hb g (h2.lt g e).1 (h3 g e)), h3, by omega, lo, up, fun j hj => ?_, h6⟩
  obtain ⟨a1, a2, a3, a4⟩ := h5 j hj
  exact ⟨K.frame a1 (fun c c1 c2 => hb c (by omega) (by omega)) hs, a2, a3, a4⟩
theorem LX.below {α : Type} {K : Kd α} {t : TypeId} {base hi : Nat} {w w' : World} {v : Value} {xs : List α} {ps : List (α × Value)} (h : LX K t base hi w v xs ps) (H : Below w.heap.size w w') : LX K t base hi w' v xs ps :=
  h.frame (fun c _ h2 => H.block c (by have := h.2.2.2.1; omega)) H.size
theorem LX.mono {α : Type} {K : Kd α} {t : TypeId} {base base' hi hi' : Nat} {w : World} {v : Value} {xs : List α} {ps : List (α × Value)} (h : LX K t base hi w v xs ps) (hb : base' ≤ base) (hh : hi ≤ hi') (hs : hi' ≤ w.heap.size) : LX K t base' hi' w v xs ps := by
  obtain ⟨h1, h2, h3, h4, lo, up, h5, h6⟩ := h
  refine ⟨h1, ⟨h2.1, ?_⟩, fun g e => by have := h3 g e; omega, hs, lo, up, fun j hj => ?_, h6⟩
  · rcases h2.2 with q | ⟨g, cc, cur, e1, q1, q2, q3⟩
    · exact .inl q
    · exact .inr ⟨g, cc, cur, e1, by omega, q2, q3⟩
  · obtain ⟨a1, a2, a3, a4⟩ := h5 j hj
    exact ⟨a1, by omega, by omega, a4⟩
theorem LX.nil {α : Type} {K : Kd α} {t : TypeId} {base hi : Nat} {w : World} {v : Value} (h : w.ownsRow base t K.sz v 0 []) (h3 : ∀ g, v.ownBlock = some g → g < hi) (h4 : hi ≤ w.heap.size) : LX K t base hi w v [] [] :=
  ⟨rfl, by simpa [flatK] using h, h3, h4, fun _ => 0, fun _ => 0, fun j hj => absurd hj (by simp), fun i j _ hj => absurd hj (by simp)⟩
theorem LX.snoc {α : Type} {K : Kd α} {t : TypeId} {base hi : Nat} {W w' : World} {v : Value} {xs : List α} {ps : List (α × Value)} {x : α} {sv : Value} {l u g cap : Nat} (h : LX K t base hi W v xs ps) (hl : hi ≤ l) (hbl : base ≤ l) (hsub : K.sub l u W sv x)
    (hown : w'.ownsRow base t K.sz (.slice (some ⟨g, 0, none⟩) (xs.length + 1) cap) (xs.length + 1) (flatK K ps ++ K.vals x sv)) (hg : W.grownBy w' v.ownBlock) (hat : v.ownBlock = some g ∨ g = W.heap.size) (hlt : g < w'.heap.size) :
    LX K t base w'.heap.size w' (.slice (some ⟨g, 0, none⟩) (xs.length + 1) cap) (xs ++ [x]) (ps ++ [(x, sv)]) := by
  have hpl := h.plen
  obtain ⟨h1, h2, h3, h4, lo, up, h5, h6⟩ := h
  have hu := K.top hsub
  have hsz := hg.size
  have hfr : ∀ c, c < W.heap.size → v.ownBlock ≠ some c → w'.heap[c]? = W.heap[c]? := fun c hc hne => hg.block c hc (fun e => hne e.symm)
  refine ⟨by simp [h1], by rw [flatK_snoc, List.length_append]; exact hown, fun g' e => by simp [Value.ownBlock] at e; omega, Nat.le_refl _, fun j => if j = ps.length then l else lo j, fun j => if j = ps.length then u else up j, fun j hj => ?_, fun i j hij hj => ?_⟩
  · by_cases e : j = ps.length
    · subst e
      simp only [if_true]
      have er : (ps ++ [(x, sv)])[ps.length]'(by simp) = (x, sv) := by simp
      rw [er]
      refine ⟨K.frame hsub (fun c c1 c2 => hfr c (by omega) (fun e => by have := h3 c e; omega)) hsz, hbl, by omega, fun g' e => ?_⟩
      simp [Value.ownBlock] at e
      rcases hat with q | q
      · have := h3 g q; omega
      · omega
    · have hjl : j < ps.length := by simp at hj; omega
      simp only [if_neg e]
      have er : (ps ++ [(x, sv)])[j]'(by simpa using hj) = ps[j] := by rw [List.getElem_append_left hjl]
      rw [er]
      obtain ⟨a1, a2, a3, a4⟩ := h5 j hjl
      refine ⟨K.frame a1 (fun c c1 c2 => hfr c (by omega) (fun e => by have := a4 c e; omega)) hsz, a2, by omega, fun g' e => ?_⟩
      simp [Value.ownBlock] at e
      rcases hat with q | q
      · have := a4 g q; omega
      · omega
  · have hil : i < ps.length := by simp at hj; omega
    simp only [if_neg (show i ≠ ps.length by omega)]
    by_cases e : j = ps.length
    · simp only [if_pos e]
      obtain ⟨_, _, a3, _⟩ := h5 i hil
      omega
    · simp only [if_neg e]
      exact h6 i j hij (by simp at hj; omega)
/-- An element at its place. -/
def ElX {α : Type} (K : Kd α) (w : World) (g i : Nat) (x : α) (s : Value) (lo up : Nat) : Prop :=
  (∀ t, t < K.sz → w.cell? ⟨g, i * K.sz + t, none⟩ = (K.vals x s)[t]?) ∧ K.sub lo up w s x
/-- A list in memory of its own, cell by cell. -/
def LC {α : Type} (K : Kd α) (base hi : Nat) (w : World) (v : Value) (xs : List α) : Prop :=
  hi ≤ w.heap.size ∧ ((xs = [] ∧ v = .slice none 0 0) ∨ ∃ (g cap : Nat) (ss : Nat → Value) (lo up : Nat → Nat), v = .slice (some ⟨g, 0, none⟩) xs.length cap ∧ xs.length ≤ cap ∧ base ≤ g ∧ g < hi ∧ w.there g 0 (xs.length * K.sz) ∧
  (∀ j (h : j < xs.length), ElX K w g j xs[j] (ss j) (lo j) (up j) ∧ base ≤ lo j ∧ up j ≤ hi ∧ (g < lo j ∨ up j ≤ g)) ∧ (∀ i j, i ≠ j → i < xs.length → j < xs.length → up i ≤ lo j ∨ up j ≤ lo i))
theorem LX.lc {α : Type} {K : Kd α} {t : TypeId} {base hi : Nat} {w : World} {v : Value} {xs : List α} {ps : List (α × Value)} (h : LX K t base hi w v xs ps) : LC K base hi w v xs := by
  have hpl := h.plen
  obtain ⟨h1, h2, h3, h4, lo, up, h5, h6⟩ := h
  refine ⟨h4, ?_⟩
  have h2' := h2
  rcases h2.2 with ⟨q, hn⟩ | ⟨g, cap, cur, rfl, hb, hg, hc, _⟩
  · left
    exact ⟨List.length_eq_zero_iff.1 hn, q⟩
  · right
    refine ⟨g, cap, fun j => if h : j < ps.length then (ps[j]'h).2 else .bool false, lo, up, rfl, hc, hb, h3 g rfl, fun j hj => ?_, fun j hj => ?_, fun i j hne hi' hj => (Nat.lt_or_gt_of_ne hne).elim (fun q => .inl (h6 i j q (by omega))) (fun q => .inr (h6 j i q (by omega)))⟩
    · simp only [Nat.zero_add]
      refine ⟨?_, World.ownsRow.frozenAt h2' j⟩
      rw [World.ownsRow.cellAt h2' j hj, List.getElem?_eq_getElem (by rw [flatK_len, hpl]; exact hj)]
      rfl
    · have hjp : j < ps.length := by omega
      obtain ⟨a1, a2, a3, a4⟩ := h5 j hjp
      have ex : xs[j] = (ps[j]).1 := by
        have : xs[j]? = (ps.map Prod.fst)[j]? := by rw [h1]
        rw [List.getElem?_map, List.getElem?_eq_getElem hj, List.getElem?_eq_getElem hjp] at this
        exact Option.some.inj this
      simp only [dif_pos hjp, ex]
      refine ⟨⟨fun t ht => ?_, a1⟩, a2, a3, a4 g rfl⟩
      have hlt : j * K.sz + t < xs.length * K.sz := by
        have : (j + 1) * K.sz ≤ xs.length * K.sz := Nat.mul_le_mul_right _ (by omega)
        rw [Nat.succ_mul] at this
        omega
      rw [World.ownsRow.cellAt h2' _ hlt, flatX_at K ps j t hjp ht]
theorem ElX.blk {α : Type} {K : Kd α} {w w' : World} {g i : Nat} {x : α} {s : Value} {lo up : Nat} (h : ElX K w g i x s lo up) (hg : w'.heap[g]? = w.heap[g]?) (hb : ∀ c, lo ≤ c → c < up → w'.heap[c]? = w.heap[c]?) (hs : w.heap.size ≤ w'.heap.size) : ElX K w' g i x s lo up :=
  ⟨fun t ht => by rw [World.cell?_of_block (w := w) hg]; exact h.1 t ht, K.frame h.2 hb hs⟩
theorem ElX.set {α : Type} {K : Kd α} {w : World} {g i k : Nat} {x : α} {s : Value} {lo up : Nat} (h : ElX K w g i x s lo up) (hg : g < lo ∨ up ≤ g) (hk : k < i * K.sz ∨ i * K.sz + K.sz ≤ k) (u : Value) : ElX K (w.setCell ⟨g, k, none⟩ u) g i x s lo up := by
  refine ⟨fun t ht => ?_, K.frame h.2 (fun c c1 c2 => Below.heap_setCell _ _ _ _ (by dsimp only; omega)) (by simp)⟩
  rw [World.cell?_setCell_other _ _ _ _ (by intro e; injection e; omega)]
  exact h.1 t ht
theorem ElX.mid {α : Type} {K : Kd α} {w w' : World} {g i : Nat} {x : α} {s : Value} {lo up l u : Nat} (h : ElX K w g i x s lo up) (m : Mid l u w w') (hgs : g < w.heap.size) (hg : g < l ∨ u ≤ g) (hd : up ≤ l ∨ u ≤ lo) : ElX K w' g i x s lo up := by
  have ht := K.top h.2
  exact h.blk (mid_blk m hgs hg) (fun c c1 c2 => mid_blk m (by omega) (by omega)) m.2.2.2.1
theorem LC.frame {α : Type} {K : Kd α} {base hi : Nat} {w w' : World} {v : Value} {xs : List α} (h : LC K base hi w v xs) (hb : ∀ c, base ≤ c → c < hi → w'.heap[c]? = w.heap[c]?) (hs : w.heap.size ≤ w'.heap.size) : LC K base hi w' v xs := by
  obtain ⟨h0, h⟩ := h
  refine ⟨by omega, ?_⟩
  rcases h with h | ⟨g, cap, ss, lo, up, e, h1, h2, h3, h4, h5, h6⟩
  · exact .inl h
  · have hg := hb g h2 h3
    refine .inr ⟨g, cap, ss, lo, up, e, h1, h2, h3, fun i hi' => ?_, fun j hj => ?_, h6⟩
    · have := h4 i hi'
      simp only [World.cell?, World.frozen?, hg] at this ⊢
      exact this
    · obtain ⟨a1, a2, a3, a4⟩ := h5 j hj
      exact ⟨a1.blk hg (fun c c1 c2 => hb c (by omega) (by omega)) hs, a2, a3, a4⟩
theorem LC.below {α : Type} {K : Kd α} {base hi : Nat} {w w' : World} {v : Value} {xs : List α} (h : LC K base hi w v xs) (H : Below w.heap.size w w') : LC K base hi w' v xs :=
  h.frame (fun c _ h2 => H.block c (by have := h.1; omega)) H.size
theorem LC.form {α : Type} {K : Kd α} {base hi : Nat} {w : World} {v : Value} {xs : List α} (h : LC K base hi w v xs) : ∃ a cap, v = .slice a xs.length cap ∧ xs.length ≤ cap ∧ (∀ c off, a = some ⟨c, off, none⟩ → base ≤ c ∧ c < hi) := by
  rcases h.2 with ⟨rfl, e⟩ | ⟨g, cap, ss, lo, up, e, h1, h2, h3, h4, h5, h6⟩
  · exact ⟨none, 0, e, by simp, fun c off e => by cases e⟩
  · exact ⟨_, cap, e, h1, fun c off e => by cases e; exact ⟨h2, h3⟩⟩
/-- The points of a change, in a block of their own. -/
def subC (lo up : Nat) (w : World) (v : Value) (x : Ch) : Prop := up ≤ w.heap.size ∧ ∃ c cp, v = .slice (some ⟨c, 0, none⟩) x.2.2.2.length cp ∧ x.2.2.2.length ≤ cp ∧ x.2.2.2.length ≤ 1099511627776 ∧ lo ≤ c ∧ c < up ∧ PtsOwn w c x.2.2.2
def KC : Kd Ch where
  sz := 4
  vals := fun x v => [.int .i64 x.1, .bool x.2.1, .int .i64 x.2.2.1, v]
  sub := subC
  len := fun _ _ => rfl
  one := by
    rintro lo up w v x ⟨_, c, cp, rfl, _⟩ u hu
    simp at hu
    rcases hu with rfl | rfl | rfl | rfl <;> rfl
  frame := by
    rintro lo up w w' v x ⟨h0, c, cp, e, h1, h2, h3, h4, h5⟩ hb hs
    exact ⟨by omega, c, cp, e, h1, h2, h3, h4, own_blk h5 (hb c h3 h4) (by omega)⟩
  top := fun h => h.1
def KT : Kd Tx where
  sz := 3
  vals := fun x v => [.int .i64 x.1, .bool x.2.1, v]
  sub := fun lo up w v x => LC KC lo up w v x.2.2
  len := fun _ _ => rfl
  one := by
    intro lo up w v x h u hu
    obtain ⟨a, cap, rfl, _⟩ := h.form
    simp at hu
    rcases hu with rfl | rfl | rfl <;> rfl
  frame := fun h hb hs => h.frame hb hs
  top := fun h => h.1
theorem LC.chs {base hi : Nat} {w : World} {a : Option Addr} {n cap : Nat} {xs : List Ch} (h : LC KC base hi w (.slice a n cap) xs) : Chs (fun c => base ≤ c ∧ c < hi) 1099511627776 w a xs := by
  obtain ⟨h0, h⟩ := h
  rcases h with ⟨rfl, _⟩ | ⟨g, cp, ss, lo, up, e, h1, h2, h3, h4, h5, h6⟩
  · exact .inl rfl
  · cases e
    refine .inr ⟨g, 0, rfl, by omega, fun j hj => ?_⟩
    obtain ⟨⟨b1, _, c, cq, e, b2, b3, b4, b5, b6⟩, a2, a3, a4⟩ := h5 j hj
    have k0 := b1 0 (by decide)
    have k1 := b1 1 (by decide)
    have k2 := b1 2 (by decide)
    have k3 := b1 3 (by decide)
    simp only [KC, e] at k0 k1 k2 k3
    rw [Nat.zero_add]
    exact ⟨_, _, k0, k1, k2, k3, b2, b3, b6.pts, fun c' off e' => by cases e'; omega⟩
theorem LC.txs {base hi : Nat} {w : World} {a : Option Addr} {n cap : Nat} {xs : List Tx} (h : LC KT base hi w (.slice a n cap) xs) (hm : ∀ j (h : j < xs.length), xs[j].2.2.length ≤ 1099511627776) : Txs (fun c => base ≤ c ∧ c < hi) 1099511627776 w a xs := by
  obtain ⟨h0, h⟩ := h
  rcases h with ⟨rfl, _⟩ | ⟨g, cp, ss, lo, up, e, h1, h2, h3, h4, h5, h6⟩
  · exact .inl rfl
  · cases e
    refine .inr ⟨g, 0, rfl, by omega, fun j hj => ?_⟩
    obtain ⟨⟨b1, b2⟩, a2, a3, a4⟩ := h5 j hj
    obtain ⟨a', cap', e, f1, f2⟩ := LC.form b2
    have k0 := b1 0 (by decide)
    have k1 := b1 1 (by decide)
    have k2 := b1 2 (by decide)
    simp only [KT, e] at k0 k1 k2
    rw [Nat.zero_add]
    rw [e] at b2
    have hc := LC.chs b2
    refine ⟨a', cap', k0, k1, k2, f1, hm j hj, ?_, fun c' off e' => by have := f2 c' off e'; omega⟩
    rcases hc with hc | ⟨b, o, e2, hb, hc⟩
    · exact .inl hc
    · refine .inr ⟨b, o, e2, hb, fun i hi' => ?_⟩
      obtain ⟨a4', cap4, q0, q1, q2, q3, q4, q5, q6, q7⟩ := hc i hi'
      exact ⟨a4', cap4, q0, q1, q2, q3, q4, q5, q6, fun c' off e' => by have := q7 c' off e'; omega⟩
def subR (lo up : Nat) (w : World) (v : Value) (x : Rw) : Prop := up ≤ w.heap.size ∧ ∃ c cp, v = .slice (some ⟨c, 0, none⟩) x.2.2.2.2.length cp ∧ x.2.2.2.2.length ≤ cp ∧ x.2.2.2.2.length ≤ 1099511627776 ∧ lo ≤ c ∧ c < up ∧ PtsOwn w c x.2.2.2.2
def KR : Kd Rw where
  sz := 5
  vals := fun x v => [.int .i64 x.1, .int .i64 x.2.1, .int .i64 x.2.2.1, .int .i64 x.2.2.2.1, v]
  sub := subR
  len := fun _ _ => rfl
  one := by
    rintro lo up w v x ⟨_, c, cp, rfl, _⟩ u hu
    simp at hu
    rcases hu with rfl | rfl | rfl | rfl | rfl <;> rfl
  frame := by
    rintro lo up w w' v x ⟨h0, c, cp, e, h1, h2, h3, h4, h5⟩ hb hs
    exact ⟨by omega, c, cp, e, h1, h2, h3, h4, own_blk h5 (hb c h3 h4) (by omega)⟩
  top := fun h => h.1
theorem LC.rws {base hi : Nat} {w : World} {a : Option Addr} {n cap : Nat} {xs : List Rw} (h : LC KR base hi w (.slice a n cap) xs) : Rws (fun _ => True) w a xs := by
  obtain ⟨h0, h⟩ := h
  rcases h with ⟨rfl, _⟩ | ⟨g, cp, ss, lo, up, e, h1, h2, h3, h4, h5, h6⟩
  · exact .inl rfl
  · cases e
    refine .inr ⟨g, 0, rfl, by omega, fun j hj => ?_⟩
    obtain ⟨⟨b1, _, c, cq, e, b2, b3, b4, b5, b6⟩, a2, a3, a4⟩ := h5 j hj
    have k0 := b1 0 (by decide)
    have k1 := b1 1 (by decide)
    have k2 := b1 2 (by decide)
    have k3 := b1 3 (by decide)
    have k4 := b1 4 (by decide)
    simp only [KR, e] at k0 k1 k2 k3 k4
    rw [Nat.zero_add]
    exact ⟨_, _, k0, k1, k2, k3, k4, b2, b3, b6.pts, fun c' off e' => trivial⟩
theorem RowsX.lc {base hi : Nat} {w : World} {v : Value} {rs : List Rw} {xs : List El} (h : RowsX base hi w v rs xs) : LC KR base hi w v rs := by
  have h0 := h.2.2.2.1
  refine ⟨h0, ?_⟩
  rcases h.rows with ⟨rfl, _, e⟩ | ⟨g, cp, e, h1, h2, h3, h4, h5, c, cpf, h6, h7⟩
  · exact .inl ⟨rfl, e⟩
  · refine .inr ⟨g, cp, fun j => if hj : j < rs.length then .slice (some ⟨c j, 0, none⟩) (rs[j]'hj).2.2.2.2.length (cpf j) else .bool false, c, fun j => c j + 1, e, h4, h1, h2, h5, fun j hj => ?_, fun i j hne hi' hj => ?_⟩
    · obtain ⟨⟨a0, a1, a2, a3, a4, a5⟩, b1, b2, b3, b4, b5⟩ := h6 j hj
      simp only [dif_pos hj]
      refine ⟨⟨fun t ht => ?_, by have := a5.1; omega, c j, cpf j, rfl, b1, b2, Nat.le_refl _, by omega, a5⟩, b3, by omega, by omega⟩
      rcases (show t = 0 ∨ t = 1 ∨ t = 2 ∨ t = 3 ∨ t = 4 by have : KR.sz = 5 := rfl; omega) with e | e | e | e | e <;> subst e
      · exact a0
      · exact a1
      · exact a2
      · exact a3
      · exact a4
    · rcases Nat.lt_or_gt_of_ne hne with q | q
      · have := h7 i j q hj; show c i + 1 ≤ c j ∨ c j + 1 ≤ c i; omega
      · have := h7 j i q hi'; show c i + 1 ≤ c j ∨ c j + 1 ≤ c i; omega
end Go.Proofs.YtnajddjalagmoaaGreatDoor
namespace Go.Proofs.YtnajddjalagmoaaGreatDoor
open Go.RowKit
set_option linter.unusedSimpArgs false
set_option linter.unusedVariables false
/-- An append to a list of its own that is no nil, at a step of a region that draws its order; the source may be empty. -/
theorem step_append_any {P : Program} {w : World} {ops : Array Oper} {o : Oper} {a : Act} {K : Act → World → Prop} {Q : Exit → Act → World → Prop} {E : Prop} (hgd : o.guard = none) (s x : Operand) (t : TypeId)
    (ho : o.op = .call { callee := .builtin .append, args := #[s, x], argTypes := #[t, t] })
    (base : Nat) (e : TypeId) (i : TypeInfo) (z : Value) (size bytes : Nat) (ht : P.underlying t = some (.slice e)) (hi : P.info? e = some i) (hz : i.zero = some z)
    (hsize : i.size = size) (hby : i.bytes = bytes) (hzs : z.cells.size = size) (hsz : 0 < size)
    (g0 n0 cap0 : Nat) (n : Nat) (xs : List Value) (hs : a.eval s = .slice (some ⟨g0, 0, none⟩) n0 cap0) (hown : w.ownsRow base e size (.slice (some ⟨g0, 0, none⟩) n0 cap0) n xs)
    (ad : Addr) (m c : Nat) (news : List Value) (hx : a.eval x = .slice (some ad) m c) (hl : news.length = m * size) (hnews : ∀ j u, news[j]? = some u → w.cell? (ad.add j) = some u) (h1 : ∀ u ∈ news, u.oneCell' = true)
    (h63 : n + m ≤ maxLen) (hbytes : (n + m) * bytes ≤ 140737488355328) (hbase : base ≤ w.heap.size)
    (h : ∀ g cap w', w'.ownsRow base e size (.slice (some ⟨g, 0, none⟩) (n + m) cap) (n + m) (xs ++ news) → w.grownBy w' (some g0) → (g = g0 ∨ g = w.heap.size) → K (a.put o.dst (.slice (some ⟨g, 0, none⟩) (n + m) cap)) w') :
    if Region.wanted o (yielded ops a.tmps) = true then Oper.wp P o a w K Q else E := by
  have hw : Region.wanted o (yielded ops a.tmps) = true := by simp [Region.wanted, hgd]
  rw [if_pos hw]
  obtain ⟨v', w', hr, h2, h3, h4, h5⟩ := run_append_own_at (P := P) w base t o.type e i z size bytes ht hi hz hsize hby hzs hsz _ n xs hown ad m c news hl hnews h1 h63 hbytes hbase
  have hne : v' ≠ .slice none 0 0 := fun e => by have := (h4.1 e).1; cases this
  obtain ⟨g, cap, cur, rfl, _⟩ : ∃ g cap cur, v' = .slice (some ⟨g, 0, none⟩) (n + m) cap ∧ cur = () := by
    rcases h2.2 with ⟨q, _⟩ | ⟨g, cap, cur, e, _⟩
    · exact absurd q hne
    · exact ⟨g, cap, (), e, rfl⟩
  unfold Oper.wp execOp
  simp only [ho, resolve, invoke, builtin, Sem.run_bind, Sem.run_pure, Result.andThen_ok, List.map_toArray, List.map_cons, List.map_nil, hs, hx, hr]
  refine h g cap w' h2 h3 ?_
  rcases h5 with h5 | h5
  · left; simpa [Value.ownBlock] using h5
  · right; simpa [Value.ownBlock] using h5
/-- The same in a plain region. -/
theorem wpList_append_any {P : Program} {w : World} {ops : Array Oper} {rest : List Oper} {o : Oper} {a : Act} {Q : Exit → Act → World → Prop} (hgd : o.guard = none) (s x : Operand) (t : TypeId)
    (ho : o.op = .call { callee := .builtin .append, args := #[s, x], argTypes := #[t, t] })
    (base : Nat) (e : TypeId) (i : TypeInfo) (z : Value) (size bytes : Nat) (ht : P.underlying t = some (.slice e)) (hi : P.info? e = some i) (hz : i.zero = some z)
    (hsize : i.size = size) (hby : i.bytes = bytes) (hzs : z.cells.size = size) (hsz : 0 < size)
    (g0 n0 cap0 : Nat) (n : Nat) (xs : List Value) (hs : a.eval s = .slice (some ⟨g0, 0, none⟩) n0 cap0) (hown : w.ownsRow base e size (.slice (some ⟨g0, 0, none⟩) n0 cap0) n xs)
    (ad : Addr) (m c : Nat) (news : List Value) (hx : a.eval x = .slice (some ad) m c) (hl : news.length = m * size) (hnews : ∀ j u, news[j]? = some u → w.cell? (ad.add j) = some u) (h1 : ∀ u ∈ news, u.oneCell' = true)
    (h63 : n + m ≤ maxLen) (hbytes : (n + m) * bytes ≤ 140737488355328) (hbase : base ≤ w.heap.size)
    (h : ∀ g cap w', w'.ownsRow base e size (.slice (some ⟨g, 0, none⟩) (n + m) cap) (n + m) (xs ++ news) → w.grownBy w' (some g0) → (g = g0 ∨ g = w.heap.size) → wpList P ops Q rest (a.put o.dst (.slice (some ⟨g, 0, none⟩) (n + m) cap)) w') : wpList P ops Q (o :: rest) a w := by
  refine wpList_plain hgd fun K hK => ?_
  obtain ⟨v', w', hr, h2, h3, h4, h5⟩ := run_append_own_at (P := P) w base t o.type e i z size bytes ht hi hz hsize hby hzs hsz _ n xs hown ad m c news hl hnews h1 h63 hbytes hbase
  have hne : v' ≠ .slice none 0 0 := fun e => by have := (h4.1 e).1; cases this
  obtain ⟨g, cap, cur, rfl, _⟩ : ∃ g cap cur, v' = .slice (some ⟨g, 0, none⟩) (n + m) cap ∧ cur = () := by
    rcases h2.2 with ⟨q, _⟩ | ⟨g, cap, cur, e, _⟩
    · exact absurd q hne
    · exact ⟨g, cap, (), e, rfl⟩
  unfold Oper.wp execOp
  simp only [ho, resolve, invoke, builtin, Sem.run_bind, Sem.run_pure, Result.andThen_ok, List.map_toArray, List.map_cons, List.map_nil, hs, hx, hr]
  refine hK _ _ (h g cap w' h2 h3 ?_)
  rcases h5 with h5 | h5
  · left; simpa [Value.ownBlock] using h5
  · right; simpa [Value.ownBlock] using h5
set_option maxRecDepth 100000 in
set_option maxHeartbeats 1000000 in
theorem spec_copyG (kd : Int) (b off : Nat) (cap : Nat) (ps : List (Int × Int)) (w : World) (hm : ps.length ≤ 1099511627776) (h : Pts w (some ⟨b, off, none⟩) ps) (hbs : b < w.heap.size) : Calls Tryz.prog 26 #[.agg #[.int .i64 kd, .slice (some ⟨b, off, none⟩) ps.length cap]] w fun e w' => CP w kd ps e w' := by
  obtain ⟨i0, hi0, hz0, hz1, hz2⟩ := info_parts Tryz.infoPC
  have hp : PtsAt w b off ps := by
    rcases h with h | ⟨b', o', e, _, h⟩
    · subst h; intro k hk; simp at hk
    · cases e; exact h
  have hN := fl2_len ps
  have HP := hid hp
  clear hp h
  have hB3 : Below w.heap.size w (((w.alloc (.cells #[.int .i64 kd, .slice (some ⟨b, off, none⟩) ps.length cap] 44)).alloc (.cells #[.int .i64 0, .slice none 0 0] 44)).alloc (.cells #[] 96)) := balloc (balloc (balloc (Below.refl _ _) _) _) _
  have hown := own_new (w := (w.alloc (.cells #[.int .i64 kd, .slice (some ⟨b, off, none⟩) ps.length cap] 44)).alloc (.cells #[.int .i64 0, .slice none 0 0] 44)) (B := w.heap.size + 2) (by simp)
  have gA := old_alloc (o' := .cells #[] 96) (old_alloc (o' := .cells #[.int .i64 0, .slice none 0 0] 44) (new_alloc w w.heap.size (.cells #[.int .i64 kd, .slice (some ⟨b, off, none⟩) ps.length cap] 44) rfl))
  have gB := old_alloc (o' := .cells #[] 96) (new_alloc (w.alloc (.cells #[.int .i64 kd, .slice (some ⟨b, off, none⟩) ps.length cap] 44)) (w.heap.size + 1) (.cells #[.int .i64 0, .slice none 0 0] 44) (by simp))
  have hsz3 : (((w.alloc (.cells #[.int .i64 kd, .slice (some ⟨b, off, none⟩) ps.length cap] 44)).alloc (.cells #[.int .i64 0, .slice none 0 0] 44)).alloc (.cells #[] 96)).heap.size = w.heap.size + 3 := by simp
  have hsz2 : ((w.alloc (.cells #[.int .i64 kd, .slice (some ⟨b, off, none⟩) ps.length cap] 44)).alloc (.cells #[.int .i64 0, .slice none 0 0] 44)).heap.size = w.heap.size + 2 := by simp
  rw [hsz2] at hown
  have HNW := hid (fl2_news (HP.out.below hbs hB3))
  have HOW := hid hown
  have HGA := hid gA
  have HGB := hid gB
  have HB3 := hid hB3
  have HSZ := hid hsz3
  have HF1 := hid (fl2_one ps)
  clear hown gA gB hB3 hsz3 hsz2
  go_enter Tryz.func26, Tryz.ntmps26
  go_wp2_with (at_builtin; (refine wpList_append_any rfl (.tmp 3) (.tmp 5) 42 rfl (w.heap.size + 2) 96 i0 _ 2 16 Tryz.underlying42 hi0 hz0 hz1 hz2 rfl (by decide) (w.heap.size + 2) 0 0 0 [] (by rfl) HOW.out ⟨b, off, none⟩ ps.length cap (fl2 ps) (by rfl) hN HNW.out HF1.out (by unfold maxLen; omega) (by omega) (by rw [HSZ.out]; omega) ?_; intro gg cp w2 hown1 hgrow hat; have gA := grown_blk (p := w.heap.size + 2) hgrow HGA.out (by omega); have gB := grown_blk (p := w.heap.size + 2) hgrow HGB.out (by omega); obtain ⟨a0, a1, f0, f1⟩ := cell2r gA; obtain ⟨b0, b1, e0, e1⟩ := cell2r gB))
  have HO1 := hid (own_pts (ps := ps) (by simpa using hown1) (by omega))
  have HB4 := hid (bgrown (p := w.heap.size + 2) HB3.out hgrow (by omega))
  clear hown1 hgrow
  obtain ⟨h1, h2, h3⟩ := HO1.out
  have gF := set2r (set_far (q := w.heap.size) (k := 1) (u := .slice (some ⟨gg, 0, none⟩) ps.length cp) gB (by omega)) (.int .i64 kd) (.slice (some ⟨gg, 0, none⟩) ps.length cp)
  have bF := bset (bset (bset HB4.out (q := w.heap.size) (k := 1) (Nat.le_refl _) (.slice (some ⟨gg, 0, none⟩) ps.length cp)) (q := w.heap.size + 1) (k := 0) (by omega) (.int .i64 kd)) (q := w.heap.size + 1) (k := 1) (by omega) (.slice (some ⟨gg, 0, none⟩) ps.length cp)
  have oF : PtsOwn (((w2.setCell ⟨w.heap.size, 1, none⟩ (.slice (some ⟨gg, 0, none⟩) ps.length cp)).setCell ⟨w.heap.size + 1, 0, none⟩ (.int .i64 kd)).setCell ⟨w.heap.size + 1, 1, none⟩ (.slice (some ⟨gg, 0, none⟩) ps.length cp)) gg ps := by
    refine own_blk h3 ?_ (by simp; exact h3.1)
    rw [Below.heap_setCell _ _ _ _ (by dsimp only; omega), Below.heap_setCell _ _ _ _ (by dsimp only; omega), Below.heap_setCell _ _ _ _ (by dsimp only; omega)]
  generalize ((w2.setCell ⟨w.heap.size, 1, none⟩ (.slice (some ⟨gg, 0, none⟩) ps.length cp)).setCell ⟨w.heap.size + 1, 0, none⟩ (.int .i64 kd)).setCell ⟨w.heap.size + 1, 1, none⟩ (.slice (some ⟨gg, 0, none⟩) ps.length cp) = wf at *
  obtain ⟨z0, z1, _, _⟩ := cell2r gF
  exact bodyPost_ret (v := .agg #[.int .i64 kd, .slice (some ⟨gg, 0, none⟩) ps.length cp]) (by simp [results, Tryz.results26, go_sem, z0, z1]) rfl ⟨gg, cp, rfl, by omega, by omega, oF, bF⟩
set_option maxRecDepth 100000 in
set_option maxHeartbeats 2000000 in
theorem impl_copyG (kd : Int) (b off : Nat) (cap : Nat) (ps : List (Int × Int)) (w : World) (hm : ps.length ≤ 1099511627776) (h : Pts w (some ⟨b, off, none⟩) ps) (hbs : b < w.heap.size) : Calls Tryz.prog 64 #[.agg #[.int .i64 kd, .slice (some ⟨b, off, none⟩) ps.length cap]] w fun e w' => CP w kd ps e w' := by
  obtain ⟨i0, hi0, hz0, hz1, hz2⟩ := info_parts Tryz.infoPC
  have hp : PtsAt w b off ps := by
    rcases h with h | ⟨b', o', e, _, h⟩
    · subst h; intro k hk; simp at hk
    · cases e; exact h
  have hN := fl2_len ps
  have HP := hid hp
  have HF1 := hid (fl2_one ps)
  clear hp h
  go_enter Tryz.func64, Tryz.ntmps64
  go_upto_region 1 with fail
  have hB : Below w.heap.size w ((w.alloc (.cells #[.int .i64 kd, .slice (some ⟨b, off, none⟩) ps.length cap] 44)).alloc (.cells #[.int .i64 0, .slice none 0 0] 44)) := balloc (balloc (Below.refl _ _) _) _
  have gA := old_alloc (o' := .cells #[.int .i64 0, .slice none 0 0] 44) (new_alloc w w.heap.size (.cells #[.int .i64 kd, .slice (some ⟨b, off, none⟩) ps.length cap] 44) rfl)
  have gB := new_alloc (w.alloc (.cells #[.int .i64 kd, .slice (some ⟨b, off, none⟩) ps.length cap] 44)) (w.heap.size + 1) (.cells #[.int .i64 0, .slice none 0 0] 44) (by simp)
  have hsz : ((w.alloc (.cells #[.int .i64 kd, .slice (some ⟨b, off, none⟩) ps.length cap] 44)).alloc (.cells #[.int .i64 0, .slice none 0 0] 44)).heap.size = w.heap.size + 2 := by simp
  generalize ((w.alloc (.cells #[.int .i64 kd, .slice (some ⟨b, off, none⟩) ps.length cap] 44)).alloc (.cells #[.int .i64 0, .slice none 0 0] 44)) = W at *
  have HNW := hid (fl2_news (HP.out.below hbs (balloc hB (.cells #[] 96))))
  have HOW := hid (own_new (w := W) (B := w.heap.size + 2) (by omega))
  rw [hsz] at HOW
  have HGB := hid (old_alloc (o' := .cells #[] 96) gB)
  have hs3 : (W.alloc (.cells #[] 96)).heap.size = w.heap.size + 3 := by simp [hsz]
  have HB3 := hid (balloc hB (.cells #[] 96))
  obtain ⟨a0, a1, f0, f1⟩ := cell2r gA
  obtain ⟨b0, b1, e0, e1⟩ := cell2r gB
  clear gA gB hB
  go_region_held3 (fun w' => w'.cell? ⟨w.heap.size, 0, none⟩ = some (.int .i64 kd) ∧ w'.cell? ⟨w.heap.size, 1, none⟩ = some (.slice (some ⟨b, off, none⟩) ps.length cap)) ((go_split_ands; (repeat' apply And.intro) <;> (repeat (first | with_reducible assumption | with_reducible refine keepset3 ?_ (by dsimp only; omega) | with_reducible refine keepdrew ?_ | with_reducible refine keepalloc ?_ _ | (refine hgrow.cell ?_ (by simp; try omega))))))
    ((refine step_append_any (by rfl) _ _ _ (by rfl) (w.heap.size + 2) 96 i0 _ 2 16 Tryz.underlying42 hi0 hz0 hz1 hz2 rfl (by omega) (w.heap.size + 2) 0 0 0 [] (by rw [← hsz]; rfl) (HOW.out.drew) ⟨b, off, none⟩ ps.length cap (fl2 ps) (by rfl) hN HNW.out HF1.out (by unfold maxLen; omega) (by omega) (by show _ ≤ (W.alloc (.cells #[] 96)).heap.size; omega) ?_; intro gg cp w2 hown1 hgrow hat; have gB := grown_blk (p := w.heap.size + 2) hgrow HGB.out (by omega); obtain ⟨y0, y1, x0, x1⟩ := cell2r gB))
  have HO1 := hid (own_pts (ps := ps) (by simpa using hown1) (by omega))
  have HB4 := hid (bgrown (p := w.heap.size + 2) (bdrew HB3.out) hgrow (by omega))
  clear hown1 hgrow
  go_wp2_with fail
  obtain ⟨h1, h2, h3⟩ := HO1.out
  have gF := set2r gB (.int .i64 kd) (.slice (some ⟨gg, 0, none⟩) ps.length cp)
  have bF := bset (bset HB4.out (q := w.heap.size + 1) (k := 0) (by omega) (.int .i64 kd)) (q := w.heap.size + 1) (k := 1) (by omega) (.slice (some ⟨gg, 0, none⟩) ps.length cp)
  have oF : PtsOwn ((w2.setCell ⟨w.heap.size + 1, 0, none⟩ (.int .i64 kd)).setCell ⟨w.heap.size + 1, 1, none⟩ (.slice (some ⟨gg, 0, none⟩) ps.length cp)) gg ps := by
    refine own_blk h3 ?_ (by simp; exact h3.1)
    rw [Below.heap_setCell _ _ _ _ (by dsimp only; omega), Below.heap_setCell _ _ _ _ (by dsimp only; omega)]
  generalize (w2.setCell ⟨w.heap.size + 1, 0, none⟩ (.int .i64 kd)).setCell ⟨w.heap.size + 1, 1, none⟩ (.slice (some ⟨gg, 0, none⟩) ps.length cp) = wf at *
  obtain ⟨z0, z1, _, _⟩ := cell2r gF
  exact bodyPost_ret (v := .agg #[.int .i64 kd, .slice (some ⟨gg, 0, none⟩) ps.length cp]) (by simp [results, Tryz.results64, go_sem, z0, z1]) rfl ⟨gg, cp, rfl, by omega, by omega, oF, bF⟩
end Go.Proofs.YtnajddjalagmoaaGreatDoor
