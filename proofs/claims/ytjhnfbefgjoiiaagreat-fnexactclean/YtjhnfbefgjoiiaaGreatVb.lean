/- Rows in memory of their own: as the call makes them, marked, held. -/
import Derived.Test.YtjhnfbefgjoiiaaGreatRwK
import Derived.Test.YtjhnfbefgjoiiaaGreatRwP
import Derived.Test.YtjhnfbefgjoiiaaGreatRwA0
namespace Go.Proofs.YtjhnfbefgjoiiaaGreat
open Go.RowKit
set_option linter.unusedSimpArgs false
set_option linter.unusedVariables false
def elR (r : Rw) (c cap : Nat) : El := (r.1, r.2.1, r.2.2.1, r.2.2.2.1, some ⟨c, 0, none⟩, r.2.2.2.2.length, cap)
/-- Rows that the call has made: the list's block and the points' blocks lie from base on, below hi, each another one. -/
def RowsX (base hi : Nat) (w : World) (v : Value) (rs : List Rw) (xs : List El) : Prop :=
  xs.length = rs.length ∧ w.ownsRow base 57 5 v rs.length (flat5 xs) ∧ (∀ g, v.ownBlock = some g → g < hi) ∧ hi ≤ w.heap.size ∧
  ∃ c cp : Nat → Nat, (∀ j (h : j < rs.length), xs[j]? = some (elR rs[j] (c j) (cp j)) ∧ rs[j].2.2.2.2.length ≤ cp j ∧ rs[j].2.2.2.2.length ≤ 1099511627776 ∧ base ≤ c j ∧ c j < hi ∧ v.ownBlock ≠ some (c j) ∧ PtsOwn w (c j) rs[j].2.2.2.2) ∧ (∀ i j, i < j → j < rs.length → c i ≠ c j)
theorem own_frame {w w' : World} {B : Nat} {e : TypeId} {sz : Nat} {v : Value} {n : Nat} {xs : List Value} (h : w.ownsRow B e sz v n xs) (hb : ∀ g, v.ownBlock = some g → w'.heap[g]? = w.heap[g]?) : w'.ownsRow B e sz v n xs := by
  refine ⟨h.1, ?_⟩
  rcases h.2 with q | ⟨g, c, cur, e1, q1, q2, q3⟩
  · exact .inl q
  · refine .inr ⟨g, c, cur, e1, q1, ?_, q3⟩
    rw [hb g (by rw [e1]; rfl)]; exact q2
theorem RowsX.frame {base hi : Nat} {w w' : World} {v : Value} {rs : List Rw} {xs : List El} (h : RowsX base hi w v rs xs) (hb : ∀ c, base ≤ c → c < hi → w'.heap[c]? = w.heap[c]?) (hs : w.heap.size ≤ w'.heap.size) : RowsX base hi w' v rs xs := by
  obtain ⟨h1, h2, h3, h4, c, cp, h5, h6⟩ := h
  refine ⟨h1, own_frame h2 (fun g e => hb g (h2.lt g e).1 (h3 g e)), h3, by omega, c, cp, fun j hj => ?_, h6⟩
  obtain ⟨a1, a2, a3, a4, a5, a6, a7⟩ := h5 j hj
  exact ⟨a1, a2, a3, a4, a5, a6, own_blk a7 (hb _ a4 a5) (by omega)⟩
theorem RowsX.below {base hi : Nat} {w w' : World} {v : Value} {rs : List Rw} {xs : List El} (h : RowsX base hi w v rs xs) (H : Below w.heap.size w w') : RowsX base hi w' v rs xs :=
  h.frame (fun c _ h2 => H.block c (by have := h.2.2.2.1; omega)) H.size
theorem RowsX.mono {base base' hi hi' : Nat} {w : World} {v : Value} {rs : List Rw} {xs : List El} (h : RowsX base hi w v rs xs) (hb : base' ≤ base) (hh : hi ≤ hi') (hs : hi' ≤ w.heap.size) : RowsX base' hi' w v rs xs := by
  obtain ⟨h1, h2, h3, h4, c, cp, h5, h6⟩ := h
  refine ⟨h1, ⟨h2.1, ?_⟩, fun g e => by have := h3 g e; omega, hs, c, cp, fun j hj => ?_, h6⟩
  · rcases h2.2 with q | ⟨g, cc, cur, e1, q1, q2, q3⟩
    · exact .inl q
    · exact .inr ⟨g, cc, cur, e1, by omega, q2, q3⟩
  · obtain ⟨a1, a2, a3, a4, a5, a6, a7⟩ := h5 j hj
    exact ⟨a1, a2, a3, by omega, by omega, a6, a7⟩
theorem RowsX.nil {base hi : Nat} {w : World} {v : Value} (h : w.ownsRow base 57 5 v 0 []) (h3 : ∀ g, v.ownBlock = some g → g < hi) (h4 : hi ≤ w.heap.size) : RowsX base hi w v [] [] :=
  ⟨rfl, by simpa [flat5] using h, h3, h4, fun _ => 0, fun _ => 0, fun j hj => absurd hj (by simp), fun i j _ hj => absurd hj (by simp)⟩
theorem RowsX.snoc {base hi : Nat} {W w' : World} {v : Value} {rs : List Rw} {xs : List El} {r : Rw} {c cp g cap : Nat} (h : RowsX base hi W v rs xs) (hcb : base ≤ c) (hc1 : hi ≤ c) (hc2 : c < W.heap.size) (hcp : r.2.2.2.2.length ≤ cp) (hl : r.2.2.2.2.length ≤ 1099511627776) (hp : PtsOwn W c r.2.2.2.2)
    (hown : w'.ownsRow base 57 5 (.slice (some ⟨g, 0, none⟩) (rs.length + 1) cap) (rs.length + 1) (flat5 xs ++ ev (elR r c cp))) (hg : W.grownBy w' v.ownBlock) (hat : v.ownBlock = some g ∨ g = W.heap.size) (hlt : g < w'.heap.size) :
    RowsX base w'.heap.size w' (.slice (some ⟨g, 0, none⟩) (rs.length + 1) cap) (rs ++ [r]) (xs ++ [elR r c cp]) := by
  obtain ⟨h1, h2, h3, h4, cf, cpf, h5, h6⟩ := h
  have hgc : ∀ d, d < W.heap.size → v.ownBlock ≠ some d → g ≠ d := by
    intro d hd hne e
    subst e
    rcases hat with q | q
    · exact hne q
    · omega
  have hvc : v.ownBlock ≠ some c := fun e => by have := h3 c e; omega
  have hlr : (rs ++ [r]).length = rs.length + 1 := by simp
  refine ⟨by simp [h1], by rw [flat5_snoc, hlr]; exact hown, fun g' e => by simp [Value.ownBlock] at e; omega, Nat.le_refl _, fun j => if j = rs.length then c else cf j, fun j => if j = rs.length then cp else cpf j, fun j hj => ?_, fun i j hij hj => ?_⟩
  · by_cases e : j = rs.length
    · subst e
      simp only [if_true]
      have er : (rs ++ [r])[rs.length]'(by simp) = r := by simp
      rw [er]
      refine ⟨by rw [← h1]; simp, hcp, hl, hcb, by have := hg.size; omega, by simp only [Value.ownBlock, ne_eq, Option.some.injEq]; exact hgc c hc2 hvc, own_blk hp (hg.block c hc2 (fun e => hvc e.symm)) (by have := hg.size; omega)⟩
    · have hjl : j < rs.length := by simp at hj; omega
      simp only [if_neg e]
      have er : (rs ++ [r])[j]'(by simpa using hj) = rs[j] := by rw [List.getElem_append_left hjl]
      rw [er]
      obtain ⟨a1, a2, a3, a4, a5, a6, a7⟩ := h5 j hjl
      refine ⟨by rw [List.getElem?_append_left (by omega)]; exact a1, a2, a3, a4, by have := hg.size; omega, by simp only [Value.ownBlock, ne_eq, Option.some.injEq]; exact hgc _ (by omega) a6, own_blk a7 (hg.block _ (by omega) (fun e => a6 e.symm)) (by have := hg.size; omega)⟩
  · have hil : i < rs.length := by simp at hj; omega
    simp only [if_neg (show i ≠ rs.length by omega)]
    by_cases e : j = rs.length
    · simp only [if_pos e]
      obtain ⟨_, _, _, _, a5, _⟩ := h5 i hil
      omega
    · simp only [if_neg e]
      exact h6 i j hij (by simp at hj; omega)
/-- A row at a place, with its points' block. -/
def RowC (w : World) (g o : Nat) (r : Rw) (c cp : Nat) : Prop := w.cell? ⟨g, o, none⟩ = some (.int .i64 r.1) ∧ w.cell? ⟨g, o + 1, none⟩ = some (.int .i64 r.2.1) ∧ w.cell? ⟨g, o + 2, none⟩ = some (.int .i64 r.2.2.1) ∧ w.cell? ⟨g, o + 3, none⟩ = some (.int .i64 r.2.2.2.1) ∧ w.cell? ⟨g, o + 4, none⟩ = some (.slice (some ⟨c, 0, none⟩) r.2.2.2.2.length cp) ∧ PtsOwn w c r.2.2.2.2
theorem RowC.at {w : World} {g o : Nat} {r : Rw} {c cp : Nat} (h : RowC w g o r c cp) (h1 : r.2.2.2.2.length ≤ cp) (h2 : r.2.2.2.2.length ≤ 1099511627776) : RwAt (fun _ => True) w g o r := by
  obtain ⟨a0, a1, a2, a3, a4, a5⟩ := h
  exact ⟨_, _, a0, a1, a2, a3, a4, h1, h2, a5.pts, fun _ _ _ => trivial⟩
theorem RowsX.rows {base hi : Nat} {w : World} {v : Value} {rs : List Rw} {xs : List El} (h : RowsX base hi w v rs xs) : (rs = [] ∧ v.ownBlock = none ∧ v = .slice none 0 0) ∨ ∃ g cap, v = .slice (some ⟨g, 0, none⟩) rs.length cap ∧ base ≤ g ∧ g < hi ∧ hi ≤ w.heap.size ∧ rs.length ≤ cap ∧ w.there g 0 (rs.length * 5) ∧ ∃ c cp : Nat → Nat, (∀ j (h : j < rs.length), RowC w g (j * 5) rs[j] (c j) (cp j) ∧ rs[j].2.2.2.2.length ≤ cp j ∧ rs[j].2.2.2.2.length ≤ 1099511627776 ∧ base ≤ c j ∧ c j < hi ∧ c j ≠ g) ∧ (∀ i j, i < j → j < rs.length → c i ≠ c j) := by
  obtain ⟨h1, h2, h3, h4, c, cp, h5, h6⟩ := h
  have h2' := h2
  rcases h2.2 with ⟨q, hn⟩ | ⟨g, cap, cur, rfl, hb, hg, hc, _⟩
  · left
    subst q
    exact ⟨List.length_eq_zero_iff.1 hn, rfl, rfl⟩
  · right
    refine ⟨g, cap, rfl, hb, h3 g rfl, h4, hc, fun j hj => ?_, c, cp, fun j hj => ?_, h6⟩
    · simp only [Nat.zero_add]
      refine ⟨?_, World.ownsRow.frozenAt h2' j⟩
      rw [World.ownsRow.cellAt h2' j hj, List.getElem?_eq_getElem (by rw [flat5_len, h1]; exact hj)]
      rfl
    · obtain ⟨a1, a2, a3, a4, a5, a6, a7⟩ := h5 j hj
      have hjx : j < xs.length := by omega
      have ex : xs[j] = elR rs[j] (c j) (cp j) := by
        rw [List.getElem?_eq_getElem hjx] at a1
        exact Option.some.inj a1
      obtain ⟨f0, f1, f2, f3, f4⟩ := flat5_at xs j hjx
      rw [ex] at f0 f1 f2 f3 f4
      refine ⟨⟨?_, ?_, ?_, ?_, ?_, a7⟩, a2, a3, a4, a5, fun e => a6 (by rw [e]; rfl)⟩
      · rw [World.ownsRow.cellAt h2' _ (by omega)]; exact f0
      · rw [World.ownsRow.cellAt h2' _ (by omega)]; exact f1
      · rw [World.ownsRow.cellAt h2' _ (by omega)]; exact f2
      · rw [World.ownsRow.cellAt h2' _ (by omega)]; exact f3
      · rw [World.ownsRow.cellAt h2' _ (by omega)]; exact f4
theorem RowsX.rws {base hi : Nat} {w : World} {a : Option Addr} {n cap : Nat} {rs : List Rw} {xs : List El} (h : RowsX base hi w (.slice a n cap) rs xs) : Rws (fun _ => True) w a rs := by
  rcases h.rows with ⟨rfl, _⟩ | ⟨g, cp, e, h1, h2, h3, h4, h5, c, cpf, h6, h7⟩
  · exact .inl rfl
  · cases e
    exact .inr ⟨g, 0, rfl, by omega, fun j hj => by
      obtain ⟨a1, a2, a3, _⟩ := h6 j hj
      rw [Nat.zero_add]; exact a1.at a2 a3⟩
theorem RowC.grown {w w' : World} {g o : Nat} {r : Rw} {c cp d : Nat} (h : RowC w g o r c cp) (hg : w.grownBy w' (some d)) (h1 : d ≠ g) (h2 : d ≠ c) : RowC w' g o r c cp := by
  obtain ⟨a0, a1, a2, a3, a4, a5⟩ := h
  have hne : some g ≠ some d := fun e => h1 (by cases e; rfl)
  exact ⟨hg.cell a0 hne, hg.cell a1 hne, hg.cell a2 hne, hg.cell a3 hne, hg.cell a4 hne, own_blk a5 (hg.block c a5.1 (fun e => h2 (by cases e; rfl))) (Nat.lt_of_lt_of_le a5.1 hg.size)⟩
theorem RowC.setg {w : World} {g o k : Nat} {r : Rw} {c cp : Nat} (h : RowC w g o r c cp) (h1 : g ≠ c) (hk : k < o ∨ o + 5 ≤ k) (u : Value) : RowC (w.setCell ⟨g, k, none⟩ u) g o r c cp := by
  obtain ⟨a0, a1, a2, a3, a4, a5⟩ := h
  refine ⟨?_, ?_, ?_, ?_, ?_, own_blk a5 (Below.heap_setCell _ _ _ _ (by dsimp only; omega)) (by simpa using a5.1)⟩
  all_goals rw [World.cell?_setCell_other _ _ _ _ (by intro e; injection e; omega)]; assumption
def tkk (k : Int) (n : Nat) : List (Int × Int) := tk (fun i => (k + 2 * (i : Int), k + 2 * (i : Int) + 1)) n
theorem tkk_len (k : Int) (n : Nat) : (tkk k n).length = n := tk_len _ _
def kk (rs : List Rw) (j : Nat) : Int := 1 + ((rs.take j).map (fun r => 4 + 2 * (r.2.2.2.2.length : Int))).sum
theorem kk_next {rs : List Rw} {j : Nat} (h : j < rs.length) : kk rs (j + 1) = kk rs j + 4 + 2 * (rs[j].2.2.2.2.length : Int) := by
  unfold kk
  rw [List.take_add_one, List.getElem?_eq_getElem h, List.map_append, List.sum_append]
  simp only [Option.toList, List.map_cons, List.map_nil, List.sum_cons, List.sum_nil]
  omega
theorem kk_bound {rs : List Rw} (hl : ∀ m (h : m < rs.length), rs[m].2.2.2.2.length ≤ 1048576) : ∀ j, j ≤ rs.length → 1 ≤ kk rs j ∧ kk rs j ≤ 1 + (j : Int) * 2097156 := by
  intro j
  induction j with
  | zero => intro _; simp [kk]
  | succ j ih =>
    intro hj
    obtain ⟨h1, h2⟩ := ih (by omega)
    have h3 := hl j (by omega)
    rw [kk_next (by omega)]
    constructor <;> omega
def mrk (rs : List Rw) : List Rw := rs.mapIdx (fun j r => (kk rs j, kk rs j + 1, kk rs j + 2, kk rs j + 3, tkk (kk rs j + 4) r.2.2.2.2.length))
theorem mrk_len (rs : List Rw) : (mrk rs).length = rs.length := by simp [mrk]
theorem mrk_at {rs : List Rw} {j : Nat} (h : j < rs.length) : (mrk rs)[j]'(by rw [mrk_len]; exact h) = (kk rs j, kk rs j + 1, kk rs j + 2, kk rs j + 3, tkk (kk rs j + 4) rs[j].2.2.2.2.length) := by simp [mrk]
set_option maxRecDepth 100000 in
set_option maxHeartbeats 1000000 in
theorem mark_ptsK (w : World) (c n cap : Nat) (ps : List (Int × Int)) (k0 : Int) (h0 : 0 ≤ k0) (h1 : k0 ≤ 4611686018427387904) (hn : n ≤ 1048576) (hp : ps.length = n) (ho : PtsOwn w c ps) : Calls Tryz.prog 50 #[.slice (some ⟨c, 0, none⟩) n cap, .int .i64 k0] w fun e w' => e = .returned (.int .i64 (k0 + 2 * (n : Int))) ∧ PtsOwn w' c (tkk k0 n) ∧ w.grownBy w' (some c) := by
  obtain ⟨hb, _, ht⟩ := ho
  rw [hp] at ht
  go_enter Tryz.func50, Tryz.ntmps50
  go_wp2_with fail
  go_loopw [1, 5] (fun tk' ti wr => ∃ k : Nat, ti = .int .i64 k ∧ tk' = .int .i64 (k0 + 2 * (k : Int)) ∧ k ≤ n ∧ Hid (c < wr.heap.size ∧ PtsAt wr c 0 (tkk k0 k) ∧ wr.there c 0 (n * 2) ∧ w.grownBy wr (some c))) (fun _ ti _ => n - (intOf ti).toNat)
  case atStart => exact ⟨0, rfl, by simp, Nat.zero_le _, hid ⟨hb, fun j hj => by rw [tkk_len] at hj; omega, ht, grown_same _ _⟩⟩
  case round =>
    obtain ⟨k, rfl, rfl, hk, HH⟩ := hrel
    by_cases hlt : k < n
    · have c1 : (k : Int) < (n : Int) := by omega
      obtain ⟨u0, hu0, g0'⟩ := there_at HH.out.2.2.1 (show k * 2 < n * 2 by omega)
      obtain ⟨u1, hu1, g1'⟩ := there_at HH.out.2.2.1 (show k * 2 + 1 < n * 2 by omega)
      have hu1' : (wr.setCell ⟨c, k * 2, none⟩ (.int .i64 (k0 + 2 * (k : Int)))).cell? ⟨c, k * 2 + 1, none⟩ = some u1 := by
        rw [World.cell?_setCell_other _ _ _ _ (by simp)]; exact hu1
      have g1'' : (wr.setCell ⟨c, k * 2, none⟩ (.int .i64 (k0 + 2 * (k : Int)))).frozen? ⟨c, k * 2 + 1, none⟩ = false := by rw [World.frozen?_setCell]; exact g1'
      go_wp2_with fail
      go_roundw
      case rel =>
        have hq : PtsAt wr c 0 ((tkk k0 n).take k) := by unfold tkk; rw [take_of _ _ _ (by omega)]; exact HH.out.2.1
        obtain ⟨r1, r2⟩ := put_point (ps := tkk k0 n) (n := n * 2) HH.out.1 (by rw [tkk_len]; exact hlt) (by rw [tkk_len]) hq HH.out.2.2.1 (k0 + 2 * (k : Int)) (k0 + 2 * (k : Int) + 1) (by unfold tkk; rw [tk_getD _ _ _ hlt]) (by unfold tkk; rw [tk_getD _ _ _ hlt])
        have hq2 : (tkk k0 n).take (k + 1) = tkk k0 (k + 1) := by unfold tkk; rw [take_of _ _ _ (by omega)]
        rw [hq2] at r1
        exact ⟨k + 1, by go_num, by go_num, by omega, hid ⟨by simpa using HH.out.1, r1, r2, grown_setb (grown_setb HH.out.2.2.2 _) _⟩⟩
      case measure => simp [intOf]; omega
    · obtain rfl : k = n := by omega
      go_wp2_with fail
      go_ret
      exact ⟨rfl, ⟨HH.out.1, HH.out.2.1, by rw [tkk_len]; exact HH.out.2.2.1⟩, HH.out.2.2.2⟩
set_option maxRecDepth 100000 in
set_option maxHeartbeats 1000000 in
theorem held_ptsK (w : World) (a : Option Addr) (cap n : Nat) (k0 : Int) (h0 : 0 ≤ k0) (h1 : k0 ≤ 4611686018427387904) (hm : n ≤ 1048576) (h : Pts w a (tkk k0 n)) : Calls Tryz.prog 51 #[.slice a n cap, .int .i64 k0] w fun e w' => e = .returned (.int .i64 (k0 + 2 * (n : Int))) ∧ w' = w := by
  have HP := hid h
  clear h
  go_enter Tryz.func51, Tryz.ntmps51
  go_wp2_with fail
  go_loopw [1, 5] (fun tk' ti wr => ∃ k : Nat, ti = .int .i64 k ∧ tk' = .int .i64 (k0 + 2 * (k : Int)) ∧ k ≤ n ∧ wr = w) (fun _ ti _ => n - (intOf ti).toNat)
  case atStart => exact ⟨0, rfl, by simp, Nat.zero_le _, rfl⟩
  case round =>
    obtain ⟨k, rfl, rfl, hk, hw⟩ := hrel
    subst hw
    by_cases hlt : k < n
    · have c1 : (k : Int) < (n : Int) := by omega
      obtain ⟨b, off, rfl, hbs, hp⟩ : ∃ b off, a = some ⟨b, off, none⟩ ∧ b < wr.heap.size ∧ PtsAt wr b off (tkk k0 n) := by
        rcases HP.out with h | h
        · have := congrArg List.length h; rw [tkk_len] at this; simp at this; omega
        · exact h
      obtain ⟨d0, d1⟩ := hp k (by rw [tkk_len]; exact hlt)
      unfold tkk at d0 d1
      rw [tk_getD _ _ _ hlt] at d0 d1
      simp only at d0 d1
      clear hp
      go_wp2_with fail
      go_roundw
      case rel => exact ⟨k + 1, by go_num, by go_num, by omega, by first | rfl | trivial⟩
      case measure => simp [intOf]; omega
    · obtain rfl : k = n := by omega
      go_wp2_with fail
      go_ret
      exact ⟨rfl, rfl⟩
end Go.Proofs.YtjhnfbefgjoiiaaGreat
