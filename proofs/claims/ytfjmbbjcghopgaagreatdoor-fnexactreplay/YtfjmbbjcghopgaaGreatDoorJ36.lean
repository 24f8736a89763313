/- Texts of stores, joined: Vb, Gl, Gn. -/
import Derived.Test.YtfjmbbjcghopgaaGreatDoorJ17
import Derived.Test.YtfjmbbjcghopgaaGreatDoorJ35
import Derived.Test.YtfjmbbjcghopgaaGreatDoorJ19
import Derived.Test.YtfjmbbjcghopgaaGreatDoorJ18
import Derived.Test.YtfjmbbjcghopgaaGreatDoorJ5
import Derived.Deep.MidRow
import Derived.Test.YtfjmbbjcghopgaaGreatDoorJ34
import Derived.Deep.AppendLies
namespace Go.Proofs.YtfjmbbjcghopgaaGreatDoor
open Go.RowKit
set_option linter.unusedSimpArgs false
set_option linter.unusedVariables false
def elR (r : Rw) (c cap : Nat) : El := (r.1, r.2.1, r.2.2.1, r.2.2.2.1, some ⟨c, 0, none⟩, r.2.2.2.2.length, cap)
/-- Rows that the call has made: the list's block and the points' blocks lie from base on, below hi, each another one. -/
def RowsX (base hi : Nat) (w : World) (v : Value) (rs : List Rw) (xs : List El) : Prop :=
  xs.length = rs.length ∧ w.ownsRow base 54 5 v rs.length (flat5 xs) ∧ (∀ g, v.ownBlock = some g → g < hi) ∧ hi ≤ w.heap.size ∧
  ∃ c cp : Nat → Nat, (∀ j (h : j < rs.length), xs[j]? = some (elR rs[j] (c j) (cp j)) ∧ rs[j].2.2.2.2.length ≤ cp j ∧ rs[j].2.2.2.2.length ≤ 1099511627776 ∧ base ≤ c j ∧ c j < hi ∧ v.ownBlock ≠ some (c j) ∧ PtsOwn w (c j) rs[j].2.2.2.2) ∧ (∀ i j, i < j → j < rs.length → c i ≠ c j)
theorem own_frame {w w' : World} {B : Nat} {e : TypeId} {sz : Nat} {v : Value} {n : Nat} {xs : List Value} (h : w.ownsRow B e sz v n xs) (hb : ∀ g, v.ownBlock = some g → w'.heap[g]? = w.heap[g]?) : w'.ownsRow B e sz v n xs := by
  refine ⟨h.1, ?_⟩
  rcases h.2 with q | ⟨g, c, cur, e1, q1, q2, q3⟩
  · exact .inl q
  · refine .inr ⟨g, c, cur, e1, q1, ?_, q3⟩
    rw [hb g (by rw [e1]; rfl)]; exact q2
theorem RowsX.frame {base hi : Nat} {w w' : World} {v : Value} {rs : List Rw} {xs : List El} (h : RowsX base hi w v rs xs) (hb : ∀ c, base ≤ c → c < hi → w'.heap[c]? = w.heap[c]?) (hs : w.heap.size ≤ w'.heap.size) : RowsX base hi w' v rs xs := by
  obtain ⟨h1, h2, h3, h4, c, cp, h5, h6⟩ := h
  refine ⟨h1, own_frame h2 (fun g e => hb g (h2.lt g e).1 (h3 g e)), h3, by omega, c, cp, fun j hj => ?_, h6⟩
  obtain ⟨a1, a2, a3, a4, a5, a6, a7⟩ := h5 j hj
  exact ⟨a1, a2, a3, a4, a5, a6, own_blk a7 (hb _ a4 a5) (by omega)⟩
theorem RowsX.below {base hi : Nat} {w w' : World} {v : Value} {rs : List Rw} {xs : List El} (h : RowsX base hi w v rs xs) (H : Below w.heap.size w w') : RowsX base hi w' v rs xs :=
  h.frame (fun c _ h2 => H.block c (by have := h.2.2.2.1; omega)) H.size
theorem RowsX.mono {base base' hi hi' : Nat} {w : World} {v : Value} {rs : List Rw} {xs : List El} (h : RowsX base hi w v rs xs) (hb : base' ≤ base) (hh : hi ≤ hi') (hs : hi' ≤ w.heap.size) : RowsX base' hi' w v rs xs := by
  obtain ⟨h1, h2, h3, h4, c, cp, h5, h6⟩ := h
  refine ⟨h1, ⟨h2.1, ?_⟩, fun g e => by have := h3 g e; omega, hs, c, cp, fun j hj => ?_, h6⟩
  · rcases h2.2 with q | ⟨g, cc, cur, e1, q1, q2, q3⟩
    · exact .inl q
    · exact .inr ⟨g, cc, cur, e1, by omega, q2, q3⟩
  · obtain ⟨a1, a2, a3, a4, a5, a6, a7⟩ := h5 j hj
    exact ⟨a1, a2, a3, by omega, by omega, a6, a7⟩
theorem RowsX.nil {base hi : Nat} {w : World} {v : Value} (h : w.ownsRow base 54 5 v 0 []) (h3 : ∀ g, v.ownBlock = some g → g < hi) (h4 : hi ≤ w.heap.size) : RowsX base hi w v [] [] :=
  ⟨rfl, by simpa [flat5] using h, h3, h4, fun _ => 0, fun _ => 0, fun j hj => absurd hj (by simp), fun i j _ hj => absurd hj (by simp)⟩
theorem RowsX.snoc {base hi : Nat} {W w' : World} {v : Value} {rs : List Rw} {xs : List El} {r : Rw} {c cp g cap : Nat} (h : RowsX base hi W v rs xs) (hcb : base ≤ c) (hc1 : hi ≤ c) (hc2 : c < W.heap.size) (hcp : r.2.2.2.2.length ≤ cp) (hl : r.2.2.2.2.length ≤ 1099511627776) (hp : PtsOwn W c r.2.2.2.2)
    (hown : w'.ownsRow base 54 5 (.slice (some ⟨g, 0, none⟩) (rs.length + 1) cap) (rs.length + 1) (flat5 xs ++ ev (elR r c cp))) (hg : W.grownBy w' v.ownBlock) (hat : v.ownBlock = some g ∨ g = W.heap.size) (hlt : g < w'.heap.size) :
    RowsX base w'.heap.size w' (.slice (some ⟨g, 0, none⟩) (rs.length + 1) cap) (rs ++ [r]) (xs ++ [elR r c cp]) := by
  obtain ⟨h1, h2, h3, h4, cf, cpf, h5, h6⟩ := h
  have hgc : ∀ d, d < W.heap.size → v.ownBlock ≠ some d → g ≠ d := by
    intro d hd hne e
    subst e
    rcases hat with q | q
    · exact hne q
    · omega
  have hvc : v.ownBlock ≠ some c := fun e => by have := h3 c e; omega
  have hlr : (rs ++ [r]).length = rs.length + 1 := by simp
  refine ⟨by simp [h1], by rw [flat5_snoc, hlr]; exact hown, fun g' e => by simp [Value.ownBlock] at e; omega, Nat.le_refl _, fun j => if j = rs.length then c else cf j, fun j => if j = rs.length then cp else cpf j, fun j hj => ?_, fun i j hij hj => ?_⟩
  · by_cases e : j = rs.length
    · subst e
      simp only [if_true]
      have er : (rs ++ [r])[rs.length]'(by simp) = r := by simp
      rw [er]
      refine ⟨by rw [← h1]; simp, hcp, hl, hcb, by have := hg.size; omega, by simp only [Value.ownBlock, ne_eq, Option.some.injEq]; exact hgc c hc2 hvc, own_blk hp (hg.block c hc2 (fun e => hvc e.symm)) (by have := hg.size; omega)⟩
    · have hjl : j < rs.length := by simp at hj; omega
      simp only [if_neg e]
      have er : (rs ++ [r])[j]'(by simpa using hj) = rs[j] := by rw [List.getElem_append_left hjl]
      rw [er]
      obtain ⟨a1, a2, a3, a4, a5, a6, a7⟩ := h5 j hjl
      refine ⟨by rw [List.getElem?_append_left (by omega)]; exact a1, a2, a3, a4, by have := hg.size; omega, by simp only [Value.ownBlock, ne_eq, Option.some.injEq]; exact hgc _ (by omega) a6, own_blk a7 (hg.block _ (by omega) (fun e => a6 e.symm)) (by have := hg.size; omega)⟩
  · have hil : i < rs.length := by simp at hj; omega
    simp only [if_neg (show i ≠ rs.length by omega)]
    by_cases e : j = rs.length
    · simp only [if_pos e]
      obtain ⟨_, _, _, _, a5, _⟩ := h5 i hil
      omega
    · simp only [if_neg e]
      exact h6 i j hij (by simp at hj; omega)
/-- A row at a place, with its points' block. -/
def RowC (w : World) (g o : Nat) (r : Rw) (c cp : Nat) : Prop := w.cell? ⟨g, o, none⟩ = some (.int .i64 r.1) ∧ w.cell? ⟨g, o + 1, none⟩ = some (.int .i64 r.2.1) ∧ w.cell? ⟨g, o + 2, none⟩ = some (.int .i64 r.2.2.1) ∧ w.cell? ⟨g, o + 3, none⟩ = some (.int .i64 r.2.2.2.1) ∧ w.cell? ⟨g, o + 4, none⟩ = some (.slice (some ⟨c, 0, none⟩) r.2.2.2.2.length cp) ∧ PtsOwn w c r.2.2.2.2
theorem RowC.at {w : World} {g o : Nat} {r : Rw} {c cp : Nat} (h : RowC w g o r c cp) (h1 : r.2.2.2.2.length ≤ cp) (h2 : r.2.2.2.2.length ≤ 1099511627776) : RwAt (fun _ => True) w g o r := by
  obtain ⟨a0, a1, a2, a3, a4, a5⟩ := h
  exact ⟨_, _, a0, a1, a2, a3, a4, h1, h2, a5.pts, fun _ _ _ => trivial⟩
theorem RowsX.rows {base hi : Nat} {w : World} {v : Value} {rs : List Rw} {xs : List El} (h : RowsX base hi w v rs xs) : (rs = [] ∧ v.ownBlock = none ∧ v = .slice none 0 0) ∨ ∃ g cap, v = .slice (some ⟨g, 0, none⟩) rs.length cap ∧ base ≤ g ∧ g < hi ∧ hi ≤ w.heap.size ∧ rs.length ≤ cap ∧ w.there g 0 (rs.length * 5) ∧ ∃ c cp : Nat → Nat, (∀ j (h : j < rs.length), RowC w g (j * 5) rs[j] (c j) (cp j) ∧ rs[j].2.2.2.2.length ≤ cp j ∧ rs[j].2.2.2.2.length ≤ 1099511627776 ∧ base ≤ c j ∧ c j < hi ∧ c j ≠ g) ∧ (∀ i j, i < j → j < rs.length → c i ≠ c j) := by
  obtain ⟨h1, h2, h3, h4, c, cp, h5, h6⟩ := h
  have h2' := h2
  rcases h2.2 with ⟨q, hn⟩ | ⟨g, cap, cur, rfl, hb, hg, hc, _⟩
  · left
    subst q
    exact ⟨List.length_eq_zero_iff.1 hn, rfl, rfl⟩
  · right
    refine ⟨g, cap, rfl, hb, h3 g rfl, h4, hc, fun j hj => ?_, c, cp, fun j hj => ?_, h6⟩
    · simp only [Nat.zero_add]
      refine ⟨?_, World.ownsRow.frozenAt h2' j⟩
      rw [World.ownsRow.cellAt h2' j hj, List.getElem?_eq_getElem (by rw [flat5_len, h1]; exact hj)]
      rfl
    · obtain ⟨a1, a2, a3, a4, a5, a6, a7⟩ := h5 j hj
      have hjx : j < xs.length := by omega
      have ex : xs[j] = elR rs[j] (c j) (cp j) := by
        rw [List.getElem?_eq_getElem hjx] at a1
        exact Option.some.inj a1
      obtain ⟨f0, f1, f2, f3, f4⟩ := flat5_at xs j hjx
      rw [ex] at f0 f1 f2 f3 f4
      refine ⟨⟨?_, ?_, ?_, ?_, ?_, a7⟩, a2, a3, a4, a5, fun e => a6 (by rw [e]; rfl)⟩
      · rw [World.ownsRow.cellAt h2' _ (by omega)]; exact f0
      · rw [World.ownsRow.cellAt h2' _ (by omega)]; exact f1
      · rw [World.ownsRow.cellAt h2' _ (by omega)]; exact f2
      · rw [World.ownsRow.cellAt h2' _ (by omega)]; exact f3
      · rw [World.ownsRow.cellAt h2' _ (by omega)]; exact f4
theorem RowsX.rws {base hi : Nat} {w : World} {a : Option Addr} {n cap : Nat} {rs : List Rw} {xs : List El} (h : RowsX base hi w (.slice a n cap) rs xs) : Rws (fun _ => True) w a rs := by
  rcases h.rows with ⟨rfl, _⟩ | ⟨g, cp, e, h1, h2, h3, h4, h5, c, cpf, h6, h7⟩
  · exact .inl rfl
  · cases e
    exact .inr ⟨g, 0, rfl, by omega, fun j hj => by
      obtain ⟨a1, a2, a3, _⟩ := h6 j hj
      rw [Nat.zero_add]; exact a1.at a2 a3⟩
theorem RowC.grown {w w' : World} {g o : Nat} {r : Rw} {c cp d : Nat} (h : RowC w g o r c cp) (hg : w.grownBy w' (some d)) (h1 : d ≠ g) (h2 : d ≠ c) : RowC w' g o r c cp := by
  obtain ⟨a0, a1, a2, a3, a4, a5⟩ := h
  have hne : some g ≠ some d := fun e => h1 (by cases e; rfl)
  exact ⟨hg.cell a0 hne, hg.cell a1 hne, hg.cell a2 hne, hg.cell a3 hne, hg.cell a4 hne, own_blk a5 (hg.block c a5.1 (fun e => h2 (by cases e; rfl))) (Nat.lt_of_lt_of_le a5.1 hg.size)⟩
theorem RowC.setg {w : World} {g o k : Nat} {r : Rw} {c cp : Nat} (h : RowC w g o r c cp) (h1 : g ≠ c) (hk : k < o ∨ o + 5 ≤ k) (u : Value) : RowC (w.setCell ⟨g, k, none⟩ u) g o r c cp := by
  obtain ⟨a0, a1, a2, a3, a4, a5⟩ := h
  refine ⟨?_, ?_, ?_, ?_, ?_, own_blk a5 (Below.heap_setCell _ _ _ _ (by dsimp only; omega)) (by simpa using a5.1)⟩
  all_goals rw [World.cell?_setCell_other _ _ _ _ (by intro e; injection e; omega)]; assumption
def tkk (k : Int) (n : Nat) : List (Int × Int) := tk (fun i => (k + 2 * (i : Int), k + 2 * (i : Int) + 1)) n
theorem tkk_len (k : Int) (n : Nat) : (tkk k n).length = n := tk_len _ _
def kk (rs : List Rw) (j : Nat) : Int := 1 + ((rs.take j).map (fun r => 4 + 2 * (r.2.2.2.2.length : Int))).sum
theorem kk_next {rs : List Rw} {j : Nat} (h : j < rs.length) : kk rs (j + 1) = kk rs j + 4 + 2 * (rs[j].2.2.2.2.length : Int) := by
  unfold kk
  rw [List.take_add_one, List.getElem?_eq_getElem h, List.map_append, List.sum_append]
  simp only [Option.toList, List.map_cons, List.map_nil, List.sum_cons, List.sum_nil]
  omega
theorem kk_bound {rs : List Rw} (hl : ∀ m (h : m < rs.length), rs[m].2.2.2.2.length ≤ 1048576) : ∀ j, j ≤ rs.length → 1 ≤ kk rs j ∧ kk rs j ≤ 1 + (j : Int) * 2097156 := by
  intro j
  induction j with
  | zero => intro _; simp [kk]
  | succ j ih =>
    intro hj
    obtain ⟨h1, h2⟩ := ih (by omega)
    have h3 := hl j (by omega)
    rw [kk_next (by omega)]
    constructor <;> omega
def mrk (rs : List Rw) : List Rw := rs.mapIdx (fun j r => (kk rs j, kk rs j + 1, kk rs j + 2, kk rs j + 3, tkk (kk rs j + 4) r.2.2.2.2.length))
theorem mrk_len (rs : List Rw) : (mrk rs).length = rs.length := by simp [mrk]
theorem mrk_at {rs : List Rw} {j : Nat} (h : j < rs.length) : (mrk rs)[j]'(by rw [mrk_len]; exact h) = (kk rs j, kk rs j + 1, kk rs j + 2, kk rs j + 3, tkk (kk rs j + 4) rs[j].2.2.2.2.length) := by simp [mrk]
set_option maxRecDepth 100000 in
set_option maxHeartbeats 1000000 in
theorem mark_ptsK (w : World) (c n cap : Nat) (ps : List (Int × Int)) (k0 : Int) (h0 : 0 ≤ k0) (h1 : k0 ≤ 4611686018427387904) (hn : n ≤ 1048576) (hp : ps.length = n) (ho : PtsOwn w c ps) : Calls Tryz.prog 30 #[.slice (some ⟨c, 0, none⟩) n cap, .int .i64 k0] w fun e w' => e = .returned (.int .i64 (k0 + 2 * (n : Int))) ∧ PtsOwn w' c (tkk k0 n) ∧ w.grownBy w' (some c) := by
  obtain ⟨hb, _, ht⟩ := ho
  rw [hp] at ht
  go_enter Tryz.func30, Tryz.ntmps30
  go_wp2_with fail
  go_loopw [1, 5] (fun tk' ti wr => ∃ k : Nat, ti = .int .i64 k ∧ tk' = .int .i64 (k0 + 2 * (k : Int)) ∧ k ≤ n ∧ Hid (c < wr.heap.size ∧ PtsAt wr c 0 (tkk k0 k) ∧ wr.there c 0 (n * 2) ∧ w.grownBy wr (some c))) (fun _ ti _ => n - (intOf ti).toNat)
  case atStart => exact ⟨0, rfl, by simp, Nat.zero_le _, hid ⟨hb, fun j hj => by rw [tkk_len] at hj; omega, ht, grown_same _ _⟩⟩
  case round =>
    obtain ⟨k, rfl, rfl, hk, HH⟩ := hrel
    by_cases hlt : k < n
    · have c1 : (k : Int) < (n : Int) := by omega
      obtain ⟨u0, hu0, g0'⟩ := there_at HH.out.2.2.1 (show k * 2 < n * 2 by omega)
      obtain ⟨u1, hu1, g1'⟩ := there_at HH.out.2.2.1 (show k * 2 + 1 < n * 2 by omega)
      have hu1' : (wr.setCell ⟨c, k * 2, none⟩ (.int .i64 (k0 + 2 * (k : Int)))).cell? ⟨c, k * 2 + 1, none⟩ = some u1 := by
        rw [World.cell?_setCell_other _ _ _ _ (by simp)]; exact hu1
      have g1'' : (wr.setCell ⟨c, k * 2, none⟩ (.int .i64 (k0 + 2 * (k : Int)))).frozen? ⟨c, k * 2 + 1, none⟩ = false := by rw [World.frozen?_setCell]; exact g1'
      go_wp2_with fail
      go_roundw
      case rel =>
        have hq : PtsAt wr c 0 ((tkk k0 n).take k) := by unfold tkk; rw [take_of _ _ _ (by omega)]; exact HH.out.2.1
        obtain ⟨r1, r2⟩ := put_point (ps := tkk k0 n) (n := n * 2) HH.out.1 (by rw [tkk_len]; exact hlt) (by rw [tkk_len]) hq HH.out.2.2.1 (k0 + 2 * (k : Int)) (k0 + 2 * (k : Int) + 1) (by unfold tkk; rw [tk_getD _ _ _ hlt]) (by unfold tkk; rw [tk_getD _ _ _ hlt])
        have hq2 : (tkk k0 n).take (k + 1) = tkk k0 (k + 1) := by unfold tkk; rw [take_of _ _ _ (by omega)]
        rw [hq2] at r1
        exact ⟨k + 1, by go_num, by go_num, by omega, hid ⟨by simpa using HH.out.1, r1, r2, grown_setb (grown_setb HH.out.2.2.2 _) _⟩⟩
      case measure => simp [intOf]; omega
    · obtain rfl : k = n := by omega
      go_wp2_with fail
      go_ret
      exact ⟨rfl, ⟨HH.out.1, HH.out.2.1, by rw [tkk_len]; exact HH.out.2.2.1⟩, HH.out.2.2.2⟩
set_option maxRecDepth 100000 in
set_option maxHeartbeats 1000000 in
theorem held_ptsK (w : World) (a : Option Addr) (cap n : Nat) (k0 : Int) (h0 : 0 ≤ k0) (h1 : k0 ≤ 4611686018427387904) (hm : n ≤ 1048576) (h : Pts w a (tkk k0 n)) : Calls Tryz.prog 31 #[.slice a n cap, .int .i64 k0] w fun e w' => e = .returned (.int .i64 (k0 + 2 * (n : Int))) ∧ w' = w := by
  have HP := hid h
  clear h
  go_enter Tryz.func31, Tryz.ntmps31
  go_wp2_with fail
  go_loopw [1, 5] (fun tk' ti wr => ∃ k : Nat, ti = .int .i64 k ∧ tk' = .int .i64 (k0 + 2 * (k : Int)) ∧ k ≤ n ∧ wr = w) (fun _ ti _ => n - (intOf ti).toNat)
  case atStart => exact ⟨0, rfl, by simp, Nat.zero_le _, rfl⟩
  case round =>
    obtain ⟨k, rfl, rfl, hk, hw⟩ := hrel
    subst hw
    by_cases hlt : k < n
    · have c1 : (k : Int) < (n : Int) := by omega
      obtain ⟨b, off, rfl, hbs, hp⟩ : ∃ b off, a = some ⟨b, off, none⟩ ∧ b < wr.heap.size ∧ PtsAt wr b off (tkk k0 n) := by
        rcases HP.out with h | h
        · have := congrArg List.length h; rw [tkk_len] at this; simp at this; omega
        · exact h
      obtain ⟨d0, d1⟩ := hp k (by rw [tkk_len]; exact hlt)
      unfold tkk at d0 d1
      rw [tk_getD _ _ _ hlt] at d0 d1
      simp only at d0 d1
      clear hp
      go_wp2_with fail
      go_roundw
      case rel => exact ⟨k + 1, by go_num, by go_num, by omega, by first | rfl | trivial⟩
      case measure => simp [intOf]; omega
    · obtain rfl : k = n := by omega
      go_wp2_with fail
      go_ret
      exact ⟨rfl, rfl⟩
end Go.Proofs.YtfjmbbjcghopgaaGreatDoor
namespace Go.Proofs.YtfjmbbjcghopgaaGreatDoor
open Go.RowKit
set_option linter.unusedSimpArgs false
set_option linter.unusedVariables false
/-- A kind of element: its cells, with the value in the last one, and what is said of that value and its blocks. -/
structure Kd (α : Type) where
  sz : Nat
  vals : α → Value → List Value
  sub : Nat → Nat → World → Value → α → Prop
  len : ∀ x v, (vals x v).length = sz
  one : ∀ {lo up : Nat} {w : World} {v : Value} {x : α}, sub lo up w v x → ∀ u ∈ vals x v, u.oneCell' = true
  frame : ∀ {lo up : Nat} {w w' : World} {v : Value} {x : α}, sub lo up w v x → (∀ c, lo ≤ c → c < up → w'.heap[c]? = w.heap[c]?) → w.heap.size ≤ w'.heap.size → sub lo up w' v x
  top : ∀ {lo up : Nat} {w : World} {v : Value} {x : α}, sub lo up w v x → up ≤ w.heap.size
def flatK {α : Type} (K : Kd α) (ps : List (α × Value)) : List Value := ps.flatMap (fun p => K.vals p.1 p.2)
theorem flatK_snoc {α : Type} (K : Kd α) (ps : List (α × Value)) (p : α × Value) : flatK K (ps ++ [p]) = flatK K ps ++ K.vals p.1 p.2 := by simp [flatK]
theorem flatK_len {α : Type} (K : Kd α) (ps : List (α × Value)) : (flatK K ps).length = ps.length * K.sz := by
  induction ps with
  | nil => simp [flatK]
  | cons x r ih =>
    show (K.vals x.1 x.2 ++ flatK K r).length = _
    rw [List.length_append, ih, K.len, List.length_cons, Nat.succ_mul]
    omega
theorem flatX_at {α : Type} (K : Kd α) : ∀ (ps : List (α × Value)) (j t : Nat) (h : j < ps.length), t < K.sz → (flatK K ps)[j * K.sz + t]? = (K.vals ps[j].1 ps[j].2)[t]?
  | [], j, t, h, _ => by simp at h
  | x :: r, 0, t, h, ht => by
    show (K.vals x.1 x.2 ++ flatK K r)[0 * K.sz + t]? = _
    rw [Nat.zero_mul, Nat.zero_add, List.getElem?_append_left (by rw [K.len]; exact ht)]
    rfl
  | x :: r, j + 1, t, h, ht => by
    have ih := flatX_at K r j t (by simpa using h) ht
    show (K.vals x.1 x.2 ++ flatK K r)[(j + 1) * K.sz + t]? = _
    rw [List.getElem?_append_right (by rw [K.len, Nat.succ_mul]; omega), K.len, show (j + 1) * K.sz + t - K.sz = j * K.sz + t by rw [Nat.succ_mul]; omega, ih]
    rfl
/-- A list as the call makes it. -/
def LX {α : Type} (K : Kd α) (t : TypeId) (base hi : Nat) (w : World) (v : Value) (xs : List α) (ps : List (α × Value)) : Prop :=
  ps.map Prod.fst = xs ∧ w.ownsRow base t K.sz v xs.length (flatK K ps) ∧ (∀ g, v.ownBlock = some g → g < hi) ∧ hi ≤ w.heap.size ∧
  ∃ lo up : Nat → Nat, (∀ j (h : j < ps.length), K.sub (lo j) (up j) w ps[j].2 ps[j].1 ∧ base ≤ lo j ∧ up j ≤ hi ∧ (∀ g, v.ownBlock = some g → g < lo j ∨ up j ≤ g)) ∧ (∀ i j, i < j → j < ps.length → up i ≤ lo j)
theorem LX.plen {α : Type} {K : Kd α} {t : TypeId} {base hi : Nat} {w : World} {v : Value} {xs : List α} {ps : List (α × Value)} (h : LX K t base hi w v xs ps) : ps.length = xs.length := by
  have := congrArg List.length h.1
  simpa using this
theorem LX.frame {α : Type} {K : Kd α} {t : TypeId} {base hi : Nat} {w w' : World} {v : Value} {xs : List α} {ps : List (α × Value)} (h : LX K t base hi w v xs ps) (hb : ∀ c, base ≤ c → c < hi → w'.heap[c]? = w.heap[c]?) (hs : w.heap.size ≤ w'.heap.size) : LX K t base hi w' v xs ps := by
  obtain ⟨h1, h2, h3, h4, lo, up, h5, h6⟩ := h
  refine ⟨h1, own_frame h2 (fun g e => hb g (h2.lt g e).1 (h3 g e)), h3, by omega, lo, up, fun j hj => ?_, h6⟩
  obtain ⟨a1, a2, a3, a4⟩ := h5 j hj
  exact ⟨K.frame a1 (fun c c1 c2 => hb c (by omega) (by omega)) hs, a2, a3, a4⟩
theorem LX.below {α : Type} {K : Kd α} {t : TypeId} {base hi : Nat} {w w' : World} {v : Value} {xs : List α} {ps : List (α × Value)} (h : LX K t base hi w v xs ps) (H : Below w.heap.size w w') : LX K t base hi w' v xs ps :=
  h.frame (fun c _ h2 => H.block c (by have := h.2.2.2.1; omega)) H.size
theorem LX.mono {α : Type} {K : Kd α} {t : TypeId} {base base' hi hi' : Nat} {w : World} {v : Value} {xs : List α} {ps : List (α × Value)} (h : LX K t base hi w v xs ps) (hb : base' ≤ base) (hh : hi ≤ hi') (hs : hi' ≤ w.heap.size) : LX K t base' hi' w v xs ps := by
  obtain ⟨h1, h2, h3, h4, lo, up, h5, h6⟩ := h
  refine ⟨h1, ⟨h2.1, ?_⟩, fun g e => by have := h3 g e; omega, hs, lo, up, fun j hj => ?_, h6⟩
  · rcases h2.2 with q | ⟨g, cc, cur, e1, q1, q2, q3⟩
    · exact .inl q
    · exact .inr ⟨g, cc, cur, e1, by omega, q2, q3⟩
  · obtain ⟨a1, a2, a3, a4⟩ := h5 j hj
    exact ⟨a1, by omega, by omega, a4⟩
theorem LX.nil {α : Type} {K : Kd α} {t : TypeId} {base hi : Nat} {w : World} {v : Value} (h : w.ownsRow base t K.sz v 0 []) (h3 : ∀ g, v.ownBlock = some g → g < hi) (h4 : hi ≤ w.heap.size) : LX K t base hi w v [] [] :=
  ⟨rfl, by simpa [flatK] using h, h3, h4, fun _ => 0, fun _ => 0, fun j hj => absurd hj (by simp), fun i j _ hj => absurd hj (by simp)⟩
theorem LX.snoc {α : Type} {K : Kd α} {t : TypeId} {base hi : Nat} {W w' : World} {v : Value} {xs : List α} {ps : List (α × Value)} {x : α} {sv : Value} {l u g cap : Nat} (h : LX K t base hi W v xs ps) (hl : hi ≤ l) (hbl : base ≤ l) (hsub : K.sub l u W sv x)
    (hown : w'.ownsRow base t K.sz (.slice (some ⟨g, 0, none⟩) (xs.length + 1) cap) (xs.length + 1) (flatK K ps ++ K.vals x sv)) (hg : W.grownBy w' v.ownBlock) (hat : v.ownBlock = some g ∨ g = W.heap.size) (hlt : g < w'.heap.size) :
    LX K t base w'.heap.size w' (.slice (some ⟨g, 0, none⟩) (xs.length + 1) cap) (xs ++ [x]) (ps ++ [(x, sv)]) := by
  have hpl := h.plen
  obtain ⟨h1, h2, h3, h4, lo, up, h5, h6⟩ := h
  have hu := K.top hsub
  have hsz := hg.size
  have hfr : ∀ c, c < W.heap.size → v.ownBlock ≠ some c → w'.heap[c]? = W.heap[c]? := fun c hc hne => hg.block c hc (fun e => hne e.symm)
  refine ⟨by simp [h1], by rw [flatK_snoc, List.length_append]; exact hown, fun g' e => by simp [Value.ownBlock] at e; omega, Nat.le_refl _, fun j => if j = ps.length then l else lo j, fun j => if j = ps.length then u else up j, fun j hj => ?_, fun i j hij hj => ?_⟩
  · by_cases e : j = ps.length
    · subst e
      simp only [if_true]
      have er : (ps ++ [(x, sv)])[ps.length]'(by simp) = (x, sv) := by simp
      rw [er]
      refine ⟨K.frame hsub (fun c c1 c2 => hfr c (by omega) (fun e => by have := h3 c e; omega)) hsz, hbl, by omega, fun g' e => ?_⟩
      simp [Value.ownBlock] at e
      rcases hat with q | q
      · have := h3 g q; omega
      · omega
    · have hjl : j < ps.length := by simp at hj; omega
      simp only [if_neg e]
      have er : (ps ++ [(x, sv)])[j]'(by simpa using hj) = ps[j] := by rw [List.getElem_append_left hjl]
      rw [er]
      obtain ⟨a1, a2, a3, a4⟩ := h5 j hjl
      refine ⟨K.frame a1 (fun c c1 c2 => hfr c (by omega) (fun e => by have := a4 c e; omega)) hsz, a2, by omega, fun g' e => ?_⟩
      simp [Value.ownBlock] at e
      rcases hat with q | q
      · have := a4 g q; omega
      · omega
  · have hil : i < ps.length := by simp at hj; omega
    simp only [if_neg (show i ≠ ps.length by omega)]
    by_cases e : j = ps.length
    · simp only [if_pos e]
      obtain ⟨_, _, a3, _⟩ := h5 i hil
      omega
    · simp only [if_neg e]
      exact h6 i j hij (by simp at hj; omega)
/-- An element at its place. -/
def ElX {α : Type} (K : Kd α) (w : World) (g i : Nat) (x : α) (s : Value) (lo up : Nat) : Prop :=
  (∀ t, t < K.sz → w.cell? ⟨g, i * K.sz + t, none⟩ = (K.vals x s)[t]?) ∧ K.sub lo up w s x
/-- A list in memory of its own, cell by cell. -/
def LC {α : Type} (K : Kd α) (base hi : Nat) (w : World) (v : Value) (xs : List α) : Prop :=
  hi ≤ w.heap.size ∧ ((xs = [] ∧ v = .slice none 0 0) ∨ ∃ (g cap : Nat) (ss : Nat → Value) (lo up : Nat → Nat), v = .slice (some ⟨g, 0, none⟩) xs.length cap ∧ xs.length ≤ cap ∧ base ≤ g ∧ g < hi ∧ w.there g 0 (xs.length * K.sz) ∧
  (∀ j (h : j < xs.length), ElX K w g j xs[j] (ss j) (lo j) (up j) ∧ base ≤ lo j ∧ up j ≤ hi ∧ (g < lo j ∨ up j ≤ g)) ∧ (∀ i j, i ≠ j → i < xs.length → j < xs.length → up i ≤ lo j ∨ up j ≤ lo i))
theorem LX.lc {α : Type} {K : Kd α} {t : TypeId} {base hi : Nat} {w : World} {v : Value} {xs : List α} {ps : List (α × Value)} (h : LX K t base hi w v xs ps) : LC K base hi w v xs := by
  have hpl := h.plen
  obtain ⟨h1, h2, h3, h4, lo, up, h5, h6⟩ := h
  refine ⟨h4, ?_⟩
  have h2' := h2
  rcases h2.2 with ⟨q, hn⟩ | ⟨g, cap, cur, rfl, hb, hg, hc, _⟩
  · left
    exact ⟨List.length_eq_zero_iff.1 hn, q⟩
  · right
    refine ⟨g, cap, fun j => if h : j < ps.length then (ps[j]'h).2 else .bool false, lo, up, rfl, hc, hb, h3 g rfl, fun j hj => ?_, fun j hj => ?_, fun i j hne hi' hj => (Nat.lt_or_gt_of_ne hne).elim (fun q => .inl (h6 i j q (by omega))) (fun q => .inr (h6 j i q (by omega)))⟩
    · simp only [Nat.zero_add]
      refine ⟨?_, World.ownsRow.frozenAt h2' j⟩
      rw [World.ownsRow.cellAt h2' j hj, List.getElem?_eq_getElem (by rw [flatK_len, hpl]; exact hj)]
      rfl
    · have hjp : j < ps.length := by omega
      obtain ⟨a1, a2, a3, a4⟩ := h5 j hjp
      have ex : xs[j] = (ps[j]).1 := by
        have : xs[j]? = (ps.map Prod.fst)[j]? := by rw [h1]
        rw [List.getElem?_map, List.getElem?_eq_getElem hj, List.getElem?_eq_getElem hjp] at this
        exact Option.some.inj this
      simp only [dif_pos hjp, ex]
      refine ⟨⟨fun t ht => ?_, a1⟩, a2, a3, a4 g rfl⟩
      have hlt : j * K.sz + t < xs.length * K.sz := by
        have : (j + 1) * K.sz ≤ xs.length * K.sz := Nat.mul_le_mul_right _ (by omega)
        rw [Nat.succ_mul] at this
        omega
      rw [World.ownsRow.cellAt h2' _ hlt, flatX_at K ps j t hjp ht]
theorem ElX.blk {α : Type} {K : Kd α} {w w' : World} {g i : Nat} {x : α} {s : Value} {lo up : Nat} (h : ElX K w g i x s lo up) (hg : w'.heap[g]? = w.heap[g]?) (hb : ∀ c, lo ≤ c → c < up → w'.heap[c]? = w.heap[c]?) (hs : w.heap.size ≤ w'.heap.size) : ElX K w' g i x s lo up :=
  ⟨fun t ht => by rw [World.cell?_of_block (w := w) hg]; exact h.1 t ht, K.frame h.2 hb hs⟩
theorem LC.frame {α : Type} {K : Kd α} {base hi : Nat} {w w' : World} {v : Value} {xs : List α} (h : LC K base hi w v xs) (hb : ∀ c, base ≤ c → c < hi → w'.heap[c]? = w.heap[c]?) (hs : w.heap.size ≤ w'.heap.size) : LC K base hi w' v xs := by
  obtain ⟨h0, h⟩ := h
  refine ⟨by omega, ?_⟩
  rcases h with h | ⟨g, cap, ss, lo, up, e, h1, h2, h3, h4, h5, h6⟩
  · exact .inl h
  · have hg := hb g h2 h3
    refine .inr ⟨g, cap, ss, lo, up, e, h1, h2, h3, fun i hi' => ?_, fun j hj => ?_, h6⟩
    · have := h4 i hi'
      simp only [World.cell?, World.frozen?, hg] at this ⊢
      exact this
    · obtain ⟨a1, a2, a3, a4⟩ := h5 j hj
      exact ⟨a1.blk hg (fun c c1 c2 => hb c (by omega) (by omega)) hs, a2, a3, a4⟩
theorem LC.below {α : Type} {K : Kd α} {base hi : Nat} {w w' : World} {v : Value} {xs : List α} (h : LC K base hi w v xs) (H : Below w.heap.size w w') : LC K base hi w' v xs :=
  h.frame (fun c _ h2 => H.block c (by have := h.1; omega)) H.size
theorem LC.form {α : Type} {K : Kd α} {base hi : Nat} {w : World} {v : Value} {xs : List α} (h : LC K base hi w v xs) : ∃ a cap, v = .slice a xs.length cap ∧ xs.length ≤ cap ∧ (∀ c off, a = some ⟨c, off, none⟩ → base ≤ c ∧ c < hi) := by
  rcases h.2 with ⟨rfl, e⟩ | ⟨g, cap, ss, lo, up, e, h1, h2, h3, h4, h5, h6⟩
  · exact ⟨none, 0, e, by simp, fun c off e => by cases e⟩
  · exact ⟨_, cap, e, h1, fun c off e => by cases e; exact ⟨h2, h3⟩⟩
/-- The points of a change, in a block of their own. -/
def subC (lo up : Nat) (w : World) (v : Value) (x : Ch) : Prop := up ≤ w.heap.size ∧ ∃ c cp, v = .slice (some ⟨c, 0, none⟩) x.2.2.2.length cp ∧ x.2.2.2.length ≤ cp ∧ x.2.2.2.length ≤ 1099511627776 ∧ lo ≤ c ∧ c < up ∧ PtsOwn w c x.2.2.2
def KC : Kd Ch where
  sz := 4
  vals := fun x v => [.int .i64 x.1, .bool x.2.1, .int .i64 x.2.2.1, v]
  sub := subC
  len := fun _ _ => rfl
  one := by
    rintro lo up w v x ⟨_, c, cp, rfl, _⟩ u hu
    simp at hu
    rcases hu with rfl | rfl | rfl | rfl <;> rfl
  frame := by
    rintro lo up w w' v x ⟨h0, c, cp, e, h1, h2, h3, h4, h5⟩ hb hs
    exact ⟨by omega, c, cp, e, h1, h2, h3, h4, own_blk h5 (hb c h3 h4) (by omega)⟩
  top := fun h => h.1
/-- A change's points, or none. -/
def subN (lo up : Nat) (w : World) (v : Value) (x : Ch) : Prop := subC lo up w v x ∨ (up ≤ w.heap.size ∧ v = .slice none 0 0 ∧ x.2.2.2 = [])
def KN : Kd Ch where
  sz := 4
  vals := fun x v => [.int .i64 x.1, .bool x.2.1, .int .i64 x.2.2.1, v]
  sub := subN
  len := fun _ _ => rfl
  one := by
    rintro lo up w v x h u hu
    have hv : ∃ a n c, v = .slice a n c := by
      rcases h with ⟨_, c, cp, e, _⟩ | ⟨_, e, _⟩ <;> exact ⟨_, _, _, e⟩
    obtain ⟨a, n, c, rfl⟩ := hv
    simp at hu
    rcases hu with rfl | rfl | rfl | rfl <;> rfl
  frame := by
    rintro lo up w w' v x h hb hs
    rcases h with h | ⟨h1, h2, h3⟩
    · exact .inl (KC.frame h hb hs)
    · exact .inr ⟨by omega, h2, h3⟩
  top := fun h => by
    rcases h with h | h
    · exact h.1
    · exact h.1
theorem LC.chsN {base hi : Nat} {w : World} {a : Option Addr} {n cap : Nat} {xs : List Ch} (h : LC KN base hi w (.slice a n cap) xs) : Chs (fun c => base ≤ c ∧ c < hi) 1099511627776 w a xs := by
  obtain ⟨h0, h⟩ := h
  rcases h with ⟨rfl, _⟩ | ⟨g, cp, ss, lo, up, e, h1, h2, h3, h4, h5, h6⟩
  · exact .inl rfl
  · cases e
    refine .inr ⟨g, 0, rfl, by omega, fun j hj => ?_⟩
    obtain ⟨⟨b1, hb⟩, a2, a3, a4⟩ := h5 j hj
    have k0 := b1 0 (by decide)
    have k1 := b1 1 (by decide)
    have k2 := b1 2 (by decide)
    have k3 := b1 3 (by decide)
    rw [Nat.zero_add]
    rcases hb with ⟨_, c, cq, e, b2, b3, b4, b5, b6⟩ | ⟨_, e, hn⟩
    · simp only [KN, e] at k0 k1 k2 k3
      exact ⟨_, _, k0, k1, k2, k3, b2, b3, b6.pts, fun c' off e' => by cases e'; omega⟩
    · simp only [KN, e] at k0 k1 k2 k3
      refine ⟨none, 0, k0, k1, k2, ?_, by rw [hn]; simp, by rw [hn]; simp, .inl hn, fun c' off e' => by cases e'⟩
      rw [hn]; exact k3
theorem ElX.set {α : Type} {K : Kd α} {w : World} {g i k : Nat} {x : α} {s : Value} {lo up : Nat} (h : ElX K w g i x s lo up) (hg : g < lo ∨ up ≤ g) (hk : k < i * K.sz ∨ i * K.sz + K.sz ≤ k) (u : Value) : ElX K (w.setCell ⟨g, k, none⟩ u) g i x s lo up := by
  refine ⟨fun t ht => ?_, K.frame h.2 (fun c c1 c2 => Below.heap_setCell _ _ _ _ (by dsimp only; omega)) (by simp)⟩
  rw [World.cell?_setCell_other _ _ _ _ (by intro e; injection e; omega)]
  exact h.1 t ht
/-- A list in memory of its own, cell by cell, none of it in the hole from p on below q. -/
def LCH {α : Type} (K : Kd α) (base hi p q : Nat) (w : World) (v : Value) (xs : List α) : Prop :=
  hi ≤ w.heap.size ∧ ((xs = [] ∧ v = .slice none 0 0) ∨ ∃ (g cap : Nat) (ss : Nat → Value) (lo up : Nat → Nat), v = .slice (some ⟨g, 0, none⟩) xs.length cap ∧ xs.length ≤ cap ∧ base ≤ g ∧ g < hi ∧ w.there g 0 (xs.length * K.sz) ∧
  (∀ j (h : j < xs.length), ElX K w g j xs[j] (ss j) (lo j) (up j) ∧ base ≤ lo j ∧ up j ≤ hi ∧ (g < lo j ∨ up j ≤ g)) ∧ (∀ i j, i ≠ j → i < xs.length → j < xs.length → up i ≤ lo j ∨ up j ≤ lo i) ∧ (g < p ∨ q ≤ g) ∧ (∀ j, j < xs.length → up j ≤ p ∨ q ≤ lo j))
theorem LCH.lc {α : Type} {K : Kd α} {base hi p q : Nat} {w : World} {v : Value} {xs : List α} (h : LCH K base hi p q w v xs) : LC K base hi w v xs := by
  obtain ⟨h0, h | ⟨g, cap, ss, lo, up, h1, h2, h3, h4, h5, h6, h7, _, _⟩⟩ := h
  · exact ⟨h0, .inl h⟩
  · exact ⟨h0, .inr ⟨g, cap, ss, lo, up, h1, h2, h3, h4, h5, h6, h7⟩⟩
theorem LC.hole {α : Type} {K : Kd α} {base hi p q : Nat} {w : World} {v : Value} {xs : List α} (h : LC K base hi w v xs) (hd : hi ≤ p ∨ q ≤ base) : LCH K base hi p q w v xs := by
  obtain ⟨h0, h | ⟨g, cap, ss, lo, up, h1, h2, h3, h4, h5, h6, h7⟩⟩ := h
  · exact ⟨h0, .inl h⟩
  · exact ⟨h0, .inr ⟨g, cap, ss, lo, up, h1, h2, h3, h4, h5, h6, h7, by omega, fun j hj => by have := (h6 j hj).2; omega⟩⟩
/-- It stands where only the hole has turned. -/
theorem LCH.frame {α : Type} {K : Kd α} {base hi p q : Nat} {w w' : World} {v : Value} {xs : List α} (h : LCH K base hi p q w v xs) (hb : ∀ c, base ≤ c → c < hi → (c < p ∨ q ≤ c) → w'.heap[c]? = w.heap[c]?) (hs : w.heap.size ≤ w'.heap.size) : LCH K base hi p q w' v xs := by
  obtain ⟨h0, h | ⟨g, cap, ss, lo, up, h1, h2, h3, h4, h5, h6, h7, h8, h9⟩⟩ := h
  · exact ⟨by omega, .inl h⟩
  · have eg := hb g h3 h4 h8
    refine ⟨by omega, .inr ⟨g, cap, ss, lo, up, h1, h2, h3, h4, fun j hj => ?_, fun j hj => ?_, h7, h8, h9⟩⟩
    · obtain ⟨s1, s2⟩ := h5 j hj
      simp only [World.cell?, World.frozen?, eg]; exact ⟨s1, s2⟩
    · obtain ⟨a1, a2, a3, a4⟩ := h6 j hj
      have a5 := h9 j hj
      exact ⟨a1.blk eg (fun c c1 c2 => hb c (by omega) (by omega) (by omega)) hs, a2, a3, a4⟩
theorem LCH.below {α : Type} {K : Kd α} {base hi p q : Nat} {w w' : World} {v : Value} {xs : List α} (h : LCH K base hi p q w v xs) (H : Below w.heap.size w w') : LCH K base hi p q w' v xs :=
  h.frame (fun c _ h2 _ => H.block c (by have := h.1; omega)) H.size
theorem ElX.kn {w : World} {g i : Nat} {x : Ch} {s : Value} {lo up : Nat} (h : ElX KC w g i x s lo up) : ElX KN w g i x s lo up := ⟨h.1, .inl h.2⟩
theorem LCH.kn {base hi p q : Nat} {w : World} {v : Value} {xs : List Ch} (h : LCH KC base hi p q w v xs) : LCH KN base hi p q w v xs := by
  obtain ⟨h0, h | ⟨g, cap, ss, lo, up, a1, a2, a3, a4, a5, a6, a7, a8⟩⟩ := h
  · exact ⟨h0, .inl h⟩
  · exact ⟨h0, .inr ⟨g, cap, ss, lo, up, a1, a2, a3, a4, a5, fun j hj => ⟨(a6 j hj).1.kn, (a6 j hj).2⟩, a7, a8⟩⟩
theorem LX.kn {t : TypeId} {base hi : Nat} {w : World} {v : Value} {xs : List Ch} {ps : List (Ch × Value)} (h : LX KC t base hi w v xs ps) : LX KN t base hi w v xs ps := by
  obtain ⟨h1, h2, h3, h4, lo, up, h5, h6⟩ := h
  exact ⟨h1, h2, h3, h4, lo, up, fun j hj => ⟨.inl (h5 j hj).1, (h5 j hj).2⟩, h6⟩
end Go.Proofs.YtfjmbbjcghopgaaGreatDoor
namespace Go.Proofs.YtfjmbbjcghopgaaGreatDoor
open Go.RowKit
set_option linter.unusedSimpArgs false
set_option linter.unusedVariables false
theorem rdl_end (s : ByteArray) (m : Nat) : ∀ (n : Nat) (i x y : Int) (l : List (Int × Int)) (e : Int), 0 ≤ i → i ≤ (s.size : Int) → rdl s m n i x y = some (l, e) → 0 ≤ e ∧ e ≤ (s.size : Int)
  | 0, i, x, y, l, e, h0, h1, h => by
    simp only [rdl, Option.some.injEq, Prod.mk.injEq] at h
    obtain ⟨_, rfl⟩ := h
    exact ⟨h0, h1⟩
  | n + 1, i, x, y, l, e, h0, h1, h => by
    simp only [rdl] at h
    split at h
    · cases h
    · split at h
      · cases h
      · rename_i dy fin h3
        have := rd_small s _ _ _ h3
        split at h
        · cases h
        · split at h
          · cases h
          · rename_i l2 e2 h4
            simp only [Option.some.injEq, Prod.mk.injEq] at h
            obtain ⟨_, rfl⟩ := h
            exact rdl_end s m n _ _ _ _ _ (by omega) (by omega) h4
/-- Where a shape ends, and that it has points. -/
theorem gso_facts {s : ByteArray} {m : Nat} {i : Int} {k e : Int} {l : List (Int × Int)} (h : gso s m i = some (k, l, e)) : (∃ q : Nat, e = (q : Int) ∧ q ≤ s.size) ∧ 0 < l.length ∧ l.length ≤ 60 := by
  unfold gso at h
  split at h
  · split at h
    · cases h
    · rename_i n p h1
      have hp := rd_small s _ _ _ h1
      split at h
      · cases h
      · unfold gsh at h
        cases hr : rdl s m n p 0 0 with
        | none => rw [hr] at h; simp at h
        | some r =>
          obtain ⟨l', e'⟩ := r
          rw [hr] at h
          simp only at h
          split at h
          · rename_i hk
            simp only [Option.map_some, Option.some.injEq, Prod.mk.injEq] at h
            obtain ⟨_, rfl, rfl⟩ := h
            have h2 := rdl_end s m n _ _ _ _ _ (by omega) (by omega) hr
            have h3 := rdl_len s m n _ _ _ _ _ hr
            refine ⟨⟨e'.toNat, by omega, by omega⟩, shok_posg hk, by omega⟩
          · simp at h
  · cases h
/-- What GetChanges answers. -/
def GCA (w : World) (o : Option (List Ch)) (e : Ending) (w' : World) : Prop :=
  ∃ a cap, e = .returned (.tuple #[.slice a (o.getD []).length cap, .bool o.isSome]) ∧ LC KN w.heap.size w'.heap.size w' (.slice a (o.getD []).length cap) (o.getD []) ∧ Below w.heap.size w w'
theorem lx_none (w w1 : World) (hb : w.heap.size ≤ w1.heap.size) : LX KN 56 w.heap.size (w1.alloc (.cells #[] 56)).heap.size (w1.alloc (.cells #[] 56)) (.slice (some ⟨w1.heap.size, 0, none⟩) 0 0) [] [] := by
  have := World.ownsRow_made (base := w1.heap.size) (e := 56) (size := 4) w1 #[] 0 (Nat.le_refl _) (by unfold maxLen; omega) rfl
  exact (LX.nil (hi := (w1.alloc (.cells #[] 56)).heap.size) this (fun g e => by simp [Value.ownBlock] at e; subst e; simp) (Nat.le_refl _)).mono hb (Nat.le_refl _) (Nat.le_refl _)
theorem gca_no {w w1 : World} {o : Option (List Ch)} (h : o = none) (hb : Below w.heap.size w w1) : GCA w o (.returned (.tuple #[.slice (some ⟨w1.heap.size, 0, none⟩) 0 0, .bool false])) (w1.alloc (.cells #[] 56)) := by
  subst h
  exact ⟨_, _, rfl, (lx_none w w1 hb.size).lc, balloc hb _⟩
theorem gca_yes {w w1 : World} {o : Option (List Ch)} {a : Option Addr} {cap hi : Nat} {cs : List Ch} (h : o = some cs) (hl : LC KN w.heap.size hi w1 (.slice a cs.length cap) cs) (hh : hi = w1.heap.size) (hb : Below w.heap.size w w1) : GCA w o (.returned (.tuple #[.slice a cs.length cap, .bool true])) w1 := by
  subst h hh
  exact ⟨_, _, rfl, hl, hb⟩
theorem gcS_1 {s : ByteArray} (h : rd s 0 = none) : gcS s = none := by unfold gcS; rw [h]
theorem gcS_2 {s : ByteArray} {n p : Nat} (h : rd s 0 = some (n, p)) (hn : 100 < n) : gcS s = none := by unfold gcS; rw [h]; simp only; rw [if_pos hn]
theorem gcS_3 {s : ByteArray} {n p : Nat} (h : rd s 0 = some (n, p)) (hn : n ≤ 100) (hr : rcS s n p = none) : gcS s = none := by unfold gcS; rw [h]; simp only; rw [if_neg (by omega), hr]
theorem gcS_4 {s : ByteArray} {n p : Nat} {l : List Ch} {e : Int} (h : rd s 0 = some (n, p)) (hn : n ≤ 100) (hr : rcS s n p = some (l, e)) : gcS s = if pcT l = s then some l else none := by unfold gcS; rw [h]; simp only; rw [if_neg (by omega), hr]
/-- What is read of n changes behind i of them. -/
def RS (s : ByteArray) (n : Nat) (p : Int) (i : Nat) (q : Int) (cs : List Ch) : Prop := rcS s n p = (rcS s (n - i) q).map (fun r => (cs ++ r.1, r.2))
theorem RS.zero (s : ByteArray) (n : Nat) (p : Int) : RS s n p 0 p [] := by
  unfold RS
  rw [Nat.sub_zero]
  cases rcS s n p <;> simp
theorem RS.done {s : ByteArray} {n : Nat} {p q : Int} {cs : List Ch} (h : RS s n p n q cs) : rcS s n p = some (cs, q) := by
  unfold RS at h
  rw [Nat.sub_self] at h
  simpa [rcS] using h
theorem RS.no1 {s : ByteArray} {n : Nat} {p q : Int} {i : Nat} {cs : List Ch} (h : RS s n p i q cs) (hi : i < n) (h1 : rd s q = none) : rcS s n p = none := by
  unfold RS at h
  rw [h, show n - i = (n - (i + 1)) + 1 by omega]
  simp [rcS, h1]
theorem RS.no2 {s : ByteArray} {n : Nat} {p q : Int} {i id nx : Nat} {cs : List Ch} (h : RS s n p i q cs) (hi : i < n) (h1 : rd s q = some (id, nx)) (h2 : ¬ nx < s.size) : rcS s n p = none := by
  unfold RS at h
  rw [h, show n - i = (n - (i + 1)) + 1 by omega]
  simp [rcS, h1, h2]
theorem RS.no3 {s : ByteArray} {n : Nat} {p q : Int} {i id nx : Nat} {cs : List Ch} (h : RS s n p i q cs) (hi : i < n) (h1 : rd s q = some (id, nx)) (h2 : nx < s.size) (h3 : by8 s nx ≠ 1) (h4 : gso s 200000 ((nx : Int) + 1) = none) : rcS s n p = none := by
  unfold RS at h
  rw [h, show n - i = (n - (i + 1)) + 1 by omega]
  simp [rcS, h1, h2, h3, h4]
theorem RS.gone {s : ByteArray} {n : Nat} {p q : Int} {i id nx : Nat} {cs : List Ch} (h : RS s n p i q cs) (hi : i < n) (h1 : rd s q = some (id, nx)) (h2 : nx < s.size) (h3 : by8 s nx = 1) : RS s n p (i + 1) ((nx : Int) + 1) (cs ++ [((id : Int), true, 0, [])]) := by
  unfold RS at h ⊢
  rw [h, show n - i = (n - (i + 1)) + 1 by omega]
  simp only [rcS, h1, h2, h3, if_true]
  cases rcS s (n - (i + 1)) ((nx : Int) + 1) <;> simp
theorem RS.there {s : ByteArray} {n : Nat} {p q : Int} {i id nx : Nat} {cs : List Ch} {k e : Int} {l : List (Int × Int)} (h : RS s n p i q cs) (hi : i < n) (h1 : rd s q = some (id, nx)) (h2 : nx < s.size) (h3 : by8 s nx ≠ 1) (h4 : gso s 200000 ((nx : Int) + 1) = some (k, l, e)) : RS s n p (i + 1) e (cs ++ [((id : Int), false, k, l)]) := by
  unfold RS at h ⊢
  rw [h, show n - i = (n - (i + 1)) + 1 by omega]
  simp only [rcS, h1, h2, h4, if_true, if_neg h3]
  cases rcS s (n - (i + 1)) e <;> simp
theorem LX.grows {α : Type} {K : Kd α} {t : TypeId} {base hi : Nat} {w w' : World} {v : Value} {xs : List α} {ps : List (α × Value)} (h : LX K t base hi w v xs ps) (hb : Below w.heap.size w w') : LX K t base w'.heap.size w' v xs ps := (h.below hb).mono (Nat.le_refl _) (Nat.le_trans h.2.2.2.1 hb.size) (Nat.le_refl _)
theorem bgrow {w a b : World} {r : Option Nat} (h : Below w.heap.size w a) (hg : a.grownBy b r) (hp : ∀ c, r = some c → w.heap.size ≤ c) : Below w.heap.size w b := h.grown hg h.size hp
theorem cell4n {w : World} {p : Nat} {a b c d : Value} {t : TypeId} (h : w.heap[p]? = some (.cells #[a, b, c, d] t (0, 0))) : (w.cell? ⟨p, 0, none⟩ = some a ∧ w.cell? ⟨p, 1, none⟩ = some b ∧ w.cell? ⟨p, 2, none⟩ = some c ∧ w.cell? ⟨p, 3, none⟩ = some d) ∧ w.frozen? ⟨p, 0, none⟩ = false ∧ w.frozen? ⟨p, 1, none⟩ = false ∧ w.frozen? ⟨p, 2, none⟩ = false ∧ w.frozen? ⟨p, 3, none⟩ = false := by
  refine ⟨⟨?_, ?_, ?_, ?_⟩, ?_, ?_, ?_, ?_⟩ <;> simp [World.cell?, World.frozen?, h]
theorem set4_23 {w : World} {p : Nat} {o0 o1 o2 o3 : Value} {t : TypeId} (h : w.heap[p]? = some (.cells #[o0, o1, o2, o3] t (0, 0))) (c d : Value) : ((w.setCell ⟨p, 2, none⟩ c).setCell ⟨p, 3, none⟩ d).heap[p]? = some (.cells #[o0, o1, c, d] t (0, 0)) := by
  have st : ∀ (W : World) (cs : Array Value) (k : Nat) (u : Value), W.heap[p]? = some (.cells cs t (0, 0)) → (W.setCell ⟨p, k, none⟩ u).heap[p]? = some (.cells (cs.setIfInBounds k u) t (0, 0)) := by
    intro W cs k u h
    have hlt := lt_of_block h
    have h' : W.heap[p] = .cells cs t (0, 0) := by simpa [Array.getElem?_eq_getElem hlt] using h
    show (W.heap.modify p _)[p]? = _
    rw [Array.getElem?_eq_getElem (by simpa using hlt), Array.getElem_modify_self, h']
    rfl
  have e4 := st _ _ 3 d (st _ _ 2 c h)
  simpa using e4
theorem own_in {w : World} {a : Option Addr} {ps : List (Int × Int)} (h : OwnP w a ps) (h0 : 0 < ps.length) : ∃ b, a = some ⟨b, 0, none⟩ ∧ PtsOwn w b ps := by
  rcases h with ⟨_, rfl⟩ | ⟨b, rfl, h⟩
  · simp at h0
  · exact ⟨b, rfl, h⟩
set_option maxRecDepth 100000 in
set_option maxHeartbeats 8000000 in
theorem spec_GetChanges (s : ByteArray) (hs : s.size ≤ 1048576) (w : World) : Calls Tryz.prog 18 #[.string s] w fun e w' => GCA w (gcS s) e w' := by
  have hmx : s.size ≤ maxLen := by unfold maxLen; omega
  have hs' : (s.size : Int) ≤ 1048576 := by omega
  have M0 := hid (fun w => spec_rd s 0 hmx (by omega) (by omega) w)
  cases h0 : rd s 0 with
  | none =>
    rw [h0] at M0
    have HO := hid (gcS_1 h0)
    clear h0
    go_enter Tryz.func18, Tryz.ntmps18
    go_wp2_with fail
    refine (M0.out _).mono ?_
    rintro e y1 ⟨rfl, hB⟩
    simp only [gnN, gnK]
    go_wp2_with fail
    go_ret2
    exact gca_no HO.out hB
  | some r =>
    obtain ⟨n, p⟩ := r
    rw [h0] at M0
    have hsm := rd_small s 0 n p h0
    by_cases hgr : 100 < n
    · have HO := hid (gcS_2 h0 hgr)
      have c1 : (100 : Int) < (n : Int) := by omega
      clear h0
      go_enter Tryz.func18, Tryz.ntmps18
      go_wp2_with fail
      refine (M0.out _).mono ?_
      rintro e y1 ⟨rfl, hB⟩
      simp only [gnN, gnK]
      go_wp2_with fail
      go_ret2
      exact gca_no HO.out hB
    have hn : n ≤ 100 := by omega
    have c1 : (n : Int) ≤ 100 := by omega
    have HN := hid (fun hr => gcS_3 h0 hn hr)
    have HY := hid (fun l e hr => gcS_4 (l := l) (e := e) h0 hn hr)
    clear h0 hgr
    obtain ⟨i0, hi0, hz0, hz1, hz2⟩ := info_parts Tryz.infoCh
    generalize gcS s = og at *
    go_enter Tryz.func18, Tryz.ntmps18
    go_wp2_with fail
    refine (M0.out _).mono ?_
    rintro e y1 ⟨rfl, hB⟩
    simp only [gnN, gnK]
    clear M0
    have HI := hid (lx_none w y1 hB.size)
    have HB0 := hid (balloc hB (.cells #[] 56))
    clear hB
    go_wp2_with fail
    generalize y1.alloc (.cells #[] 56) = W0 at *
    go_loopw [5, 6, 7] (fun tq tv ti wr => ∃ (i q : Nat) (cs : List Ch) (us : List (Ch × Value)), ti = .int .i64 i ∧ tq = .int .i64 q ∧ i ≤ n ∧ q ≤ s.size ∧ Hid (cs.length = i) ∧ Hid (RS s n p i q cs) ∧ Hid (LX KN 56 w.heap.size wr.heap.size wr tv cs us) ∧ Hid (Below w.heap.size w wr)) (fun _ _ ti _ => n - (intOf ti).toNat)
    case atStart => exact ⟨0, p, [], [], rfl, rfl, Nat.zero_le _, hsm.2, hid rfl, hid (RS.zero s n p), HI, HB0⟩
    case round =>
      clear HI HB0
      obtain ⟨i, q, cs, us, rfl, rfl, hi, hq, HLc, HRS, HV, HB⟩ := hrel
      have hci : cs.length ≤ 100 := by have := HLc.out; omega
      obtain ⟨av, cv, ev, hlv, hvr⟩ := HV.out.lc.form
      have HVR := hid hvr
      clear hvr
      subst ev
      have hwX := HB.out.size
      by_cases hlt : i < n
      · have c2 : (i : Int) < (n : Int) := by omega
        have M1 := hid (fun w => spec_rd s (q : Int) hmx (by omega) (by omega) w)
        cases h1 : rd s (q : Int) with
        | none =>
          rw [h1] at M1
          have HO := hid (HN.out (HRS.out.no1 hlt h1))
          clear h1 HRS HV HY HN
          go_wp2_with fail
          refine (M1.out _).mono ?_
          rintro e y2 ⟨rfl, hB2⟩
          simp only [gnN, gnK]
          go_wp2_with fail
          go_ret2
          exact gca_no HO.out (btrans HB.out hB2)
        | some r =>
          obtain ⟨id, nx⟩ := r
          rw [h1] at M1
          have hsn := rd_small s _ id nx h1
          by_cases hnx : nx < s.size
          · have c3 : (nx : Int) < (s.size : Int) := by omega
            have e8 := by8_at s nx hnx
            by_cases h8 : by8 s nx = 1
            · have HRN : Hid (RS s n p (i + 1) ((nx + 1 : Nat) : Int) (cs ++ [((id : Int), true, 0, [])])) := hid (HRS.out.gone hlt h1 hnx h8)
              clear h1 HRS HY HN
              go_wp2_with fail
              refine (M1.out _).mono ?_
              rintro e y2 ⟨rfl, hB2⟩
              simp only [gnN, gnK]
              have hw2 := hB2.size
              have hal : Below y2.heap.size y2 (y2.alloc (.cells #[.int .i64 id, .bool true, .int .i64 0, .slice none 0 0] 56)) := balloc (Below.refl _ _) _
              have gQ := new_alloc y2 y2.heap.size (.cells #[.int .i64 id, .bool true, .int .i64 0, .slice none 0 0] 56) rfl
              have HV4 := hid ((HV.out.below hB2).below hal)
              have HB4 := hid (btrans (btrans HB.out hB2) hal)
              have HS4 : Hid (KN.sub (y2.alloc (.cells #[.int .i64 id, .bool true, .int .i64 0, .slice none 0 0] 56)).heap.size (y2.alloc (.cells #[.int .i64 id, .bool true, .int .i64 0, .slice none 0 0] 56)).heap.size (y2.alloc (.cells #[.int .i64 id, .bool true, .int .i64 0, .slice none 0 0] 56)) (.slice none 0 0) ((id : Int), true, 0, [])) := hid (.inr ⟨Nat.le_refl _, rfl, rfl⟩)
              have hq4 : y2.heap.size < (y2.alloc (.cells #[.int .i64 id, .bool true, .int .i64 0, .slice none 0 0] 56)).heap.size := by simp
              clear HV HB hal hB2 M1
              go_upto_region 12 with fail
              generalize y2.alloc (.cells #[.int .i64 id, .bool true, .int .i64 0, .slice none 0 0] 56) = W4 at *
              generalize y2.heap.size = Q at *
              obtain ⟨⟨x0, x1, x2, x3⟩, _⟩ := cell4n gQ
              clear gQ
              have hownZ : W4.ownsRow w.heap.size 56 4 (.slice av cs.length cv) cs.length (flatK KN us) := HV4.out.2.1
              have hm := HV4.out.2.2.2.1
              go_wp2_with (at_builtin; (refine wpList_append_lies _ rfl (.tmp 65) (.tmp 67) 35 rfl w.heap.size 56 i0 _ 4 48 Tryz.underlying35 hi0 hz0 hz1 hz2 rfl (by decide) (.slice av cs.length cv) cs.length (flatK KN us) rfl (hownZ.alloc _) ⟨W4.heap.size, 0, none⟩ 1 1 [.int .i64 id, .bool true, .int .i64 0, .slice none 0 0] rfl rfl (World.news_of_block (cs := #[.int .i64 id, .bool true, .int .i64 0, .slice none 0 0]) (t := 56) (fr := (0, 0)) (heap_alloc_new W4 _)) (by simp [Value.oneCell']) (by omega) (by unfold maxLen; omega) (by omega) (by simp; omega) (W4.heap.size + 1) (by simp) ?_; intro gg cq w2 hown2 hgrow hat hlt2))
              have hal2 : Below W4.heap.size W4 (W4.alloc (.cells #[.int .i64 id, .bool true, .int .i64 0, .slice none 0 0] 56)) := balloc (Below.refl _ _) _
              have hsn := LX.snoc (x := ((id : Int), true, 0, [])) (sv := .slice none 0 0) (l := W4.heap.size) (u := W4.heap.size) (g := gg) (cap := cq) (HV4.out.below hal2) (by omega) (by omega) (KN.frame HS4.out (fun c _ hc => hal2.block c (by omega)) hal2.size) hown2 hgrow (by simpa using hat) hlt2
              have hbn : Below w.heap.size w w2 := bgrow (balloc HB4.out _) hgrow (fun c e => (World.ownsRow.lt hownZ c e).1)
              have HSN := hid hsn
              have HBN := hid hbn
              have HLN : Hid ((cs ++ [((id : Int), true, 0, [])]).length = i + 1) := hid (by rw [List.length_append, HLc.out]; rfl)
              clear hsn hbn hown2 hgrow hal2 hownZ x0 x1 x2 x3
              go_wp2_with fail
              go_roundw
              case rel => exact ⟨i + 1, nx + 1, cs ++ [((id : Int), true, 0, [])], _, by go_num, by go_num, by omega, by omega, HLN, HRN, hid (by simpa using HSN.out), HBN⟩
              case measure => simp [intOf]; omega
            · have h80 : ¬ ((by8 s nx : Nat) : Int) = 1 := by omega
              have h81 : (((by8 s nx : Nat) : Int) == 1) = false := by rw [beq_eq_false_iff_ne]; exact h80
              have M2 := hid (fun w => spec_GetShape s ((nx : Int) + 1) hs (by omega) (by omega) w)
              cases h4 : gso s 200000 ((nx : Int) + 1) with
              | none =>
                rw [h4] at M2
                have HO := hid (HN.out (HRS.out.no3 hlt h1 hnx h8 h4))
                clear h1 h4 HRS HY HN HV h8
                unfold GSA at M2
                simp only [soK, soP, soN] at M2
                go_wp2_with fail
                refine (M1.out _).mono ?_
                rintro e y2 ⟨rfl, hB2⟩
                simp only [gnN, gnK]
                have gQ := new_alloc y2 y2.heap.size (.cells #[.int .i64 id, .bool false, .int .i64 0, .slice none 0 0] 56) rfl
                have HB4 := hid (balloc (btrans HB.out hB2) (.cells #[.int .i64 id, .bool false, .int .i64 0, .slice none 0 0] 56))
                have hw2 := hB2.size
                clear HB hB2 M1
                go_upto_region 12 with fail
                generalize y2.alloc (.cells #[.int .i64 id, .bool false, .int .i64 0, .slice none 0 0] 56) = W4 at *
                have hQ : w.heap.size ≤ y2.heap.size := by omega
                generalize y2.heap.size = Q at *
                obtain ⟨⟨x0, x1, x2, x3⟩, f0, f1, f2, f3⟩ := cell4n gQ
                go_wp2_with fail
                refine (M2.out _).mono ?_
                rintro e y3 ⟨sa, sc, rfl, hsc, hso, _, hB3⟩
                have gQ3 := keepheap2 hB3 gQ
                replace HB4 := hid (btrans HB4.out hB3)
                clear hB3 x0 x1 x2 x3 f0 f1 f2 f3 gQ hso M2
                obtain ⟨⟨x0, x1, x2, x3⟩, f0, f1, f2, f3⟩ := cell4n gQ3
                have HB5 := hid (bset (bset HB4.out (q := Q) (k := 2) hQ (.int .i64 0)) (q := Q) (k := 3) hQ (.slice sa 0 sc))
                go_upto_region 15 with fail
                generalize ((y3.setCell ⟨Q, 2, none⟩ (.int .i64 0)).setCell ⟨Q, 3, none⟩ (.slice sa 0 sc)) = Y4 at *
                go_wp2_with fail
                go_ret2
                exact gca_no HO.out HB5.out
              | some r =>
                obtain ⟨k, l, en⟩ := r
                rw [h4] at M2
                obtain ⟨⟨qq, rfl, hqq⟩, hl0, hl1⟩ := gso_facts h4
                have HRN := hid (HRS.out.there hlt h1 hnx h8 h4)
                clear h1 h4 HRS HY HN h8
                unfold GSA at M2
                simp only [soK, soP, soN] at M2
                go_wp2_with fail
                refine (M1.out _).mono ?_
                rintro e y2 ⟨rfl, hB2⟩
                simp only [gnN, gnK]
                have gQ := new_alloc y2 y2.heap.size (.cells #[.int .i64 id, .bool false, .int .i64 0, .slice none 0 0] 56) rfl
                have hal : Below y2.heap.size y2 (y2.alloc (.cells #[.int .i64 id, .bool false, .int .i64 0, .slice none 0 0] 56)) := balloc (Below.refl _ _) _
                have HB4 := hid (btrans (btrans HB.out hB2) hal)
                have HV3 := hid ((HV.out.below hB2).below hal)
                have hw2 := hB2.size
                have hq4 : y2.heap.size < (y2.alloc (.cells #[.int .i64 id, .bool false, .int .i64 0, .slice none 0 0] 56)).heap.size := by simp
                clear HB hB2 M1 HV hal
                go_upto_region 12 with fail
                generalize y2.alloc (.cells #[.int .i64 id, .bool false, .int .i64 0, .slice none 0 0] 56) = W3 at *
                have hQ : w.heap.size ≤ y2.heap.size := by omega
                generalize y2.heap.size = Q at *
                obtain ⟨⟨x0, x1, x2, x3⟩, f0, f1, f2, f3⟩ := cell4n gQ
                go_wp2_with fail
                refine (M2.out _).mono ?_
                rintro e y3 ⟨sa, sc, rfl, hsc, hso, hsb, hB3⟩
                obtain ⟨b, rfl, hpo⟩ := own_in hso hl0
                have hbW := hsb b 0 rfl
                have hbl := hpo.1
                have gQ3 := keepheap2 hB3 gQ
                have hz3 := hB3.size
                replace HB4 := hid (btrans HB4.out hB3)
                replace HV3 := hid (HV3.out.below hB3)
                clear hB3 x0 x1 x2 x3 f0 f1 f2 f3 gQ hso M2 hsb
                obtain ⟨⟨x0, x1, x2, x3⟩, f0, f1, f2, f3⟩ := cell4n gQ3
                have gS := set4_23 gQ3 (.int .i64 k) (.slice (some ⟨b, 0, none⟩) l.length sc)
                have HBS := hid (bset (bset HB4.out (q := Q) (k := 2) hQ (.int .i64 k)) (q := Q) (k := 3) hQ (.slice (some ⟨b, 0, none⟩) l.length sc))
                have hfr : ∀ c, c ≠ Q → ((y3.setCell ⟨Q, 2, none⟩ (.int .i64 k)).setCell ⟨Q, 3, none⟩ (.slice (some ⟨b, 0, none⟩) l.length sc)).heap[c]? = y3.heap[c]? := fun c hc => by
                  rw [Below.heap_setCell _ _ _ _ (by dsimp only; omega), Below.heap_setCell _ _ _ _ (by dsimp only; omega)]
                have hsz : ((y3.setCell ⟨Q, 2, none⟩ (.int .i64 k)).setCell ⟨Q, 3, none⟩ (.slice (some ⟨b, 0, none⟩) l.length sc)).heap.size = y3.heap.size := by simp only [World.size_setCell]
                have HVS := hid (HV3.out.frame (fun c _ hc => hfr c (by omega)) (Nat.le_of_eq hsz.symm))
                have HPS : Hid (PtsOwn _ b l) := hid (own_blk hpo (hfr b (by omega)) (by rw [hsz]; exact hbl))
                clear hfr HV3 hpo
                go_upto_region 15 with fail
                clear x0 x1 x2 x3
                generalize ((y3.setCell ⟨Q, 2, none⟩ (.int .i64 k)).setCell ⟨Q, 3, none⟩ (.slice (some ⟨b, 0, none⟩) l.length sc)) = W4 at *
                have hz4 : W4.heap.size ≤ y3.heap.size ∧ y3.heap.size ≤ W4.heap.size := ⟨by omega, by omega⟩
                clear hsz
                obtain ⟨z4, z5⟩ := hz4
                have HS4 : Hid (KN.sub b W4.heap.size W4 (.slice (some ⟨b, 0, none⟩) l.length sc) ((id : Int), false, k, l)) := hid (.inl ⟨Nat.le_refl _, b, sc, rfl, hsc, by show l.length ≤ _; omega, Nat.le_refl _, by omega, HPS.out⟩)
                have HB4 := HBS
                have HV4 := HVS
                clear HBS HVS HPS
                obtain ⟨⟨x0, x1, x2, x3⟩, _⟩ := cell4n gS
                clear gS gQ3 f0 f1 f2 f3
                have hownZ : W4.ownsRow w.heap.size 56 4 (.slice av cs.length cv) cs.length (flatK KN us) := HV4.out.2.1
                have hm := HV4.out.2.2.2.1
                go_wp2_with (at_builtin; (refine wpList_append_lies _ rfl (.tmp 65) (.tmp 67) 35 rfl w.heap.size 56 i0 _ 4 48 Tryz.underlying35 hi0 hz0 hz1 hz2 rfl (by decide) (.slice av cs.length cv) cs.length (flatK KN us) rfl (hownZ.alloc _) ⟨W4.heap.size, 0, none⟩ 1 1 [.int .i64 id, .bool false, .int .i64 k, .slice (some ⟨b, 0, none⟩) l.length sc] rfl rfl (World.news_of_block (cs := #[.int .i64 id, .bool false, .int .i64 k, .slice (some ⟨b, 0, none⟩) l.length sc]) (t := 56) (fr := (0, 0)) (heap_alloc_new W4 _)) (by simp [Value.oneCell']) (by omega) (by unfold maxLen; omega) (by omega) (by simp; omega) (W4.heap.size + 1) (by simp) ?_; intro gg cq w2 hown2 hgrow hat hlt2))
                have hal2 : Below W4.heap.size W4 (W4.alloc (.cells #[.int .i64 id, .bool false, .int .i64 k, .slice (some ⟨b, 0, none⟩) l.length sc] 56)) := balloc (Below.refl _ _) _
                have hsn := LX.snoc (x := ((id : Int), false, k, l)) (sv := .slice (some ⟨b, 0, none⟩) l.length sc) (l := b) (u := W4.heap.size) (g := gg) (cap := cq) (HV4.out.below hal2) (by omega) (by omega) (KN.frame HS4.out (fun c _ hc => hal2.block c (by omega)) hal2.size) hown2 hgrow (by simpa using hat) hlt2
                have hbn : Below w.heap.size w w2 := bgrow (balloc HB4.out _) hgrow (fun c e => (World.ownsRow.lt hownZ c e).1)
                have HSN := hid hsn
                have HBN := hid hbn
                have HLN : Hid ((cs ++ [((id : Int), false, k, l)]).length = i + 1) := hid (by rw [List.length_append, HLc.out]; rfl)
                clear hsn hbn hown2 hgrow hal2 hownZ x0 x1 x2 x3
                go_wp2_with fail
                go_roundw
                case rel => exact ⟨i + 1, qq, cs ++ [((id : Int), false, k, l)], _, by go_num, rfl, by omega, by omega, HLN, HRN, hid (by simpa using HSN.out), HBN⟩
                case measure => simp [intOf]; omega
          · have c3 : (s.size : Int) ≤ (nx : Int) := by omega
            have HO := hid (HN.out (HRS.out.no2 hlt h1 hnx))
            clear h1 HRS HV HY HN
            go_wp2_with fail
            refine (M1.out _).mono ?_
            rintro e y2 ⟨rfl, hB2⟩
            simp only [gnN, gnK]
            go_wp2_with fail
            go_ret2
            exact gca_no HO.out (btrans HB.out hB2)
      · have c2 : (n : Int) ≤ (i : Int) := by omega
        have hin : i = n := by omega
        have HR := HRS.out
        rw [hin] at HR
        have HO := hid (HY.out _ _ HR.done)
        clear HR hin HRS HY HN
        have MP := hid (fun (W : World) (hb : Below wr.heap.size wr W) => spec_PutChanges av cv cs W (by omega) (HV.out.lc.chsN.below hb))
        by_cases hq2 : pcT cs = s
        · rw [if_pos hq2] at HO
          have hne : ((pcT cs).toList == s.toList) = true := by rw [hq2]; simp
          clear hq2
          generalize pcT cs = tt at *
          go_wp2_with fail
          refine (MP.out _ (Below.refl _ _)).mono ?_
          rintro e y5 ⟨rfl, hB5⟩
          have HV5 := hid (HV.out.grows hB5)
          have HB5 := hid (btrans HB.out hB5)
          clear MP HV HB hB5
          go_wp2_with fail
          go_ret2
          exact gca_yes HO.out HV5.out.lc rfl HB5.out
        · rw [if_neg hq2] at HO
          have hne : ((pcT cs).toList == s.toList) = false := by
            rw [beq_eq_false_iff_ne]
            intro e
            rw [ByteArray.toList_eq, ByteArray.toList_eq] at e
            exact hq2 (ByteArray.ext (Array.ext' e))
          clear hq2
          generalize pcT cs = tt at *
          go_wp2_with fail
          refine (MP.out _ (Below.refl _ _)).mono ?_
          rintro e y5 ⟨rfl, hB5⟩
          have HB5 := hid (btrans HB.out hB5)
          clear MP HV HB hB5
          go_wp2_with fail
          go_ret2
          exact gca_no HO.out HB5.out
end Go.Proofs.YtfjmbbjcghopgaaGreatDoor
