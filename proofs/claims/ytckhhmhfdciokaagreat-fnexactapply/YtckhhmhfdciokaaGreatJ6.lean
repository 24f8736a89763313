/- Texts of stores, joined: Vg, Vh, Sb, Sh0, Si. -/
import Derived.Test.YtckhhmhfdciokaaGreatJ3
import Derived.Test.YtckhhmhfdciokaaGreatSa
import Derived.Test.YtckhhmhfdciokaaGreatRwK
namespace Go.Proofs.YtckhhmhfdciokaaGreat
open Go.RowKit
set_option linter.unusedSimpArgs false
set_option linter.unusedVariables false
/-- Rows in a new list, their points where they lay in W0. -/
def RowsY (base lo : Nat) (W0 w : World) (v : Value) (rs : List Rw) (xs : List El) : Prop :=
  xs.length = rs.length ∧ w.ownsRow base 55 5 v rs.length (flat5 xs) ∧ ∀ j (h : j < rs.length), ∃ c cp, xs[j]? = some (elR rs[j] c cp) ∧ rs[j].2.2.2.2.length ≤ cp ∧ rs[j].2.2.2.2.length ≤ 1099511627776 ∧ lo ≤ c ∧ Pts W0 (some ⟨c, 0, none⟩) rs[j].2.2.2.2
theorem RowsY.frame {base lo : Nat} {W0 w w' : World} {v : Value} {rs : List Rw} {xs : List El} (h : RowsY base lo W0 w v rs xs) (hb : ∀ g, v.ownBlock = some g → w'.heap[g]? = w.heap[g]?) : RowsY base lo W0 w' v rs xs := ⟨h.1, own_frame h.2.1 hb, h.2.2⟩
theorem rowsY_snoc {base lo : Nat} {W0 w w' : World} {v v' : Value} {rs : List Rw} {xs : List El} {r : Rw} {c cp : Nat} (h : RowsY base lo W0 w v rs xs) (h1 : r.2.2.2.2.length ≤ cp) (h2 : r.2.2.2.2.length ≤ 1099511627776) (h4 : lo ≤ c) (h3 : Pts W0 (some ⟨c, 0, none⟩) r.2.2.2.2) (ho : w'.ownsRow base 55 5 v' (rs.length + 1) (flat5 xs ++ ev (elR r c cp))) : RowsY base lo W0 w' v' (rs ++ [r]) (xs ++ [elR r c cp]) := by
  obtain ⟨a1, a2, a3⟩ := h
  have hlr : (rs ++ [r]).length = rs.length + 1 := by simp
  refine ⟨by simp [a1], by rw [flat5_snoc, hlr]; exact ho, fun j hj => ?_⟩
  by_cases e : j = rs.length
  · subst e
    have er : (rs ++ [r])[rs.length]'(by simp) = r := by simp
    rw [er]
    exact ⟨c, cp, by rw [← a1]; simp, h1, h2, h4, h3⟩
  · have hjl : j < rs.length := by simp at hj; omega
    have er : (rs ++ [r])[j]'(by simpa using hj) = rs[j] := by rw [List.getElem_append_left hjl]
    rw [er]
    obtain ⟨c', cp', b1, b2, b3, b5, b4⟩ := a3 j hjl
    exact ⟨c', cp', by rw [List.getElem?_append_left (by omega)]; exact b1, b2, b3, b5, b4⟩
theorem RowsY.form {base lo : Nat} {W0 w : World} {v : Value} {rs : List Rw} {xs : List El} (h : RowsY base lo W0 w v rs xs) : ∃ a cap, v = .slice a rs.length cap := by
  rcases h.2.1.2 with ⟨q, hn⟩ | ⟨g, cap, cur, e, _⟩
  · exact ⟨none, 0, by rw [q, hn]⟩
  · exact ⟨_, cap, e⟩
theorem pts_blk {W w : World} {c : Nat} {ps : List (Int × Int)} (h : Pts W (some ⟨c, 0, none⟩) ps) (e : c < W.heap.size → w.heap[c]? = W.heap[c]?) (hs : W.heap.size ≤ w.heap.size) : Pts w (some ⟨c, 0, none⟩) ps := by
  rcases h with h | ⟨b, off, ea, hb, hp⟩
  · exact .inl h
  · cases ea
    refine .inr ⟨c, 0, rfl, by omega, fun k hk => ?_⟩
    simp only [World.cell?, e hb]
    exact hp k hk
theorem RowsY.rws {base lo : Nat} {W0 w : World} {a : Option Addr} {n cap : Nat} {rs : List Rw} {xs : List El} (h : RowsY base lo W0 w (.slice a n cap) rs xs) (H : ∀ b, lo ≤ b → b < W0.heap.size → w.heap[b]? = W0.heap[b]?) (hs : W0.heap.size ≤ w.heap.size) : Rws (fun _ => True) w a rs := by
  obtain ⟨h1, h2, h3⟩ := h
  have h2' := h2
  rcases h2.2 with ⟨q, hn⟩ | ⟨g, cp, cur, e, hb, hg, hc, _⟩
  · exact .inl (List.length_eq_zero_iff.1 hn)
  · cases e
    refine .inr ⟨g, 0, rfl, (Array.getElem?_eq_some_iff.1 hg).1, fun j hj => ?_⟩
    obtain ⟨c, cpj, a1, a2, a3, a5, a4⟩ := h3 j hj
    have hjx : j < xs.length := by omega
    have ex : xs[j] = elR rs[j] c cpj := by
      rw [List.getElem?_eq_getElem hjx] at a1
      exact Option.some.inj a1
    obtain ⟨f0, f1, f2, f3, f4⟩ := flat5_at xs j hjx
    rw [ex] at f0 f1 f2 f3 f4
    rw [Nat.zero_add]
    refine ⟨some ⟨c, 0, none⟩, cpj, ?_, ?_, ?_, ?_, ?_, a2, a3, pts_blk a4 (fun hc => H c a5 hc) hs, fun _ _ _ => trivial⟩
    · rw [World.ownsRow.cellAt h2' _ (by omega)]; exact f0
    · rw [World.ownsRow.cellAt h2' _ (by omega)]; exact f1
    · rw [World.ownsRow.cellAt h2' _ (by omega)]; exact f2
    · rw [World.ownsRow.cellAt h2' _ (by omega)]; exact f3
    · rw [World.ownsRow.cellAt h2' _ (by omega)]; exact f4
theorem vkeep_def (t : Int) (r : Rw) : vkeep t r = (decide (r.2.2.1 = 0) || decide (t < r.2.2.1)) := by
  unfold vkeep
  by_cases h1 : r.2.2.1 = 0
  · simp [h1]
  · by_cases h2 : t < r.2.2.1
    · have : ¬ r.2.2.1 ≤ t := by omega
      simp [h1, h2, this]
    · have : r.2.2.1 ≤ t := by omega
      simp [h1, h2, this]
/-- Rows that the specification answers. -/
def VS (w : World) (now : Int) (rs : List Rw) (e : Ending) (w' : World) : Prop :=
  ∃ a cap, e = .returned (.agg #[.int .i64 now, .slice a rs.length cap]) ∧ Rws (fun _ => True) w' a rs ∧ Below w.heap.size w w'
end Go.Proofs.YtckhhmhfdciokaaGreat
namespace Go.Proofs.YtckhhmhfdciokaaGreat
open Go.RowKit
set_option linter.unusedVariables false
/-- Rows that may be written into, from block B on, below hi. -/
def Own3 (hi : Nat) (w : World) (B : Nat) (rs : List Rw) : Prop := B < hi ∧ hi ≤ w.heap.size ∧ w.there B 0 (rs.length * 5) ∧ RwsO hi w B rs
theorem Own3.below {hi : Nat} {w w' : World} {B : Nat} {rs : List Rw} (h : Own3 hi w B rs) (H : Below w.heap.size w w') : Own3 hi w' B rs :=
  ⟨h.1, Nat.le_trans h.2.1 H.size, there_below h.2.2.1 (Nat.lt_of_lt_of_le h.1 h.2.1) H, h.2.2.2.below h.2.1 H⟩
def BS (Y w : World) : Prop := Below Y.heap.size Y w
theorem BS.below {Y a b : World} (h : BS Y a) (H : Below a.heap.size a b) : BS Y b := btrans h H
def SizeLe (Y : World) (n : Nat) : Prop := Y.heap.size ≤ n
theorem bs_mid {Y a b : World} {lo hi : Nat} (h : BS Y a) (m : Mid lo hi a b) (hl : SizeLe Y lo) : BS Y b := mid_B h m hl h.size
theorem vacb_len (now : Int) (rs : List Rw) (t : Int) : (vacb now rs t).length ≤ rs.length := by
  unfold vacb
  split
  · exact List.length_filter_le _ _
  · exact Nat.le_refl _
theorem vacb_lens {now : Int} {rs : List Rw} {t : Int} {L : Nat} (h : ∀ m (h : m < rs.length), rs[m].2.2.2.2.length ≤ L) : ∀ m (h : m < (vacb now rs t).length), (vacb now rs t)[m].2.2.2.2.length ≤ L := by
  intro m hm
  have hs : ∀ x ∈ vacb now rs t, x ∈ rs := by
    intro x hx
    unfold vacb at hx
    split at hx
    · exact (List.mem_filter.1 hx).1
    · exact hx
  have h1 : (vacb now rs t)[m] ∈ rs := hs _ (List.getElem_mem hm)
  obtain ⟨j, hj, e⟩ := List.mem_iff_getElem.1 h1
  rw [← e]
  exact h j hj
end Go.Proofs.YtckhhmhfdciokaaGreat
namespace Go.Proofs.YtckhhmhfdciokaaGreat
open Go.RowKit
set_option linter.unusedSimpArgs false
set_option linter.unusedVariables false
abbrev Tx : Type := Int × Bool × List Ch
def txv (x : Tx) (a : Option Addr) (cap : Nat) : Value := .agg #[.int .i64 x.1, .bool x.2.1, .slice a x.2.2.length cap]
def TxAt (N : Nat → Prop) (M : Nat) (w : World) (b o : Nat) (x : Tx) : Prop :=
  ∃ a cap, w.cell? ⟨b, o, none⟩ = some (.int .i64 x.1) ∧ w.cell? ⟨b, o + 1, none⟩ = some (.bool x.2.1) ∧ w.cell? ⟨b, o + 2, none⟩ = some (.slice a x.2.2.length cap) ∧ x.2.2.length ≤ cap ∧ x.2.2.length ≤ M ∧ Chs N M w a x.2.2 ∧ (∀ c off, a = some ⟨c, off, none⟩ → N c)
def TxsAt (N : Nat → Prop) (M : Nat) (w : World) (b o : Nat) (xs : List Tx) : Prop := ∀ j (h : j < xs.length), TxAt N M w b (o + j * 3) xs[j]
def Txs (N : Nat → Prop) (M : Nat) (w : World) (a : Option Addr) (xs : List Tx) : Prop := xs = [] ∨ ∃ b o, a = some ⟨b, o, none⟩ ∧ b < w.heap.size ∧ TxsAt N M w b o xs
theorem TxAt.below {N : Nat → Prop} {M : Nat} {w w' : World} {b o : Nat} {x : Tx} (h : TxAt N M w b o x) (H : Below w.heap.size w w') : TxAt N M w' b o x := by
  obtain ⟨a, cap, k0, k1, q1, q2, q3, q4, q5⟩ := h
  exact ⟨a, cap, keepcell H k0, keepcell H k1, keepcell H q1, q2, q3, q4.below H, q5⟩
theorem Txs.below {N : Nat → Prop} {M : Nat} {w w' : World} {a : Option Addr} {xs : List Tx} (h : Txs N M w a xs) (H : Below w.heap.size w w') : Txs N M w' a xs := by
  rcases h with h | ⟨b, o, e, hb, h⟩
  · exact .inl h
  · exact .inr ⟨b, o, e, Nat.lt_of_lt_of_le hb H.size, fun j hj => (h j hj).below H⟩
theorem Txs.at {N : Nat → Prop} {M : Nat} {w : World} {a : Option Addr} {xs : List Tx} (h : Txs N M w a xs) (j : Nat) (hj : j < xs.length) : ∃ b o, a = some ⟨b, o, none⟩ ∧ b < w.heap.size ∧ TxAt N M w b (o + j * 3) xs[j] := by
  rcases h with h | ⟨b, o, e, hb, h⟩
  · subst h; simp at hj
  · exact ⟨b, o, e, hb, h j hj⟩
theorem TxAt.blk {N : Nat → Prop} {M : Nat} {w w' : World} {b o : Nat} {x : Tx} (h : TxAt N M w b o x) (hc : ∀ i, i < 3 → w'.cell? ⟨b, o + i, none⟩ = w.cell? ⟨b, o + i, none⟩) (hb : ∀ c, N c → w'.heap[c]? = w.heap[c]?) (hs : w.heap.size ≤ w'.heap.size) : TxAt N M w' b o x := by
  obtain ⟨a, cap, k0, k1, q1, q2, q3, q4, q5⟩ := h
  refine ⟨a, cap, (hc 0 (by omega)).trans k0, (hc 1 (by omega)).trans k1, (hc 2 (by omega)).trans q1, q2, q3, ?_, q5⟩
  rcases q4 with q4 | ⟨c, off, e, hb', hp⟩
  · exact .inl q4
  · have hcc := hb c (q5 c off e)
    refine .inr ⟨c, off, e, by omega, fun k hk => (hp k hk).blk (fun i _ => by simp only [World.cell?, hcc]) hb hs⟩
def txS (xs : List Tx) : Prop := xs.length ≤ 1048576 ∧ ∀ m (h : m < xs.length), chS xs[m].2.2
theorem Txs.small {N : Nat → Prop} {M : Nat} {w : World} {a : Option Addr} {xs : List Tx} (h : Txs N M w a xs) (hs : txS xs) : Txs N 1099511627776 w a xs := by
  rcases h with h | ⟨b, o, e, hb, h⟩
  · exact .inl h
  · refine .inr ⟨b, o, e, hb, fun j hj => ?_⟩
    obtain ⟨a, cap, k0, k1, q1, q2, q3, q4, q5⟩ := h j hj
    have hj2 := hs.2 j hj
    exact ⟨a, cap, k0, k1, q1, q2, by have := hj2.1; omega, q4.small hj2, q5⟩
theorem put_tx {w : World} {B k n b : Nat} {xs : List Tx} (hk : k < xs.length) (hn : xs.length = n) (h : ∀ j (hj : j < xs.length), j < k → TxAt (fun c => B < c) 1099511627776 w B (j * 3) xs[j]) (ht : w.there B 0 (n * 3)) (hb : B < b) (hm : xs[k].2.2.length ≤ 1099511627776) (ho : b < w.heap.size ∧ ChsAt (fun c => b < c) 1099511627776 w b 0 xs[k].2.2) :
    (∀ j (hj : j < xs.length), j < k + 1 → TxAt (fun c => B < c) 1099511627776 (((w.setCell ⟨B, k * 3, none⟩ (.int .i64 xs[k].1)).setCell ⟨B, k * 3 + 1, none⟩ (.bool xs[k].2.1)).setCell ⟨B, k * 3 + 2, none⟩ (.slice (some ⟨b, 0, none⟩) xs[k].2.2.length xs[k].2.2.length)) B (j * 3) xs[j]) ∧ (((w.setCell ⟨B, k * 3, none⟩ (.int .i64 xs[k].1)).setCell ⟨B, k * 3 + 1, none⟩ (.bool xs[k].2.1)).setCell ⟨B, k * 3 + 2, none⟩ (.slice (some ⟨b, 0, none⟩) xs[k].2.2.length xs[k].2.2.length)).there B 0 (n * 3) := by
  subst hn
  have e : (((w.setCell ⟨B, k * 3, none⟩ (.int .i64 xs[k].1)).setCell ⟨B, k * 3 + 1, none⟩ (.bool xs[k].2.1)).setCell ⟨B, k * 3 + 2, none⟩ (.slice (some ⟨b, 0, none⟩) xs[k].2.2.length xs[k].2.2.length)) = w.setCells B (k * 3) [.int .i64 xs[k].1, .bool xs[k].2.1, .slice (some ⟨b, 0, none⟩) xs[k].2.2.length xs[k].2.2.length] := rfl
  have hblk : ∀ c, B < c → (w.setCells B (k * 3) [.int .i64 xs[k].1, .bool xs[k].2.1, .slice (some ⟨b, 0, none⟩) xs[k].2.2.length xs[k].2.2.length]).heap[c]? = w.heap[c]? := by
    intro c hc
    rw [← e]
    rw [Below.heap_setCell _ _ _ _ (by dsimp only; omega), Below.heap_setCell _ _ _ _ (by dsimp only; omega), Below.heap_setCell _ _ _ _ (by dsimp only; omega)]
  have hsz : (w.setCells B (k * 3) [.int .i64 xs[k].1, .bool xs[k].2.1, .slice (some ⟨b, 0, none⟩) xs[k].2.2.length xs[k].2.2.length]).heap.size = w.heap.size := by
    rw [← e]; simp
  rw [e]
  have hth : w.there B (k * 3) 3 := by
    intro j hj
    have := ht (k * 3 + j) (by omega)
    rwa [Nat.zero_add] at this
  have hr := World.rangeAt_setCells_same w B (k * 3) [.int .i64 xs[k].1, .bool xs[k].2.1, .slice (some ⟨b, 0, none⟩) xs[k].2.2.length xs[k].2.2.length] hth
  refine ⟨?_, World.there_setCells ht _ _ _⟩
  intro j hj hjk
  by_cases ej : j = k
  · subst ej
    refine ⟨some ⟨b, 0, none⟩, xs[j].2.2.length, by simpa using hr 0 _ rfl, hr 1 _ rfl, hr 2 _ rfl, Nat.le_refl _, hm, .inr ⟨b, 0, rfl, by rw [hsz]; exact ho.1, fun i hi => by
      obtain ⟨a', cap', p0, p1, p2, p3, p4, p5, p6, p7⟩ := (ho.2 i hi).blk (w' := w.setCells B (j * 3) [.int .i64 xs[j].1, .bool xs[j].2.1, .slice (some ⟨b, 0, none⟩) xs[j].2.2.length xs[j].2.2.length]) (fun i _ => by simp only [World.cell?, hblk b hb]) (fun c hc => hblk c (by omega)) (by omega)
      exact ⟨a', cap', p0, p1, p2, p3, p4, p5, p6, fun c off e => (by have := p7 c off e; omega)⟩⟩, fun c off e => (by cases e; exact hb)⟩
  · exact (h j hj (by omega)).blk (fun i hi => World.cell?_setCells_out B _ (k * 3) w ⟨B, j * 3 + i, none⟩ (fun _ _ => by left; show j * 3 + i < k * 3; omega)) (fun c hc => hblk c hc) (by omega)
end Go.Proofs.YtckhhmhfdciokaaGreat
namespace Go.Proofs.YtckhhmhfdciokaaGreat
open Go.RowKit
set_option linter.unusedSimpArgs false
set_option linter.unusedVariables false
def ChO (hi : Nat) (w : World) (B o : Nat) (x : Ch) : Prop := ∃ c, w.cell? ⟨B, o + 3, none⟩ = some (.slice (some ⟨c, 0, none⟩) x.2.2.2.length x.2.2.2.length) ∧ B < c ∧ c < hi ∧ w.there c 0 (x.2.2.2.length * 2)
def ChsO (hi : Nat) (w : World) (B : Nat) (xs : List Ch) : Prop := w.there B 0 (xs.length * 4) ∧ ∀ j (h : j < xs.length), ChO hi w B (j * 4) xs[j]
def TxO (hi : Nat) (w : World) (B o : Nat) (x : Tx) (c : Nat) : Prop := w.cell? ⟨B, o + 2, none⟩ = some (.slice (some ⟨c, 0, none⟩) x.2.2.length x.2.2.length) ∧ B < c ∧ c < hi ∧ ChsO hi w c x.2.2
/-- Transactions whose lists may be written into: those of each lie from its block on, below its bound, one behind the other. -/
def TxsO (hi : Nat) (w : World) (B : Nat) (xs : List Tx) : Prop := w.there B 0 (xs.length * 3) ∧ ∃ c h : Nat → Nat, (∀ j (hj : j < xs.length), TxO (h j) w B (j * 3) xs[j] (c j) ∧ h j ≤ hi) ∧ ∀ i j, i < j → j < xs.length → h i ≤ c j
theorem ChO.below {hi : Nat} {w w' : World} {B o : Nat} {x : Ch} (h : ChO hi w B o x) (hh : hi ≤ w.heap.size) (H : Below w.heap.size w w') : ChO hi w' B o x := by
  obtain ⟨c, h0, h1, h2, h3⟩ := h
  exact ⟨c, keepcell H h0, h1, h2, there_below h3 (by omega) H⟩
theorem ChO.mono {hi hi' : Nat} {w : World} {B o : Nat} {x : Ch} (h : ChO hi w B o x) (hh : hi ≤ hi') : ChO hi' w B o x := by
  obtain ⟨c, h0, h1, h2, h3⟩ := h
  exact ⟨c, h0, h1, by omega, h3⟩
theorem ChO.set {hi : Nat} {w : World} {B o q k : Nat} {x : Ch} (h : ChO hi w B o x) (hq : q ≠ B ∨ k ≠ o + 3) (u : Value) : ChO hi (w.setCell ⟨q, k, none⟩ u) B o x := by
  obtain ⟨c, h0, h1, h2, h3⟩ := h
  refine ⟨c, ?_, h1, h2, there_set h3 _⟩
  rw [World.cell?_setCell_other _ _ _ _ (by intro e; injection e; omega)]
  exact h0
theorem ChsO.below {hi : Nat} {w w' : World} {B : Nat} {xs : List Ch} (h : ChsO hi w B xs) (hb : B < w.heap.size) (hh : hi ≤ w.heap.size) (H : Below w.heap.size w w') : ChsO hi w' B xs := ⟨there_below h.1 hb H, fun j hj => (h.2 j hj).below hh H⟩
theorem ChsO.mono {hi hi' : Nat} {w : World} {B : Nat} {xs : List Ch} (h : ChsO hi w B xs) (hh : hi ≤ hi') : ChsO hi' w B xs := ⟨h.1, fun j hj => (h.2 j hj).mono hh⟩
theorem ChsO.set {hi : Nat} {w : World} {B q k : Nat} {xs : List Ch} (h : ChsO hi w B xs) (hq : q ≠ B) (u : Value) : ChsO hi (w.setCell ⟨q, k, none⟩ u) B xs := ⟨there_set h.1 _, fun j hj => (h.2 j hj).set (.inl hq) u⟩
theorem TxO.below {hi : Nat} {w w' : World} {B o c : Nat} {x : Tx} (h : TxO hi w B o x c) (hh : hi ≤ w.heap.size) (H : Below w.heap.size w w') : TxO hi w' B o x c := by
  obtain ⟨h0, h1, h2, h3⟩ := h
  exact ⟨keepcell H h0, h1, h2, h3.below (by omega) hh H⟩
theorem TxO.set {hi : Nat} {w : World} {B o q k c : Nat} {x : Tx} (h : TxO hi w B o x c) (hq : q < B ∨ (q = B ∧ k ≠ o + 2)) (u : Value) : TxO hi (w.setCell ⟨q, k, none⟩ u) B o x c := by
  obtain ⟨h0, h1, h2, h3⟩ := h
  refine ⟨?_, h1, h2, h3.set (by omega) _⟩
  rw [World.cell?_setCell_other _ _ _ _ (by intro e; injection e; omega)]
  exact h0
theorem TxsO.below {hi : Nat} {w w' : World} {B : Nat} {xs : List Tx} (h : TxsO hi w B xs) (hb : B < w.heap.size) (hh : hi ≤ w.heap.size) (H : Below w.heap.size w w') : TxsO hi w' B xs := by
  obtain ⟨h1, c, f, h2, h3⟩ := h
  exact ⟨there_below h1 hb H, c, f, fun j hj => ⟨(h2 j hj).1.below (by have := (h2 j hj).2; omega) H, (h2 j hj).2⟩, h3⟩
theorem TxsO.set {hi : Nat} {w : World} {B q k : Nat} {xs : List Tx} (h : TxsO hi w B xs) (hq : q < B) (u : Value) : TxsO hi (w.setCell ⟨q, k, none⟩ u) B xs := by
  obtain ⟨h1, c, f, h2, h3⟩ := h
  exact ⟨there_set h1 _, c, f, fun j hj => ⟨(h2 j hj).1.set (.inl hq) u, (h2 j hj).2⟩, h3⟩
theorem TxsO.mono {hi hi' : Nat} {w : World} {B : Nat} {xs : List Tx} (h : TxsO hi w B xs) (hh : hi ≤ hi') : TxsO hi' w B xs := by
  obtain ⟨h1, c, f, h2, h3⟩ := h
  exact ⟨h1, c, f, fun j hj => ⟨(h2 j hj).1, by have := (h2 j hj).2; omega⟩, h3⟩
end Go.Proofs.YtckhhmhfdciokaaGreat
namespace Go.Proofs.YtckhhmhfdciokaaGreat
open Go.RowKit
set_option linter.unusedSimpArgs false
set_option linter.unusedVariables false
theorem grown_cell {w w' : World} {c B k : Nat} (g : w.grownBy w' (some c)) (hB : B < w.heap.size) (h : c ≠ B) : w'.cell? ⟨B, k, none⟩ = w.cell? ⟨B, k, none⟩ := by
  have := g.block B hB (by intro e; injection e; omega)
  simp only [World.cell?, this]
theorem mid_wide {lo hi lo' hi' : Nat} {w w' : World} (h : Mid lo' hi' w w') (h1 : lo ≤ lo') (h2 : hi' ≤ hi) : Mid lo hi w w' := ⟨h.1, h.2.1, h.2.2.1, h.2.2.2.1, fun k hk h3 => h.2.2.2.2 k hk (by omega)⟩
theorem ChO.mid {lo' hi' hi : Nat} {w w' : World} {B o : Nat} {x : Ch} (h : ChO hi w B o x) (k : Mid lo' hi' w w') (ht : ∀ d m, d < w.heap.size → w.there d 0 m → w'.there d 0 m) (hh : hi ≤ w.heap.size) (hB : hi' ≤ B) : ChO hi w' B o x := by
  obtain ⟨c, h0, h1, h2, h3⟩ := h
  exact ⟨c, mid_cell k h0 (.inr hB), h1, h2, ht _ _ (by omega) h3⟩
theorem ChsO.mid {lo' hi' hi : Nat} {w w' : World} {B : Nat} {xs : List Ch} (h : ChsO hi w B xs) (k : Mid lo' hi' w w') (ht : ∀ d m, d < w.heap.size → w.there d 0 m → w'.there d 0 m) (hb : B < w.heap.size) (hh : hi ≤ w.heap.size) (hB : hi' ≤ B) : ChsO hi w' B xs := ⟨ht _ _ hb h.1, fun j hj => (h.2 j hj).mid k ht hh hB⟩
theorem TxO.mid {lo' hi' hi : Nat} {w w' : World} {B o c : Nat} {x : Tx} (h : TxO hi w B o x c) (k : Mid lo' hi' w w') (ht : ∀ d m, d < w.heap.size → w.there d 0 m → w'.there d 0 m) (hh : hi ≤ w.heap.size) (hB : B < lo' ∨ hi' ≤ B) (hc : hi' ≤ c) : TxO hi w' B o x c := by
  obtain ⟨h0, h1, h2, h3⟩ := h
  exact ⟨mid_cell k h0 hB, h1, h2, h3.mid k ht (by omega) hh hc⟩
theorem TxsO.mid {lo' hi' hi : Nat} {w w' : World} {B : Nat} {xs : List Tx} (h : TxsO hi w B xs) (k : Mid lo' hi' w w') (ht : ∀ d m, d < w.heap.size → w.there d 0 m → w'.there d 0 m) (hb : B < w.heap.size) (hh : hi ≤ w.heap.size) (hB : hi' ≤ B) : TxsO hi w' B xs := by
  obtain ⟨h1, c, f, h2, h3⟩ := h
  exact ⟨ht _ _ hb h1, c, f, fun j hj => ⟨(h2 j hj).1.mid k ht (by have := (h2 j hj).2; omega) (.inr hB) (by have := (h2 j hj).1.2.1; omega), (h2 j hj).2⟩, h3⟩
set_option maxRecDepth 100000 in
set_option maxHeartbeats 2000000 in
theorem mark_chs (lo hi B : Nat) (xs : List Ch) (k0 : Int) (w : World) (hlo : lo ≤ B) (hBh : B < hi) (hih : hi ≤ w.heap.size) (hs : chS xs) (h0 : 0 ≤ k0) (h1 : k0 ≤ 4000000000000000000) (ho : ChsO hi w B xs) : Calls Tryz.prog 13 #[.slice (some ⟨B, 0, none⟩) xs.length xs.length, .int .i64 k0] w fun e w' => (∃ v : Int, e = .returned (.int .i64 v) ∧ 0 ≤ v ∧ v ≤ k0 + 2199026401280) ∧ Mid lo hi w w' ∧ (∀ d m, d < w.heap.size → w.there d 0 m → w'.there d 0 m) := by
  have HL := hid hs.2
  have HO := hid ho.2
  have hm := hs.1
  have HTT := hid ho.1
  clear hs ho
  obtain ⟨n, hn⟩ : ∃ n, n = xs.length := ⟨_, rfl⟩
  have HN := hid hn.symm
  rw [← hn] at hm HTT ⊢
  clear hn
  go_enter Tryz.func13, Tryz.ntmps13
  go_wp2_with fail
  go_loopw [1, 5] (fun tk' ti wr => ∃ j : Nat, ∃ k : Int, ti = .int .i64 j ∧ tk' = .int .i64 k ∧ j ≤ n ∧ 0 ≤ k ∧ k ≤ k0 + (j : Int) * 2097155 ∧ Hid (Mid lo hi w wr) ∧ Hid (∀ d m, w.there d 0 m → wr.there d 0 m) ∧ Hid (∀ i, j ≤ i → i < n → wr.cell? ⟨B, i * 4 + 3, none⟩ = w.cell? ⟨B, i * 4 + 3, none⟩)) (fun _ ti _ => n - (intOf ti).toNat)
  case atStart => exact ⟨0, k0, rfl, rfl, Nat.zero_le _, by omega, by omega, hid (mid_refl _ _ _), hid (fun _ _ h => h), hid (fun _ _ _ => rfl)⟩
  case round =>
    obtain ⟨j, k, rfl, rfl, hj, hk0, hk1, HM, HT, HC⟩ := hrel
    by_cases hlt : j < n
    · have c1 : (j : Int) < (n : Int) := by omega
      have hjr : j < xs.length := by rw [HN.out]; exact hlt
      obtain ⟨c, q0, q1, q2, q3⟩ := HO.out j hjr
      have hnp := HL.out j hjr
      generalize xs[j].2.2.2.length = np at *
      have hk2 : k ≤ 4000002199026401280 := by omega
      have hT := HT.out _ _ HTT.out
      rw [← HC.out j (Nat.le_refl _) hlt] at q0
      obtain ⟨u0, z0, y0⟩ := there_at hT (show j * 4 < n * 4 by omega)
      obtain ⟨u1, z1, y1⟩ := there_at hT (show j * 4 + 1 < n * 4 by omega)
      obtain ⟨u2, z2, y2⟩ := there_at hT (show j * 4 + 2 < n * 4 by omega)
      have z1' : ∀ a0, (wr.setCell ⟨B, j * 4, none⟩ a0).cell? ⟨B, j * 4 + 1, none⟩ = some u1 := fun a0 => by rw [World.cell?_setCell_other _ _ _ _ (by simp)]; exact z1
      have z2' : ∀ a0 a1, ((wr.setCell ⟨B, j * 4, none⟩ a0).setCell ⟨B, j * 4 + 1, none⟩ a1).cell? ⟨B, j * 4 + 2, none⟩ = some u2 := fun a0 a1 => by rw [World.cell?_setCell_other _ _ _ _ (by simp), World.cell?_setCell_other _ _ _ _ (by simp)]; exact z2
      have z3' : ∀ a0 a1 a2, (((wr.setCell ⟨B, j * 4, none⟩ a0).setCell ⟨B, j * 4 + 1, none⟩ a1).setCell ⟨B, j * 4 + 2, none⟩ a2).cell? ⟨B, j * 4 + 3, none⟩ = some (.slice (some ⟨c, 0, none⟩) np np) := fun a0 a1 a2 => by rw [World.cell?_setCell_other _ _ _ _ (by simp), World.cell?_setCell_other _ _ _ _ (by simp), World.cell?_setCell_other _ _ _ _ (by simp)]; exact q0
      have y1' : ∀ a0, (wr.setCell ⟨B, j * 4, none⟩ a0).frozen? ⟨B, j * 4 + 1, none⟩ = false := fun a0 => by rw [World.frozen?_setCell]; exact y1
      have y2' : ∀ a0 a1, ((wr.setCell ⟨B, j * 4, none⟩ a0).setCell ⟨B, j * 4 + 1, none⟩ a1).frozen? ⟨B, j * 4 + 2, none⟩ = false := fun a0 a1 => by rw [World.frozen?_setCell, World.frozen?_setCell]; exact y2
      have HM3 := hid (fun a0 a1 a2 => (mid_set (mid_set (mid_set HM.out hlo hBh a0) hlo hBh a1) hlo hBh a2 : Mid lo hi w (((wr.setCell ⟨B, j * 4, none⟩ a0).setCell ⟨B, j * 4 + 1, none⟩ a1).setCell ⟨B, j * 4 + 2, none⟩ a2)))
      have HT3 := hid (fun a0 a1 a2 d m (h : w.there d 0 m) => (there_set (there_set (there_set (HT.out d m h) a0) a1) a2 : (((wr.setCell ⟨B, j * 4, none⟩ a0).setCell ⟨B, j * 4 + 1, none⟩ a1).setCell ⟨B, j * 4 + 2, none⟩ a2).there d 0 m))
      have HC3 := hid (fun a0 a1 a2 i (h1 : j + 1 ≤ i) (h2 : i < n) => (by
        rw [World.cell?_setCell_other _ _ _ _ (by intro e; injection e; omega), World.cell?_setCell_other _ _ _ _ (by intro e; injection e; omega), World.cell?_setCell_other _ _ _ _ (by intro e; injection e; omega)]
        exact HC.out i (by omega) h2 : (((wr.setCell ⟨B, j * 4, none⟩ a0).setCell ⟨B, j * 4 + 1, none⟩ a1).setCell ⟨B, j * 4 + 2, none⟩ a2).cell? ⟨B, i * 4 + 3, none⟩ = w.cell? ⟨B, i * 4 + 3, none⟩))
      have HQ3 := hid q3
      have hws := HM.out.2.2.2.1
      clear hT z1 z2 y1 y2 HM HT HC q3 q0
      go_wp2_with fail
      refine (mark_ptsN _ c np (k + 1 + 1 + 1) (by omega) (by omega) hnp (by simp only [World.size_setCell]; omega) (HT3.out _ _ _ _ _ HQ3.out)).mono ?_
      rintro e w1 ⟨rfl, hg, hth⟩
      have HM5 := hid (mid_grown (HM3.out _ _ _) hg (by omega) q2)
      have HT5 := hid (fun d m (h : w.there d 0 m) => hth d m (HT3.out _ _ _ d m h))
      have HC5 : Hid (∀ i, j + 1 ≤ i → i < n → w1.cell? ⟨B, i * 4 + 3, none⟩ = w.cell? ⟨B, i * 4 + 3, none⟩) := hid (fun i h1 h2 => (grown_cell hg (by simp only [World.size_setCell]; omega) (by omega)).trans (HC3.out _ _ _ i h1 h2))
      clear hg hth HM3 HT3 HC3 z0 z1' z2' z3' y0 y1' y2'
      go_wp2_with fail
      go_roundw
      case rel => exact ⟨j + 1, _, by go_num, rfl, by omega, by omega, by omega, HM5, HT5, HC5⟩
      case measure => simp [intOf]; omega
    · have c1 : (n : Int) ≤ (j : Int) := by omega
      go_wp2_with fail
      go_ret
      exact ⟨⟨_, rfl, hk0, by omega⟩, HM.out, fun d m _ h => HT.out d m h⟩
set_option maxRecDepth 100000 in
set_option maxHeartbeats 2000000 in
theorem mark_rowSB (lo hi B : Nat) (rs : List Rw) (w : World) (hlo : lo ≤ B) (hBh : B < hi) (hih : hi ≤ w.heap.size) (hm : rs.length ≤ 1048576) (hl : ∀ m (h : m < rs.length), rs[m].2.2.2.2.length ≤ 1048576) (ht : w.there B 0 (rs.length * 5)) (ho : RwsO hi w B rs) : Calls Tryz.prog 30 #[.slice (some ⟨B, 0, none⟩) rs.length rs.length, .int .i64 1] w fun e w' => (∃ v : Int, e = .returned (.int .i64 v) ∧ 0 ≤ v ∧ v ≤ 2199027449858) ∧ Mid lo hi w w' ∧ (∀ d m, d < w.heap.size → w.there d 0 m → w'.there d 0 m) := by
  have HL := hid hl
  have HO := hid ho
  clear hl ho
  obtain ⟨n, hn⟩ : ∃ n, n = rs.length := ⟨_, rfl⟩
  have HN := hid hn.symm
  rw [← hn] at hm ht ⊢
  clear hn
  have HTT := hid ht
  clear ht
  go_enter Tryz.func30, Tryz.ntmps30
  go_wp2_with fail
  go_loopw [1, 5] (fun tk' ti wr => ∃ j : Nat, ∃ k : Int, ti = .int .i64 j ∧ tk' = .int .i64 k ∧ j ≤ n ∧ 0 ≤ k ∧ k ≤ 1 + (j : Int) * 2097156 ∧ Hid (Mid lo hi w wr) ∧ Hid (∀ d m, w.there d 0 m → wr.there d 0 m) ∧ Hid (∀ i, j ≤ i → i < n → wr.cell? ⟨B, i * 5 + 4, none⟩ = w.cell? ⟨B, i * 5 + 4, none⟩)) (fun _ ti _ => n - (intOf ti).toNat)
  case atStart => exact ⟨0, 1, rfl, rfl, Nat.zero_le _, by omega, by omega, hid (mid_refl _ _ _), hid (fun _ _ h => h), hid (fun _ _ _ => rfl)⟩
  case round =>
    obtain ⟨j, k, rfl, rfl, hj, hk0, hk1, HM, HT, HC⟩ := hrel
    by_cases hlt : j < n
    · have c1 : (j : Int) < (n : Int) := by omega
      have hjr : j < rs.length := by rw [HN.out]; exact hlt
      obtain ⟨c, q0, q1, q2, q3⟩ := HO.out j hjr
      have hnp := HL.out j hjr
      generalize rs[j].2.2.2.2.length = np at *
      have hk2 : k ≤ 2199027449858 := by omega
      have hT := HT.out _ _ HTT.out
      rw [← HC.out j (Nat.le_refl _) hlt] at q0
      obtain ⟨u0, z0, y0⟩ := there_at hT (show j * 5 < n * 5 by omega)
      obtain ⟨u1, z1, y1⟩ := there_at hT (show j * 5 + 1 < n * 5 by omega)
      obtain ⟨u2, z2, y2⟩ := there_at hT (show j * 5 + 2 < n * 5 by omega)
      obtain ⟨u3, z3, y3⟩ := there_at hT (show j * 5 + 3 < n * 5 by omega)
      have z1' : (wr.setCell ⟨B, j * 5, none⟩ (.int .i64 k)).cell? ⟨B, j * 5 + 1, none⟩ = some u1 := by
        rw [World.cell?_setCell_other _ _ _ _ (by simp)]; exact z1
      have z2' : ((wr.setCell ⟨B, j * 5, none⟩ (.int .i64 k)).setCell ⟨B, j * 5 + 1, none⟩ (.int .i64 (k + 1))).cell? ⟨B, j * 5 + 2, none⟩ = some u2 := by
        rw [World.cell?_setCell_other _ _ _ _ (by simp), World.cell?_setCell_other _ _ _ _ (by simp)]; exact z2
      have z3' : (((wr.setCell ⟨B, j * 5, none⟩ (.int .i64 k)).setCell ⟨B, j * 5 + 1, none⟩ (.int .i64 (k + 1))).setCell ⟨B, j * 5 + 2, none⟩ (.int .i64 (k + 1 + 1))).cell? ⟨B, j * 5 + 3, none⟩ = some u3 := by
        rw [World.cell?_setCell_other _ _ _ _ (by simp), World.cell?_setCell_other _ _ _ _ (by simp), World.cell?_setCell_other _ _ _ _ (by simp)]; exact z3
      have z4' : ((((wr.setCell ⟨B, j * 5, none⟩ (.int .i64 k)).setCell ⟨B, j * 5 + 1, none⟩ (.int .i64 (k + 1))).setCell ⟨B, j * 5 + 2, none⟩ (.int .i64 (k + 1 + 1))).setCell ⟨B, j * 5 + 3, none⟩ (.int .i64 (k + 1 + 1 + 1))).cell? ⟨B, j * 5 + 4, none⟩ = some (.slice (some ⟨c, 0, none⟩) np np) := by
        rw [World.cell?_setCell_other _ _ _ _ (by simp), World.cell?_setCell_other _ _ _ _ (by simp), World.cell?_setCell_other _ _ _ _ (by simp), World.cell?_setCell_other _ _ _ _ (by simp)]; exact q0
      have y1' : (wr.setCell ⟨B, j * 5, none⟩ (.int .i64 k)).frozen? ⟨B, j * 5 + 1, none⟩ = false := by rw [World.frozen?_setCell]; exact y1
      have y2' : ((wr.setCell ⟨B, j * 5, none⟩ (.int .i64 k)).setCell ⟨B, j * 5 + 1, none⟩ (.int .i64 (k + 1))).frozen? ⟨B, j * 5 + 2, none⟩ = false := by rw [World.frozen?_setCell, World.frozen?_setCell]; exact y2
      have y3' : (((wr.setCell ⟨B, j * 5, none⟩ (.int .i64 k)).setCell ⟨B, j * 5 + 1, none⟩ (.int .i64 (k + 1))).setCell ⟨B, j * 5 + 2, none⟩ (.int .i64 (k + 1 + 1))).frozen? ⟨B, j * 5 + 3, none⟩ = false := by rw [World.frozen?_setCell, World.frozen?_setCell, World.frozen?_setCell]; exact y3
      have hsz : c < ((((wr.setCell ⟨B, j * 5, none⟩ (.int .i64 k)).setCell ⟨B, j * 5 + 1, none⟩ (.int .i64 (k + 1))).setCell ⟨B, j * 5 + 2, none⟩ (.int .i64 (k + 1 + 1))).setCell ⟨B, j * 5 + 3, none⟩ (.int .i64 (k + 1 + 1 + 1))).heap.size := by
        have := HM.out.2.2.2.1
        simp only [World.size_setCell]; omega
      have hM4 : Mid lo hi w ((((wr.setCell ⟨B, j * 5, none⟩ (.int .i64 k)).setCell ⟨B, j * 5 + 1, none⟩ (.int .i64 (k + 1))).setCell ⟨B, j * 5 + 2, none⟩ (.int .i64 (k + 1 + 1))).setCell ⟨B, j * 5 + 3, none⟩ (.int .i64 (k + 1 + 1 + 1))) := mid_set (mid_set (mid_set (mid_set HM.out hlo hBh _) hlo hBh _) hlo hBh _) hlo hBh _
      have hT4 : ∀ d m, w.there d 0 m → ((((wr.setCell ⟨B, j * 5, none⟩ (.int .i64 k)).setCell ⟨B, j * 5 + 1, none⟩ (.int .i64 (k + 1))).setCell ⟨B, j * 5 + 2, none⟩ (.int .i64 (k + 1 + 1))).setCell ⟨B, j * 5 + 3, none⟩ (.int .i64 (k + 1 + 1 + 1))).there d 0 m := fun d m h => there_set (there_set (there_set (there_set (HT.out d m h) _) _) _) _
      have hC4 : ∀ i, j + 1 ≤ i → i < n → ((((wr.setCell ⟨B, j * 5, none⟩ (.int .i64 k)).setCell ⟨B, j * 5 + 1, none⟩ (.int .i64 (k + 1))).setCell ⟨B, j * 5 + 2, none⟩ (.int .i64 (k + 1 + 1))).setCell ⟨B, j * 5 + 3, none⟩ (.int .i64 (k + 1 + 1 + 1))).cell? ⟨B, i * 5 + 4, none⟩ = w.cell? ⟨B, i * 5 + 4, none⟩ := fun i h1 h2 => by
        rw [World.cell?_setCell_other _ _ _ _ (by intro e; injection e; omega), World.cell?_setCell_other _ _ _ _ (by intro e; injection e; omega), World.cell?_setCell_other _ _ _ _ (by intro e; injection e; omega), World.cell?_setCell_other _ _ _ _ (by intro e; injection e; omega)]
        exact HC.out i (by omega) h2
      have HM4 := hid hM4
      have HT4 := hid hT4
      have HC4 := hid hC4
      have MP := hid (mark_ptsN _ c np (k + 1 + 1 + 1 + 1) (by omega) (by omega) hnp hsz (hT4 _ _ q3))
      clear hM4 hT4 hC4 q0 q3 hT z1 z2 z3 y1 y2 y3 HM HT HC
      go_wp2_with fail
      refine MP.out.mono ?_
      rintro e w1 ⟨rfl, hg, hth⟩
      have HM5 := hid (mid_grown HM4.out hg (by omega) q2)
      have HT5 := hid (fun d m (h : w.there d 0 m) => hth d m (HT4.out d m h))
      have HC5 : Hid (∀ i, j + 1 ≤ i → i < n → w1.cell? ⟨B, i * 5 + 4, none⟩ = w.cell? ⟨B, i * 5 + 4, none⟩) := hid (fun i h1 h2 => by
        rw [← HC4.out i h1 h2]
        have hBs : B < ((((wr.setCell ⟨B, j * 5, none⟩ (.int .i64 k)).setCell ⟨B, j * 5 + 1, none⟩ (.int .i64 (k + 1))).setCell ⟨B, j * 5 + 2, none⟩ (.int .i64 (k + 1 + 1))).setCell ⟨B, j * 5 + 3, none⟩ (.int .i64 (k + 1 + 1 + 1))).heap.size := by omega
        have := hg.block B hBs (by intro e; injection e; omega)
        simp only [World.cell?, this])
      clear hg hth MP HM4 HT4 HC4 hsz
      go_wp2_with fail
      go_roundw
      case rel => exact ⟨j + 1, _, by go_num, rfl, by omega, by omega, by omega, HM5, HT5, HC5⟩
      case measure => simp [intOf]; omega
    · have c1 : (n : Int) ≤ (j : Int) := by omega
      go_wp2_with fail
      go_ret
      exact ⟨⟨_, rfl, hk0, by omega⟩, HM.out, fun d m _ h => HT.out d m h⟩
set_option maxHeartbeats 400000 in
theorem mark_rowsB (lo hi B : Nat) (now : Int) (rs : List Rw) (w : World) (hlo : lo ≤ B) (hBh : B < hi) (hih : hi ≤ w.heap.size) (hm : rs.length ≤ 1048576) (hl : ∀ m (h : m < rs.length), rs[m].2.2.2.2.length ≤ 1048576) (ht : w.there B 0 (rs.length * 5)) (ho : RwsO hi w B rs) : Calls Tryz.prog 12 #[.agg #[.int .i64 now, .slice (some ⟨B, 0, none⟩) rs.length rs.length], .int .i64 1] w fun e w' => (∃ v : Int, e = .returned (.int .i64 v) ∧ 0 ≤ v ∧ v ≤ 2199027449858) ∧ Mid lo hi w w' ∧ (∀ d m, d < w.heap.size → w.there d 0 m → w'.there d 0 m) := by
  have hB : Below w.heap.size w (w.alloc (.cells #[.int .i64 now, .slice (some ⟨B, 0, none⟩) rs.length rs.length] 30)) := balloc (Below.refl _ _) _
  have HM := hid (mark_rowSB lo hi B rs _ hlo hBh (Nat.le_trans hih hB.size) hm hl (there_below ht (by omega) hB) (ho.below hih hB))
  clear ht ho hl
  go_enter Tryz.func12, Tryz.ntmps12
  go_wp2_with fail
  refine HM.out.mono ?_
  rintro e w1 ⟨⟨v, rfl, hv, hv'⟩, hmid, hth⟩
  have HTH := hid (fun d m (h' : d < w.heap.size) (h : w.there d 0 m) => hth d m (Nat.lt_of_lt_of_le h' hB.size) (there_below h h' hB))
  have HMM := hid (mid_trans (mid_below hB) hmid)
  clear hmid hth
  go_wp2_with fail
  go_ret
  exact ⟨⟨_, rfl, hv, hv'⟩, HMM.out, HTH.out⟩
end Go.Proofs.YtckhhmhfdciokaaGreat
