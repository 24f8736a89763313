/- Texts of stores, joined: Vb, Hd, Sa. -/
import Derived.Deep.RegionHeld3
import Derived.Test.YtenlhgnobfadgaaGreatDoorJ8
import Derived.Test.YtenlhgnobfadgaaGreatDoorDrawS3
import Derived.Deep.SlicePairs
set_option maxRecDepth 100000
set_option maxHeartbeats 8000000
set_option linter.unusedSimpArgs false
set_option linter.unusedVariables false
namespace Go.Proofs.YtenlhgnobfadgaaGreatDoor
open Go.RowKit
def elR (r : Rw) (c cap : Nat) : El := (r.1, r.2.1, r.2.2.1, r.2.2.2.1, some ⟨c, 0, none⟩, r.2.2.2.2.length, cap)
def RowsX (base hi : Nat) (w : World) (v : Value) (rs : List Rw) (xs : List El) : Prop :=
 xs.length = rs.length ∧ w.ownsRow base 65 5 v rs.length (flat5 xs) ∧ (∀ g, v.ownBlock = some g → g < hi) ∧ hi ≤ w.heap.size ∧
 ∃ c cp : Nat → Nat, (∀ j (h : j < rs.length), xs[j]? = some (elR rs[j] (c j) (cp j)) ∧ rs[j].2.2.2.2.length ≤ cp j ∧ rs[j].2.2.2.2.length ≤ 1099511627776 ∧ base ≤ c j ∧ c j < hi ∧ v.ownBlock ≠ some (c j) ∧ PtsOwn w (c j) rs[j].2.2.2.2) ∧ (∀ i j, i < j → j < rs.length → c i ≠ c j)
theorem own_frame {w w' : World} {B : Nat} {e : TypeId} {sz : Nat} {v : Value} {n : Nat} {xs : List Value} (h : w.ownsRow B e sz v n xs) (hb : ∀ g, v.ownBlock = some g → w'.heap[g]? = w.heap[g]?) : w'.ownsRow B e sz v n xs := by
 refine ⟨h.1, ?_⟩
 rcases h.2 with q | ⟨g, c, cur, e1, q1, q2, q3⟩
 ·exact .inl q
 ·refine .inr ⟨g, c, cur, e1, q1, ?_, q3⟩
  rw [hb g (by rw [e1]; rfl)]; exact q2
theorem RowsX.frame {base hi : Nat} {w w' : World} {v : Value} {rs : List Rw} {xs : List El} (h : RowsX base hi w v rs xs) (hb : ∀ c, base ≤ c → c < hi → w'.heap[c]? = w.heap[c]?) (hs : w.heap.size ≤ w'.heap.size) : RowsX base hi w' v rs xs := by
 obtain ⟨h1, h2, h3, h4, c, cp, h5, h6⟩ := h
 refine ⟨h1, own_frame h2 (fun g e => hb g (h2.lt g e).1 (h3 g e)), h3, by omega, c, cp, fun j hj => ?_, h6⟩
 obtain ⟨a1, a2, a3, a4, a5, a6, a7⟩ := h5 j hj
 exact ⟨a1, a2, a3, a4, a5, a6, own_blk a7 (hb _ a4 a5) (by omega)⟩
theorem RowsX.below {base hi : Nat} {w w' : World} {v : Value} {rs : List Rw} {xs : List El} (h : RowsX base hi w v rs xs) (H : Below w.heap.size w w') : RowsX base hi w' v rs xs :=
 h.frame (fun c _ h2 => H.block c (by have := h.2.2.2.1; omega)) H.size
theorem RowsX.mono {base base' hi hi' : Nat} {w : World} {v : Value} {rs : List Rw} {xs : List El} (h : RowsX base hi w v rs xs) (hb : base' ≤ base) (hh : hi ≤ hi') (hs : hi' ≤ w.heap.size) : RowsX base' hi' w v rs xs := by
 obtain ⟨h1, h2, h3, h4, c, cp, h5, h6⟩ := h
 refine ⟨h1, ⟨h2.1, ?_⟩, fun g e => by have := h3 g e; omega, hs, c, cp, fun j hj => ?_, h6⟩
 ·rcases h2.2 with q | ⟨g, cc, cur, e1, q1, q2, q3⟩
  ·exact .inl q
  ·exact .inr ⟨g, cc, cur, e1, by omega, q2, q3⟩
 ·obtain ⟨a1, a2, a3, a4, a5, a6, a7⟩ := h5 j hj
  exact ⟨a1, a2, a3, by omega, by omega, a6, a7⟩
theorem RowsX.nil {base hi : Nat} {w : World} {v : Value} (h : w.ownsRow base 65 5 v 0 []) (h3 : ∀ g, v.ownBlock = some g → g < hi) (h4 : hi ≤ w.heap.size) : RowsX base hi w v [] [] :=
 ⟨rfl, by simpa [flat5] using h, h3, h4, fun _ => 0, fun _ => 0, fun j hj => absurd hj (by simp), fun i j _ hj => absurd hj (by simp)⟩
theorem RowsX.snoc {base hi : Nat} {W w' : World} {v : Value} {rs : List Rw} {xs : List El} {r : Rw} {c cp g cap : Nat} (h : RowsX base hi W v rs xs) (hcb : base ≤ c) (hc1 : hi ≤ c) (hc2 : c < W.heap.size) (hcp : r.2.2.2.2.length ≤ cp) (hl : r.2.2.2.2.length ≤ 1099511627776) (hp : PtsOwn W c r.2.2.2.2)
  (hown : w'.ownsRow base 65 5 (.slice (some ⟨g, 0, none⟩) (rs.length + 1) cap) (rs.length + 1) (flat5 xs ++ ev (elR r c cp))) (hg : W.grownBy w' v.ownBlock) (hat : v.ownBlock = some g ∨ g = W.heap.size) (hlt : g < w'.heap.size) :
  RowsX base w'.heap.size w' (.slice (some ⟨g, 0, none⟩) (rs.length + 1) cap) (rs ++ [r]) (xs ++ [elR r c cp]) := by
 obtain ⟨h1, h2, h3, h4, cf, cpf, h5, h6⟩ := h
 have hgc : ∀ d, d < W.heap.size → v.ownBlock ≠ some d → g ≠ d := by
  intro d hd hne e
  subst e
  rcases hat with q | q
  ·exact hne q
  ·omega
 have hvc : v.ownBlock ≠ some c := fun e => by have := h3 c e; omega
 have hlr : (rs ++ [r]).length = rs.length + 1 := by simp
 refine ⟨by simp [h1], by rw [flat5_snoc, hlr]; exact hown, fun g' e => by simp [Value.ownBlock] at e; omega, Nat.le_refl _, fun j => if j = rs.length then c else cf j, fun j => if j = rs.length then cp else cpf j, fun j hj => ?_, fun i j hij hj => ?_⟩
 ·by_cases e : j = rs.length
  ·subst e
   simp only [if_true]
   have er : (rs ++ [r])[rs.length]'(by simp) = r := by simp
   rw [er]
   refine ⟨by rw [← h1]; simp, hcp, hl, hcb, by have := hg.size; omega, by simp only [Value.ownBlock, ne_eq, Option.some.injEq]; exact hgc c hc2 hvc, own_blk hp (hg.block c hc2 (fun e => hvc e.symm)) (by have := hg.size; omega)⟩
  ·have hjl : j < rs.length := by simp at hj; omega
   simp only [if_neg e]
   have er : (rs ++ [r])[j]'(by simpa using hj) = rs[j] := by rw [List.getElem_append_left hjl]
   rw [er]
   obtain ⟨a1, a2, a3, a4, a5, a6, a7⟩ := h5 j hjl
   refine ⟨by rw [List.getElem?_append_left (by omega)]; exact a1, a2, a3, a4, by have := hg.size; omega, by simp only [Value.ownBlock, ne_eq, Option.some.injEq]; exact hgc _ (by omega) a6, own_blk a7 (hg.block _ (by omega) (fun e => a6 e.symm)) (by have := hg.size; omega)⟩
 ·have hil : i < rs.length := by simp at hj; omega
  simp only [if_neg (show i ≠ rs.length by omega)]
  by_cases e : j = rs.length
  ·simp only [if_pos e]
   obtain ⟨_, _, _, _, a5, _⟩ := h5 i hil
   omega
  ·simp only [if_neg e]
   exact h6 i j hij (by simp at hj; omega)
def RowC (w : World) (g o : Nat) (r : Rw) (c cp : Nat) : Prop := w.cell? ⟨g, o, none⟩ = some (.int .i64 r.1) ∧ w.cell? ⟨g, o + 1, none⟩ = some (.int .i64 r.2.1) ∧ w.cell? ⟨g, o + 2, none⟩ = some (.int .i64 r.2.2.1) ∧ w.cell? ⟨g, o + 3, none⟩ = some (.int .i64 r.2.2.2.1) ∧ w.cell? ⟨g, o + 4, none⟩ = some (.slice (some ⟨c, 0, none⟩) r.2.2.2.2.length cp) ∧ PtsOwn w c r.2.2.2.2
theorem RowC.at {w : World} {g o : Nat} {r : Rw} {c cp : Nat} (h : RowC w g o r c cp) (h1 : r.2.2.2.2.length ≤ cp) (h2 : r.2.2.2.2.length ≤ 1099511627776) : RwAt (fun _ => True) w g o r := by
 obtain ⟨a0, a1, a2, a3, a4, a5⟩ := h
 exact ⟨_, _, a0, a1, a2, a3, a4, h1, h2, a5.pts, fun _ _ _ => trivial⟩
theorem RowsX.rows {base hi : Nat} {w : World} {v : Value} {rs : List Rw} {xs : List El} (h : RowsX base hi w v rs xs) : (rs = [] ∧ v.ownBlock = none ∧ v = .slice none 0 0) ∨ ∃ g cap, v = .slice (some ⟨g, 0, none⟩) rs.length cap ∧ base ≤ g ∧ g < hi ∧ hi ≤ w.heap.size ∧ rs.length ≤ cap ∧ w.there g 0 (rs.length * 5) ∧ ∃ c cp : Nat → Nat, (∀ j (h : j < rs.length), RowC w g (j * 5) rs[j] (c j) (cp j) ∧ rs[j].2.2.2.2.length ≤ cp j ∧ rs[j].2.2.2.2.length ≤ 1099511627776 ∧ base ≤ c j ∧ c j < hi ∧ c j ≠ g) ∧ (∀ i j, i < j → j < rs.length → c i ≠ c j) := by
 obtain ⟨h1, h2, h3, h4, c, cp, h5, h6⟩ := h
 have h2' := h2
 rcases h2.2 with ⟨q, hn⟩ | ⟨g, cap, cur, rfl, hb, hg, hc, _⟩
 ·left
  subst q
  exact ⟨List.length_eq_zero_iff.1 hn, rfl, rfl⟩
 ·right
  refine ⟨g, cap, rfl, hb, h3 g rfl, h4, hc, fun j hj => ?_, c, cp, fun j hj => ?_, h6⟩
  ·simp only [Nat.zero_add]
   refine ⟨?_, World.ownsRow.frozenAt h2' j⟩
   rw [World.ownsRow.cellAt h2' j hj, List.getElem?_eq_getElem (by rw [flat5_len, h1]; exact hj)]
   rfl
  ·obtain ⟨a1, a2, a3, a4, a5, a6, a7⟩ := h5 j hj
   have hjx : j < xs.length := by omega
   have ex : xs[j] = elR rs[j] (c j) (cp j) := by
    rw [List.getElem?_eq_getElem hjx] at a1
    exact Option.some.inj a1
   obtain ⟨f0, f1, f2, f3, f4⟩ := flat5_at xs j hjx
   rw [ex] at f0 f1 f2 f3 f4
   refine ⟨⟨?_, ?_, ?_, ?_, ?_, a7⟩, a2, a3, a4, a5, fun e => a6 (by rw [e]; rfl)⟩
   ·rw [World.ownsRow.cellAt h2' _ (by omega)]; exact f0
   ·rw [World.ownsRow.cellAt h2' _ (by omega)]; exact f1
   ·rw [World.ownsRow.cellAt h2' _ (by omega)]; exact f2
   ·rw [World.ownsRow.cellAt h2' _ (by omega)]; exact f3
   ·rw [World.ownsRow.cellAt h2' _ (by omega)]; exact f4
theorem RowsX.rws {base hi : Nat} {w : World} {a : Option Addr} {n cap : Nat} {rs : List Rw} {xs : List El} (h : RowsX base hi w (.slice a n cap) rs xs) : Rws (fun _ => True) w a rs := by
 rcases h.rows with ⟨rfl, _⟩ | ⟨g, cp, e, h1, h2, h3, h4, h5, c, cpf, h6, h7⟩
 ·exact .inl rfl
 ·cases e
  exact .inr ⟨g, 0, rfl, by omega, fun j hj => by
   obtain ⟨a1, a2, a3, _⟩ := h6 j hj
   rw [Nat.zero_add]; exact a1.at a2 a3⟩
def kk (rs : List Rw) (j : Nat) : Int := 1 + ((rs.take j).map (fun r => 4 + 2 * (r.2.2.2.2.length : Int))).sum
def CG (w : World) (p : Nat) (a : Option Addr) (len cap : Nat) (Q : Nat) (id : Int) (gn : Bool) (kd : Int) (vs : Value) (ps : List (Int × Int)) (v : World) : Prop :=
 v.heap[w.heap.size]? = some (.cells #[.int .i64 0, .bool false, .int .i64 0, .slice none 0 0] 50 (0, 0)) ∧ v.heap[Q]? = some (.cells #[.int .i64 id, .bool gn, .int .i64 kd, vs] 50 (0, 0)) ∧ w.heap.size < Q ∧ ps.length ≤ 61 ∧ PtRow v w.heap.size vs ps ∧ vs.ownBlock ≠ some Q ∧ vs.ownBlock ≠ some w.heap.size ∧ Ready v p a len cap ∧ w.grownBy v (some p) ∧ p < w.heap.size
theorem PtRow.grown {w w' : World} {B p : Nat} {v : Value} {ps : List (Int × Int)} (h : PtRow w B v ps) (hg : w.grownBy w' (some p)) (hp : p < B) : PtRow w' B v ps :=
 own_frame h (fun g e => hg.block g (World.ownsRow.lt h g e).2 (fun q => by have := (World.ownsRow.lt h g e).1; injection q with q; omega))
theorem PtRow.low {w : World} {B B' : Nat} {v : Value} {ps : List (Int × Int)} (h : PtRow w B v ps) (hB : B' ≤ B) : PtRow w B' v ps := by
 refine ⟨h.1, ?_⟩
 rcases h.2 with q | ⟨g, c, cur, e1, q1, q2, q3⟩
 ·exact .inl q
 ·exact .inr ⟨g, c, cur, e1, Nat.le_trans hB q1, q2, q3⟩
theorem CG.grown {w : World} {p : Nat} {a : Option Addr} {len cap Q : Nat} {id : Int} {gn : Bool} {kd : Int} {vs : Value} {ps : List (Int × Int)} {v v' : World} (h : CG w p a len cap Q id gn kd vs ps v) (hr : Ready v' p a len cap) (hg : v.grownBy v' (some p)) : CG w p a len cap Q id gn kd vs ps v' := by
 obtain ⟨h1, h2, h3, h4, h5, h6, h7, h8, h9, h10⟩ := h
 exact ⟨grown_blk hg h1 (by omega), grown_blk hg h2 (by omega), h3, h4, h5.grown hg h10, h6, h7, hr, grown_trans h9 hg, h10⟩
theorem CG.id {w : World} {p : Nat} {a : Option Addr} {len cap Q : Nat} {id : Int} {gn : Bool} {kd : Int} {vs : Value} {ps : List (Int × Int)} {v : World} (h : CG w p a len cap Q id gn kd vs ps v) (id' : Int) : CG w p a len cap Q id' gn kd vs ps (v.setCell ⟨Q, 0, none⟩ (.int .i64 id')) := by
 obtain ⟨h1, h2, h3, h4, h5, h6, h7, h8, h9, h10⟩ := h
 exact ⟨set_far h1 (by omega), set_at h2, h3, h4, own_frame h5 (fun g e => Below.heap_setCell _ _ _ _ (fun q => h6 (e.trans (congrArg some q)))), h6, h7, h8.set (by omega) _, grown_setn h9 (by omega) _, h10⟩
theorem CG.sh {w : World} {p : Nat} {a : Option Addr} {len cap Q : Nat} {id : Int} {gn : Bool} {kd : Int} {vs : Value} {ps : List (Int × Int)} {v v' : World} (h : CG w p a len cap Q id gn kd vs ps v) {vs' : Value} {ps' : List (Int × Int)} (hr : Ready v' p a len cap) (hg : v.grownBy v' (some p)) (hl : ps'.length ≤ 61) (hp : PtRow v' v.heap.size vs' ps') (kd' : Int) : CG w p a len cap Q id gn kd' vs' ps' ((v'.setCell ⟨Q, 2, none⟩ (.int .i64 kd')).setCell ⟨Q, 3, none⟩ vs') := by
 have hQ := lt_of_block h.2.1
 have hW := lt_of_block h.1
 have hX := h.grown hr hg
 have n1 : ∀ g, vs'.ownBlock = some g → v.heap.size ≤ g := fun g e => (World.ownsRow.lt hp g e).1
 obtain ⟨h1, h2, h3, h4, h5, h6, h7, h8, h9, h10⟩ := hX
 refine ⟨set_far (set_far h1 (by omega)) (by omega), set_at (set_at h2), h3, hl, PtRow.low (own_frame hp (fun g e => ?_)) (Nat.le_of_lt hW), fun e => by have := n1 _ e; omega, fun e => by have := n1 _ e; omega, (h8.set (by omega) _).set (by omega) _, grown_setn (grown_setn h9 (by omega) _) (by omega) _, h10⟩
 have := n1 g e
 rw [Below.heap_setCell _ _ _ _ (by dsimp only; omega), Below.heap_setCell _ _ _ _ (by dsimp only; omega)]
theorem CG.fin {w : World} {p : Nat} {a : Option Addr} {len cap Q : Nat} {id : Int} {gn : Bool} {kd : Int} {vs : Value} {ps : List (Int × Int)} {v : World} (h : CG w p a len cap Q id gn kd vs ps v) :
  ((((v.setCell ⟨w.heap.size, 0, none⟩ (.int .i64 id)).setCell ⟨w.heap.size, 1, none⟩ (.bool gn)).setCell ⟨w.heap.size, 2, none⟩ (.int .i64 kd)).setCell ⟨w.heap.size, 3, none⟩ vs).heap[w.heap.size]? = some (.cells #[.int .i64 id, .bool gn, .int .i64 kd, vs] 50 (0, 0)) ∧ PtRow ((((v.setCell ⟨w.heap.size, 0, none⟩ (.int .i64 id)).setCell ⟨w.heap.size, 1, none⟩ (.bool gn)).setCell ⟨w.heap.size, 2, none⟩ (.int .i64 kd)).setCell ⟨w.heap.size, 3, none⟩ vs) w.heap.size vs ps ∧ Ready ((((v.setCell ⟨w.heap.size, 0, none⟩ (.int .i64 id)).setCell ⟨w.heap.size, 1, none⟩ (.bool gn)).setCell ⟨w.heap.size, 2, none⟩ (.int .i64 kd)).setCell ⟨w.heap.size, 3, none⟩ vs) p a len cap ∧ w.grownBy ((((v.setCell ⟨w.heap.size, 0, none⟩ (.int .i64 id)).setCell ⟨w.heap.size, 1, none⟩ (.bool gn)).setCell ⟨w.heap.size, 2, none⟩ (.int .i64 kd)).setCell ⟨w.heap.size, 3, none⟩ vs) (some p) := by
 obtain ⟨h1, h2, h3, h4, h5, h6, h7, h8, h9, h10⟩ := h
 refine ⟨set_at (set_at (set_at (set_at h1))), own_frame h5 (fun g e => ?_), (((h8.set h10 _).set h10 _).set h10 _).set h10 _, grown_setn (grown_setn (grown_setn (grown_setn h9 (Nat.le_refl _) _) (Nat.le_refl _) _) (Nat.le_refl _) _) (Nat.le_refl _) _⟩
 have hne : g ≠ w.heap.size := fun q => h7 (e.trans (congrArg some q))
 rw [Below.heap_setCell _ _ _ _ hne, Below.heap_setCell _ _ _ _ hne, Below.heap_setCell _ _ _ _ hne, Below.heap_setCell _ _ _ _ hne]
theorem cell4c {w : World} {p : Nat} {a b c d : Value} {t : TypeId} (h : w.heap[p]? = some (.cells #[a, b, c, d] t (0, 0))) : (w.cell? ⟨p, 0, none⟩ = some a ∧ w.cell? ⟨p, 1, none⟩ = some b ∧ w.cell? ⟨p, 2, none⟩ = some c ∧ w.cell? ⟨p, 3, none⟩ = some d) ∧ w.frozen? ⟨p, 0, none⟩ = false ∧ w.frozen? ⟨p, 1, none⟩ = false ∧ w.frozen? ⟨p, 2, none⟩ = false ∧ w.frozen? ⟨p, 3, none⟩ = false := by
 refine ⟨⟨?_, ?_, ?_, ?_⟩, ?_, ?_, ?_, ?_⟩ <;> simp [World.cell?, World.frozen?, h]
theorem change_r (w : World) (p : Nat) (a : Option Addr) (len cap : Nat) (h : Ready w p a len cap) : Calls Tryz.prog 110 #[.pointer (some ⟨p, 0, none⟩)] w fun e w' => ∃ id : Int, ∃ gn : Bool, ∃ kd : Int, ∃ ps : List (Int × Int), ∃ v, e = .returned (.agg #[.int .i64 id, .bool gn, .int .i64 kd, v]) ∧ ps.length ≤ 61 ∧ PtRow w' w.heap.size v ps ∧ Ready w' p a len cap ∧ w.grownBy w' (some p) := by
 have hp := h.lt
 go_enter Tryz.func110, Tryz.ntmps110
 go_upto_region 1 with fail
 have gR := heap_alloc_new w (.cells #[.int .i64 0, .bool false, .int .i64 0, .slice none 0 0] 50)
 have hr := h.alloc (.cells #[.int .i64 0, .bool false, .int .i64 0, .slice none 0 0] 50)
 have hg := grown_alloc w (.cells #[.int .i64 0, .bool false, .int .i64 0, .slice none 0 0] 50) (some p)
 generalize w.alloc (.cells #[.int .i64 0, .bool false, .int .i64 0, .slice none 0 0] 50) = v0 at *
 clear h
 go_wp2_with fail
 refine (below_r _ p a len cap 6 (by omega) (by omega) hr).mono ?_
 rintro e v1 ⟨x, rfl, hx0, hx1, hr2, hg2⟩
 replace gR := grown_blk hg2 gR (by omega)
 replace hg := grown_trans hg hg2
 clear hr hg2
 go_wp2_with fail
 refine (once_r _ p a len cap 4 (by omega) (by omega) hr2).mono ?_
 rintro e v2 ⟨b, rfl, hr, hg2⟩
 replace gR := grown_blk hg2 gR (by omega)
 replace hg := grown_trans hg hg2
 clear hr2 hg2
 have hwx : IntKind.i64.wrap (1 + x) = 1 + x := by rw [IntKind.wrap_i64]; omega
 go_upto_region 2 with fail
 generalize 1 + x = id at *
 have hlR := lt_of_block gR
 have HC : CG w p a len cap v2.heap.size id b 0 (.slice none 0 0) [] (v2.alloc (.cells #[.int .i64 id, .bool b, .int .i64 0, .slice none 0 0] 50)) := ⟨old_alloc gR, heap_alloc_new v2 _, hlR, by simp, ⟨rfl, .inl ⟨rfl, rfl⟩⟩, by simp [Value.ownBlock], by simp [Value.ownBlock], hr.alloc _, grown_trans hg (grown_alloc _ _ _), hp⟩
 clear gR hr hg hlR hx0 hx1 hwx
 generalize v2.alloc (.cells #[.int .i64 id, .bool b, .int .i64 0, .slice none 0 0] 50) = v3 at *
 generalize v2.heap.size = Q at *
 have H := hid HC
 clear HC
 cases b
 ·skip
  obtain ⟨⟨k0, k1, k2, k3⟩, j0, j1, j2, j3⟩ := cell4c H.out.2.1
  go_wp2_with fail
  refine (right_r _ p a len cap H.out.2.2.2.2.2.2.2.1).mono ?_
  rintro e v4 ⟨kd, ps, vs, rfl, hl1, hl2, hrow, hr, hg⟩
  obtain ⟨ao, cp, rfl, _, _⟩ := hrow.pts
  clear k0 k1 k2 k3 j0 j1 j2 j3
  obtain ⟨⟨k0, k1, k2, k3⟩, j0, j1, j2, j3⟩ := cell4c (H.out.grown hr hg).2.1
  replace H := hid (H.out.sh hr hg (by omega) hrow kd)
  clear hr hg hrow
  go_upto_region 4 with fail
  clear k0 k1 k2 k3 j0 j1 j2 j3
  generalize (v4.setCell ⟨Q, 2, none⟩ (.int .i64 kd)).setCell ⟨Q, 3, none⟩ (.slice ao ps.length cp) = v4x at *
  go_wp2_with fail
  refine (below_r _ p a len cap 30 (by omega) (by omega) H.out.2.2.2.2.2.2.2.1).mono ?_
  rintro e v5 ⟨x, rfl, hx0, hx1, hr, hg⟩
  replace H := hid (H.out.grown hr hg)
  clear hr hg
  by_cases hx : x = 0
  ·subst hx
   have hr := H.out.2.2.2.2.2.2.2.1
   have hpv := hr.lt
   obtain ⟨⟨k0, k1, k2, k3⟩, j0, j1, j2, j3⟩ := cell4c H.out.2.1
   go_wp2_with fail
   refine (pick_p (fun _ => True) _ p a len cap _ 3 (by omega) (by omega) (by omega) (intsP_new (fun _ => True) v5 [0, 999999999, 1000000000] 3 (fun _ _ => trivial)) (hr.alloc _)).mono ?_
   rintro e v6 ⟨id', rfl, _, hr2, hg2⟩
   replace H := hid (H.out.grown hr2 (grown_trans (grown_alloc _ _ _) hg2))
   clear k0 k1 k2 k3 j0 j1 j2 j3
   clear hr hpv hr2 hg2
   obtain ⟨⟨k0, k1, k2, k3⟩, j0, j1, j2, j3⟩ := cell4c H.out.2.1
   go_upto_region 9 with fail
   replace H := hid (H.out.id id')
   clear k0 k1 k2 k3 j0 j1 j2 j3
   generalize v6.setCell ⟨Q, 0, none⟩ (.int .i64 id') = v7 at *
   obtain ⟨⟨k0, k1, k2, k3⟩, j0, j1, j2, j3⟩ := cell4c H.out.2.1
   obtain ⟨_, s0, s1, s2, s3⟩ := cell4c H.out.1
   obtain ⟨gF, pF, rF, wF⟩ := H.out.fin
   have HL := hid H.out.2.2.2.1
   have HP := hid pF
   clear pF H
   go_wp2_with fail
   generalize (((v7.setCell ⟨w.heap.size, 0, none⟩ (.int .i64 id')).setCell ⟨w.heap.size, 1, none⟩ (.bool false)).setCell ⟨w.heap.size, 2, none⟩ (.int .i64 kd)).setCell ⟨w.heap.size, 3, none⟩ (.slice ao ps.length cp) = wf at *
   obtain ⟨⟨z0, z1, z2, z3⟩, _⟩ := cell4c gF
   exact bodyPost_ret (v := .agg #[.int .i64 id', .bool false, .int .i64 kd, (.slice ao ps.length cp)]) (by simp [results, Tryz.results110, go_sem, z0, z1, z2, z3]) rfl ⟨_, _, _, _, _, rfl, HL.out, HP.out, rF, wF⟩
  by_cases hy : x = 1
  ·subst hy
   obtain ⟨⟨k0, k1, k2, k3⟩, j0, j1, j2, j3⟩ := cell4c H.out.2.1
   go_wp2_with fail
   refine (any_r _ p a len cap H.out.2.2.2.2.2.2.2.1).mono ?_
   rintro e v6 ⟨kd', ps', vs', rfl, hl, hrow, hr, hg⟩
   obtain ⟨ao', cp', rfl, _, _⟩ := hrow.pts
   clear k0 k1 k2 k3 j0 j1 j2 j3
   obtain ⟨⟨k0, k1, k2, k3⟩, j0, j1, j2, j3⟩ := cell4c (H.out.grown hr hg).2.1
   replace H := hid (H.out.sh hr hg (by omega) hrow kd')
   clear hr hg hrow
   go_upto_region 9 with fail
   clear k0 k1 k2 k3 j0 j1 j2 j3
   generalize (v6.setCell ⟨Q, 2, none⟩ (.int .i64 kd')).setCell ⟨Q, 3, none⟩ (.slice ao' ps'.length cp') = v7 at *
   obtain ⟨⟨k0, k1, k2, k3⟩, j0, j1, j2, j3⟩ := cell4c H.out.2.1
   obtain ⟨_, s0, s1, s2, s3⟩ := cell4c H.out.1
   obtain ⟨gF, pF, rF, wF⟩ := H.out.fin
   have HL := hid H.out.2.2.2.1
   have HP := hid pF
   clear pF H
   go_wp2_with fail
   generalize (((v7.setCell ⟨w.heap.size, 0, none⟩ (.int .i64 id)).setCell ⟨w.heap.size, 1, none⟩ (.bool false)).setCell ⟨w.heap.size, 2, none⟩ (.int .i64 kd')).setCell ⟨w.heap.size, 3, none⟩ (.slice ao' ps'.length cp') = wf at *
   obtain ⟨⟨z0, z1, z2, z3⟩, _⟩ := cell4c gF
   exact bodyPost_ret (v := .agg #[.int .i64 id, .bool false, .int .i64 kd', (.slice ao' ps'.length cp')]) (by simp [results, Tryz.results110, go_sem, z0, z1, z2, z3]) rfl ⟨_, _, _, _, _, rfl, HL.out, HP.out, rF, wF⟩
  go_upto_region 9 with fail
  obtain ⟨⟨k0, k1, k2, k3⟩, j0, j1, j2, j3⟩ := cell4c H.out.2.1
  obtain ⟨_, s0, s1, s2, s3⟩ := cell4c H.out.1
  obtain ⟨gF, pF, rF, wF⟩ := H.out.fin
  have HL := hid H.out.2.2.2.1
  have HP := hid pF
  clear pF H
  go_wp2_with fail
  generalize (((v5.setCell ⟨w.heap.size, 0, none⟩ (.int .i64 id)).setCell ⟨w.heap.size, 1, none⟩ (.bool false)).setCell ⟨w.heap.size, 2, none⟩ (.int .i64 kd)).setCell ⟨w.heap.size, 3, none⟩ (.slice ao ps.length cp) = wf at *
  obtain ⟨⟨z0, z1, z2, z3⟩, _⟩ := cell4c gF
  exact bodyPost_ret (v := .agg #[.int .i64 id, .bool false, .int .i64 kd, (.slice ao ps.length cp)]) (by simp [results, Tryz.results110, go_sem, z0, z1, z2, z3]) rfl ⟨_, _, _, _, _, rfl, HL.out, HP.out, rF, wF⟩
 ·skip
  obtain ⟨⟨k0, k1, k2, k3⟩, j0, j1, j2, j3⟩ := cell4c H.out.2.1
  go_upto_region 4 with fail
  clear k0 k1 k2 k3 j0 j1 j2 j3
  go_wp2_with fail
  refine (below_r _ p a len cap 30 (by omega) (by omega) H.out.2.2.2.2.2.2.2.1).mono ?_
  rintro e v5 ⟨x, rfl, hx0, hx1, hr, hg⟩
  replace H := hid (H.out.grown hr hg)
  clear hr hg
  by_cases hx : x = 0
  ·subst hx
   have hr := H.out.2.2.2.2.2.2.2.1
   have hpv := hr.lt
   obtain ⟨⟨k0, k1, k2, k3⟩, j0, j1, j2, j3⟩ := cell4c H.out.2.1
   go_wp2_with fail
   refine (pick_p (fun _ => True) _ p a len cap _ 3 (by omega) (by omega) (by omega) (intsP_new (fun _ => True) v5 [0, 999999999, 1000000000] 3 (fun _ _ => trivial)) (hr.alloc _)).mono ?_
   rintro e v6 ⟨id', rfl, _, hr2, hg2⟩
   replace H := hid (H.out.grown hr2 (grown_trans (grown_alloc _ _ _) hg2))
   clear k0 k1 k2 k3 j0 j1 j2 j3
   clear hr hpv hr2 hg2
   obtain ⟨⟨k0, k1, k2, k3⟩, j0, j1, j2, j3⟩ := cell4c H.out.2.1
   go_upto_region 9 with fail
   replace H := hid (H.out.id id')
   clear k0 k1 k2 k3 j0 j1 j2 j3
   generalize v6.setCell ⟨Q, 0, none⟩ (.int .i64 id') = v7 at *
   obtain ⟨⟨k0, k1, k2, k3⟩, j0, j1, j2, j3⟩ := cell4c H.out.2.1
   obtain ⟨_, s0, s1, s2, s3⟩ := cell4c H.out.1
   obtain ⟨gF, pF, rF, wF⟩ := H.out.fin
   have HL := hid H.out.2.2.2.1
   have HP := hid pF
   clear pF H
   go_wp2_with fail
   generalize (((v7.setCell ⟨w.heap.size, 0, none⟩ (.int .i64 id')).setCell ⟨w.heap.size, 1, none⟩ (.bool true)).setCell ⟨w.heap.size, 2, none⟩ (.int .i64 0)).setCell ⟨w.heap.size, 3, none⟩ (.slice none 0 0) = wf at *
   obtain ⟨⟨z0, z1, z2, z3⟩, _⟩ := cell4c gF
   exact bodyPost_ret (v := .agg #[.int .i64 id', .bool true, .int .i64 0, (.slice none 0 0)]) (by simp [results, Tryz.results110, go_sem, z0, z1, z2, z3]) rfl ⟨_, _, _, _, _, rfl, HL.out, HP.out, rF, wF⟩
  by_cases hy : x = 1
  ·subst hy
   obtain ⟨⟨k0, k1, k2, k3⟩, j0, j1, j2, j3⟩ := cell4c H.out.2.1
   go_wp2_with fail
   refine (any_r _ p a len cap H.out.2.2.2.2.2.2.2.1).mono ?_
   rintro e v6 ⟨kd', ps', vs', rfl, hl, hrow, hr, hg⟩
   obtain ⟨ao', cp', rfl, _, _⟩ := hrow.pts
   clear k0 k1 k2 k3 j0 j1 j2 j3
   obtain ⟨⟨k0, k1, k2, k3⟩, j0, j1, j2, j3⟩ := cell4c (H.out.grown hr hg).2.1
   replace H := hid (H.out.sh hr hg (by omega) hrow kd')
   clear hr hg hrow
   go_upto_region 9 with fail
   clear k0 k1 k2 k3 j0 j1 j2 j3
   generalize (v6.setCell ⟨Q, 2, none⟩ (.int .i64 kd')).setCell ⟨Q, 3, none⟩ (.slice ao' ps'.length cp') = v7 at *
   obtain ⟨⟨k0, k1, k2, k3⟩, j0, j1, j2, j3⟩ := cell4c H.out.2.1
   obtain ⟨_, s0, s1, s2, s3⟩ := cell4c H.out.1
   obtain ⟨gF, pF, rF, wF⟩ := H.out.fin
   have HL := hid H.out.2.2.2.1
   have HP := hid pF
   clear pF H
   go_wp2_with fail
   generalize (((v7.setCell ⟨w.heap.size, 0, none⟩ (.int .i64 id)).setCell ⟨w.heap.size, 1, none⟩ (.bool true)).setCell ⟨w.heap.size, 2, none⟩ (.int .i64 kd')).setCell ⟨w.heap.size, 3, none⟩ (.slice ao' ps'.length cp') = wf at *
   obtain ⟨⟨z0, z1, z2, z3⟩, _⟩ := cell4c gF
   exact bodyPost_ret (v := .agg #[.int .i64 id, .bool true, .int .i64 kd', (.slice ao' ps'.length cp')]) (by simp [results, Tryz.results110, go_sem, z0, z1, z2, z3]) rfl ⟨_, _, _, _, _, rfl, HL.out, HP.out, rF, wF⟩
  go_upto_region 9 with fail
  obtain ⟨⟨k0, k1, k2, k3⟩, j0, j1, j2, j3⟩ := cell4c H.out.2.1
  obtain ⟨_, s0, s1, s2, s3⟩ := cell4c H.out.1
  obtain ⟨gF, pF, rF, wF⟩ := H.out.fin
  have HL := hid H.out.2.2.2.1
  have HP := hid pF
  clear pF H
  go_wp2_with fail
  generalize (((v5.setCell ⟨w.heap.size, 0, none⟩ (.int .i64 id)).setCell ⟨w.heap.size, 1, none⟩ (.bool true)).setCell ⟨w.heap.size, 2, none⟩ (.int .i64 0)).setCell ⟨w.heap.size, 3, none⟩ (.slice none 0 0) = wf at *
  obtain ⟨⟨z0, z1, z2, z3⟩, _⟩ := cell4c gF
  exact bodyPost_ret (v := .agg #[.int .i64 id, .bool true, .int .i64 0, (.slice none 0 0)]) (by simp [results, Tryz.results110, go_sem, z0, z1, z2, z3]) rfl ⟨_, _, _, _, _, rfl, HL.out, HP.out, rF, wF⟩
theorem cellk4 {w : World} {p : Nat} {a b c d : Value} {t : TypeId} (h : w.heap[p]? = some (.cells #[a, b, c, d] t (0, 0))) : (w.cell? ⟨p, 0, none⟩ = some a ∧ w.cell? ⟨p, 1, none⟩ = some b ∧ w.cell? ⟨p, 2, none⟩ = some c ∧ w.cell? ⟨p, 3, none⟩ = some d) ∧ w.frozen? ⟨p, 0, none⟩ = false ∧ w.frozen? ⟨p, 1, none⟩ = false ∧ w.frozen? ⟨p, 2, none⟩ = false ∧ w.frozen? ⟨p, 3, none⟩ = false := by
 refine ⟨⟨?_, ?_, ?_, ?_⟩, ?_, ?_, ?_, ?_⟩ <;> simp [World.cell?, World.frozen?, h]
abbrev Ch : Type := Int × Bool × Int × List (Int × Int)
def chv (x : Ch) (a : Option Addr) (cap : Nat) : Value := .agg #[.int .i64 x.1, .bool x.2.1, .int .i64 x.2.2.1, .slice a x.2.2.2.length cap]
def ChAt (N : Nat → Prop) (M : Nat) (w : World) (b o : Nat) (x : Ch) : Prop :=
 ∃ a cap, w.cell? ⟨b, o, none⟩ = some (.int .i64 x.1) ∧ w.cell? ⟨b, o + 1, none⟩ = some (.bool x.2.1) ∧ w.cell? ⟨b, o + 2, none⟩ = some (.int .i64 x.2.2.1) ∧ w.cell? ⟨b, o + 3, none⟩ = some (.slice a x.2.2.2.length cap) ∧ x.2.2.2.length ≤ cap ∧ x.2.2.2.length ≤ M ∧ Pts w a x.2.2.2 ∧ (∀ c off, a = some ⟨c, off, none⟩ → N c)
def ChsAt (N : Nat → Prop) (M : Nat) (w : World) (b o : Nat) (xs : List Ch) : Prop := ∀ j (h : j < xs.length), ChAt N M w b (o + j * 4) xs[j]
def Chs (N : Nat → Prop) (M : Nat) (w : World) (a : Option Addr) (xs : List Ch) : Prop := xs = [] ∨ ∃ b o, a = some ⟨b, o, none⟩ ∧ b < w.heap.size ∧ ChsAt N M w b o xs
theorem ChAt.below {N : Nat → Prop} {M : Nat} {w w' : World} {b o : Nat} {x : Ch} (h : ChAt N M w b o x) (H : Below w.heap.size w w') : ChAt N M w' b o x := by
 obtain ⟨a, cap, k0, k1, k2, q1, q2, q3, q4, q5⟩ := h
 exact ⟨a, cap, keepcell H k0, keepcell H k1, keepcell H k2, keepcell H q1, q2, q3, q4.below H, q5⟩
theorem Chs.below {N : Nat → Prop} {M : Nat} {w w' : World} {a : Option Addr} {xs : List Ch} (h : Chs N M w a xs) (H : Below w.heap.size w w') : Chs N M w' a xs := by
 rcases h with h | ⟨b, o, e, hb, h⟩
 ·exact .inl h
 ·exact .inr ⟨b, o, e, Nat.lt_of_lt_of_le hb H.size, fun j hj => (h j hj).below H⟩
theorem Chs.at {N : Nat → Prop} {M : Nat} {w : World} {a : Option Addr} {xs : List Ch} (h : Chs N M w a xs) (j : Nat) (hj : j < xs.length) : ∃ b o, a = some ⟨b, o, none⟩ ∧ b < w.heap.size ∧ ChAt N M w b (o + j * 4) xs[j] := by
 rcases h with h | ⟨b, o, e, hb, h⟩
 ·subst h; simp at hj
 ·exact ⟨b, o, e, hb, h j hj⟩
def chS (xs : List Ch) : Prop := xs.length ≤ 1048576 ∧ ∀ m (h : m < xs.length), xs[m].2.2.2.length ≤ 1048576
theorem Tryz.infoCh : (Tryz.prog.info? 50).map (fun i => (i.zero, i.size, i.bytes)) = some (some (.agg #[.int .i64 0, .bool false, .int .i64 0, .slice none 0 0]), 4, 48) := by kernel_rfl
end Go.Proofs.YtenlhgnobfadgaaGreatDoor
