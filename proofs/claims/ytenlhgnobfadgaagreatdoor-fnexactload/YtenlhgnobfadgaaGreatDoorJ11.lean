/- Texts of stores, joined: DrawP, PutN. -/
import Derived.Test.YtenlhgnobfadgaaGreatDoorJ8
import Derived.Test.YtenlhgnobfadgaaGreatDoorJ10
import Derived.Laws.BitsAllLaws
import Derived.Laws.BytesArg
namespace Go.Proofs.YtenlhgnobfadgaaGreatDoor
open Go.RowKit
set_option linter.unusedVariables false
theorem keepset3 {w : World} {p q : Addr} {v u : Value} (h : w.cell? p = some v) (hne : q.block ≠ p.block) : (w.setCell q u).cell? p = some v := by
  rw [World.cell?_setCell_far _ _ _ _ hne]; exact h
theorem cell2g {w : World} {p : Nat} {a b : Value} {t : TypeId} (h : w.heap[p]? = some (.cells #[a, b] t (0, 0))) : w.cell? ⟨p, 0, none⟩ = some a ∧ w.cell? ⟨p, 1, none⟩ = some b ∧ w.frozen? ⟨p, 0, none⟩ = false ∧ w.frozen? ⟨p, 1, none⟩ = false := by
  refine ⟨?_, ?_, ?_, ?_⟩ <;> simp [World.cell?, World.frozen?, h]
/-- A coordinate that is drawn. -/
def Cd (z : Int) : Prop := -40000 ≤ z ∧ z ≤ 40000
def IntsP (P : Int → Prop) (w : World) (q m : Nat) : Prop := ∀ k, k < m → ∃ z : Int, P z ∧ w.cell? ⟨q, k, none⟩ = some (.int .i64 z)
theorem intsP_new (P : Int → Prop) (w : World) (zs : List Int) (t : TypeId) (hz : ∀ z ∈ zs, P z) : IntsP P (w.alloc (.cells (zs.map (Value.int .i64)).toArray t)) w.heap.size zs.length := by
  intro k hk
  refine ⟨zs[k], hz _ (List.getElem_mem hk), ?_⟩
  have h := heap_alloc_new w (.cells (zs.map (Value.int .i64)).toArray t)
  rw [cell_of_row _ w.heap.size k _ t (0, 0) h]
  simp [hk]
set_option maxHeartbeats 400000 in
theorem pick_p (P : Int → Prop) (w : World) (p : Nat) (a : Option Addr) (len cap : Nat) (q m : Nat) (h0 : 0 < m) (h1 : m ≤ 1000) (hq : q ≠ p) (hi : IntsP P w q m) (h : Ready w p a len cap) : Calls Tryz.prog 72 #[.pointer (some ⟨p, 0, none⟩), .slice (some ⟨q, 0, none⟩) m m] w fun e w' => ∃ z : Int, e = .returned (.int .i64 z) ∧ P z ∧ Ready w' p a len cap ∧ w.grownBy w' (some p) := by
  go_enter Tryz.func72, Tryz.ntmps72
  go_wp2_with fail
  refine (below_r _ p a len cap (m : Int) (by omega) (by omega) h).mono ?_
  rintro e w1 ⟨x, rfl, x0, x1, hr, hg⟩
  obtain ⟨k, rfl⟩ := Int.eq_ofNat_of_zero_le x0
  obtain ⟨z, hz, hc⟩ := hi k (by omega)
  have hc1 := hg.cell hc (fun e => by simp at e; exact hq e)
  clear hc hi h
  go_wp2_with fail
  go_ret
  exact ⟨z, rfl, hz, hr, hg⟩
theorem CurAt.set {w : World} {p : Nat} {a : Option Addr} {len cap : Nat} (h : CurAt w p a len cap) {n k : Nat} (hn : p < n) (u : Value) : CurAt (w.setCell ⟨n, k, none⟩ u) p a len cap := by
  obtain ⟨i, x, hi, hb⟩ := h
  exact ⟨i, x, hi, set_far hb (by omega)⟩
theorem CodeAt.set {w : World} {a : Option Addr} {len p : Nat} (h : CodeAt w a len p) {n k : Nat} (hn : p ≤ n) (u : Value) : CodeAt (w.setCell ⟨n, k, none⟩ u) a len p := by
  obtain ⟨hl, h⟩ := h
  refine ⟨hl, ?_⟩
  rcases h with h | ⟨b, off, rfl, hb, h⟩
  · exact .inl h
  · refine .inr ⟨b, off, rfl, hb, fun k hk => ?_⟩
    obtain ⟨z, z0, z1, hz⟩ := h k hk
    exact ⟨z, z0, z1, keepset3 hz (by simp; omega)⟩
theorem Ready.set {w : World} {p : Nat} {a : Option Addr} {len cap : Nat} (h : Ready w p a len cap) {n k : Nat} (hn : p < n) (u : Value) : Ready (w.setCell ⟨n, k, none⟩ u) p a len cap := ⟨h.1.set hn u, h.2.set (by omega) u⟩
theorem grown_setn {w w1 : World} {r : Option Nat} (h : w.grownBy w1 r) {n k : Nat} (hn : w.heap.size ≤ n) (u : Value) : w.grownBy (w1.setCell ⟨n, k, none⟩ u) r :=
  ⟨h.os, h.tape, h.output, by simpa using h.size, fun i hi hne => by
    rw [← h.block i hi hne]
    show (w1.heap.modify n _)[i]? = _
    rw [Array.getElem?_modify, if_neg (by omega)]⟩
theorem grown_blk {w w1 : World} {p n : Nat} {o : Obj} (h : w.grownBy w1 (some p)) (hb : w.heap[n]? = some o) (hne : n ≠ p) : w1.heap[n]? = some o :=
  (h.block n (lt_of_block hb) (by simp; omega)).trans hb
theorem bgrown {w a b : World} {p : Nat} (h : Below w.heap.size w a) (hg : a.grownBy b (some p)) (hp : w.heap.size ≤ p) : Below w.heap.size w b :=
  h.grown hg h.size (fun k hk => by simp at hk; omega)
theorem set2 {w1 : World} {B : Nat} {o0 o1 : Value} {t : TypeId} (gz : w1.heap[B]? = some (.cells #[o0, o1] t (0, 0))) (a b : Value) :
    ((w1.setCell ⟨B, 0, none⟩ a).setCell ⟨B, 1, none⟩ b).heap[B]? = some (.cells #[a, b] t (0, 0)) ∧ (∀ C o, C ≠ B → w1.heap[C]? = some o → ((w1.setCell ⟨B, 0, none⟩ a).setCell ⟨B, 1, none⟩ b).heap[C]? = some o) :=
  ⟨set_at (set_at gz), fun C o hC h => set_far (set_far h hC) hC⟩
theorem set4r {w1 : World} {B : Nat} {o0 o1 o2 o3 : Value} {t : TypeId} (gz : w1.heap[B]? = some (.cells #[o0, o1, o2, o3] t (0, 0))) (a b c d : Value) :
    ((((w1.setCell ⟨B, 0, none⟩ a).setCell ⟨B, 1, none⟩ b).setCell ⟨B, 2, none⟩ c).setCell ⟨B, 3, none⟩ d).heap[B]? = some (.cells #[a, b, c, d] t (0, 0)) ∧ (∀ C o, C ≠ B → w1.heap[C]? = some o → ((((w1.setCell ⟨B, 0, none⟩ a).setCell ⟨B, 1, none⟩ b).setCell ⟨B, 2, none⟩ c).setCell ⟨B, 3, none⟩ d).heap[C]? = some o) :=
  ⟨set_at (set_at (set_at (set_at gz))), fun C o hC h => set_far (set_far (set_far (set_far h hC) hC) hC) hC⟩
set_option maxRecDepth 100000 in
set_option maxHeartbeats 1000000 in
theorem coord_r (w : World) (p : Nat) (a : Option Addr) (len cap : Nat) (h : Ready w p a len cap) : Calls Tryz.prog 213 #[.pointer (some ⟨p, 0, none⟩)] w fun e w' => ∃ z : Int, e = .returned (.int .i64 z) ∧ Cd z ∧ Ready w' p a len cap ∧ w.grownBy w' (some p) := by
  go_enter Tryz.func213, Tryz.ntmps213
  go_wp2_with fail
  refine (once_r _ p a len cap 40 (by omega) (by omega) h).mono ?_
  rintro e w1 ⟨b, rfl, hr, hg⟩
  clear h
  cases b
  · go_wp2_with fail
    refine (below_r _ p a len cap 21 (by omega) (by omega) hr).mono ?_
    rintro e w2 ⟨z, rfl, z0, z1, hr2, hg2⟩
    replace hg := grown_trans hg hg2
    clear hg2 hr
    go_wp2_with fail
    go_ret
    exact ⟨_, rfl, by unfold Cd; omega, hr2, hg⟩
  · go_wp2_with fail
    refine (pick_p Cd _ p a len cap _ 4 (by omega) (by omega) ?_ (intsP_new Cd w1 [30000, -30000, 30001, -30001] 3 (by unfold Cd; decide)) (hr.alloc _)).mono ?_
    · have := hr.lt; omega
    · rintro e w2 ⟨z, rfl, hz, hr2, hg2⟩
      replace hg := grown_trans (grown_trans hg (grown_alloc _ _ _)) hg2
      clear hg2 hr
      go_wp2_with fail
      go_ret
      exact ⟨z, rfl, hz, hr2, hg⟩
set_option maxRecDepth 100000 in
set_option maxHeartbeats 1000000 in
theorem point_r (w : World) (p : Nat) (a : Option Addr) (len cap : Nat) (h : Ready w p a len cap) : Calls Tryz.prog 205 #[.pointer (some ⟨p, 0, none⟩)] w fun e w' => ∃ x y : Int, e = .returned (.agg #[.int .i64 x, .int .i64 y]) ∧ Cd x ∧ Cd y ∧ Ready w' p a len cap ∧ w.grownBy w' (some p) := by
  have hlt := h.lt
  go_enter Tryz.func205, Tryz.ntmps205
  go_wp2_with fail
  refine (coord_r _ p a len cap (h.alloc _)).mono ?_
  rintro e w1 ⟨x, rfl, hx, hr, hg⟩
  have hb := grown_blk hg (heap_alloc_new w _) (by omega)
  replace hg := grown_trans (grown_alloc _ _ _) hg
  go_wp2_with fail
  refine (coord_r _ p a len cap hr).mono ?_
  rintro e w2 ⟨y, rfl, hy, hr2, hg2⟩
  have hb2 := grown_blk hg2 hb (by omega)
  replace hg := grown_trans hg hg2
  clear hg2 hr hb
  obtain ⟨k0, k1, f0, f1⟩ := cell2g hb2
  have Hb2 := hid hb2
  clear hb2
  go_wp2_with fail
  have gF := (set2 Hb2.out (.int .i64 x) (.int .i64 y)).1
  have rF := (hr2.set (n := w.heap.size) (k := 0) hlt (.int .i64 x)).set (n := w.heap.size) (k := 1) hlt (.int .i64 y)
  have wF := grown_setn (grown_setn hg (n := w.heap.size) (k := 0) (Nat.le_refl _) (.int .i64 x)) (n := w.heap.size) (k := 1) (Nat.le_refl _) (.int .i64 y)
  generalize (w2.setCell ⟨w.heap.size, 0, none⟩ (.int .i64 x)).setCell ⟨w.heap.size, 1, none⟩ (.int .i64 y) = wf at gF rF wF ⊢
  obtain ⟨z0, z1, _, _⟩ := cell2g gF
  exact bodyPost_ret (v := .agg #[.int .i64 x, .int .i64 y]) (by simp [results, Tryz.results205, go_sem, z0, z1]) rfl ⟨x, y, rfl, hx, hy, rF, wF⟩
end Go.Proofs.YtenlhgnobfadgaaGreatDoor
namespace Go.Proofs.YtenlhgnobfadgaaGreatDoor
open Go.RowKit
set_option linter.unusedVariables false
def G : Nat → Nat → List Int
  | 0, _ => []
  | f + 1, r => if r ≤ 127 then [(r : Int)] else ((128 + r % 128 : Nat) : Int) :: G f (r / 128)
theorem G_last (f r : Nat) (h : r ≤ 127) : G (f + 1) r = [(r : Int)] := by simp [G, h]
theorem G_more (f r : Nat) (h : 127 < r) : G (f + 1) r = ((128 + r % 128 : Nat) : Int) :: G f (r / 128) := by simp [G, show ¬ r ≤ 127 by omega]
theorem or128 (r : Nat) (h : r ≤ 4000000000) : bits .or .u8 (bits .and .u32 (r : Int) 127 % 256) 128 = ((128 + r % 128 : Nat) : Int) := by
  have e1 : bits .and .u32 (r : Int) 127 = ((r % 128 : Nat) : Int) := by
    have := u32_and_nat r 127 (by omega) (by omega)
    rw [nat_mask7] at this; exact this
  have e2 : ((r % 128 : Nat) : Int) % 256 = ((r % 128 : Nat) : Int) := by omega
  have e3 := u8_or_nat (r % 128) 128 (by omega) (by omega)
  rw [Nat.or_comm, nat_join 7 128 (r % 128) (by omega) (by omega)] at e3
  rw [e1, e2]; exact e3
theorem Tryz.info5 : (Tryz.prog.info? 5).map (fun i => (i.zero, i.size, i.bytes)) = some (some (.int .u8 0), 1, 1) := by kernel_rfl
theorem own_conv {w : World} {base n : Nat} {v : Value} {xs : List Int} (h : w.ownsRow base 5 1 v n (xs.map (Value.int .u8))) (h0 : 0 < n) :
    ∃ g cap, v = .slice (some ⟨g, 0, none⟩) n cap ∧ (convert 28 9 (.slice (some ⟨g, 0, none⟩) n cap)).run Tryz.prog w = .ok (.string (strOfNums xs)) w := by
  have hl : xs.length = n := by simpa using h.1
  have h' := h
  rcases h.2 with ⟨_, hn⟩ | ⟨g, cap, cur, rfl, _⟩
  · omega
  · refine ⟨g, cap, rfl, ?_⟩
    refine run_convert_bytes_arg _ 28 5 Tryz.underlying28 Tryz.underlying5 g 0 n cap xs hl (fun i hi => ?_) 9 Tryz.underlying9
    have hc := h'.cells (g := g) rfl i (.int .u8 (xs.getD i 0)) (by simp [List.getElem?_map, List.getD, List.getElem?_eq_getElem (show i < xs.length by omega)])
    rw [Addr.add_lit] at hc
    simpa using hc
theorem own_grow {w w0 w1 : World} {B : Nat} {v : Value} {n : Nat} {xs : List Value} {o : Obj} (hown : w0.ownsRow B 5 1 v n xs) (hb : Below B w w0) (hB : B ≤ w0.heap.size) (hg : (w0.alloc o).grownBy w1 v.ownBlock) : Below B w w1 :=
  (hb.alloc hB o).grown hg (by simp; omega) (fun k hk => (hown.lt k hk).1)
def fold (x : Int) : Int := if x < 0 then -2 * x - 1 else 2 * x
theorem fold_nn (x : Int) (h1 : -200000 ≤ x) (h2 : x ≤ 200000) : ∃ n : Nat, fold x = (n : Int) ∧ n ≤ 4000000000 := by
  unfold fold
  split
  · exact ⟨(-2 * x - 1).toNat, by omega, by omega⟩
  · exact ⟨(2 * x).toNat, by omega, by omega⟩
end Go.Proofs.YtenlhgnobfadgaaGreatDoor
