/- Texts of stores, joined: DrawP, PutN. -/
import Derived.Test.YtjafahhoihlliaaGreatDoorJ8
import Derived.Test.YtjafahhoihlliaaGreatDoorJ10
import Derived.Laws.BitsAllLaws
import Derived.Laws.BytesArg
namespace Go.Proofs.YtjafahhoihlliaaGreatDoor
open Go.RowKit
set_option linter.unusedVariables false
theorem keepset3 {w : World} {p q : Addr} {v u : Value} (h : w.cell? p = some v) (hne : q.block ≠ p.block) : (w.setCell q u).cell? p = some v := by
  rw [World.cell?_setCell_far _ _ _ _ hne]; exact h
theorem cell2g {w : World} {p : Nat} {a b : Value} {t : TypeId} (h : w.heap[p]? = some (.cells #[a, b] t (0, 0))) : w.cell? ⟨p, 0, none⟩ = some a ∧ w.cell? ⟨p, 1, none⟩ = some b ∧ w.frozen? ⟨p, 0, none⟩ = false ∧ w.frozen? ⟨p, 1, none⟩ = false := by
  refine ⟨?_, ?_, ?_, ?_⟩ <;> simp [World.cell?, World.frozen?, h]
/-- A coordinate that is drawn. -/
def Cd (z : Int) : Prop := -40000 ≤ z ∧ z ≤ 40000
def IntsP (P : Int → Prop) (w : World) (q m : Nat) : Prop := ∀ k, k < m → ∃ z : Int, P z ∧ w.cell? ⟨q, k, none⟩ = some (.int .i64 z)
theorem intsP_new (P : Int → Prop) (w : World) (zs : List Int) (t : TypeId) (hz : ∀ z ∈ zs, P z) : IntsP P (w.alloc (.cells (zs.map (Value.int .i64)).toArray t)) w.heap.size zs.length := by
  intro k hk
  refine ⟨zs[k], hz _ (List.getElem_mem hk), ?_⟩
  have h := heap_alloc_new w (.cells (zs.map (Value.int .i64)).toArray t)
  rw [cell_of_row _ w.heap.size k _ t (0, 0) h]
  simp [hk]
set_option maxHeartbeats 400000 in
theorem pick_p (P : Int → Prop) (w : World) (p : Nat) (a : Option Addr) (len cap : Nat) (q m : Nat) (h0 : 0 < m) (h1 : m ≤ 1000) (hq : q ≠ p) (hi : IntsP P w q m) (h : Ready w p a len cap) : Calls Tryz.prog 47 #[.pointer (some ⟨p, 0, none⟩), .slice (some ⟨q, 0, none⟩) m m] w fun e w' => ∃ z : Int, e = .returned (.int .i64 z) ∧ P z ∧ Ready w' p a len cap ∧ w.grownBy w' (some p) := by
  go_enter Tryz.func47, Tryz.ntmps47
  go_wp2_with fail
  refine (below_r _ p a len cap (m : Int) (by omega) (by omega) h).mono ?_
  rintro e w1 ⟨x, rfl, x0, x1, hr, hg⟩
  obtain ⟨k, rfl⟩ := Int.eq_ofNat_of_zero_le x0
  obtain ⟨z, hz, hc⟩ := hi k (by omega)
  have hc1 := hg.cell hc (fun e => by simp at e; exact hq e)
  clear hc hi h
  go_wp2_with fail
  go_ret
  exact ⟨z, rfl, hz, hr, hg⟩
theorem CurAt.set {w : World} {p : Nat} {a : Option Addr} {len cap : Nat} (h : CurAt w p a len cap) {n k : Nat} (hn : p < n) (u : Value) : CurAt (w.setCell ⟨n, k, none⟩ u) p a len cap := by
  obtain ⟨i, x, hi, hb⟩ := h
  exact ⟨i, x, hi, set_far hb (by omega)⟩
theorem CodeAt.set {w : World} {a : Option Addr} {len p : Nat} (h : CodeAt w a len p) {n k : Nat} (hn : p ≤ n) (u : Value) : CodeAt (w.setCell ⟨n, k, none⟩ u) a len p := by
  obtain ⟨hl, h⟩ := h
  refine ⟨hl, ?_⟩
  rcases h with h | ⟨b, off, rfl, hb, h⟩
  · exact .inl h
  · refine .inr ⟨b, off, rfl, hb, fun k hk => ?_⟩
    obtain ⟨z, z0, z1, hz⟩ := h k hk
    exact ⟨z, z0, z1, keepset3 hz (by simp; omega)⟩
theorem Ready.set {w : World} {p : Nat} {a : Option Addr} {len cap : Nat} (h : Ready w p a len cap) {n k : Nat} (hn : p < n) (u : Value) : Ready (w.setCell ⟨n, k, none⟩ u) p a len cap := ⟨h.1.set hn u, h.2.set (by omega) u⟩
theorem grown_setn {w w1 : World} {r : Option Nat} (h : w.grownBy w1 r) {n k : Nat} (hn : w.heap.size ≤ n) (u : Value) : w.grownBy (w1.setCell ⟨n, k, none⟩ u) r :=
  ⟨h.os, h.tape, h.output, by simpa using h.size, fun i hi hne => by
    rw [← h.block i hi hne]
    show (w1.heap.modify n _)[i]? = _
    rw [Array.getElem?_modify, if_neg (by omega)]⟩
theorem grown_blk {w w1 : World} {p n : Nat} {o : Obj} (h : w.grownBy w1 (some p)) (hb : w.heap[n]? = some o) (hne : n ≠ p) : w1.heap[n]? = some o :=
  (h.block n (lt_of_block hb) (by simp; omega)).trans hb
theorem bgrown {w a b : World} {p : Nat} (h : Below w.heap.size w a) (hg : a.grownBy b (some p)) (hp : w.heap.size ≤ p) : Below w.heap.size w b :=
  h.grown hg h.size (fun k hk => by simp at hk; omega)
theorem set2 {w1 : World} {B : Nat} {o0 o1 : Value} {t : TypeId} (gz : w1.heap[B]? = some (.cells #[o0, o1] t (0, 0))) (a b : Value) :
    ((w1.setCell ⟨B, 0, none⟩ a).setCell ⟨B, 1, none⟩ b).heap[B]? = some (.cells #[a, b] t (0, 0)) ∧ (∀ C o, C ≠ B → w1.heap[C]? = some o → ((w1.setCell ⟨B, 0, none⟩ a).setCell ⟨B, 1, none⟩ b).heap[C]? = some o) :=
  ⟨set_at (set_at gz), fun C o hC h => set_far (set_far h hC) hC⟩
theorem set4r {w1 : World} {B : Nat} {o0 o1 o2 o3 : Value} {t : TypeId} (gz : w1.heap[B]? = some (.cells #[o0, o1, o2, o3] t (0, 0))) (a b c d : Value) :
    ((((w1.setCell ⟨B, 0, none⟩ a).setCell ⟨B, 1, none⟩ b).setCell ⟨B, 2, none⟩ c).setCell ⟨B, 3, none⟩ d).heap[B]? = some (.cells #[a, b, c, d] t (0, 0)) ∧ (∀ C o, C ≠ B → w1.heap[C]? = some o → ((((w1.setCell ⟨B, 0, none⟩ a).setCell ⟨B, 1, none⟩ b).setCell ⟨B, 2, none⟩ c).setCell ⟨B, 3, none⟩ d).heap[C]? = some o) :=
  ⟨set_at (set_at (set_at (set_at gz))), fun C o hC h => set_far (set_far (set_far (set_far h hC) hC) hC) hC⟩
set_option maxRecDepth 100000 in
set_option maxHeartbeats 1000000 in
theorem coord_r (w : World) (p : Nat) (a : Option Addr) (len cap : Nat) (h : Ready w p a len cap) : Calls Tryz.prog 91 #[.pointer (some ⟨p, 0, none⟩)] w fun e w' => ∃ z : Int, e = .returned (.int .i64 z) ∧ Cd z ∧ Ready w' p a len cap ∧ w.grownBy w' (some p) := by
  go_enter Tryz.func91, Tryz.ntmps91
  go_wp2_with fail
  refine (once_r _ p a len cap 40 (by omega) (by omega) h).mono ?_
  rintro e w1 ⟨b, rfl, hr, hg⟩
  clear h
  cases b
  · go_wp2_with fail
    refine (below_r _ p a len cap 21 (by omega) (by omega) hr).mono ?_
    rintro e w2 ⟨z, rfl, z0, z1, hr2, hg2⟩
    replace hg := grown_trans hg hg2
    clear hg2 hr
    go_wp2_with fail
    go_ret
    exact ⟨_, rfl, by unfold Cd; omega, hr2, hg⟩
  · go_wp2_with fail
    refine (pick_p Cd _ p a len cap _ 4 (by omega) (by omega) ?_ (intsP_new Cd w1 [30000, -30000, 30001, -30001] 3 (by unfold Cd; decide)) (hr.alloc _)).mono ?_
    · have := hr.lt; omega
    · rintro e w2 ⟨z, rfl, hz, hr2, hg2⟩
      replace hg := grown_trans (grown_trans hg (grown_alloc _ _ _)) hg2
      clear hg2 hr
      go_wp2_with fail
      go_ret
      exact ⟨z, rfl, hz, hr2, hg⟩
set_option maxRecDepth 100000 in
set_option maxHeartbeats 1000000 in
theorem point_r (w : World) (p : Nat) (a : Option Addr) (len cap : Nat) (h : Ready w p a len cap) : Calls Tryz.prog 73 #[.pointer (some ⟨p, 0, none⟩)] w fun e w' => ∃ x y : Int, e = .returned (.agg #[.int .i64 x, .int .i64 y]) ∧ Cd x ∧ Cd y ∧ Ready w' p a len cap ∧ w.grownBy w' (some p) := by
  have hlt := h.lt
  go_enter Tryz.func73, Tryz.ntmps73
  go_wp2_with fail
  refine (coord_r _ p a len cap (h.alloc _)).mono ?_
  rintro e w1 ⟨x, rfl, hx, hr, hg⟩
  have hb := grown_blk hg (heap_alloc_new w _) (by omega)
  replace hg := grown_trans (grown_alloc _ _ _) hg
  go_wp2_with fail
  refine (coord_r _ p a len cap hr).mono ?_
  rintro e w2 ⟨y, rfl, hy, hr2, hg2⟩
  have hb2 := grown_blk hg2 hb (by omega)
  replace hg := grown_trans hg hg2
  clear hg2 hr hb
  obtain ⟨k0, k1, f0, f1⟩ := cell2g hb2
  have Hb2 := hid hb2
  clear hb2
  go_wp2_with fail
  have gF := (set2 Hb2.out (.int .i64 x) (.int .i64 y)).1
  have rF := (hr2.set (n := w.heap.size) (k := 0) hlt (.int .i64 x)).set (n := w.heap.size) (k := 1) hlt (.int .i64 y)
  have wF := grown_setn (grown_setn hg (n := w.heap.size) (k := 0) (Nat.le_refl _) (.int .i64 x)) (n := w.heap.size) (k := 1) (Nat.le_refl _) (.int .i64 y)
  generalize (w2.setCell ⟨w.heap.size, 0, none⟩ (.int .i64 x)).setCell ⟨w.heap.size, 1, none⟩ (.int .i64 y) = wf at gF rF wF ⊢
  obtain ⟨z0, z1, _, _⟩ := cell2g gF
  exact bodyPost_ret (v := .agg #[.int .i64 x, .int .i64 y]) (by simp [results, Tryz.results73, go_sem, z0, z1]) rfl ⟨x, y, rfl, hx, hy, rF, wF⟩
end Go.Proofs.YtjafahhoihlliaaGreatDoor
namespace Go.Proofs.YtjafahhoihlliaaGreatDoor
open Go.RowKit
set_option linter.unusedVariables false
def G : Nat → Nat → List Int
  | 0, _ => []
  | f + 1, r => if r ≤ 127 then [(r : Int)] else ((128 + r % 128 : Nat) : Int) :: G f (r / 128)
theorem G_last (f r : Nat) (h : r ≤ 127) : G (f + 1) r = [(r : Int)] := by simp [G, h]
theorem G_more (f r : Nat) (h : 127 < r) : G (f + 1) r = ((128 + r % 128 : Nat) : Int) :: G f (r / 128) := by simp [G, show ¬ r ≤ 127 by omega]
theorem conv5 (w : World) (k : Nat) (hk : k ≤ 5) (z0 z1 z2 z3 z4 : Int) :
    (convert 22 9 (.slice (some ⟨w.heap.size, 0, none⟩) k 5)).run Tryz.prog (w.alloc (.cells #[.int .u8 z0, .int .u8 z1, .int .u8 z2, .int .u8 z3, .int .u8 z4] 80)) =
      .ok (.string (strOfNums ([z0, z1, z2, z3, z4].take k))) (w.alloc (.cells #[.int .u8 z0, .int .u8 z1, .int .u8 z2, .int .u8 z3, .int .u8 z4] 80)) := by
  refine run_convert_bytes_arg _ 22 5 Tryz.underlying22 Tryz.underlying5 w.heap.size 0 k 5 _ (by simp; omega) (fun i hi => ?_) 9 Tryz.underlying9
  have : i = 0 ∨ i = 1 ∨ i = 2 ∨ i = 3 ∨ i = 4 := by omega
  rcases this with rfl | rfl | rfl | rfl | rfl <;> simp [go_sem, hi]
theorem or128 (r : Nat) (h : r ≤ 4000000000) : bits .or .u8 (bits .and .u32 (r : Int) 127 % 256) 128 = ((128 + r % 128 : Nat) : Int) := by
  have e1 : bits .and .u32 (r : Int) 127 = ((r % 128 : Nat) : Int) := by
    have := u32_and_nat r 127 (by omega) (by omega)
    rw [nat_mask7] at this; exact this
  have e2 : ((r % 128 : Nat) : Int) % 256 = ((r % 128 : Nat) : Int) := by omega
  have e3 := u8_or_nat (r % 128) 128 (by omega) (by omega)
  rw [Nat.or_comm, nat_join 7 128 (r % 128) (by omega) (by omega)] at e3
  rw [e1, e2]; exact e3
set_option maxHeartbeats 1000000 in
theorem impl_put (n : Nat) (hx : n ≤ 4000000000) (w : World) : Calls Tryz.prog 25 #[.int .i64 n] w fun e w' => e = .returned (.string (strOfNums (G 5 n))) ∧ Below w.heap.size w w' := by
  have d1 : (n:Int) ≤ 4000000000 := by omega
  have c1 := conv5 w 1 (by omega)
  have c2 := conv5 w 2 (by omega)
  have c3 := conv5 w 3 (by omega)
  have c4 := conv5 w 4 (by omega)
  have c5 := conv5 w 5 (by omega)
  go_enter Tryz.func25, Tryz.ntmps25
  go_wp2
  go_loopw [4, 5] (fun tr tm wr => ∃ r : Nat, ∃ m : Int, ∃ z0 z1 z2 z3 z4 : Int, tr = .int .u32 r ∧ tm = .int .i64 m ∧ wr = w.alloc (.cells #[.int .u8 z0, .int .u8 z1, .int .u8 z2, .int .u8 z3, .int .u8 z4] 80) ∧
     Hid ((m = 0 ∧ r ≤ 4000000000 ∧ G 5 n = G 5 r) ∨ (m = 1 ∧ r ≤ 31250000 ∧ G 5 n = [z0] ++ G 4 r) ∨ (m = 2 ∧ r ≤ 244140 ∧ G 5 n = [z0, z1] ++ G 3 r) ∨ (m = 3 ∧ r ≤ 1907 ∧ G 5 n = [z0, z1, z2] ++ G 2 r) ∨ (m = 4 ∧ r ≤ 14 ∧ G 5 n = [z0, z1, z2, z3] ++ G 1 r)))
     (fun tr _ _ => (intOf tr).toNat)
  case atStart => exact ⟨n, 0, 0, 0, 0, 0, 0, rfl, rfl, rfl, .inl ⟨rfl, hx, rfl⟩⟩
  case round =>
    obtain ⟨r, m, z0, z1, z2, z3, z4, rfl, rfl, rfl, H⟩ := hrel
    by_cases hr : r ≤ 127
    · have hr' : (r : Int) ≤ 127 := by omega
      rcases H.out with ⟨rfl, h1, h2⟩ | ⟨rfl, h1, h2⟩ | ⟨rfl, h1, h2⟩ | ⟨rfl, h1, h2⟩ | ⟨rfl, h1, h2⟩
      all_goals
        have H2 := hide h2
        clear H h2
        go_wp2
        go_ret
        rw [H2.out, G_last _ _ hr]
        exact ⟨rfl, (Below.refl _ _).alloc (Nat.le_refl _) _⟩
    · have hr' : 127 < (r : Int) := by omega
      have hc : (r : Int) / 128 = ((r / 128 : Nat) : Int) := by omega
      have Hc := hide hc
      clear hc
      have e := fun h => or128 r h
      have He := hide e
      clear e
      rcases H.out with ⟨rfl, h1, h2⟩ | ⟨rfl, h1, h2⟩ | ⟨rfl, h1, h2⟩ | ⟨rfl, h1, h2⟩ | ⟨rfl, h1, h2⟩
      · have H2 := hide h2
        clear H h2
        have h1' : (r : Int) ≤ 4000000000 := by omega
        go_wp2
        go_roundw
        case rel => exact ⟨r / 128, 1, _, z1, z2, z3, z4, by rw [Hc.out], rfl, rfl, .inr (.inl ⟨rfl, by omega, by rw [He.out (by omega), H2.out, G_more _ _ (by omega)]; rfl⟩)⟩
        case measure => simp [intOf]; omega
      · have H2 := hide h2
        clear H h2
        have h1' : (r : Int) ≤ 4000000000 := by omega
        go_wp2
        go_roundw
        case rel => exact ⟨r / 128, 2, z0, _, z2, z3, z4, by rw [Hc.out], rfl, rfl, .inr (.inr (.inl ⟨rfl, by omega, by rw [He.out (by omega), H2.out, G_more _ _ (by omega)]; rfl⟩))⟩
        case measure => simp [intOf]; omega
      · have H2 := hide h2
        clear H h2
        have h1' : (r : Int) ≤ 4000000000 := by omega
        go_wp2
        go_roundw
        case rel => exact ⟨r / 128, 3, z0, z1, _, z3, z4, by rw [Hc.out], rfl, rfl, .inr (.inr (.inr (.inl ⟨rfl, by omega, by rw [He.out (by omega), H2.out, G_more _ _ (by omega)]; rfl⟩)))⟩
        case measure => simp [intOf]; omega
      · have H2 := hide h2
        clear H h2
        have h1' : (r : Int) ≤ 4000000000 := by omega
        go_wp2
        go_roundw
        case rel => exact ⟨r / 128, 4, z0, z1, z2, _, z4, by rw [Hc.out], rfl, rfl, .inr (.inr (.inr (.inr ⟨rfl, by omega, by rw [He.out (by omega), H2.out, G_more _ _ (by omega)]; rfl⟩)))⟩
        case measure => simp [intOf]; omega
      · omega
theorem Tryz.info5 : (Tryz.prog.info? 5).map (fun i => (i.zero, i.size, i.bytes)) = some (some (.int .u8 0), 1, 1) := by kernel_rfl
theorem own_conv {w : World} {base n : Nat} {v : Value} {xs : List Int} (h : w.ownsRow base 5 1 v n (xs.map (Value.int .u8))) (h0 : 0 < n) :
    ∃ g cap, v = .slice (some ⟨g, 0, none⟩) n cap ∧ (convert 22 9 (.slice (some ⟨g, 0, none⟩) n cap)).run Tryz.prog w = .ok (.string (strOfNums xs)) w := by
  have hl : xs.length = n := by simpa using h.1
  have h' := h
  rcases h.2 with ⟨_, hn⟩ | ⟨g, cap, cur, rfl, _⟩
  · omega
  · refine ⟨g, cap, rfl, ?_⟩
    refine run_convert_bytes_arg _ 22 5 Tryz.underlying22 Tryz.underlying5 g 0 n cap xs hl (fun i hi => ?_) 9 Tryz.underlying9
    have hc := h'.cells (g := g) rfl i (.int .u8 (xs.getD i 0)) (by simp [List.getElem?_map, List.getD, List.getElem?_eq_getElem (show i < xs.length by omega)])
    rw [Addr.add_lit] at hc
    simpa using hc
theorem own_grow {w w0 w1 : World} {B : Nat} {v : Value} {n : Nat} {xs : List Value} {o : Obj} (hown : w0.ownsRow B 5 1 v n xs) (hb : Below B w w0) (hB : B ≤ w0.heap.size) (hg : (w0.alloc o).grownBy w1 v.ownBlock) : Below B w w1 :=
  (hb.alloc hB o).grown hg (by simp; omega) (fun k hk => (hown.lt k hk).1)
set_option maxRecDepth 100000 in
set_option maxHeartbeats 1000000 in
theorem spec_put (n : Nat) (hx : n ≤ 4000000000) (w : World) : Calls Tryz.prog 31 #[.int .i64 n] w fun e w' => e = .returned (.string (strOfNums (G 5 n))) ∧ Below w.heap.size w w' := by
  have d1 : (n:Int) ≤ 4000000000 := by omega
  obtain ⟨i0, hi, hz0, hz1, hz2⟩ := info_parts Tryz.info5
  go_enter Tryz.func31, Tryz.ntmps31
  go_wp2_with (go_at_call 48; refine (inn_calls _ _ _ _).mono ?_; rintro e w' ⟨rfl, hw⟩; replace hw := hw.symm; subst hw)
  go_loopw [0, 3] (fun tn v wr => ∃ r : Nat, ∃ done : List Int, tn = .int .i64 r ∧ wr.ownsRow w.heap.size 5 1 v done.length (done.map (Value.int .u8)) ∧ Below w.heap.size w wr ∧ r ≤ 4000000000 ∧ done.length ≤ 4 ∧
     Hid (∃ f, done.length + f = 4 ∧ G 5 n = done ++ G (f + 1) r ∧ r < 128 ^ (f + 1)))
     (fun tn _ _ => (intOf tn).toNat)
  case atStart =>
    exact ⟨n, [], rfl, World.ownsRow_made _ _ _ (Nat.le_refl _) (by decide) rfl, (Below.refl _ _).alloc (Nat.le_refl _) _, hx, by simp, 4, rfl, rfl, by omega⟩
  case round =>
    obtain ⟨r, done, rfl, hown, hbel, hr4, hdl, H⟩ := hrel
    have hsz := hbel.size
    by_cases hr : r ≤ 127
    · have hr' : (r : Int) ≤ 127 := by omega
      have hfin : strOfNums (G 5 n) = strOfNums (done ++ [(r : Int)]) := by
        obtain ⟨f, _, e, _⟩ := H.out
        rw [e, G_last _ _ hr]
      have Hf := hide hfin
      clear hfin H
      go_wp2_with (at_builtin; refine wpList_append_own _ rfl (.tmp 19) (.tmp 22) 22 rfl w.heap.size 5 i0 (.int .u8 0) 1 1 Tryz.underlying22 hi hz0 hz1 hz2 rfl (by decide) _ _ _ rfl (hown.alloc _) ⟨wr.heap.size, 0, none⟩ 1 1 [.int .u8 r] rfl rfl (cell_one_new _ _ _) (by simp [Value.oneCell']) (by unfold maxLen; omega) (by omega) (by simp; omega) ?_; intro v' w1 hown' hgrow _; have hb1 := own_grow hown hbel hsz hgrow; obtain ⟨g, cap, rfl, hcv⟩ := own_conv (xs := done ++ [(r : Int)]) (by simpa using hown') (by omega))
      go_ret
      exact ⟨by rw [Hf.out]; rfl, hb1⟩
    · have hr' : 127 < (r : Int) := by omega
      have hnext : ∃ f, (done ++ [(128 + (r : Int) % 128)]).length + f = 4 ∧ G 5 n = (done ++ [(128 + (r : Int) % 128)]) ++ G (f + 1) (r / 128) ∧ r / 128 < 128 ^ (f + 1) := by
        obtain ⟨f, e1, e2, e3⟩ := H.out
        match f, e1, e2, e3 with
        | 0, _, _, e3 => simp at e3; omega
        | f + 1, e1, e2, e3 =>
          refine ⟨f, by simp; omega, ?_, ?_⟩
          · rw [e2, G_more _ _ (by omega)]; simp
          · rw [Nat.pow_succ] at e3
            exact Nat.div_lt_of_lt_mul (by rw [Nat.mul_comm]; exact e3)
      have hd3 : done.length + 1 ≤ 4 := by obtain ⟨f, e, _⟩ := hnext; simp at e; omega
      have Hn := hide hnext
      clear hnext H
      go_wp2_with (at_builtin; refine wpList_append_own _ rfl (.tmp 10) (.tmp 15) 22 rfl w.heap.size 5 i0 (.int .u8 0) 1 1 Tryz.underlying22 hi hz0 hz1 hz2 rfl (by decide) _ _ _ rfl (hown.alloc _) ⟨wr.heap.size, 0, none⟩ 1 1 [.int .u8 (128 + (r : Int) % 128)] rfl rfl (cell_one_new _ _ _) (by simp [Value.oneCell']) (by unfold maxLen; omega) (by omega) (by simp; omega) ?_; intro v' w1 hown' hgrow _; have hb1 := own_grow hown hbel hsz hgrow)
      go_roundw
      case rel => exact ⟨r / 128, done ++ [(128 + (r : Int) % 128)], by go_num, by simpa using hown', hb1, by omega, by simpa using hd3, Hn⟩
      case measure => simp [intOf]; omega
theorem spec_put_no (n : Int) (h : n < 0 ∨ 4000000000 < n) (w : World) : Calls Tryz.prog 31 #[.int .i64 n] w fun e w' => e = .returned (.string ⟨#[]⟩) ∧ w' = w := by
  have hx : (decide (0 ≤ n) && decide (n ≤ 4000000000)) = false := by simp; omega
  go_enter Tryz.func31, Tryz.ntmps31
  go_wp2_with (go_at_call 48; refine (inn_calls _ _ _ _).mono ?_; rintro e w' ⟨rfl, rfl⟩)
  all_goals first | (exfalso; omega) | (go_ret; exact ⟨rfl, rfl⟩)
theorem impl_put_no (n : Int) (h : n < 0 ∨ 4000000000 < n) (w : World) : Calls Tryz.prog 25 #[.int .i64 n] w fun e w' => e = .returned (.string ⟨#[]⟩) ∧ w' = w := by
  go_enter Tryz.func25, Tryz.ntmps25
  by_cases h1 : n < 0
  · go_wp2_with fail
    go_ret; exact ⟨rfl, rfl⟩
  · have h2 : 4000000000 < n := by omega
    go_wp2_with fail
    go_ret; exact ⟨rfl, rfl⟩
def fold (x : Int) : Int := if x < 0 then -2 * x - 1 else 2 * x
theorem impl_fold (x : Int) (h1 : -200000 ≤ x) (h2 : x ≤ 200000) (w : World) : Calls Tryz.prog 27 #[.int .i64 x] w fun e w' => e = .returned (.int .i64 (fold x)) ∧ w' = w := by
  have a1 : ¬ x < -1000000000 := by omega
  have a2 : ¬ 1000000000 < x := by omega
  have a1d : decide (x < -1000000000) = false := by simpa using a1
  have a2d : decide (1000000000 < x) = false := by simpa using a2
  unfold fold
  by_cases h : x < 0
  · rw [if_pos h]
    go_enter Tryz.func27, Tryz.ntmps27
    go_wp2
    go_ret
    exact ⟨rfl, rfl⟩
  · rw [if_neg h]
    have hd : decide (x < 0) = false := by simpa using h
    have h' : 0 ≤ x := by omega
    go_enter Tryz.func27, Tryz.ntmps27
    go_wp2
    go_ret
    exact ⟨rfl, rfl⟩
theorem spec_fold (x : Int) (h1 : -200000 ≤ x) (h2 : x ≤ 200000) (w : World) : Calls Tryz.prog 32 #[.int .i64 x] w fun e w' => e = .returned (.int .i64 (fold x)) ∧ w' = w := by
  have hin := inn_calls x (-1000000000) 1000000000 w
  have a1 : (decide (-1000000000 ≤ x) && decide (x ≤ 1000000000)) = true := by simp; omega
  rw [a1] at hin
  have HIN := hid hin
  clear hin a1
  unfold fold
  by_cases h : x < 0
  · rw [if_pos h]
    have hd : decide (0 ≤ x) = false := by simp; omega
    go_enter Tryz.func32, Tryz.ntmps32
    go_wp2_with fail
    refine HIN.out.mono ?_
    rintro e w' ⟨rfl, hw⟩
    replace hw := hw.symm
    subst hw
    go_wp2_with fail
    go_ret
    exact ⟨rfl, rfl⟩
  · rw [if_neg h]
    have h' : 0 ≤ x := by omega
    go_enter Tryz.func32, Tryz.ntmps32
    go_wp2_with fail
    refine HIN.out.mono ?_
    rintro e w' ⟨rfl, hw⟩
    replace hw := hw.symm
    subst hw
    go_wp2_with fail
    go_ret
    exact ⟨rfl, rfl⟩
theorem fold_nn (x : Int) (h1 : -200000 ≤ x) (h2 : x ≤ 200000) : ∃ n : Nat, fold x = (n : Int) ∧ n ≤ 4000000000 := by
  unfold fold
  split
  · exact ⟨(-2 * x - 1).toNat, by omega, by omega⟩
  · exact ⟨(2 * x).toNat, by omega, by omega⟩
end Go.Proofs.YtjafahhoihlliaaGreatDoor
