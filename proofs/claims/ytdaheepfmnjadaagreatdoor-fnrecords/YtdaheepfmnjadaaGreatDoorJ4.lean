/- Texts of stores, joined: DrawP, DrawT, DrawL. -/
import Derived.Test.YtdaheepfmnjadaaGreatDoorJ1
import Derived.Test.YtdaheepfmnjadaaGreatDoorJ3
import Derived.OwnWalk
import Derived.Deep.AppendLies
namespace Go.Proofs.YtdaheepfmnjadaaGreatDoor
open Go.RowKit
set_option linter.unusedVariables false
theorem keepset3 {w : World} {p q : Addr} {v u : Value} (h : w.cell? p = some v) (hne : q.block ≠ p.block) : (w.setCell q u).cell? p = some v := by
  rw [World.cell?_setCell_far _ _ _ _ hne]; exact h
theorem cell2g {w : World} {p : Nat} {a b : Value} {t : TypeId} (h : w.heap[p]? = some (.cells #[a, b] t (0, 0))) : w.cell? ⟨p, 0, none⟩ = some a ∧ w.cell? ⟨p, 1, none⟩ = some b ∧ w.frozen? ⟨p, 0, none⟩ = false ∧ w.frozen? ⟨p, 1, none⟩ = false := by
  refine ⟨?_, ?_, ?_, ?_⟩ <;> simp [World.cell?, World.frozen?, h]
/-- A coordinate that is drawn. -/
def Cd (z : Int) : Prop := -40000 ≤ z ∧ z ≤ 40000
def IntsP (P : Int → Prop) (w : World) (q m : Nat) : Prop := ∀ k, k < m → ∃ z : Int, P z ∧ w.cell? ⟨q, k, none⟩ = some (.int .i64 z)
theorem intsP_new (P : Int → Prop) (w : World) (zs : List Int) (t : TypeId) (hz : ∀ z ∈ zs, P z) : IntsP P (w.alloc (.cells (zs.map (Value.int .i64)).toArray t)) w.heap.size zs.length := by
  intro k hk
  refine ⟨zs[k], hz _ (List.getElem_mem hk), ?_⟩
  have h := heap_alloc_new w (.cells (zs.map (Value.int .i64)).toArray t)
  rw [cell_of_row _ w.heap.size k _ t (0, 0) h]
  simp [hk]
set_option maxHeartbeats 400000 in
theorem pick_p (P : Int → Prop) (w : World) (p : Nat) (a : Option Addr) (len cap : Nat) (q m : Nat) (h0 : 0 < m) (h1 : m ≤ 1000) (hq : q ≠ p) (hi : IntsP P w q m) (h : Ready w p a len cap) : Calls Tryz.prog 71 #[.pointer (some ⟨p, 0, none⟩), .slice (some ⟨q, 0, none⟩) m m] w fun e w' => ∃ z : Int, e = .returned (.int .i64 z) ∧ P z ∧ Ready w' p a len cap ∧ w.grownBy w' (some p) := by
  go_enter Tryz.func71, Tryz.ntmps71
  go_wp2_with fail
  refine (below_r _ p a len cap (m : Int) (by omega) (by omega) h).mono ?_
  rintro e w1 ⟨x, rfl, x0, x1, hr, hg⟩
  obtain ⟨k, rfl⟩ := Int.eq_ofNat_of_zero_le x0
  obtain ⟨z, hz, hc⟩ := hi k (by omega)
  have hc1 := hg.cell hc (fun e => by simp at e; exact hq e)
  clear hc hi h
  go_wp2_with fail
  go_ret
  exact ⟨z, rfl, hz, hr, hg⟩
theorem CurAt.set {w : World} {p : Nat} {a : Option Addr} {len cap : Nat} (h : CurAt w p a len cap) {n k : Nat} (hn : p < n) (u : Value) : CurAt (w.setCell ⟨n, k, none⟩ u) p a len cap := by
  obtain ⟨i, x, hi, hb⟩ := h
  exact ⟨i, x, hi, set_far hb (by omega)⟩
theorem CodeAt.set {w : World} {a : Option Addr} {len p : Nat} (h : CodeAt w a len p) {n k : Nat} (hn : p ≤ n) (u : Value) : CodeAt (w.setCell ⟨n, k, none⟩ u) a len p := by
  obtain ⟨hl, h⟩ := h
  refine ⟨hl, ?_⟩
  rcases h with h | ⟨b, off, rfl, hb, h⟩
  · exact .inl h
  · refine .inr ⟨b, off, rfl, hb, fun k hk => ?_⟩
    obtain ⟨z, z0, z1, hz⟩ := h k hk
    exact ⟨z, z0, z1, keepset3 hz (by simp; omega)⟩
theorem Ready.set {w : World} {p : Nat} {a : Option Addr} {len cap : Nat} (h : Ready w p a len cap) {n k : Nat} (hn : p < n) (u : Value) : Ready (w.setCell ⟨n, k, none⟩ u) p a len cap := ⟨h.1.set hn u, h.2.set (by omega) u⟩
theorem grown_setn {w w1 : World} {r : Option Nat} (h : w.grownBy w1 r) {n k : Nat} (hn : w.heap.size ≤ n) (u : Value) : w.grownBy (w1.setCell ⟨n, k, none⟩ u) r :=
  ⟨h.os, h.tape, h.output, by simpa using h.size, fun i hi hne => by
    rw [← h.block i hi hne]
    show (w1.heap.modify n _)[i]? = _
    rw [Array.getElem?_modify, if_neg (by omega)]⟩
theorem grown_blk {w w1 : World} {p n : Nat} {o : Obj} (h : w.grownBy w1 (some p)) (hb : w.heap[n]? = some o) (hne : n ≠ p) : w1.heap[n]? = some o :=
  (h.block n (lt_of_block hb) (by simp; omega)).trans hb
theorem bgrown {w a b : World} {p : Nat} (h : Below w.heap.size w a) (hg : a.grownBy b (some p)) (hp : w.heap.size ≤ p) : Below w.heap.size w b :=
  h.grown hg h.size (fun k hk => by simp at hk; omega)
theorem set2 {w1 : World} {B : Nat} {o0 o1 : Value} {t : TypeId} (gz : w1.heap[B]? = some (.cells #[o0, o1] t (0, 0))) (a b : Value) :
    ((w1.setCell ⟨B, 0, none⟩ a).setCell ⟨B, 1, none⟩ b).heap[B]? = some (.cells #[a, b] t (0, 0)) ∧ (∀ C o, C ≠ B → w1.heap[C]? = some o → ((w1.setCell ⟨B, 0, none⟩ a).setCell ⟨B, 1, none⟩ b).heap[C]? = some o) :=
  ⟨set_at (set_at gz), fun C o hC h => set_far (set_far h hC) hC⟩
theorem set4r {w1 : World} {B : Nat} {o0 o1 o2 o3 : Value} {t : TypeId} (gz : w1.heap[B]? = some (.cells #[o0, o1, o2, o3] t (0, 0))) (a b c d : Value) :
    ((((w1.setCell ⟨B, 0, none⟩ a).setCell ⟨B, 1, none⟩ b).setCell ⟨B, 2, none⟩ c).setCell ⟨B, 3, none⟩ d).heap[B]? = some (.cells #[a, b, c, d] t (0, 0)) ∧ (∀ C o, C ≠ B → w1.heap[C]? = some o → ((((w1.setCell ⟨B, 0, none⟩ a).setCell ⟨B, 1, none⟩ b).setCell ⟨B, 2, none⟩ c).setCell ⟨B, 3, none⟩ d).heap[C]? = some o) :=
  ⟨set_at (set_at (set_at (set_at gz))), fun C o hC h => set_far (set_far (set_far (set_far h hC) hC) hC) hC⟩
set_option maxRecDepth 100000 in
set_option maxHeartbeats 1000000 in
theorem coord_r (w : World) (p : Nat) (a : Option Addr) (len cap : Nat) (h : Ready w p a len cap) : Calls Tryz.prog 123 #[.pointer (some ⟨p, 0, none⟩)] w fun e w' => ∃ z : Int, e = .returned (.int .i64 z) ∧ Cd z ∧ Ready w' p a len cap ∧ w.grownBy w' (some p) := by
  go_enter Tryz.func123, Tryz.ntmps123
  go_wp2_with fail
  refine (once_r _ p a len cap 40 (by omega) (by omega) h).mono ?_
  rintro e w1 ⟨b, rfl, hr, hg⟩
  clear h
  cases b
  · go_wp2_with fail
    refine (below_r _ p a len cap 21 (by omega) (by omega) hr).mono ?_
    rintro e w2 ⟨z, rfl, z0, z1, hr2, hg2⟩
    replace hg := grown_trans hg hg2
    clear hg2 hr
    go_wp2_with fail
    go_ret
    exact ⟨_, rfl, by unfold Cd; omega, hr2, hg⟩
  · go_wp2_with fail
    refine (pick_p Cd _ p a len cap _ 4 (by omega) (by omega) ?_ (intsP_new Cd w1 [30000, -30000, 30001, -30001] 3 (by unfold Cd; decide)) (hr.alloc _)).mono ?_
    · have := hr.lt; omega
    · rintro e w2 ⟨z, rfl, hz, hr2, hg2⟩
      replace hg := grown_trans (grown_trans hg (grown_alloc _ _ _)) hg2
      clear hg2 hr
      go_wp2_with fail
      go_ret
      exact ⟨z, rfl, hz, hr2, hg⟩
set_option maxRecDepth 100000 in
set_option maxHeartbeats 1000000 in
theorem point_r (w : World) (p : Nat) (a : Option Addr) (len cap : Nat) (h : Ready w p a len cap) : Calls Tryz.prog 110 #[.pointer (some ⟨p, 0, none⟩)] w fun e w' => ∃ x y : Int, e = .returned (.agg #[.int .i64 x, .int .i64 y]) ∧ Cd x ∧ Cd y ∧ Ready w' p a len cap ∧ w.grownBy w' (some p) := by
  have hlt := h.lt
  go_enter Tryz.func110, Tryz.ntmps110
  go_wp2_with fail
  refine (coord_r _ p a len cap (h.alloc _)).mono ?_
  rintro e w1 ⟨x, rfl, hx, hr, hg⟩
  have hb := grown_blk hg (heap_alloc_new w _) (by omega)
  replace hg := grown_trans (grown_alloc _ _ _) hg
  go_wp2_with fail
  refine (coord_r _ p a len cap hr).mono ?_
  rintro e w2 ⟨y, rfl, hy, hr2, hg2⟩
  have hb2 := grown_blk hg2 hb (by omega)
  replace hg := grown_trans hg hg2
  clear hg2 hr hb
  obtain ⟨k0, k1, f0, f1⟩ := cell2g hb2
  have Hb2 := hid hb2
  clear hb2
  go_wp2_with fail
  have gF := (set2 Hb2.out (.int .i64 x) (.int .i64 y)).1
  have rF := (hr2.set (n := w.heap.size) (k := 0) hlt (.int .i64 x)).set (n := w.heap.size) (k := 1) hlt (.int .i64 y)
  have wF := grown_setn (grown_setn hg (n := w.heap.size) (k := 0) (Nat.le_refl _) (.int .i64 x)) (n := w.heap.size) (k := 1) (Nat.le_refl _) (.int .i64 y)
  generalize (w2.setCell ⟨w.heap.size, 0, none⟩ (.int .i64 x)).setCell ⟨w.heap.size, 1, none⟩ (.int .i64 y) = wf at gF rF wF ⊢
  obtain ⟨z0, z1, _, _⟩ := cell2g gF
  exact bodyPost_ret (v := .agg #[.int .i64 x, .int .i64 y]) (by simp [results, Tryz.results110, go_sem, z0, z1]) rfl ⟨x, y, rfl, hx, hy, rF, wF⟩
end Go.Proofs.YtdaheepfmnjadaaGreatDoor
namespace Go.Proofs.YtdaheepfmnjadaaGreatDoor
open Go.RowKit
set_option linter.unusedVariables false
set_option linter.unusedSimpArgs false
theorem new_q (w : World) (a : Option Addr) (len cap : Nat) (hc : CodeAt w a len w.heap.size) : Calls Tryz.prog 18 #[.slice a len cap] w fun e w' => ∃ p : Nat, e = .returned (.pointer (some ⟨p, 0, none⟩)) ∧ w.heap.size = p ∧ Ready w' p a len cap ∧ (∀ (n : Nat) (o : Obj), w.heap[n]? = some o → w'.heap[n]? = some o) ∧ Below w.heap.size w w' := by
  refine (new_c w a len cap hc).mono ?_
  rintro e w1 ⟨h, rfl, rfl⟩
  exact ⟨_, rfl, rfl, ready_new w a len cap h hc, fun n o h => old_alloc h, balloc (Below.refl _ _) _⟩
end Go.Proofs.YtdaheepfmnjadaaGreatDoor
namespace Go.Proofs.YtdaheepfmnjadaaGreatDoor
open Go.RowKit
set_option linter.unusedVariables false
set_option linter.unusedSimpArgs false
theorem one_size (b : UInt8) : (⟨#[b]⟩ : ByteArray).size = 1 := rfl
theorem grown_up {w w0 w1 : World} {p : Nat} {r : Option Nat} (h : w.grownBy w0 (some p)) (k : w0.grownBy w1 r) (hr : ∀ x, r = some x → w.heap.size ≤ x) : w.grownBy w1 (some p) :=
  ⟨k.os.trans h.os, k.tape.trans h.tape, k.output.trans h.output, Nat.le_trans h.size k.size, fun i hi hne => (k.block i (Nat.lt_of_lt_of_le hi h.size) (fun e => by have := hr i e.symm; omega)).trans (h.block i hi hne)⟩
theorem Ready.kept {w w' : World} {p : Nat} {a : Option Addr} {len cap : Nat} {r : Option Nat} (h : Ready w p a len cap) (hg : w.grownBy w' r) (hr : ∀ x, r = some x → p < x) : Ready w' p a len cap := by
  have hp := h.lt
  refine ⟨?_, ?_⟩
  · obtain ⟨i, y, hi, hb⟩ := h.1
    exact ⟨i, y, hi, (hg.block p hp (fun e => by have := hr p e.symm; omega)).trans hb⟩
  · obtain ⟨hl, hc⟩ := h.2
    refine ⟨hl, ?_⟩
    rcases hc with hc | ⟨b, off, rfl, hb, hc⟩
    · exact .inl hc
    · refine .inr ⟨b, off, rfl, hb, fun k hk => ?_⟩
      obtain ⟨z, z0, z1, hz⟩ := hc k hk
      exact ⟨z, z0, z1, hg.cell hz (fun e => by have := hr b e.symm; omega)⟩
theorem Ready.belowAll {w w' : World} {p : Nat} {a : Option Addr} {len cap : Nat} (h : Ready w p a len cap) (hb : Below w.heap.size w w') : Ready w' p a len cap ∧ w.grownBy w' (some p) := by
  have hg : ∀ r, w.grownBy w' r := fun r => ⟨hb.os, hb.tape, hb.output, hb.size, fun k hk _ => hb.block k hk⟩
  exact ⟨h.kept (hg none) (fun _ e => by cases e), hg _⟩
theorem Tryz.infoP2 : (Tryz.prog.info? 90).map (fun i => (i.zero, i.size, i.bytes)) = some (some (.agg #[.int .i64 0, .int .i64 0]), 2, 16) := by kernel_rfl
def flat2 (qs : List (Int × Int)) : List Value := qs.flatMap fun q => [.int .i64 q.1, .int .i64 q.2]
theorem flat2_snoc (qs : List (Int × Int)) (x y : Int) : flat2 (qs ++ [(x, y)]) = flat2 qs ++ [.int .i64 x, .int .i64 y] := by simp [flat2]
theorem flat2_at (qs : List (Int × Int)) : ∀ k, k < qs.length → (flat2 qs)[k * 2]? = some (.int .i64 (qs.getD k (0, 0)).1) ∧ (flat2 qs)[k * 2 + 1]? = some (.int .i64 (qs.getD k (0, 0)).2) := by
  induction qs with
  | nil => intro k hk; simp at hk
  | cons q r ih =>
    intro k hk
    cases k with
    | zero => simp [flat2]
    | succ k =>
      have := ih k (by simpa using hk)
      simp only [flat2, List.flatMap_cons, List.getD_cons_succ] at this ⊢
      rw [show (k + 1) * 2 = k * 2 + 2 by omega]
      simpa [List.getElem?_append_right] using this
/-- A list of points in a block of its own. -/
def PtRow (w : World) (B : Nat) (v : Value) (ps : List (Int × Int)) : Prop := w.ownsRow B 90 2 v ps.length (flat2 ps)
theorem PtRow.pts {w : World} {B : Nat} {v : Value} {ps : List (Int × Int)} (h : PtRow w B v ps) : ∃ ao cap, v = .slice ao ps.length cap ∧ ps.length ≤ cap ∧ Pts w ao ps := by
  have h' := h
  rcases h.2 with ⟨rfl, hn⟩ | ⟨g, cap, cur, rfl, hb, hg, hc, _⟩
  · refine ⟨none, 0, by rw [hn], by omega, .inl (List.length_eq_zero_iff.1 hn)⟩
  · refine ⟨_, cap, rfl, hc, .inr ⟨g, 0, rfl, (Array.getElem?_eq_some_iff.1 hg).1, ?_⟩⟩
    intro k hk
    obtain ⟨f0, f1⟩ := flat2_at ps k hk
    have hcs := World.ownsRow.cells h' rfl
    have q0 := hcs _ _ f0
    have q1 := hcs _ _ f1
    rw [Addr.add_mid] at q0 q1
    exact ⟨q0, by rw [Nat.add_assoc]; exact q1⟩
theorem ptrow_new {w : World} {B : Nat} (hB : B ≤ w.heap.size) : PtRow (w.alloc (.cells #[] 90)) B (.slice (some ⟨w.heap.size, 0, none⟩) 0 0) [] := by
  have := World.ownsRow_made (base := B) (e := 90) (size := 2) w #[] 0 hB (by decide) rfl
  simpa [PtRow, flat2] using this
set_option maxRecDepth 100000 in
set_option maxHeartbeats 1000000 in
theorem list_p (w : World) (p : Nat) (a : Option Addr) (len cap : Nat) (n : Nat) (h1 : n ≤ 1000) (h : Ready w p a len cap) : Calls Tryz.prog 88 #[.pointer (some ⟨p, 0, none⟩), .int .i64 n] w fun e w' => ∃ ps : List (Int × Int), ∃ v, e = .returned v ∧ ps.length = n ∧ PtRow w' w.heap.size v ps ∧ Ready w' p a len cap ∧ w.grownBy w' (some p) := by
  have hp := h.lt
  obtain ⟨i0, hi0, hz0, hz1, hz2⟩ := info_parts Tryz.infoP2
  go_enter Tryz.func88, Tryz.ntmps88
  go_wp2_with fail
  go_loopw [5, 6] (fun v ti wr => ∃ i : Nat, ∃ done : List (Int × Int), ti = .int .i64 i ∧ i ≤ n ∧ Hid (done.length = i) ∧ Hid (PtRow wr w.heap.size v done) ∧ Ready wr p a len cap ∧ w.grownBy wr (some p)) (fun _ ti _ => n - (intOf ti).toNat)
  case atStart => exact ⟨0, [], rfl, by omega, rfl, ptrow_new (Nat.le_refl _), h.alloc _, grown_alloc _ _ _⟩
  case round =>
    obtain ⟨i, done, rfl, hin, HL, HO, hr, hg⟩ := hrel
    have hsz := hg.size
    by_cases hlt : i < n
    · have c1 : (i : Int) < (n : Int) := by omega
      go_wp2_with fail
      refine (point_r _ p a len cap hr).mono ?_
      rintro e w1 ⟨x, y, rfl, _, _, hr1, hg1⟩
      have hown1 : PtRow w1 w.heap.size u5 done := World.ownsRow.kept HO.out hg1 (Or.inr (fun e => by have := (World.ownsRow.lt HO.out p e).1; omega))
      have hdl : done.length ≤ 1000 := by have := HL.out; omega
      replace hg := grown_trans hg hg1
      replace hsz := hg.size
      clear HO hr hg1
      unfold PtRow at hown1
      go_wp2_with (at_builtin; refine wpList_append_own _ rfl (.tmp 13) (.tmp 16) 59 rfl w.heap.size 90 i0 _ 2 16 Tryz.underlying59 hi0 hz0 hz1 hz2 rfl (by decide) _ _ _ rfl (hown1.alloc _) ⟨w1.heap.size, 0, none⟩ 1 1 [.int .i64 x, .int .i64 y] rfl rfl (World.news_of_block (cs := #[.int .i64 x, .int .i64 y]) (t := 90) (fr := (0, 0)) (heap_alloc_new w1 _)) (by simp [Value.oneCell']) (by unfold maxLen; omega) (by omega) (by simp; omega) ?_; intro v' w2 hown' hgrow _)
      go_roundw
      case rel =>
        refine ⟨i + 1, done ++ [(x, y)], by go_num, by omega, ?_, ?_, ?_, ?_⟩
        · show _ = _; have := HL.out; simp; exact this
        · show PtRow _ _ _ _; unfold PtRow; rw [flat2_snoc]; simpa using hown'
        · refine (hr1.alloc _).kept hgrow (fun y hy => ?_)
          have := (hown1.lt y hy).1
          omega
        · exact grown_up (grown_trans hg (grown_alloc _ _ _)) hgrow (fun y hy => (hown1.lt y hy).1)
      case measure => simp [intOf]; omega
    · have c1 : (n : Int) ≤ (i : Int) := by omega
      go_wp2_with fail
      go_ret
      exact ⟨done, _, rfl, by have := HL.out; omega, HO.out, hr, hg⟩
theorem list_r (w : World) (p : Nat) (a : Option Addr) (len cap : Nat) (n : Nat) (h1 : n ≤ 1000) (h : Ready w p a len cap) : Calls Tryz.prog 88 #[.pointer (some ⟨p, 0, none⟩), .int .i64 n] w fun e w' => ∃ ps : List (Int × Int), ∃ ao cp, e = .returned (.slice ao ps.length cp) ∧ ps.length = n ∧ ps.length ≤ cp ∧ Pts w' ao ps ∧ Ready w' p a len cap ∧ w.grownBy w' (some p) := by
  refine (list_p w p a len cap n h1 h).mono ?_
  rintro e w1 ⟨ps, v, rfl, hl, hrow, hr, hg⟩
  obtain ⟨ao, cp, rfl, hcp, hpt⟩ := hrow.pts
  exact ⟨ps, ao, cp, rfl, hl, hcp, hpt, hr, hg⟩
end Go.Proofs.YtdaheepfmnjadaaGreatDoor
