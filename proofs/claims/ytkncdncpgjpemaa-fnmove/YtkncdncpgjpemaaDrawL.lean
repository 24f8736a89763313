/- Lists of points that are drawn. -/
import Derived.Test.YtkncdncpgjpemaaDrawT
import Derived.OwnWalk
import Derived.Deep.AppendLies
namespace Go.Proofs.Ytkncdncpgjpemaa
open Go.RowKit
set_option linter.unusedVariables false
set_option linter.unusedSimpArgs false
theorem one_size (b : UInt8) : (⟨#[b]⟩ : ByteArray).size = 1 := rfl
theorem grown_up {w w0 w1 : World} {p : Nat} {r : Option Nat} (h : w.grownBy w0 (some p)) (k : w0.grownBy w1 r) (hr : ∀ x, r = some x → w.heap.size ≤ x) : w.grownBy w1 (some p) :=
  ⟨k.os.trans h.os, k.tape.trans h.tape, k.output.trans h.output, Nat.le_trans h.size k.size, fun i hi hne => (k.block i (Nat.lt_of_lt_of_le hi h.size) (fun e => by have := hr i e.symm; omega)).trans (h.block i hi hne)⟩
theorem Ready.kept {w w' : World} {p : Nat} {a : Option Addr} {len cap : Nat} {r : Option Nat} (h : Ready w p a len cap) (hg : w.grownBy w' r) (hr : ∀ x, r = some x → p < x) : Ready w' p a len cap := by
  have hp := h.lt
  refine ⟨?_, ?_⟩
  · obtain ⟨i, y, hi, hb⟩ := h.1
    exact ⟨i, y, hi, (hg.block p hp (fun e => by have := hr p e.symm; omega)).trans hb⟩
  · obtain ⟨hl, hc⟩ := h.2
    refine ⟨hl, ?_⟩
    rcases hc with hc | ⟨b, off, rfl, hb, hc⟩
    · exact .inl hc
    · refine .inr ⟨b, off, rfl, hb, fun k hk => ?_⟩
      obtain ⟨z, z0, z1, hz⟩ := hc k hk
      exact ⟨z, z0, z1, hg.cell hz (fun e => by have := hr b e.symm; omega)⟩
theorem Ready.belowAll {w w' : World} {p : Nat} {a : Option Addr} {len cap : Nat} (h : Ready w p a len cap) (hb : Below w.heap.size w w') : Ready w' p a len cap ∧ w.grownBy w' (some p) := by
  have hg : ∀ r, w.grownBy w' r := fun r => ⟨hb.os, hb.tape, hb.output, hb.size, fun k hk _ => hb.block k hk⟩
  exact ⟨h.kept (hg none) (fun _ e => by cases e), hg _⟩
theorem Try.infoP2 : (Try.prog.info? 25).map (fun i => (i.zero, i.size, i.bytes)) = some (some (.agg #[.int .i64 0, .int .i64 0]), 2, 16) := by kernel_rfl
def flat2 (qs : List (Int × Int)) : List Value := qs.flatMap fun q => [.int .i64 q.1, .int .i64 q.2]
theorem flat2_snoc (qs : List (Int × Int)) (x y : Int) : flat2 (qs ++ [(x, y)]) = flat2 qs ++ [.int .i64 x, .int .i64 y] := by simp [flat2]
theorem flat2_at (qs : List (Int × Int)) : ∀ k, k < qs.length → (flat2 qs)[k * 2]? = some (.int .i64 (qs.getD k (0, 0)).1) ∧ (flat2 qs)[k * 2 + 1]? = some (.int .i64 (qs.getD k (0, 0)).2) := by
  induction qs with
  | nil => intro k hk; simp at hk
  | cons q r ih =>
    intro k hk
    cases k with
    | zero => simp [flat2]
    | succ k =>
      have := ih k (by simpa using hk)
      simp only [flat2, List.flatMap_cons, List.getD_cons_succ] at this ⊢
      rw [show (k + 1) * 2 = k * 2 + 2 by omega]
      simpa [List.getElem?_append_right] using this
/-- A list of points in a block of its own. -/
def PtRow (w : World) (B : Nat) (v : Value) (ps : List (Int × Int)) : Prop := w.ownsRow B 25 2 v ps.length (flat2 ps)
theorem PtRow.pts {w : World} {B : Nat} {v : Value} {ps : List (Int × Int)} (h : PtRow w B v ps) : ∃ ao cap, v = .slice ao ps.length cap ∧ ps.length ≤ cap ∧ Pts w ao ps := by
  have h' := h
  rcases h.2 with ⟨rfl, hn⟩ | ⟨g, cap, cur, rfl, hb, hg, hc, _⟩
  · refine ⟨none, 0, by rw [hn], by omega, .inl (List.length_eq_zero_iff.1 hn)⟩
  · refine ⟨_, cap, rfl, hc, .inr ⟨g, 0, rfl, (Array.getElem?_eq_some_iff.1 hg).1, ?_⟩⟩
    intro k hk
    obtain ⟨f0, f1⟩ := flat2_at ps k hk
    have hcs := World.ownsRow.cells h' rfl
    have q0 := hcs _ _ f0
    have q1 := hcs _ _ f1
    rw [Addr.add_mid] at q0 q1
    exact ⟨q0, by rw [Nat.add_assoc]; exact q1⟩
theorem ptrow_new {w : World} {B : Nat} (hB : B ≤ w.heap.size) : PtRow (w.alloc (.cells #[] 25)) B (.slice (some ⟨w.heap.size, 0, none⟩) 0 0) [] := by
  have := World.ownsRow_made (base := B) (e := 25) (size := 2) w #[] 0 hB (by decide) rfl
  simpa [PtRow, flat2] using this
set_option maxRecDepth 100000 in
set_option maxHeartbeats 1000000 in
theorem list_p (w : World) (p : Nat) (a : Option Addr) (len cap : Nat) (n : Nat) (h1 : n ≤ 1000) (h : Ready w p a len cap) : Calls Try.prog 87 #[.pointer (some ⟨p, 0, none⟩), .int .i64 n] w fun e w' => ∃ ps : List (Int × Int), ∃ v, e = .returned v ∧ ps.length = n ∧ PtRow w' w.heap.size v ps ∧ Ready w' p a len cap ∧ w.grownBy w' (some p) := by
  have hp := h.lt
  obtain ⟨i0, hi0, hz0, hz1, hz2⟩ := info_parts Try.infoP2
  go_enter Try.func87, Try.ntmps87
  go_wp2_with fail
  go_loopw [5, 6] (fun v ti wr => ∃ i : Nat, ∃ done : List (Int × Int), ti = .int .i64 i ∧ i ≤ n ∧ Hid (done.length = i) ∧ Hid (PtRow wr w.heap.size v done) ∧ Ready wr p a len cap ∧ w.grownBy wr (some p)) (fun _ ti _ => n - (intOf ti).toNat)
  case atStart => exact ⟨0, [], rfl, by omega, rfl, ptrow_new (Nat.le_refl _), h.alloc _, grown_alloc _ _ _⟩
  case round =>
    obtain ⟨i, done, rfl, hin, HL, HO, hr, hg⟩ := hrel
    have hsz := hg.size
    by_cases hlt : i < n
    · have c1 : (i : Int) < (n : Int) := by omega
      go_wp2_with fail
      refine (point_r _ p a len cap hr).mono ?_
      rintro e w1 ⟨x, y, rfl, _, _, hr1, hg1⟩
      have hown1 : PtRow w1 w.heap.size u5 done := World.ownsRow.kept HO.out hg1 (Or.inr (fun e => by have := (World.ownsRow.lt HO.out p e).1; omega))
      have hdl : done.length ≤ 1000 := by have := HL.out; omega
      replace hg := grown_trans hg hg1
      replace hsz := hg.size
      clear HO hr hg1
      unfold PtRow at hown1
      go_wp2_with (at_builtin; refine wpList_append_own _ rfl (.tmp 13) (.tmp 16) 37 rfl w.heap.size 25 i0 _ 2 16 Try.underlying37 hi0 hz0 hz1 hz2 rfl (by decide) _ _ _ rfl (hown1.alloc _) ⟨w1.heap.size, 0, none⟩ 1 1 [.int .i64 x, .int .i64 y] rfl rfl (World.news_of_block (cs := #[.int .i64 x, .int .i64 y]) (t := 25) (fr := (0, 0)) (heap_alloc_new w1 _)) (by simp [Value.oneCell']) (by unfold maxLen; omega) (by omega) (by simp; omega) ?_; intro v' w2 hown' hgrow _)
      go_roundw
      case rel =>
        refine ⟨i + 1, done ++ [(x, y)], by go_num, by omega, ?_, ?_, ?_, ?_⟩
        · show _ = _; have := HL.out; simp; exact this
        · show PtRow _ _ _ _; unfold PtRow; rw [flat2_snoc]; simpa using hown'
        · refine (hr1.alloc _).kept hgrow (fun y hy => ?_)
          have := (hown1.lt y hy).1
          omega
        · exact grown_up (grown_trans hg (grown_alloc _ _ _)) hgrow (fun y hy => (hown1.lt y hy).1)
      case measure => simp [intOf]; omega
    · have c1 : (n : Int) ≤ (i : Int) := by omega
      go_wp2_with fail
      go_ret
      exact ⟨done, _, rfl, by have := HL.out; omega, HO.out, hr, hg⟩
theorem list_r (w : World) (p : Nat) (a : Option Addr) (len cap : Nat) (n : Nat) (h1 : n ≤ 1000) (h : Ready w p a len cap) : Calls Try.prog 87 #[.pointer (some ⟨p, 0, none⟩), .int .i64 n] w fun e w' => ∃ ps : List (Int × Int), ∃ ao cp, e = .returned (.slice ao ps.length cp) ∧ ps.length = n ∧ ps.length ≤ cp ∧ Pts w' ao ps ∧ Ready w' p a len cap ∧ w.grownBy w' (some p) := by
  refine (list_p w p a len cap n h1 h).mono ?_
  rintro e w1 ⟨ps, v, rfl, hl, hrow, hr, hg⟩
  obtain ⟨ao, cp, rfl, hcp, hpt⟩ := hrow.pts
  exact ⟨ps, ao, cp, rfl, hl, hcp, hpt, hr, hg⟩
set_option maxRecDepth 100000 in
set_option maxHeartbeats 1000000 in
theorem draw_around (w : World) (a : Option Addr) (len cap : Nat) (hc : CodeAt w a len w.heap.size) : Calls Try.prog 24 #[.slice a len cap] w fun e w' => ∃ ps : List (Int × Int), ∃ ao cp, e = .returned (.slice ao ps.length cp) ∧ ps.length ≤ 8 ∧ ps.length ≤ cp ∧ Pts w' ao ps ∧ Below w.heap.size w w' := by
  go_enter Try.func24, Try.ntmps24
  go_wp2_with fail
  refine (new_q _ a len cap hc).mono ?_
  rintro e v1 ⟨p, rfl, hp0, hr, hold, hb0⟩
  go_wp2_with fail
  refine (below_r _ p a len cap 6 (by omega) (by omega) hr).mono ?_
  rintro e v2 ⟨x, rfl, x0, x1, hr2, hg⟩
  replace hb0 := bgrown hb0 hg (by omega)
  clear hr hg
  obtain ⟨k, rfl⟩ := Int.eq_ofNat_of_zero_le x0
  go_wp2_with fail
  refine (list_r _ p a len cap k (by omega) hr2).mono ?_
  rintro e v3 ⟨ps, ao, cp, rfl, hl, hcp, hpt, hr3, hg⟩
  replace hb0 := bgrown hb0 hg (by omega)
  have HP := hid hpt
  have HL := hid hl
  clear hr2 hg hpt hl
  go_wp2_with fail
  go_ret
  exact ⟨ps, ao, cp, rfl, by have := HL.out; omega, hcp, HP.out, hb0⟩
set_option maxRecDepth 100000 in
set_option maxHeartbeats 1000000 in
theorem draw_area (w : World) (a : Option Addr) (len cap : Nat) (hc : CodeAt w a len w.heap.size) : Calls Try.prog 38 #[.slice a len cap] w fun e w' => ∃ ps : List (Int × Int), ∃ ao cp, e = .returned (.slice ao ps.length cp) ∧ ps.length ≤ 8 ∧ ps.length ≤ cp ∧ Pts w' ao ps ∧ Below w.heap.size w w' := by
  go_enter Try.func38, Try.ntmps38
  go_wp2_with fail
  refine (new_q _ a len cap hc).mono ?_
  rintro e v1 ⟨p, rfl, hp0, hr, hold, hb0⟩
  go_wp2_with fail
  refine (below_r _ p a len cap 8 (by omega) (by omega) hr).mono ?_
  rintro e v2 ⟨x, rfl, x0, x1, hr2, hg⟩
  replace hb0 := bgrown hb0 hg (by omega)
  clear hr hg
  obtain ⟨k, rfl⟩ := Int.eq_ofNat_of_zero_le x0
  go_wp2_with fail
  refine (list_r _ p a len cap k (by omega) hr2).mono ?_
  rintro e v3 ⟨ps, ao, cp, rfl, hl, hcp, hpt, hr3, hg⟩
  replace hb0 := bgrown hb0 hg (by omega)
  have HP := hid hpt
  have HL := hid hl
  clear hr2 hg hpt hl
  go_wp2_with fail
  go_ret
  exact ⟨ps, ao, cp, rfl, by have := HL.out; omega, hcp, HP.out, hb0⟩
set_option maxRecDepth 100000 in
set_option maxHeartbeats 1000000 in
theorem draw_inring (w : World) (a : Option Addr) (len cap : Nat) (hc : CodeAt w a len w.heap.size) : Calls Try.prog 40 #[.slice a len cap] w fun e w' => ∃ x y : Int, ∃ ps : List (Int × Int), ∃ ao cp, e = .returned (.tuple #[.agg #[.int .i64 x, .int .i64 y], .slice ao ps.length cp]) ∧ ps.length ≤ 8 ∧ ps.length ≤ cp ∧ Pts w' ao ps ∧ Below w.heap.size w w' := by
  go_enter Try.func40, Try.ntmps40
  go_wp2_with fail
  have g0 := heap_alloc_new w (.cells #[.int .i64 0, .int .i64 0] 25)
  have hb0 : Below w.heap.size w (w.alloc (.cells #[.int .i64 0, .int .i64 0] 25)) := balloc (Below.refl _ _) _
  have hc0 := (hc.below hb0).mono hb0.size
  have hz0 : (w.alloc (.cells #[.int .i64 0, .int .i64 0] 25)).heap.size = w.heap.size + 1 := by simp
  generalize w.alloc (.cells #[.int .i64 0, .int .i64 0] 25) = v0 at *
  refine (new_q _ a len cap hc0).mono ?_
  rintro e v1 ⟨p, rfl, hp0, hr, hold, hbn⟩
  replace g0 := hold _ _ g0
  replace hb0 := btrans hb0 hbn
  clear hbn hold hc0
  go_wp2_with fail
  refine (below_r _ p a len cap 8 (by omega) (by omega) hr).mono ?_
  rintro e v2 ⟨x, rfl, x0, x1, hr2, hg⟩
  replace g0 := grown_blk hg g0 (by omega)
  replace hb0 := bgrown hb0 hg (by omega)
  clear hr hg
  obtain ⟨k, rfl⟩ := Int.eq_ofNat_of_zero_le x0
  have hlt2 := hr2.lt
  go_wp2_with fail
  refine (list_p _ p a len cap k (by omega) hr2).mono ?_
  rintro e v3 ⟨ps, v, rfl, hl, hrow, hr, hg⟩
  replace g0 := grown_blk hg g0 (by omega)
  replace hb0 := bgrown hb0 hg (by omega)
  have hps : ps.length ≤ 8 := by omega
  have Hrow := hid hrow
  obtain ⟨ao, cp, rfl, hcp, hpt⟩ := hrow.pts
  have HP := hid hpt
  clear hr2 hg hpt hl hrow
  have fin : ∀ (v4 : World) (px py : Int), v4.heap[w.heap.size]? = some (.cells #[.int .i64 0, .int .i64 0] 25 (0, 0)) → Below w.heap.size w v4 → Pts v4 ao ps → (∀ b off, ao = some ⟨b, off, none⟩ → b ≠ w.heap.size) → ∃ v5, v5 = (v4.setCell ⟨w.heap.size, 0, none⟩ (.int .i64 px)).setCell ⟨w.heap.size, 1, none⟩ (.int .i64 py) ∧ v5.cell? ⟨w.heap.size, 0, none⟩ = some (.int .i64 px) ∧ v5.cell? ⟨w.heap.size, 1, none⟩ = some (.int .i64 py) ∧ Below w.heap.size w v5 ∧ Pts v5 ao ps := by
    intro v4 px py g hb hp hne
    obtain ⟨q1, q2⟩ := set2 g (.int .i64 px) (.int .i64 py)
    obtain ⟨z0, z1, _, _⟩ := cell2g q1
    refine ⟨_, rfl, z0, z1, bset (bset hb (Nat.le_refl _) _) (Nat.le_refl _) _, ?_⟩
    rcases hp with hp | ⟨b, off, e, hb', hp⟩
    · exact .inl hp
    · refine .inr ⟨b, off, e, by simpa using hb', fun j hj => ?_⟩
      obtain ⟨c0, c1⟩ := hp j hj
      have := hne b off e
      exact ⟨keepset3 (keepset3 c0 (by simp; omega)) (by simp; omega), keepset3 (keepset3 c1 (by simp; omega)) (by simp; omega)⟩
  have Fin := hid fin
  clear fin
  have hne : ∀ b off, ao = some ⟨b, off, none⟩ → b ≠ w.heap.size ∧ b ≠ p := by
    intro b off e
    have := World.ownsRow.lt Hrow.out b (by rw [e]; rfl)
    omega
  have Hne := hid hne
  clear hne
  by_cases h0 : 0 < ps.length
  · have c1 : (0 : Int) < (ps.length : Int) := by omega
    go_wp2_with fail
    refine (once_r _ p a len cap 6 (by omega) (by omega) hr).mono ?_
    rintro e v4 ⟨b, rfl, hr2, hg⟩
    replace g0 := grown_blk hg g0 (by omega)
    replace hb0 := bgrown hb0 hg (by omega)
    have hown4 : PtRow v4 v2.heap.size (.slice ao ps.length cp) ps := World.ownsRow.kept Hrow.out hg (Or.inr (fun e => by have := (World.ownsRow.lt Hrow.out p e).1; omega))
    have Hrow4 := hid hown4
    obtain ⟨ao', cp', e', hcp', hpt⟩ := hown4.pts
    cases e'
    have HP4 := hid hpt
    clear hr hg hpt HP hown4
    cases b
    · go_wp2_with fail
      refine (point_r _ p a len cap hr2).mono ?_
      rintro e v5 ⟨px, py, rfl, _, _, hr5, hg⟩
      replace g0 := grown_blk hg g0 (by omega)
      replace hb0 := bgrown hb0 hg (by omega)
      have hown5 : PtRow v5 v2.heap.size (.slice ao ps.length cp) ps := World.ownsRow.kept Hrow4.out hg (Or.inr (fun e => by have := (World.ownsRow.lt Hrow4.out p e).1; omega))
      obtain ⟨ao', cp', e', hcp'', hpt⟩ := hown5.pts
      cases e'
      obtain ⟨v6, ev, k0, k1, hb6, hp6⟩ := Fin.out v5 px py g0 hb0 hpt (fun b off e => (Hne.out b off e).1)
      obtain ⟨i0, i1, f0, f1⟩ := cell2g g0
      have H6 := hid hp6
      clear hpt hown5 hp6 g0
      have Hev := hid ev
      clear ev
      go_wp2_with fail
      rw [← Hev.out]
      exact bodyPost_ret (v := .tuple #[.agg #[.int .i64 px, .int .i64 py], .slice ao ps.length cp]) (by simp [results, Try.results40, go_sem, k0, k1]) rfl ⟨px, py, ps, ao, cp, rfl, hps, hcp, H6.out, hb6⟩
    · obtain ⟨b, off, rfl, hbs, hp⟩ : ∃ b off, ao = some ⟨b, off, none⟩ ∧ b < v4.heap.size ∧ PtsAt v4 b off ps := by
        rcases HP4.out with h | h
        · rw [h] at h0; simp at h0
        · exact h
      obtain ⟨c2, c3⟩ := hp 0 h0
      simp only [Nat.zero_mul, Nat.add_zero] at c2 c3
      generalize (ps.getD 0 (0, 0)).1 = px at *
      generalize (ps.getD 0 (0, 0)).2 = py at *
      obtain ⟨v6, ev, k0, k1, hb6, hp6⟩ := Fin.out v4 px py g0 hb0 HP4.out (fun b off e => (Hne.out b off e).1)
      obtain ⟨i0, i1, f0, f1⟩ := cell2g g0
      have H6 := hid hp6
      clear hp hp6 g0
      have Hev := hid ev
      clear ev
      go_wp2_with fail
      rw [← Hev.out]
      exact bodyPost_ret (v := .tuple #[.agg #[.int .i64 px, .int .i64 py], .slice (some ⟨b, off, none⟩) ps.length cp]) (by simp [results, Try.results40, go_sem, k0, k1]) rfl ⟨px, py, ps, _, cp, rfl, hps, hcp, H6.out, hb6⟩
  · have c1 : (ps.length : Int) = 0 := by omega
    have c2 : ps = [] := List.length_eq_zero_iff.1 (by omega)
    subst c2
    go_wp2_with fail
    refine (point_r _ p a len cap hr).mono ?_
    rintro e v5 ⟨px, py, rfl, _, _, hr5, hg⟩
    replace g0 := grown_blk hg g0 (by omega)
    replace hb0 := bgrown hb0 hg (by omega)
    obtain ⟨v6, ev, k0, k1, hb6, hp6⟩ := Fin.out v5 px py g0 hb0 (.inl rfl) (fun b off e => (Hne.out b off e).1)
    obtain ⟨i0, i1, f0, f1⟩ := cell2g g0
    have Hev := hid ev
    clear ev g0 hp6
    go_wp2_with fail
    rw [← Hev.out]
    exact bodyPost_ret (v := .tuple #[.agg #[.int .i64 px, .int .i64 py], .slice ao 0 cp]) (by simp [results, Try.results40, go_sem, k0, k1]) rfl ⟨px, py, [], ao, cp, rfl, hps, hcp, .inl rfl, hb6⟩
end Go.Proofs.Ytkncdncpgjpemaa
