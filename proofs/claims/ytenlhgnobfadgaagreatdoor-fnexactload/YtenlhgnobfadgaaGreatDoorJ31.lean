/- Texts of stores, joined: DrawL, Rows3. -/
import Derived.Test.YtenlhgnobfadgaaGreatDoorJ30
import Derived.OwnWalk
import Derived.Deep.AppendLies
import Derived.Test.YtenlhgnobfadgaaGreatDoorJ28
namespace Go.Proofs.YtenlhgnobfadgaaGreatDoor
open Go.RowKit
set_option linter.unusedVariables false
set_option linter.unusedSimpArgs false
theorem one_size (b : UInt8) : (⟨#[b]⟩ : ByteArray).size = 1 := rfl
theorem grown_up {w w0 w1 : World} {p : Nat} {r : Option Nat} (h : w.grownBy w0 (some p)) (k : w0.grownBy w1 r) (hr : ∀ x, r = some x → w.heap.size ≤ x) : w.grownBy w1 (some p) :=
  ⟨k.os.trans h.os, k.tape.trans h.tape, k.output.trans h.output, Nat.le_trans h.size k.size, fun i hi hne => (k.block i (Nat.lt_of_lt_of_le hi h.size) (fun e => by have := hr i e.symm; omega)).trans (h.block i hi hne)⟩
theorem Ready.kept {w w' : World} {p : Nat} {a : Option Addr} {len cap : Nat} {r : Option Nat} (h : Ready w p a len cap) (hg : w.grownBy w' r) (hr : ∀ x, r = some x → p < x) : Ready w' p a len cap := by
  have hp := h.lt
  refine ⟨?_, ?_⟩
  · obtain ⟨i, y, hi, hb⟩ := h.1
    exact ⟨i, y, hi, (hg.block p hp (fun e => by have := hr p e.symm; omega)).trans hb⟩
  · obtain ⟨hl, hc⟩ := h.2
    refine ⟨hl, ?_⟩
    rcases hc with hc | ⟨b, off, rfl, hb, hc⟩
    · exact .inl hc
    · refine .inr ⟨b, off, rfl, hb, fun k hk => ?_⟩
      obtain ⟨z, z0, z1, hz⟩ := hc k hk
      exact ⟨z, z0, z1, hg.cell hz (fun e => by have := hr b e.symm; omega)⟩
theorem Ready.belowAll {w w' : World} {p : Nat} {a : Option Addr} {len cap : Nat} (h : Ready w p a len cap) (hb : Below w.heap.size w w') : Ready w' p a len cap ∧ w.grownBy w' (some p) := by
  have hg : ∀ r, w.grownBy w' r := fun r => ⟨hb.os, hb.tape, hb.output, hb.size, fun k hk _ => hb.block k hk⟩
  exact ⟨h.kept (hg none) (fun _ e => by cases e), hg _⟩
theorem Tryz.infoP2 : (Tryz.prog.info? 91).map (fun i => (i.zero, i.size, i.bytes)) = some (some (.agg #[.int .i64 0, .int .i64 0]), 2, 16) := by kernel_rfl
def flat2 (qs : List (Int × Int)) : List Value := qs.flatMap fun q => [.int .i64 q.1, .int .i64 q.2]
theorem flat2_snoc (qs : List (Int × Int)) (x y : Int) : flat2 (qs ++ [(x, y)]) = flat2 qs ++ [.int .i64 x, .int .i64 y] := by simp [flat2]
theorem flat2_at (qs : List (Int × Int)) : ∀ k, k < qs.length → (flat2 qs)[k * 2]? = some (.int .i64 (qs.getD k (0, 0)).1) ∧ (flat2 qs)[k * 2 + 1]? = some (.int .i64 (qs.getD k (0, 0)).2) := by
  induction qs with
  | nil => intro k hk; simp at hk
  | cons q r ih =>
    intro k hk
    cases k with
    | zero => simp [flat2]
    | succ k =>
      have := ih k (by simpa using hk)
      simp only [flat2, List.flatMap_cons, List.getD_cons_succ] at this ⊢
      rw [show (k + 1) * 2 = k * 2 + 2 by omega]
      simpa [List.getElem?_append_right] using this
/-- A list of points in a block of its own. -/
def PtRow (w : World) (B : Nat) (v : Value) (ps : List (Int × Int)) : Prop := w.ownsRow B 91 2 v ps.length (flat2 ps)
theorem PtRow.pts {w : World} {B : Nat} {v : Value} {ps : List (Int × Int)} (h : PtRow w B v ps) : ∃ ao cap, v = .slice ao ps.length cap ∧ ps.length ≤ cap ∧ Pts w ao ps := by
  have h' := h
  rcases h.2 with ⟨rfl, hn⟩ | ⟨g, cap, cur, rfl, hb, hg, hc, _⟩
  · refine ⟨none, 0, by rw [hn], by omega, .inl (List.length_eq_zero_iff.1 hn)⟩
  · refine ⟨_, cap, rfl, hc, .inr ⟨g, 0, rfl, (Array.getElem?_eq_some_iff.1 hg).1, ?_⟩⟩
    intro k hk
    obtain ⟨f0, f1⟩ := flat2_at ps k hk
    have hcs := World.ownsRow.cells h' rfl
    have q0 := hcs _ _ f0
    have q1 := hcs _ _ f1
    rw [Addr.add_mid] at q0 q1
    exact ⟨q0, by rw [Nat.add_assoc]; exact q1⟩
theorem ptrow_new {w : World} {B : Nat} (hB : B ≤ w.heap.size) : PtRow (w.alloc (.cells #[] 91)) B (.slice (some ⟨w.heap.size, 0, none⟩) 0 0) [] := by
  have := World.ownsRow_made (base := B) (e := 91) (size := 2) w #[] 0 hB (by decide) rfl
  simpa [PtRow, flat2] using this
set_option maxRecDepth 100000 in
set_option maxHeartbeats 1000000 in
theorem list_p (w : World) (p : Nat) (a : Option Addr) (len cap : Nat) (n : Nat) (h1 : n ≤ 1000) (h : Ready w p a len cap) : Calls Tryz.prog 189 #[.pointer (some ⟨p, 0, none⟩), .int .i64 n] w fun e w' => ∃ ps : List (Int × Int), ∃ v, e = .returned v ∧ ps.length = n ∧ PtRow w' w.heap.size v ps ∧ Ready w' p a len cap ∧ w.grownBy w' (some p) := by
  have hp := h.lt
  obtain ⟨i0, hi0, hz0, hz1, hz2⟩ := info_parts Tryz.infoP2
  go_enter Tryz.func189, Tryz.ntmps189
  go_wp2_with fail
  go_loopw [5, 6] (fun v ti wr => ∃ i : Nat, ∃ done : List (Int × Int), ti = .int .i64 i ∧ i ≤ n ∧ Hid (done.length = i) ∧ Hid (PtRow wr w.heap.size v done) ∧ Ready wr p a len cap ∧ w.grownBy wr (some p)) (fun _ ti _ => n - (intOf ti).toNat)
  case atStart => exact ⟨0, [], rfl, by omega, rfl, ptrow_new (Nat.le_refl _), h.alloc _, grown_alloc _ _ _⟩
  case round =>
    obtain ⟨i, done, rfl, hin, HL, HO, hr, hg⟩ := hrel
    have hsz := hg.size
    by_cases hlt : i < n
    · have c1 : (i : Int) < (n : Int) := by omega
      go_wp2_with fail
      refine (point_r _ p a len cap hr).mono ?_
      rintro e w1 ⟨x, y, rfl, _, _, hr1, hg1⟩
      have hown1 : PtRow w1 w.heap.size u5 done := World.ownsRow.kept HO.out hg1 (Or.inr (fun e => by have := (World.ownsRow.lt HO.out p e).1; omega))
      have hdl : done.length ≤ 1000 := by have := HL.out; omega
      replace hg := grown_trans hg hg1
      replace hsz := hg.size
      clear HO hr hg1
      unfold PtRow at hown1
      go_wp2_with (at_builtin; refine wpList_append_own _ rfl (.tmp 13) (.tmp 16) 46 rfl w.heap.size 91 i0 _ 2 16 Tryz.underlying46 hi0 hz0 hz1 hz2 rfl (by decide) _ _ _ rfl (hown1.alloc _) ⟨w1.heap.size, 0, none⟩ 1 1 [.int .i64 x, .int .i64 y] rfl rfl (World.news_of_block (cs := #[.int .i64 x, .int .i64 y]) (t := 91) (fr := (0, 0)) (heap_alloc_new w1 _)) (by simp [Value.oneCell']) (by unfold maxLen; omega) (by omega) (by simp; omega) ?_; intro v' w2 hown' hgrow _)
      go_roundw
      case rel =>
        refine ⟨i + 1, done ++ [(x, y)], by go_num, by omega, ?_, ?_, ?_, ?_⟩
        · show _ = _; have := HL.out; simp; exact this
        · show PtRow _ _ _ _; unfold PtRow; rw [flat2_snoc]; simpa using hown'
        · refine (hr1.alloc _).kept hgrow (fun y hy => ?_)
          have := (hown1.lt y hy).1
          omega
        · exact grown_up (grown_trans hg (grown_alloc _ _ _)) hgrow (fun y hy => (hown1.lt y hy).1)
      case measure => simp [intOf]; omega
    · have c1 : (n : Int) ≤ (i : Int) := by omega
      go_wp2_with fail
      go_ret
      exact ⟨done, _, rfl, by have := HL.out; omega, HO.out, hr, hg⟩
theorem list_r (w : World) (p : Nat) (a : Option Addr) (len cap : Nat) (n : Nat) (h1 : n ≤ 1000) (h : Ready w p a len cap) : Calls Tryz.prog 189 #[.pointer (some ⟨p, 0, none⟩), .int .i64 n] w fun e w' => ∃ ps : List (Int × Int), ∃ ao cp, e = .returned (.slice ao ps.length cp) ∧ ps.length = n ∧ ps.length ≤ cp ∧ Pts w' ao ps ∧ Ready w' p a len cap ∧ w.grownBy w' (some p) := by
  refine (list_p w p a len cap n h1 h).mono ?_
  rintro e w1 ⟨ps, v, rfl, hl, hrow, hr, hg⟩
  obtain ⟨ao, cp, rfl, hcp, hpt⟩ := hrow.pts
  exact ⟨ps, ao, cp, rfl, hl, hcp, hpt, hr, hg⟩
end Go.Proofs.YtenlhgnobfadgaaGreatDoor
namespace Go.Proofs.YtenlhgnobfadgaaGreatDoor
open Go.RowKit
set_option linter.unusedVariables false
set_option linter.unusedSimpArgs false
theorem row_other {w0 w' : World} {B H : Nat} {o : Obj} {v vi vi' : Value} {l : List (Int × Int)} (h : PtRow w0 B v l) (hne : vi.ownBlock ≠ v.ownBlock) (hg : (w0.alloc o).grownBy w' vi.ownBlock) (hat : vi'.ownBlock = vi.ownBlock ∨ vi'.ownBlock = some H) (hH : w0.heap.size ≤ H) (hs : ∃ g, v.ownBlock = some g) : PtRow w' B v l ∧ vi'.ownBlock ≠ v.ownBlock := by
  refine ⟨World.ownsRow.kept (World.ownsRow.alloc h o) hg (Or.inr (fun e => hne e.symm)), ?_⟩
  rcases hat with e | e
  · rw [e]; exact hne
  · rw [e]
    intro e2
    have := World.ownsRow.lt h H e2.symm
    omega
theorem row_self {w' : World} {B : Nat} {v' : Value} {l : List (Int × Int)} {x y : Int} (h : w'.ownsRow B 91 2 v' (l.length + 1) (flat2 l ++ [.int .i64 x, .int .i64 y])) : PtRow w' B v' (l ++ [(x, y)]) := by
  unfold PtRow; rw [flat2_snoc]; simpa using h
theorem bel_row {w0 w' U : World} {B : Nat} {o : Obj} {vi : Value} {l : List (Int × Int)} (hb : Below U.heap.size U w0) (h : PtRow w0 U.heap.size vi l) (hg : (w0.alloc o).grownBy w' vi.ownBlock) : Below U.heap.size U w' :=
  (balloc hb o).grown hg (by have := hb.size; simp; omega) (fun k hk => (World.ownsRow.lt h k hk).1)
theorem undrew {w w' : World} {r : Option Nat} (h : w.drew.grownBy w' r) : w.grownBy w' r := ⟨h.os, h.tape, h.output, h.size, h.block⟩
theorem own_at {v v' : Value} {H : Nat} (h : ∃ g, v.ownBlock = some g) (hat : v'.ownBlock = v.ownBlock ∨ v'.ownBlock = some H) : ∃ g, v'.ownBlock = some g := by
  rcases hat with e | e
  · rw [e]; exact h
  · exact ⟨_, e⟩
def fW (ps : List (Int × Int)) (dx dy : Int) (j : Nat) : Int × Int := (IntKind.i64.wrap ((ps.getD j (0, 0)).1 + dx), IntKind.i64.wrap ((ps.getD j (0, 0)).2 + dy))
theorem fW_eq {ps : List (Int × Int)} {dx dy : Int} (h1 : 0 ≤ dx ∧ dx ≤ 50) (h2 : 0 ≤ dy ∧ dy ≤ 50) (j : Nat) (h : pok (ps.getD j (0, 0)).1 (ps.getD j (0, 0)).2 = true) : fW ps dx dy j = fM ps dx dy j := by
  obtain ⟨⟨a, b⟩, c, d⟩ := in_of_pok h
  unfold fW fM
  rw [IntWalk.i64_in _ ⟨by omega, by omega⟩, IntWalk.i64_in _ ⟨by omega, by omega⟩]
theorem tkW_eq {ps : List (Int × Int)} {dx dy : Int} (h1 : 0 ≤ dx ∧ dx ≤ 50) (h2 : 0 ≤ dy ∧ dy ≤ 50) (h : ∀ j, j < ps.length → pok (ps.getD j (0, 0)).1 (ps.getD j (0, 0)).2 = true) : tk (fW ps dx dy) ps.length = tk (fM ps dx dy) ps.length := by
  unfold tk
  refine List.map_congr_left fun j hj => ?_
  exact fW_eq h1 h2 j (h j (by simpa using hj))
theorem area_lawW {ps : List (Int × Int)} {dx dy : Int} (h1 : 0 ≤ dx ∧ dx ≤ 50) (h2 : 0 ≤ dy ∧ dy ≤ 50) (hl : ps.length ≤ 8) (h : ∀ j, j < ps.length → pok (ps.getD j (0, 0)).1 (ps.getD j (0, 0)).2 = true ∧ pok (fW ps dx dy j).1 (fW ps dx dy j).2 = true) :
    area2 (tk (fR ps) ps.length) = - area2 ps ∧ area2 (tk (fW ps dx dy) ps.length) = area2 ps ∧ area2 (tk (fN ps) ps.length) = area2 ps := by
  rw [tkW_eq h1 h2 (fun j hj => (h j hj).1)]
  exact area_law dx dy hl (fun j hj => (h j hj).1) (fun j hj => by rw [← fW_eq h1 h2 j (h j hj).1]; exact (h j hj).2)
end Go.Proofs.YtenlhgnobfadgaaGreatDoor
