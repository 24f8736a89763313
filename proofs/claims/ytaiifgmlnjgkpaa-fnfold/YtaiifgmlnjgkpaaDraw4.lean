/- What is drawn for reading a number: a text of few bytes and a place. -/
import Derived.Test.YtaiifgmlnjgkpaaNum
namespace Go.Proofs.Ytaiifgmlnjgkpaa
open Go.RowKit
theorem one_size (b : UInt8) : (⟨#[b]⟩ : ByteArray).size = 1 := rfl
theorem grown_up {w w0 w1 : World} {p : Nat} {r : Option Nat} (h : w.grownBy w0 (some p)) (k : w0.grownBy w1 r) (hr : ∀ x, r = some x → w.heap.size ≤ x) : w.grownBy w1 (some p) :=
  ⟨k.os.trans h.os, k.tape.trans h.tape, k.output.trans h.output, Nat.le_trans h.size k.size, fun i hi hne => (k.block i (Nat.lt_of_lt_of_le hi h.size) (fun e => by have := hr i e.symm; omega)).trans (h.block i hi hne)⟩
theorem Ready.kept {w w' : World} {p : Nat} {a : Option Addr} {len cap : Nat} {r : Option Nat} (h : Ready w p a len cap) (hg : w.grownBy w' r) (hr : ∀ x, r = some x → p < x) : Ready w' p a len cap := by
  have hp := h.lt
  refine ⟨?_, ?_⟩
  · obtain ⟨i, y, hi, hb⟩ := h.1
    exact ⟨i, y, hi, (hg.block p hp (fun e => by have := hr p e.symm; omega)).trans hb⟩
  · obtain ⟨hl, hc⟩ := h.2
    refine ⟨hl, ?_⟩
    rcases hc with hc | ⟨b, off, rfl, hb, hc⟩
    · exact .inl hc
    · refine .inr ⟨b, off, rfl, hb, fun k hk => ?_⟩
      obtain ⟨z, z0, z1, hz⟩ := hc k hk
      exact ⟨z, z0, z1, hg.cell hz (fun e => by have := hr b e.symm; omega)⟩
theorem Ready.belowAll {w w' : World} {p : Nat} {a : Option Addr} {len cap : Nat} (h : Ready w p a len cap) (hb : Below w.heap.size w w') : Ready w' p a len cap ∧ w.grownBy w' (some p) := by
  have hg : ∀ r, w.grownBy w' r := fun r => ⟨hb.os, hb.tape, hb.output, hb.size, fun k hk _ => hb.block k hk⟩
  exact ⟨h.kept (hg none) (fun _ e => by cases e), hg _⟩
theorem own_some {w : World} {base n : Nat} {v : Value} {xs : List Int} (h : w.ownsRow base 5 1 v n (xs.map (Value.int .u8))) :
    ∃ ao cap, v = .slice ao n cap ∧ (convert 22 9 (.slice ao n cap)).run Try.prog w = .ok (.string (strOfNums xs)) w := by
  have hl : xs.length = n := by simpa using h.1
  rcases h.2 with ⟨rfl, hn⟩ | ⟨g, cap, cur, rfl, _⟩
  · subst hn
    obtain rfl : xs = [] := List.length_eq_zero_iff.1 hl
    exact ⟨none, 0, rfl, run_convert_bytes_nil w 22 5 Try.underlying22 Try.underlying5 0 0 9 Try.underlying9⟩
  · refine ⟨some ⟨g, 0, none⟩, cap, rfl, ?_⟩
    refine run_convert_bytes_arg _ 22 5 Try.underlying22 Try.underlying5 g 0 n cap xs hl (fun i hi => ?_) 9 Try.underlying9
    have hc := h.cells (g := g) rfl i (.int .u8 (xs.getD i 0)) (by simp [List.getElem?_map, List.getD, List.getElem?_eq_getElem (show i < xs.length by omega)])
    rw [Addr.add_lit] at hc
    simpa using hc
set_option maxRecDepth 100000 in
set_option maxHeartbeats 1000000 in
theorem bytes_r (w : World) (p : Nat) (a : Option Addr) (len cap : Nat) (n : Nat) (h1 : n ≤ 100) (h : Ready w p a len cap) : Calls Try.prog 28 #[.pointer (some ⟨p, 0, none⟩), .int .i64 n] w fun e w' => ∃ s : ByteArray, e = .returned (.string s) ∧ s.size ≤ 100 ∧ Ready w' p a len cap ∧ w.grownBy w' (some p) := by
  have hp := h.lt
  obtain ⟨i0, hi, hz0, hz1, hz2⟩ := info_parts Try.info5
  go_enter Try.func28, Try.ntmps28
  go_wp2_with fail
  go_loopw [5, 6] (fun v ti wr => ∃ i : Nat, ∃ done : List Int, ti = .int .i64 i ∧ i ≤ n ∧ Hid (done.length = i) ∧ wr.ownsRow w.heap.size 5 1 v i (done.map (Value.int .u8)) ∧ Ready wr p a len cap ∧ w.grownBy wr (some p)) (fun _ ti _ => n - (intOf ti).toNat)
  case atStart => exact ⟨0, [], rfl, by omega, rfl, World.ownsRow_made _ _ _ (Nat.le_refl _) (by decide) rfl, h.alloc _, grown_alloc _ _ _⟩
  case round =>
    obtain ⟨i, done, rfl, hin, HL, hown, hr, hg⟩ := hrel
    have hsz := hg.size
    by_cases hlt : i < n
    · have c1 : (i : Int) < (n : Int) := by omega
      go_wp2_with fail
      refine (below_r _ p a len cap 256 (by omega) (by omega) hr).mono ?_
      rintro e w1 ⟨x, rfl, x0, x1, hr1, hg1⟩
      have hown1 := hown.kept hg1 (Or.inr (fun e => by have := (hown.lt p e).1; omega))
      replace hg := grown_trans hg hg1
      replace hsz := hg.size
      clear hown hr hg1
      go_wp2_with (at_builtin; refine wpList_append_own _ rfl (.tmp 13) (.tmp 17) 22 rfl w.heap.size 5 i0 (.int .u8 0) 1 1 Try.underlying22 hi hz0 hz1 hz2 rfl (by decide) _ _ _ rfl (hown1.alloc _) ⟨w1.heap.size, 0, none⟩ 1 1 [.int .u8 x] rfl rfl (cell_one_new _ _ _) (by simp [Value.oneCell']) (by unfold maxLen; omega) (by omega) (by simp; omega) ?_; intro v' w2 hown' hgrow _)
      go_roundw
      case rel =>
        refine ⟨i + 1, done ++ [x], by go_num, by omega, ?_, by simpa using hown', ?_, ?_⟩
        · show _ = _; have := HL.out; simp; exact this
        · refine (hr1.alloc _).kept hgrow (fun y hy => ?_)
          have := (hown1.lt y hy).1
          omega
        · exact grown_up (grown_trans hg (grown_alloc _ _ _)) hgrow (fun y hy => (hown1.lt y hy).1)
      case measure => simp [intOf]; omega
    · have c1 : (n : Int) ≤ (i : Int) := by omega
      obtain ⟨ao, cp, rfl, hcv⟩ := own_some hown
      go_wp2_with fail
      go_ret
      exact ⟨strOfNums done, rfl, by rw [strOfNums_size, HL.out]; omega, hr, hg⟩
set_option maxRecDepth 100000 in
set_option maxHeartbeats 2000000 in
theorem draw_getnum (w : World) (a : Option Addr) (len cap : Nat) (hc : CodeAt w a len w.heap.size) : Calls Try.prog 10 #[.slice a len cap] w fun e w' => ∃ u : ByteArray, ∃ i : Int, e = .returned (.tuple #[.string u, .int .i64 i]) ∧ u.size ≤ 1000 ∧ I64 i ∧ Below w.heap.size w w' := by
  go_enter Try.func10, Try.ntmps10
  go_wp2_with fail
  refine (new_c _ a len cap hc).mono ?_
  rintro e w1 ⟨h, rfl, rfl⟩
  go_wp2_with fail
  refine (num_r _ _ a len cap (ready_new w a len cap h hc)).mono ?_
  rintro e w2 ⟨z, rfl, hz, hr2, hg⟩
  go_wp2_with fail
  refine (spec_put_any z _).mono ?_
  have hps := pn_size z
  generalize pn z = s at hps ⊢
  rintro e w3 ⟨rfl, hb3⟩
  obtain ⟨hr3, hg3⟩ := hr2.belowAll hb3
  replace hg := grown_trans hg hg3
  clear hg3 hr2 hb3 hz
  go_wp2_with fail
  refine (below_r _ _ a len cap 6 (by omega) (by omega) hr3).mono ?_
  rintro e w4 ⟨x, rfl, x0, x1, hr4, hg4⟩
  replace hg := grown_trans hg hg4
  clear hg4 hr3
  by_cases e0 : x = 0
  · subst e0
    go_wp2_with fail
    refine (below_r _ _ a len cap 7 (by omega) (by omega) hr4).mono ?_
    rintro e w5 ⟨y, rfl, y0, y1, hr5, hg5⟩
    replace hg := grown_trans hg hg5
    clear hg5 hr4
    obtain ⟨m, rfl⟩ := Int.eq_ofNat_of_zero_le y0
    go_wp2_with fail
    refine (bytes_r _ _ a len cap m (by omega) hr5).mono ?_
    rintro e w6 ⟨u, rfl, hu, hr6, hg6⟩
    replace hg := grown_trans hg hg6
    clear hg6 hr5
    go_wp2_with fail
    go_ret2
    refine ⟨_, _, rfl, ?_, by unfold I64; omega, below_new hg⟩
    rw [ByteArray.size_append, ByteArray.size_append, one_size, one_size]; omega
  · have n0 : (x == 0) = false := by rw [beq_eq_false_iff_ne]; exact e0
    by_cases e1 : x = 1
    · subst e1
      go_wp2_with fail
      go_ret2
      refine ⟨_, _, rfl, ?_, by unfold I64; omega, below_new hg⟩
      rw [ByteArray.size_append, ByteArray.size_append, ByteArray.size_append, one_size, one_size, one_size]; omega
    · have n1 : (x == 1) = false := by rw [beq_eq_false_iff_ne]; exact e1
      by_cases e2 : x = 2
      · subst e2
        go_wp2_with fail
        refine (pick_r _ _ a len cap _ 5 (by omega) (by omega) ?_ (ints_new w4 [-1, 1, 0, 9, 9223372036854775807] 3 (by unfold I64; decide)) (hr4.alloc _)).mono ?_
        · have := hr4.lt; omega
        · rintro e w5 ⟨y, rfl, hy, hr5, hg5⟩
          replace hg := grown_trans (grown_trans hg (grown_alloc _ _ _)) hg5
          clear hg5 hr4
          go_wp2_with fail
          go_ret2
          exact ⟨_, _, rfl, by omega, hy, below_new hg⟩
      · have n2 : (x == 2) = false := by rw [beq_eq_false_iff_ne]; exact e2
        clear e0 e1 e2
        go_wp2_with fail
        go_ret2
        refine ⟨_, _, rfl, ?_, by unfold I64; omega, below_new hg⟩
        rw [ByteArray.size_append, ByteArray.size_append, one_size, one_size]; omega
end Go.Proofs.Ytaiifgmlnjgkpaa
