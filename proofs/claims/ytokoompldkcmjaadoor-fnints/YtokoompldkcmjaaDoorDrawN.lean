/- The numbers, words and texts of a draw: what is drawn for a decimal text, for words and for a sum. -/
import Derived.Test.YtokoompldkcmjaaDoorDraw
import Derived.Test.YtokoompldkcmjaaDoorDec
import Derived.Test.YtokoompldkcmjaaDoorDecM
namespace Go.Proofs.YtokoompldkcmjaaDoor
open Go.RowKit
set_option maxRecDepth 100000 in
set_option maxHeartbeats 1000000 in
theorem word_r (w : World) (p : Nat) (a : Option Addr) (len cap : Nat) (h : Ready w p a len cap) : Calls Tryd.prog 58 #[.pointer (some ⟨p, 0, none⟩)] w fun e w' => ∃ z : Int, e = .returned (.int .u32 z) ∧ (0 ≤ z ∧ z ≤ 4294967295) ∧ Ready w' p a len cap ∧ w.grownBy w' (some p) := by
  go_enter Tryd.func58, Tryd.ntmps58
  go_wp2_with fail
  refine (below_r _ p a len cap 4 (by omega) (by omega) h).mono ?_
  rintro e w1 ⟨x, rfl, x0, x1, hr, hg⟩
  clear h
  by_cases e0 : x = 0
  · subst e0
    go_wp2_with fail
    refine (pick_r _ p a len cap _ 11 (by omega) (by omega) ?_ (ints_new w1 [0, 1, 2, 31, 32, 255, 256, 2147483647, 2147483648, 4294967295, 4294967294] 3 (by unfold I64; decide)) (hr.alloc _)).mono ?_
    · have := hr.lt; omega
    · rintro e w2 ⟨z, rfl, hz, hr2, hg2⟩
      replace hg := grown_trans (grown_trans hg (grown_alloc _ _ _)) hg2
      clear hg2 hr
      go_wp2_with fail
      go_ret
      exact ⟨_, rfl, by omega, hr2, hg⟩
  · have n0 : (x == 0) = false := by rw [beq_eq_false_iff_ne]; exact e0
    by_cases e1 : x = 1
    · subst e1
      go_wp2_with fail
      refine (below_r _ p a len cap 300 (by omega) (by omega) hr).mono ?_
      rintro e w2 ⟨z, rfl, z0, z1, hr2, hg2⟩
      replace hg := grown_trans hg hg2
      clear hg2 hr
      go_wp2_with fail
      go_ret
      exact ⟨_, rfl, by omega, hr2, hg⟩
    · have n1 : (x == 1) = false := by rw [beq_eq_false_iff_ne]; exact e1
      clear e0 e1
      go_wp2_with fail
      refine (below_r _ p a len cap 65536 (by omega) (by omega) hr).mono ?_
      rintro e w2 ⟨z, rfl, z0, z1, hr2, hg2⟩
      replace hg := grown_trans hg hg2
      clear hg2 hr
      go_wp2_with fail
      refine (below_r _ p a len cap 65536 (by omega) (by omega) hr2).mono ?_
      rintro e w3 ⟨u, rfl, u0, u1, hr3, hg3⟩
      replace hg := grown_trans hg hg3
      clear hg3 hr2
      go_wp2_with fail
      go_ret
      exact ⟨_, rfl, by omega, hr3, hg⟩
set_option maxRecDepth 100000 in
set_option maxHeartbeats 1000000 in
theorem num_r (w : World) (p : Nat) (a : Option Addr) (len cap : Nat) (h : Ready w p a len cap) : Calls Tryd.prog 33 #[.pointer (some ⟨p, 0, none⟩)] w fun e w' => ∃ z : Int, e = .returned (.int .i64 z) ∧ I64 z ∧ Ready w' p a len cap ∧ w.grownBy w' (some p) := by
  go_enter Tryd.func33, Tryd.ntmps33
  go_wp2_with fail
  refine (below_r _ p a len cap 5 (by omega) (by omega) h).mono ?_
  rintro e w1 ⟨x, rfl, x0, x1, hr, hg⟩
  clear h
  by_cases e0 : x = 0
  · subst e0
    go_wp2_with fail
    refine (pick_r _ p a len cap _ 22 (by omega) (by omega) ?_ (ints_new w1 [0, 1, -1, 127, 128, 16383, 16384, 65535, 65536, 30000, 30001, -30000, -30001, 1000000000, 1000000001, -1000000000, 4000000000, 4000000001, 4294967295, 4294967296, 9223372036854775807, -9223372036854775808] 3 (by unfold I64; decide)) (hr.alloc _)).mono ?_
    · have := hr.lt; omega
    · rintro e w2 ⟨z, rfl, hz, hr2, hg2⟩
      replace hg := grown_trans (grown_trans hg (grown_alloc _ _ _)) hg2
      clear hg2 hr
      go_wp2_with fail
      go_ret
      exact ⟨_, rfl, hz, hr2, hg⟩
  · have n0 : (x == 0) = false := by rw [beq_eq_false_iff_ne]; exact e0
    by_cases e1 : x = 1
    · subst e1
      go_wp2_with fail
      refine (word_r _ p a len cap hr).mono ?_
      rintro e w2 ⟨z, rfl, ⟨z0, z1⟩, hr2, hg2⟩
      replace hg := grown_trans hg hg2
      clear hg2 hr
      go_wp2_with fail
      go_ret
      exact ⟨_, rfl, by unfold I64; omega, hr2, hg⟩
    · have n1 : (x == 1) = false := by rw [beq_eq_false_iff_ne]; exact e1
      clear e0 e1
      go_wp2_with fail
      refine (below_r _ p a len cap 70000 (by omega) (by omega) hr).mono ?_
      rintro e w2 ⟨z, rfl, z0, z1, hr2, hg2⟩
      replace hg := grown_trans hg hg2
      clear hg2 hr
      go_wp2_with fail
      go_ret
      exact ⟨_, rfl, by unfold I64; omega, hr2, hg⟩
theorem one_size (b : UInt8) : (⟨#[b]⟩ : ByteArray).size = 1 := rfl
theorem grown_up {w w0 w1 : World} {p : Nat} {r : Option Nat} (h : w.grownBy w0 (some p)) (k : w0.grownBy w1 r) (hr : ∀ x, r = some x → w.heap.size ≤ x) : w.grownBy w1 (some p) :=
  ⟨k.os.trans h.os, k.tape.trans h.tape, k.output.trans h.output, Nat.le_trans h.size k.size, fun i hi hne => (k.block i (Nat.lt_of_lt_of_le hi h.size) (fun e => by have := hr i e.symm; omega)).trans (h.block i hi hne)⟩
theorem Ready.kept {w w' : World} {p : Nat} {a : Option Addr} {len cap : Nat} {r : Option Nat} (h : Ready w p a len cap) (hg : w.grownBy w' r) (hr : ∀ x, r = some x → p < x) : Ready w' p a len cap := by
  have hp := h.lt
  refine ⟨?_, ?_⟩
  · obtain ⟨i, y, hi, hb⟩ := h.1
    exact ⟨i, y, hi, (hg.block p hp (fun e => by have := hr p e.symm; omega)).trans hb⟩
  · obtain ⟨hl, hc⟩ := h.2
    refine ⟨hl, ?_⟩
    rcases hc with hc | ⟨b, off, rfl, hb, hc⟩
    · exact .inl hc
    · refine .inr ⟨b, off, rfl, hb, fun k hk => ?_⟩
      obtain ⟨z, z0, z1, hz⟩ := hc k hk
      exact ⟨z, z0, z1, hg.cell hz (fun e => by have := hr b e.symm; omega)⟩
theorem Ready.belowAll {w w' : World} {p : Nat} {a : Option Addr} {len cap : Nat} (h : Ready w p a len cap) (hb : Below w.heap.size w w') : Ready w' p a len cap ∧ w.grownBy w' (some p) := by
  have hg : ∀ r, w.grownBy w' r := fun r => ⟨hb.os, hb.tape, hb.output, hb.size, fun k hk _ => hb.block k hk⟩
  exact ⟨h.kept (hg none) (fun _ e => by cases e), hg _⟩
theorem own_some {w : World} {base n : Nat} {v : Value} {xs : List Int} (h : w.ownsRow base 5 1 v n (xs.map (Value.int .u8))) :
    ∃ ao cap, v = .slice ao n cap ∧ (convert 22 9 (.slice ao n cap)).run Tryd.prog w = .ok (.string (strOfNums xs)) w := by
  have hl : xs.length = n := by simpa using h.1
  rcases h.2 with ⟨rfl, hn⟩ | ⟨g, cap, cur, rfl, _⟩
  · subst hn
    obtain rfl : xs = [] := List.length_eq_zero_iff.1 hl
    exact ⟨none, 0, rfl, run_convert_bytes_nil w 22 5 Tryd.underlying22 Tryd.underlying5 0 0 9 Tryd.underlying9⟩
  · refine ⟨some ⟨g, 0, none⟩, cap, rfl, ?_⟩
    refine run_convert_bytes_arg _ 22 5 Tryd.underlying22 Tryd.underlying5 g 0 n cap xs hl (fun i hi => ?_) 9 Tryd.underlying9
    have hc := h.cells (g := g) rfl i (.int .u8 (xs.getD i 0)) (by simp [List.getElem?_map, List.getD, List.getElem?_eq_getElem (show i < xs.length by omega)])
    rw [Addr.add_lit] at hc
    simpa using hc
theorem Tryd.info5d : (Tryd.prog.info? 5).map (fun i => (i.zero, i.size, i.bytes)) = some (some (.int .u8 0), 1, 1) := by kernel_rfl
set_option maxRecDepth 100000 in
set_option maxHeartbeats 1000000 in
theorem bytes_r (w : World) (p : Nat) (a : Option Addr) (len cap : Nat) (n : Nat) (h1 : n ≤ 100) (h : Ready w p a len cap) : Calls Tryd.prog 39 #[.pointer (some ⟨p, 0, none⟩), .int .i64 n] w fun e w' => ∃ s : ByteArray, e = .returned (.string s) ∧ s.size ≤ 100 ∧ Ready w' p a len cap ∧ w.grownBy w' (some p) := by
  have hp := h.lt
  obtain ⟨i0, hi, hz0, hz1, hz2⟩ := info_parts Tryd.info5d
  go_enter Tryd.func39, Tryd.ntmps39
  go_wp2_with fail
  go_loopw [5, 6] (fun v ti wr => ∃ i : Nat, ∃ done : List Int, ti = .int .i64 i ∧ i ≤ n ∧ Hid (done.length = i) ∧ wr.ownsRow w.heap.size 5 1 v i (done.map (Value.int .u8)) ∧ Ready wr p a len cap ∧ w.grownBy wr (some p)) (fun _ ti _ => n - (intOf ti).toNat)
  case atStart => exact ⟨0, [], rfl, by omega, rfl, World.ownsRow_made _ _ _ (Nat.le_refl _) (by decide) rfl, h.alloc _, grown_alloc _ _ _⟩
  case round =>
    obtain ⟨i, done, rfl, hin, HL, hown, hr, hg⟩ := hrel
    have hsz := hg.size
    by_cases hlt : i < n
    · have c1 : (i : Int) < (n : Int) := by omega
      go_wp2_with fail
      refine (below_r _ p a len cap 256 (by omega) (by omega) hr).mono ?_
      rintro e w1 ⟨x, rfl, x0, x1, hr1, hg1⟩
      have hown1 := hown.kept hg1 (Or.inr (fun e => by have := (hown.lt p e).1; omega))
      replace hg := grown_trans hg hg1
      replace hsz := hg.size
      clear hown hr hg1
      go_wp2_with (at_builtin; refine wpList_append_own _ rfl (.tmp 13) (.tmp 17) 22 rfl w.heap.size 5 i0 (.int .u8 0) 1 1 Tryd.underlying22 hi hz0 hz1 hz2 rfl (by decide) _ _ _ rfl (hown1.alloc _) ⟨w1.heap.size, 0, none⟩ 1 1 [.int .u8 x] rfl rfl (cell_one_new _ _ _) (by simp [Value.oneCell']) (by unfold maxLen; omega) (by omega) (by simp; omega) ?_; intro v' w2 hown' hgrow _)
      go_roundw
      case rel =>
        refine ⟨i + 1, done ++ [x], by go_num, by omega, ?_, by simpa using hown', ?_, ?_⟩
        · show _ = _; have := HL.out; simp; exact this
        · refine (hr1.alloc _).kept hgrow (fun y hy => ?_)
          have := (hown1.lt y hy).1
          omega
        · exact grown_up (grown_trans hg (grown_alloc _ _ _)) hgrow (fun y hy => (hown1.lt y hy).1)
      case measure => simp [intOf]; omega
    · have c1 : (n : Int) ≤ (i : Int) := by omega
      obtain ⟨ao, cp, rfl, hcv⟩ := own_some hown
      go_wp2_with fail
      go_ret
      exact ⟨strOfNums done, rfl, by rw [strOfNums_size, HL.out]; omega, hr, hg⟩
def Strs (w : World) (q m : Nat) : Prop := ∀ k, k < m → ∃ s : ByteArray, s.size ≤ 10 ∧ w.cell? ⟨q, k, none⟩ = some (.string s)
theorem strs_new (w : World) (l : List ByteArray) (t : TypeId) (hz : ∀ s ∈ l, s.size ≤ 10) : Strs (w.alloc (.cells (l.map Value.string).toArray t)) w.heap.size l.length := by
  intro k hk
  refine ⟨l[k], hz _ (List.getElem_mem hk), ?_⟩
  have h := heap_alloc_new w (.cells (l.map Value.string).toArray t)
  rw [cell_of_row _ w.heap.size k _ t (0, 0) h]
  simp [hk]
set_option maxHeartbeats 400000 in
theorem pick_s (w : World) (p : Nat) (a : Option Addr) (len cap : Nat) (q m : Nat) (h0 : 0 < m) (h1 : m ≤ 1000) (hq : q ≠ p) (hi : Strs w q m) (h : Ready w p a len cap) : Calls Tryd.prog 35 #[.pointer (some ⟨p, 0, none⟩), .slice (some ⟨q, 0, none⟩) m m] w fun e w' => ∃ s : ByteArray, e = .returned (.string s) ∧ s.size ≤ 10 ∧ Ready w' p a len cap ∧ w.grownBy w' (some p) := by
  go_enter Tryd.func35, Tryd.ntmps35
  go_wp2_with fail
  refine (below_r _ p a len cap (m : Int) (by omega) (by omega) h).mono ?_
  rintro e w1 ⟨x, rfl, x0, x1, hr, hg⟩
  obtain ⟨k, rfl⟩ := Int.eq_ofNat_of_zero_le x0
  obtain ⟨z, hz, hc⟩ := hi k (by omega)
  have hc1 := hg.cell hc (fun e => by simp at e; exact hq e)
  clear hc hi h
  go_wp2_with fail
  go_ret
  exact ⟨z, rfl, hz, hr, hg⟩
theorem draw_checksum (w : World) (a : Option Addr) (len cap : Nat) (hc : CodeAt w a len w.heap.size) : Calls Tryd.prog 12 #[.slice a len cap] w fun e w' => ∃ s : ByteArray, e = .returned (.string s) ∧ s.size ≤ 100 ∧ Below w.heap.size w w' := by
  go_enter Tryd.func12, Tryd.ntmps12
  go_wp2_with fail
  refine (new_c _ a len cap hc).mono ?_
  rintro e w1 ⟨h, rfl, rfl⟩
  go_wp2_with fail
  refine (below_r _ _ a len cap 40 (by omega) (by omega) (ready_new w a len cap h hc)).mono ?_
  rintro e w2 ⟨x, rfl, x0, x1, hr, hg⟩
  obtain ⟨m, rfl⟩ := Int.eq_ofNat_of_zero_le x0
  go_wp2_with fail
  refine (bytes_r _ _ a len cap m (by omega) hr).mono ?_
  rintro e w3 ⟨u, rfl, hu, hr3, hg3⟩
  replace hg := grown_trans hg hg3
  clear hg3 hr
  go_wp2_with fail
  go_ret
  exact ⟨u, rfl, hu, below_new hg⟩
theorem draw_dectext (w : World) (a : Option Addr) (len cap : Nat) (hc : CodeAt w a len w.heap.size) : Calls Tryd.prog 10 #[.slice a len cap] w fun e w' => ∃ z : Int, e = .returned (.int .i64 z) ∧ I64 z ∧ Below w.heap.size w w' := by
  go_enter Tryd.func10, Tryd.ntmps10
  go_wp2_with fail
  refine (new_c _ a len cap hc).mono ?_
  rintro e w1 ⟨h, rfl, rfl⟩
  go_wp2_with fail
  refine (num_r _ _ a len cap (ready_new w a len cap h hc)).mono ?_
  rintro e w2 ⟨z, rfl, hz, hr2, hg2⟩
  go_wp2_with fail
  go_ret
  exact ⟨z, rfl, hz, below_new hg2⟩
theorem itoa_size (z : Int) (hz : I64 z) : (⟨(Lib.itoa z).toArray⟩ : ByteArray).size ≤ 100 := by
  have h0 := hz.1; have h1 := hz.2
  have a := dec_len 19 z.natAbs (by omega)
  have b := dec_len 19 z.toNat (by omega)
  show (Lib.itoa z).toArray.size ≤ 100
  rw [List.size_toArray]
  unfold Lib.itoa
  split
  · rw [List.length_cons]; omega
  · omega
set_option maxRecDepth 100000 in
set_option maxHeartbeats 1000000 in
theorem draw_readint (w : World) (a : Option Addr) (len cap : Nat) (hc : CodeAt w a len w.heap.size) : Calls Tryd.prog 7 #[.slice a len cap] w fun e w' => ∃ s : ByteArray, e = .returned (.string s) ∧ s.size ≤ 100 ∧ Below w.heap.size w w' := by
  go_enter Tryd.func7, Tryd.ntmps7
  go_wp2_with fail
  refine (new_c _ a len cap hc).mono ?_
  rintro e w1 ⟨h, rfl, rfl⟩
  go_wp2_with fail
  refine (num_r _ _ a len cap (ready_new w a len cap h hc)).mono ?_
  rintro e w2 ⟨z, rfl, hz, hr, hg⟩
  go_wp2_with fail
  refine (spec_dec z hz.1 hz.2 _).mono ?_
  have hs := itoa_size z hz
  generalize (⟨(Lib.itoa z).toArray⟩ : ByteArray) = s at hs ⊢
  rintro e w3 ⟨rfl, rfl⟩
  go_wp2_with fail
  refine (once_r _ _ a len cap 4 (by omega) (by omega) hr).mono ?_
  rintro e w4 ⟨b, rfl, hr4, hg4⟩
  replace hg := grown_trans hg hg4
  clear hg4 hr
  cases b
  · go_wp2_with fail
    go_ret
    exact ⟨s, rfl, hs, below_new hg⟩
  · go_wp2_with fail
    refine (pick_s _ _ a len cap _ 11 (by omega) (by omega) ?_ (strs_new w4 [⟨#[]⟩, ⟨#[45]⟩, ⟨#[45, 48]⟩, ⟨#[48, 48]⟩, ⟨#[48, 49]⟩, ⟨#[45, 48, 49]⟩, ⟨#[49, 120]⟩, ⟨#[32, 49]⟩, ⟨#[57, 57, 57, 57, 57, 57, 57, 57, 57]⟩, ⟨#[45, 57, 57, 57, 57, 57, 57, 57, 57, 57]⟩, ⟨#[49, 48, 48, 48, 48, 48, 48, 48, 48, 48]⟩] 9 (by decide)) (hr4.alloc _)).mono ?_
    · have := hr4.lt; omega
    · rintro e w5 ⟨u, rfl, hu, hr5, hg5⟩
      replace hg := grown_trans (grown_trans hg (grown_alloc _ _ _)) hg5
      clear hg5 hr4
      go_wp2_with fail
      go_ret
      exact ⟨u, rfl, by omega, below_new hg⟩
set_option maxRecDepth 100000 in
set_option maxHeartbeats 1000000 in
theorem draw_words (w : World) (a : Option Addr) (len cap : Nat) (hc : CodeAt w a len w.heap.size) : Calls Tryd.prog 11 #[.slice a len cap] w fun e w' => ∃ s : ByteArray, e = .returned (.string s) ∧ s.size ≤ 100 ∧ Below w.heap.size w w' := by
  go_enter Tryd.func11, Tryd.ntmps11
  go_wp2_with fail
  refine (new_c _ a len cap hc).mono ?_
  rintro e w1 ⟨h, rfl, rfl⟩
  go_wp2_with fail
  refine (below_r _ _ a len cap 6 (by omega) (by omega) (ready_new w a len cap h hc)).mono ?_
  rintro e w2 ⟨x, rfl, x0, x1, hr, hg⟩
  obtain ⟨m, rfl⟩ := Int.eq_ofNat_of_zero_le x0
  go_wp2_with fail
  go_loopw [4, 6] (fun v ti wr => ∃ i : Nat, ∃ s : ByteArray, v = .string s ∧ ti = .int .i64 i ∧ i ≤ m ∧ s.size ≤ 10 * i ∧ Ready wr w.heap.size a len cap ∧ (w.alloc (.cells #[.slice a len cap, .int .i64 0, .int .i64 h] 81)).grownBy wr (some w.heap.size)) (fun _ ti _ => m - (intOf ti).toNat)
  case atStart => exact ⟨0, _, rfl, rfl, by omega, by decide, hr, hg⟩
  case round =>
    obtain ⟨i, s, rfl, rfl, him, hs, hr, hg⟩ := hrel
    by_cases hlt : i < m
    · have c1 : (i : Int) < (m : Int) := by omega
      go_wp2_with fail
      refine (pick_s _ _ a len cap _ 5 (by omega) (by omega) ?_ (strs_new wr [⟨#[97]⟩, ⟨#[32]⟩, ⟨#[98, 99]⟩, ⟨#[32]⟩, ⟨#[]⟩] 9 (by decide)) (hr.alloc _)).mono ?_
      · have := hr.lt; omega
      · rintro e w5 ⟨u, rfl, hu, hr5, hg5⟩
        replace hg := grown_trans (grown_trans hg (grown_alloc _ _ _)) hg5
        clear hg5 hr
        go_wp2_with fail
        go_roundw
        case rel => exact ⟨i + 1, _, rfl, by go_num, by omega, by rw [ByteArray.size_append]; omega, hr5, hg⟩
        case measure => simp [intOf]; omega
    · have c1 : (m : Int) ≤ (i : Int) := by omega
      go_wp2_with fail
      go_ret
      exact ⟨s, rfl, by omega, below_new hg⟩
end Go.Proofs.YtokoompldkcmjaaDoor
