/- Texts of stores, joined: Draw. -/
import Derived.Test.YtenlhgnobfadgaaGreatDoorRows
import Derived.WalkKit
import Derived.WalkSpells
import Derived.Handy
import Derived.BigQuiet
import Derived.Deep.QuietTactic
import Derived.Laws.BitsAllLaws
set_option linter.unusedSimpArgs false
set_option linter.unusedVariables false
namespace Go.Proofs.YtenlhgnobfadgaaGreatDoor
open Go.RowKit
theorem hide {p : Prop} (h : p) : Hid p := h
theorem and255 (x : Int) : 0 ≤ bits .and .i64 x 255 ∧ bits .and .i64 x 255 ≤ 255 := by
  have h : bits .and .i64 x 255 = IntKind.i64.wrap ((BitVec.ofInt 64 x &&& BitVec.ofInt 64 255).toNat : Int) := rfl
  have hle : (BitVec.ofInt 64 x &&& BitVec.ofInt 64 255).toNat ≤ 255 := by
    rw [BitVec.toNat_and]
    exact Nat.le_trans Nat.and_le_right (by decide)
  rw [h, IntWalk.i64_in _ ⟨by omega, by omega⟩]; omega
/-- The bytes of a code that came in lie in a block below B. -/
def CodeAt (w : World) (a : Option Addr) (len B : Nat) : Prop :=
  len ≤ 1048576 ∧ (len = 0 ∨ ∃ b off, a = some ⟨b, off, none⟩ ∧ b < B ∧ ∀ k, k < len → ∃ z : Int, 0 ≤ z ∧ z ≤ 255 ∧ w.cell? ⟨b, off + k, none⟩ = some (.int .u8 z))
/-- A cursor over a code: its block. -/
def CurAt (w : World) (p : Nat) (a : Option Addr) (len cap : Nat) : Prop :=
  ∃ i : Nat, ∃ h : Int, i ≤ len ∧ w.heap[p]? = some (.cells #[.slice a len cap, .int .i64 i, .int .i64 h] 102 (0, 0))
theorem cell3 {w : World} {p : Nat} {x y z : Value} {t : TypeId} (h : w.heap[p]? = some (.cells #[x, y, z] t (0, 0))) :
    w.cell? ⟨p, 0, none⟩ = some x ∧ w.cell? ⟨p, 1, none⟩ = some y ∧ w.cell? ⟨p, 2, none⟩ = some z ∧ w.frozen? ⟨p, 1, none⟩ = false ∧ w.frozen? ⟨p, 2, none⟩ = false := by
  simp [World.cell?, World.frozen?, h]
theorem set3_2 {w : World} {p : Nat} {x y z u : Value} {t : TypeId} (h : w.heap[p]? = some (.cells #[x, y, z] t (0, 0))) : (w.setCell ⟨p, 2, none⟩ u).heap[p]? = some (.cells #[x, y, u] t (0, 0)) := by
  have hlt := lt_of_block h
  have h' : w.heap[p] = .cells #[x, y, z] t (0, 0) := by simpa [Array.getElem?_eq_getElem hlt] using h
  show (w.heap.modify p _)[p]? = _
  rw [Array.getElem?_eq_getElem (by simpa using hlt), Array.getElem_modify_self, h']
  rfl
theorem set3_1 {w : World} {p : Nat} {x y z u : Value} {t : TypeId} (h : w.heap[p]? = some (.cells #[x, y, z] t (0, 0))) : (w.setCell ⟨p, 1, none⟩ u).heap[p]? = some (.cells #[x, u, z] t (0, 0)) := by
  have hlt := lt_of_block h
  have h' : w.heap[p] = .cells #[x, y, z] t (0, 0) := by simpa [Array.getElem?_eq_getElem hlt] using h
  show (w.heap.modify p _)[p]? = _
  rw [Array.getElem?_eq_getElem (by simpa using hlt), Array.getElem_modify_self, h']
  rfl
theorem grown_set (w : World) (p j : Nat) (u : Value) : w.grownBy (w.setCell ⟨p, j, none⟩ u) (some p) :=
  ⟨rfl, rfl, rfl, by simp, fun k _ hk => by
    show (w.heap.modify p _)[k]? = _
    rw [Array.getElem?_modify, if_neg (fun e => hk (by rw [e]))]⟩
theorem grown_drew {w w' : World} {r : Option Nat} (h : w.grownBy w' r) (n : Nat) : w.grownBy (w'.drewN n) r := ⟨h.os, h.tape, h.output, h.size, h.block⟩
theorem grown_trans {w w1 w2 : World} {r : Option Nat} (h : w.grownBy w1 r) (k : w1.grownBy w2 r) : w.grownBy w2 r :=
  ⟨k.os.trans h.os, k.tape.trans h.tape, k.output.trans h.output, Nat.le_trans h.size k.size, fun i hi hne => (k.block i (Nat.lt_of_lt_of_le hi h.size) hne).trans (h.block i hi hne)⟩
theorem grown_same (w : World) (r : Option Nat) : w.grownBy w r := ⟨rfl, rfl, rfl, Nat.le_refl _, fun _ _ _ => rfl⟩
set_option maxRecDepth 100000 in
set_option maxHeartbeats 400000 in
theorem new_c (w : World) (a : Option Addr) (len cap : Nat) (hc : CodeAt w a len w.heap.size) : Calls Tryz.prog 34 #[.slice a len cap] w fun e w' => ∃ h : Int, e = .returned (.pointer (some ⟨w.heap.size, 0, none⟩)) ∧ w' = w.alloc (.cells #[.slice a len cap, .int .i64 0, .int .i64 h] 102) := by
  obtain ⟨hl, hc⟩ := hc
  go_enter Tryz.func34, Tryz.ntmps34
  go_wp2
  go_loop [3, 4] (fun th ti => ∃ h : Int, ∃ i : Nat, th = .int .i64 h ∧ ti = .int .i64 i ∧ i ≤ len) (fun _ ti => len - (intOf ti).toNat)
  case atStart => exact ⟨_, 0, rfl, rfl, by omega⟩
  case round =>
    obtain ⟨h, i, rfl, rfl, hi⟩ := hrel
    by_cases hlt : i < len ∧ i < 4000
    · obtain ⟨h1, h2⟩ := hlt
      have c1 : (i : Int) < (len : Int) := by omega
      have c2 : (i : Int) < 4000 := by omega
      rcases hc with hc | ⟨b, off, rfl, hb, hc⟩
      · omega
      · obtain ⟨z, z0, z1, hz⟩ := hc i h1
        clear hc
        go_wp2
        go_round
        case rel => exact ⟨_, i + 1, rfl, by go_num, by omega⟩
        case measure => simp [intOf]; omega
    · clear hc
      by_cases h1 : i < len
      · have c1 : (i : Int) < (len : Int) := by omega
        have c2 : 4000 ≤ (i : Int) := by omega
        go_wp2
        go_ret
        exact ⟨rfl, h, rfl⟩
      · have c1 : (len : Int) ≤ (i : Int) := by omega
        go_wp2
        go_ret
        exact ⟨rfl, h, rfl⟩
set_option maxHeartbeats 1000000 in
theorem byte_c (w : World) (p : Nat) (a : Option Addr) (len cap : Nat) (hcur : CurAt w p a len cap) (hc : CodeAt w a len p) : Calls Tryz.prog 73 #[.pointer (some ⟨p, 0, none⟩)] w fun e w' => ∃ x : Int, e = .returned (.int .i64 x) ∧ 0 ≤ x ∧ x ≤ 255 ∧ CurAt w' p a len cap ∧ w.grownBy w' (some p) := by
  obtain ⟨i, h, hi, hblk⟩ := hcur
  obtain ⟨hl, hc⟩ := hc
  obtain ⟨k0, k1, k2, f1, f2⟩ := cell3 hblk
  by_cases hlt : i < len
  · have c1 : (i : Int) < (len : Int) := by omega
    rcases hc with hc | ⟨b, off, rfl, hb, hc⟩
    · omega
    · obtain ⟨z, z0, z1, hz⟩ := hc i hlt
      clear hc
      go_enter Tryz.func73, Tryz.ntmps73
      go_wp2
      go_quiet (fail)
      go_wp2
      go_quiet (fail)
      go_wp2
      go_quiet (fail)
      go_wp2
      go_ret
      refine ⟨_, rfl, (and255 _).1, (and255 _).2, ?_, ?_⟩
      · exact ⟨i + 1, _, by omega, set3_1 (set3_2 hblk)⟩
      · exact grown_trans (grown_drew (grown_set _ _ _ _) _) (grown_set _ _ _ _)
  · have c1 : (len : Int) ≤ (i : Int) := by omega
    clear hc
    go_enter Tryz.func73, Tryz.ntmps73
    go_wp2
    go_quiet (fail)
    go_wp2
    go_quiet (fail)
    go_wp2
    go_ret
    refine ⟨_, rfl, (and255 _).1, (and255 _).2, ?_, ?_⟩
    · exact ⟨i, _, by omega, set3_2 hblk⟩
    · exact grown_drew (grown_drew (grown_set _ _ _ _) _) _
theorem CodeAt.grown {w w' : World} {a : Option Addr} {len p : Nat} (h : CodeAt w a len p) (hg : w.grownBy w' (some p)) : CodeAt w' a len p := by
  obtain ⟨hl, h⟩ := h
  refine ⟨hl, ?_⟩
  rcases h with h | ⟨b, off, rfl, hb, h⟩
  · exact .inl h
  · refine .inr ⟨b, off, rfl, hb, fun k hk => ?_⟩
    obtain ⟨z, z0, z1, hz⟩ := h k hk
    exact ⟨z, z0, z1, hg.cell hz (fun e => by simp at e; omega)⟩
theorem CodeAt.below {w w' : World} {a : Option Addr} {len B : Nat} (h : CodeAt w a len B) (hb : Below B w w') : CodeAt w' a len B := by
  obtain ⟨hl, h⟩ := h
  refine ⟨hl, ?_⟩
  rcases h with h | ⟨b, off, rfl, hbb, h⟩
  · exact .inl h
  · refine .inr ⟨b, off, rfl, hbb, fun k hk => ?_⟩
    obtain ⟨z, z0, z1, hz⟩ := h k hk
    exact ⟨z, z0, z1, (hb.cell (p := ⟨b, off + k, none⟩) hbb).trans hz⟩
theorem CodeAt.mono {w : World} {a : Option Addr} {len B B' : Nat} (h : CodeAt w a len B) (hB : B ≤ B') : CodeAt w a len B' := by
  obtain ⟨hl, h⟩ := h
  refine ⟨hl, ?_⟩
  rcases h with h | ⟨b, off, rfl, hbb, h⟩
  · exact .inl h
  · exact .inr ⟨b, off, rfl, by omega, h⟩
/-- A cursor that can be drawn from. -/
def Ready (w : World) (p : Nat) (a : Option Addr) (len cap : Nat) : Prop := CurAt w p a len cap ∧ CodeAt w a len p
theorem Ready.lt {w : World} {p : Nat} {a : Option Addr} {len cap : Nat} (h : Ready w p a len cap) : p < w.heap.size := by
  obtain ⟨⟨i, x, _, hb⟩, _⟩ := h
  exact lt_of_block hb
theorem CurAt.alloc {w : World} {p : Nat} {a : Option Addr} {len cap : Nat} (h : CurAt w p a len cap) (o : Obj) : CurAt (w.alloc o) p a len cap := by
  obtain ⟨i, x, hi, hb⟩ := h
  exact ⟨i, x, hi, (Below.heap_alloc w o p (lt_of_block hb)).trans hb⟩
theorem Ready.alloc {w : World} {p : Nat} {a : Option Addr} {len cap : Nat} (h : Ready w p a len cap) (o : Obj) : Ready (w.alloc o) p a len cap :=
  ⟨h.1.alloc o, h.2.below ((Below.refl _ _).alloc (Nat.le_of_lt h.lt) o)⟩
theorem byte_r (w : World) (p : Nat) (a : Option Addr) (len cap : Nat) (h : Ready w p a len cap) : Calls Tryz.prog 73 #[.pointer (some ⟨p, 0, none⟩)] w fun e w' => ∃ x : Int, e = .returned (.int .i64 x) ∧ 0 ≤ x ∧ x ≤ 255 ∧ Ready w' p a len cap ∧ w.grownBy w' (some p) := by
  refine (byte_c w p a len cap h.1 h.2).mono ?_
  rintro e w' ⟨x, he, x0, x1, hc, hg⟩
  exact ⟨x, he, x0, x1, ⟨hc, h.2.grown hg⟩, hg⟩
set_option maxRecDepth 100000 in
set_option maxHeartbeats 400000 in
theorem below_r (w : World) (p : Nat) (a : Option Addr) (len cap : Nat) (n : Int) (h0 : 0 < n) (h1 : n ≤ 1000000) (h : Ready w p a len cap) : Calls Tryz.prog 38 #[.pointer (some ⟨p, 0, none⟩), .int .i64 n] w fun e w' => ∃ x : Int, e = .returned (.int .i64 x) ∧ 0 ≤ x ∧ x < n ∧ Ready w' p a len cap ∧ w.grownBy w' (some p) := by
  have hn : ¬ n = 0 := by omega
  by_cases h2 : n ≤ 256
  · go_enter Tryz.func38, Tryz.ntmps38
    go_wp2_with fail
    refine (byte_r _ p a len cap h).mono ?_
    rintro e w1 ⟨x, rfl, x0, x1, hr, hg⟩
    go_wp2_with fail
    go_ret
    exact ⟨_, rfl, Int.emod_nonneg _ hn, Int.emod_lt_of_pos _ h0, hr, hg⟩
  · have h3 : 256 < n := by omega
    go_enter Tryz.func38, Tryz.ntmps38
    go_wp2_with fail
    refine (byte_r _ p a len cap h).mono ?_
    rintro e w1 ⟨x, rfl, x0, x1, hr, hg⟩
    clear h
    go_wp2_with fail
    refine (byte_r _ p a len cap hr).mono ?_
    rintro e w2 ⟨y, rfl, y0, y1, hr2, hg2⟩
    replace hg := grown_trans hg hg2
    clear hr hg2
    go_wp2_with fail
    refine (byte_r _ p a len cap hr2).mono ?_
    rintro e w3 ⟨z, rfl, z0, z1, hr3, hg3⟩
    replace hg := grown_trans hg hg3
    clear hr2 hg3
    go_wp2_with fail
    refine (byte_r _ p a len cap hr3).mono ?_
    rintro e w4 ⟨u, rfl, u0, u1, hr4, hg4⟩
    replace hg := grown_trans hg hg4
    clear hr3 hg4
    go_wp2_with fail
    go_ret
    exact ⟨_, rfl, Int.emod_nonneg _ hn, Int.emod_lt_of_pos _ h0, hr4, hg⟩
theorem once_r (w : World) (p : Nat) (a : Option Addr) (len cap : Nat) (n : Int) (h0 : 0 < n) (h1 : n ≤ 1000000) (h : Ready w p a len cap) : Calls Tryz.prog 36 #[.pointer (some ⟨p, 0, none⟩), .int .i64 n] w fun e w' => ∃ b : Bool, e = .returned (.bool b) ∧ Ready w' p a len cap ∧ w.grownBy w' (some p) := by
  go_enter Tryz.func36, Tryz.ntmps36
  go_wp2_with fail
  refine (below_r _ p a len cap n h0 h1 h).mono ?_
  rintro e w1 ⟨x, rfl, x0, x1, hr, hg⟩
  go_wp2_with fail
  go_ret
  exact ⟨_, rfl, hr, hg⟩
def I64 (z : Int) : Prop := -9223372036854775808 ≤ z ∧ z ≤ 9223372036854775807
def Ints (w : World) (q m : Nat) : Prop := ∀ k, k < m → ∃ z : Int, I64 z ∧ w.cell? ⟨q, k, none⟩ = some (.int .i64 z)
theorem ints_new (w : World) (zs : List Int) (t : TypeId) (hz : ∀ z ∈ zs, I64 z) : Ints (w.alloc (.cells (zs.map (Value.int .i64)).toArray t)) w.heap.size zs.length := by
  intro k hk
  refine ⟨zs[k], hz _ (List.getElem_mem hk), ?_⟩
  have h := heap_alloc_new w (.cells (zs.map (Value.int .i64)).toArray t)
  rw [cell_of_row _ w.heap.size k _ t (0, 0) h]
  simp [hk]
theorem grown_alloc (w : World) (o : Obj) (r : Option Nat) : w.grownBy (w.alloc o) r := World.grownBy_alloc w o r
set_option maxHeartbeats 400000 in
theorem pick_r (w : World) (p : Nat) (a : Option Addr) (len cap : Nat) (q m : Nat) (h0 : 0 < m) (h1 : m ≤ 1000) (hq : q ≠ p) (hi : Ints w q m) (h : Ready w p a len cap) : Calls Tryz.prog 72 #[.pointer (some ⟨p, 0, none⟩), .slice (some ⟨q, 0, none⟩) m m] w fun e w' => ∃ z : Int, e = .returned (.int .i64 z) ∧ I64 z ∧ Ready w' p a len cap ∧ w.grownBy w' (some p) := by
  go_enter Tryz.func72, Tryz.ntmps72
  go_wp2_with fail
  refine (below_r _ p a len cap (m : Int) (by omega) (by omega) h).mono ?_
  rintro e w1 ⟨x, rfl, x0, x1, hr, hg⟩
  obtain ⟨k, rfl⟩ := Int.eq_ofNat_of_zero_le x0
  obtain ⟨z, hz, hc⟩ := hi k (by omega)
  have hc1 := hg.cell hc (fun e => by simp at e; exact hq e)
  clear hc hi h
  go_wp2_with fail
  go_ret
  exact ⟨z, rfl, hz, hr, hg⟩
/-- A cursor that was just made. -/
theorem ready_new (w : World) (a : Option Addr) (len cap : Nat) (h : Int) (hc : CodeAt w a len w.heap.size) : Ready (w.alloc (.cells #[.slice a len cap, .int .i64 0, .int .i64 h] 102)) w.heap.size a len cap :=
  ⟨⟨0, h, Nat.zero_le _, heap_alloc_new w _⟩, hc.below ((Below.refl _ _).alloc (Nat.le_refl _) _)⟩
theorem below_new {w w' : World} {o : Obj} (hg : (w.alloc o).grownBy w' (some w.heap.size)) : Below w.heap.size w w' :=
  ((Below.refl _ w).alloc (Nat.le_refl _) o).grown hg (by simp) (fun k hk => by simp at hk; omega)
end Go.Proofs.YtenlhgnobfadgaaGreatDoor
