/- Texts of stores, joined: Kd, Draw, Geo, Geo3. -/
import Derived.Deep.RegionHeld
import Derived.Test.YtenlhgnobfadgaaGreatDoorRows
import Derived.WalkKit
import Derived.WalkSpells
import Derived.Handy
import Derived.BigQuiet
import Derived.Deep.QuietTactic
import Derived.Laws.BitsAllLaws
import Derived.ProofKit
import Derived.Below
import Derived.Deep.RegionHeld3
set_option maxRecDepth 100000
set_option maxHeartbeats 1000000
set_option linter.unusedSimpArgs false
set_option linter.unusedVariables false
namespace Go.Proofs.YtenlhgnobfadgaaGreatDoor
theorem tkR {P : Program} {ops : Array Oper} {Q : Exit → Act → World → Prop} {md : Region.Mode} {S : World → Prop} (v : Value) (i : Nat) {oi : Oper} {fuel : Nat} {listed : Array Bool} {a : Act} {w : World} (hi : ops[i]? = some oi) (hQ : ∀ c a w, Q (.panic c) (a.put oi.dst v) w → Q (.panic c) a w) (hS : S w) (hy : ∀ w, S w → (execOp a.eval oi).run P w = .ok (.value v) w) (h : wpAnyH P md ops Q S fuel (listed.setIfInBounds i true) (a.put oi.dst v) w) (hw : Region.wanted oi (yielded ops a.tmps) = true := by rfl) (hc : (Region.noSelect ops && (Region.free md ops listed i && (Region.ready md ops listed).contains i)) = true := by kernel_rfl) : wpAnyH P md ops Q S (fuel + 1) listed a w := by
  rw [Bool.and_eq_true, Bool.and_eq_true] at hc
  exact wpAnyH_take hi hc.1 hc.2.1 hc.2.2 hQ (.inl ⟨hw, hy⟩) hS h
theorem rd1 {P : Program} {ops : Array Oper} {Q : Exit → Act → World → Prop} {md : Region.Mode} {S : World → Prop} (i : Nat) {o : Oper} {fuel : Nat} {listed : Array Bool} {a : Act} {w : World} (ho : ops[i]? = some o) (h : ∀ K' : Act → World → Prop, Shut (∀ a w, S w → (S w → wpAnyH P md ops Q S fuel (listed.setIfInBounds i true) a w) → K' a w) → if Region.wanted o (yielded ops a.tmps) = true then Oper.wp P o a w K' Q else K' (a.put o.dst undef) w) (hr : Region.ready md ops listed = [i] := by kernel_rfl) : wpAnyH P md ops Q S (fuel + 1) listed a w := wpAnyH_ready hr (by simp) (AllReadyH.cons ho h AllReadyH.nil)
end Go.Proofs.YtenlhgnobfadgaaGreatDoor
namespace Go.Proofs.YtenlhgnobfadgaaGreatDoor
open Go.RowKit
theorem and255 (x : Int) : 0 ≤ bits .and .i64 x 255 ∧ bits .and .i64 x 255 ≤ 255 := by
 have h : bits .and .i64 x 255 = IntKind.i64.wrap ((BitVec.ofInt 64 x &&& BitVec.ofInt 64 255).toNat : Int) := rfl
 have hle : (BitVec.ofInt 64 x &&& BitVec.ofInt 64 255).toNat ≤ 255 := by
  rw [BitVec.toNat_and]
  exact Nat.le_trans Nat.and_le_right (by decide)
 rw [h, IntWalk.i64_in _ ⟨by omega, by omega⟩]; omega
def CodeAt (w : World) (a : Option Addr) (len B : Nat) : Prop :=
 len ≤ 1048576 ∧ (len = 0 ∨ ∃ b off, a = some ⟨b, off, none⟩ ∧ b < B ∧ ∀ k, k < len → ∃ z : Int, 0 ≤ z ∧ z ≤ 255 ∧ w.cell? ⟨b, off + k, none⟩ = some (.int .u8 z))
def CurAt (w : World) (p : Nat) (a : Option Addr) (len cap : Nat) : Prop :=
 ∃ i : Nat, ∃ h : Int, i ≤ len ∧ w.heap[p]? = some (.cells #[.slice a len cap, .int .i64 i, .int .i64 h] 102 (0, 0))
theorem cell3 {w : World} {p : Nat} {x y z : Value} {t : TypeId} (h : w.heap[p]? = some (.cells #[x, y, z] t (0, 0))) :
  w.cell? ⟨p, 0, none⟩ = some x ∧ w.cell? ⟨p, 1, none⟩ = some y ∧ w.cell? ⟨p, 2, none⟩ = some z ∧ w.frozen? ⟨p, 1, none⟩ = false ∧ w.frozen? ⟨p, 2, none⟩ = false := by
 simp [World.cell?, World.frozen?, h]
theorem set3_2 {w : World} {p : Nat} {x y z u : Value} {t : TypeId} (h : w.heap[p]? = some (.cells #[x, y, z] t (0, 0))) : (w.setCell ⟨p, 2, none⟩ u).heap[p]? = some (.cells #[x, y, u] t (0, 0)) := by
 have hlt := lt_of_block h
 have h' : w.heap[p] = .cells #[x, y, z] t (0, 0) := by simpa [Array.getElem?_eq_getElem hlt] using h
 show (w.heap.modify p _)[p]? = _
 rw [Array.getElem?_eq_getElem (by simpa using hlt), Array.getElem_modify_self, h']
 rfl
theorem set3_1 {w : World} {p : Nat} {x y z u : Value} {t : TypeId} (h : w.heap[p]? = some (.cells #[x, y, z] t (0, 0))) : (w.setCell ⟨p, 1, none⟩ u).heap[p]? = some (.cells #[x, u, z] t (0, 0)) := by
 have hlt := lt_of_block h
 have h' : w.heap[p] = .cells #[x, y, z] t (0, 0) := by simpa [Array.getElem?_eq_getElem hlt] using h
 show (w.heap.modify p _)[p]? = _
 rw [Array.getElem?_eq_getElem (by simpa using hlt), Array.getElem_modify_self, h']
 rfl
theorem grown_set (w : World) (p j : Nat) (u : Value) : w.grownBy (w.setCell ⟨p, j, none⟩ u) (some p) :=
 ⟨rfl, rfl, rfl, by simp, fun k _ hk => by
  show (w.heap.modify p _)[k]? = _
  rw [Array.getElem?_modify, if_neg (fun e => hk (by rw [e]))]⟩
theorem grown_drew {w w' : World} {r : Option Nat} (h : w.grownBy w' r) (n : Nat) : w.grownBy (w'.drewN n) r := ⟨h.os, h.tape, h.output, h.size, h.block⟩
theorem grown_trans {w w1 w2 : World} {r : Option Nat} (h : w.grownBy w1 r) (k : w1.grownBy w2 r) : w.grownBy w2 r :=
 ⟨k.os.trans h.os, k.tape.trans h.tape, k.output.trans h.output, Nat.le_trans h.size k.size, fun i hi hne => (k.block i (Nat.lt_of_lt_of_le hi h.size) hne).trans (h.block i hi hne)⟩
theorem grown_same (w : World) (r : Option Nat) : w.grownBy w r := ⟨rfl, rfl, rfl, Nat.le_refl _, fun _ _ _ => rfl⟩
theorem new_c (w : World) (a : Option Addr) (len cap : Nat) (hc : CodeAt w a len w.heap.size) : Calls Tryz.prog 34 #[.slice a len cap] w fun e w' => ∃ h : Int, e = .returned (.pointer (some ⟨w.heap.size, 0, none⟩)) ∧ w' = w.alloc (.cells #[.slice a len cap, .int .i64 0, .int .i64 h] 102) := by
 obtain ⟨hl, hc⟩ := hc
 go_enter Tryz.func34, Tryz.ntmps34
 go_wp2
 go_loop [3, 4] (fun th ti => ∃ h : Int, ∃ i : Nat, th = .int .i64 h ∧ ti = .int .i64 i ∧ i ≤ len) (fun _ ti => len - (intOf ti).toNat)
 case atStart => exact ⟨_, 0, rfl, rfl, by omega⟩
 case round =>
  obtain ⟨h, i, rfl, rfl, hi⟩ := hrel
  by_cases hlt : i < len ∧ i < 4000
  ·obtain ⟨h1, h2⟩ := hlt
   have c1 : (i : Int) < (len : Int) := by omega
   have c2 : (i : Int) < 4000 := by omega
   rcases hc with hc | ⟨b, off, rfl, hb, hc⟩
   ·omega
   ·obtain ⟨z, z0, z1, hz⟩ := hc i h1
    clear hc
    go_wp2
    go_round
    case rel => exact ⟨_, i + 1, rfl, by go_num, by omega⟩
    case measure => simp [intOf]; omega
  ·clear hc
   by_cases h1 : i < len
   ·have c1 : (i : Int) < (len : Int) := by omega
    have c2 : 4000 ≤ (i : Int) := by omega
    go_wp2
    go_ret
    exact ⟨rfl, h, rfl⟩
   ·have c1 : (len : Int) ≤ (i : Int) := by omega
    go_wp2
    go_ret
    exact ⟨rfl, h, rfl⟩
theorem byte_c (w : World) (p : Nat) (a : Option Addr) (len cap : Nat) (hcur : CurAt w p a len cap) (hc : CodeAt w a len p) : Calls Tryz.prog 73 #[.pointer (some ⟨p, 0, none⟩)] w fun e w' => ∃ x : Int, e = .returned (.int .i64 x) ∧ 0 ≤ x ∧ x ≤ 255 ∧ CurAt w' p a len cap ∧ w.grownBy w' (some p) := by
 obtain ⟨i, h, hi, hblk⟩ := hcur
 obtain ⟨hl, hc⟩ := hc
 obtain ⟨k0, k1, k2, f1, f2⟩ := cell3 hblk
 by_cases hlt : i < len
 ·have c1 : (i : Int) < (len : Int) := by omega
  rcases hc with hc | ⟨b, off, rfl, hb, hc⟩
  ·omega
  ·obtain ⟨z, z0, z1, hz⟩ := hc i hlt
   clear hc
   go_enter Tryz.func73, Tryz.ntmps73
   go_wp2
   go_quiet (fail)
   go_wp2
   go_quiet (fail)
   go_wp2
   go_quiet (fail)
   go_wp2
   go_ret
   refine ⟨_, rfl, (and255 _).1, (and255 _).2, ?_, ?_⟩
   ·exact ⟨i + 1, _, by omega, set3_1 (set3_2 hblk)⟩
   ·exact grown_trans (grown_drew (grown_set _ _ _ _) _) (grown_set _ _ _ _)
 ·have c1 : (len : Int) ≤ (i : Int) := by omega
  clear hc
  go_enter Tryz.func73, Tryz.ntmps73
  go_wp2
  go_quiet (fail)
  go_wp2
  go_quiet (fail)
  go_wp2
  go_ret
  refine ⟨_, rfl, (and255 _).1, (and255 _).2, ?_, ?_⟩
  ·exact ⟨i, _, by omega, set3_2 hblk⟩
  ·exact grown_drew (grown_drew (grown_set _ _ _ _) _) _
theorem CodeAt.grown {w w' : World} {a : Option Addr} {len p : Nat} (h : CodeAt w a len p) (hg : w.grownBy w' (some p)) : CodeAt w' a len p := by
 obtain ⟨hl, h⟩ := h
 refine ⟨hl, ?_⟩
 rcases h with h | ⟨b, off, rfl, hb, h⟩
 ·exact .inl h
 ·refine .inr ⟨b, off, rfl, hb, fun k hk => ?_⟩
  obtain ⟨z, z0, z1, hz⟩ := h k hk
  exact ⟨z, z0, z1, hg.cell hz (fun e => by simp at e; omega)⟩
theorem CodeAt.below {w w' : World} {a : Option Addr} {len B : Nat} (h : CodeAt w a len B) (hb : Below B w w') : CodeAt w' a len B := by
 obtain ⟨hl, h⟩ := h
 refine ⟨hl, ?_⟩
 rcases h with h | ⟨b, off, rfl, hbb, h⟩
 ·exact .inl h
 ·refine .inr ⟨b, off, rfl, hbb, fun k hk => ?_⟩
  obtain ⟨z, z0, z1, hz⟩ := h k hk
  exact ⟨z, z0, z1, (hb.cell (p := ⟨b, off + k, none⟩) hbb).trans hz⟩
theorem CodeAt.mono {w : World} {a : Option Addr} {len B B' : Nat} (h : CodeAt w a len B) (hB : B ≤ B') : CodeAt w a len B' := by
 obtain ⟨hl, h⟩ := h
 refine ⟨hl, ?_⟩
 rcases h with h | ⟨b, off, rfl, hbb, h⟩
 ·exact .inl h
 ·exact .inr ⟨b, off, rfl, by omega, h⟩
def Ready (w : World) (p : Nat) (a : Option Addr) (len cap : Nat) : Prop := CurAt w p a len cap ∧ CodeAt w a len p
theorem Ready.lt {w : World} {p : Nat} {a : Option Addr} {len cap : Nat} (h : Ready w p a len cap) : p < w.heap.size := by
 obtain ⟨⟨i, x, _, hb⟩, _⟩ := h
 exact lt_of_block hb
theorem CurAt.alloc {w : World} {p : Nat} {a : Option Addr} {len cap : Nat} (h : CurAt w p a len cap) (o : Obj) : CurAt (w.alloc o) p a len cap := by
 obtain ⟨i, x, hi, hb⟩ := h
 exact ⟨i, x, hi, (Below.heap_alloc w o p (lt_of_block hb)).trans hb⟩
theorem Ready.alloc {w : World} {p : Nat} {a : Option Addr} {len cap : Nat} (h : Ready w p a len cap) (o : Obj) : Ready (w.alloc o) p a len cap :=
 ⟨h.1.alloc o, h.2.below ((Below.refl _ _).alloc (Nat.le_of_lt h.lt) o)⟩
theorem byte_r (w : World) (p : Nat) (a : Option Addr) (len cap : Nat) (h : Ready w p a len cap) : Calls Tryz.prog 73 #[.pointer (some ⟨p, 0, none⟩)] w fun e w' => ∃ x : Int, e = .returned (.int .i64 x) ∧ 0 ≤ x ∧ x ≤ 255 ∧ Ready w' p a len cap ∧ w.grownBy w' (some p) := by
 refine (byte_c w p a len cap h.1 h.2).mono ?_
 rintro e w' ⟨x, he, x0, x1, hc, hg⟩
 exact ⟨x, he, x0, x1, ⟨hc, h.2.grown hg⟩, hg⟩
theorem below_r (w : World) (p : Nat) (a : Option Addr) (len cap : Nat) (n : Int) (h0 : 0 < n) (h1 : n ≤ 1000000) (h : Ready w p a len cap) : Calls Tryz.prog 38 #[.pointer (some ⟨p, 0, none⟩), .int .i64 n] w fun e w' => ∃ x : Int, e = .returned (.int .i64 x) ∧ 0 ≤ x ∧ x < n ∧ Ready w' p a len cap ∧ w.grownBy w' (some p) := by
 have hn : ¬ n = 0 := by omega
 by_cases h2 : n ≤ 256
 ·go_enter Tryz.func38, Tryz.ntmps38
  go_wp2_with fail
  refine (byte_r _ p a len cap h).mono ?_
  rintro e w1 ⟨x, rfl, x0, x1, hr, hg⟩
  go_wp2_with fail
  go_ret
  exact ⟨_, rfl, Int.emod_nonneg _ hn, Int.emod_lt_of_pos _ h0, hr, hg⟩
 ·have h3 : 256 < n := by omega
  go_enter Tryz.func38, Tryz.ntmps38
  go_wp2_with fail
  refine (byte_r _ p a len cap h).mono ?_
  rintro e w1 ⟨x, rfl, x0, x1, hr, hg⟩
  clear h
  go_wp2_with fail
  refine (byte_r _ p a len cap hr).mono ?_
  rintro e w2 ⟨y, rfl, y0, y1, hr2, hg2⟩
  replace hg := grown_trans hg hg2
  clear hr hg2
  go_wp2_with fail
  refine (byte_r _ p a len cap hr2).mono ?_
  rintro e w3 ⟨z, rfl, z0, z1, hr3, hg3⟩
  replace hg := grown_trans hg hg3
  clear hr2 hg3
  go_wp2_with fail
  refine (byte_r _ p a len cap hr3).mono ?_
  rintro e w4 ⟨u, rfl, u0, u1, hr4, hg4⟩
  replace hg := grown_trans hg hg4
  clear hr3 hg4
  go_wp2_with fail
  go_ret
  exact ⟨_, rfl, Int.emod_nonneg _ hn, Int.emod_lt_of_pos _ h0, hr4, hg⟩
theorem once_r (w : World) (p : Nat) (a : Option Addr) (len cap : Nat) (n : Int) (h0 : 0 < n) (h1 : n ≤ 1000000) (h : Ready w p a len cap) : Calls Tryz.prog 36 #[.pointer (some ⟨p, 0, none⟩), .int .i64 n] w fun e w' => ∃ b : Bool, e = .returned (.bool b) ∧ Ready w' p a len cap ∧ w.grownBy w' (some p) := by
 go_enter Tryz.func36, Tryz.ntmps36
 go_wp2_with fail
 refine (below_r _ p a len cap n h0 h1 h).mono ?_
 rintro e w1 ⟨x, rfl, x0, x1, hr, hg⟩
 go_wp2_with fail
 go_ret
 exact ⟨_, rfl, hr, hg⟩
theorem grown_alloc (w : World) (o : Obj) (r : Option Nat) : w.grownBy (w.alloc o) r := World.grownBy_alloc w o r
theorem ready_new (w : World) (a : Option Addr) (len cap : Nat) (h : Int) (hc : CodeAt w a len w.heap.size) : Ready (w.alloc (.cells #[.slice a len cap, .int .i64 0, .int .i64 h] 102)) w.heap.size a len cap :=
 ⟨⟨0, h, Nat.zero_le _, heap_alloc_new w _⟩, hc.below ((Below.refl _ _).alloc (Nat.le_refl _) _)⟩
def cok (x : Int) : Bool := decide (-30000 ≤ x) && decide (x ≤ 30000)
def pok (x y : Int) : Bool := cok x && cok y
def bok (a b c d : Int) : Bool := cok a && cok b && cok c && cok d && decide (a ≤ c) && decide (b ≤ d)
theorem hid {p : Prop} (h : p) : Hid p := h
theorem sq : (∀ (a : Act) (d : Tmp) (v : Value), a.put (some d) v = { a with tmps := a.tmps.setIfInBounds d v }) ∧ (∀ (a : Act) (v : Value), a.put none v = a) ∧ (∀ (α : Type) (l : List α) (i : Nat) (h : i < l.toArray.size), l.toArray[i]'h = l[i]'(by simpa using h)) ∧ (∀ (α : Type) (x : α) (l : List α) (h : 0 < (x :: l).length), (x :: l)[0]'h = x) ∧ (∀ (α : Type) (x : α) (l : List α) (i : Nat) (h : i + 1 < (x :: l).length), (x :: l)[i + 1]'h = l[i]'(by simpa using h)) ∧ (∀ (α : Type) (l : List α) (i : Nat) (x : α), l.toArray.setIfInBounds i x = (l.set i x).toArray) ∧ (∀ (α : Type) (x y : α) (l : List α), (x :: l).set 0 y = y :: l) ∧ (∀ (α : Type) (x y : α) (l : List α) (i : Nat), (x :: l).set (i + 1) y = x :: l.set i y) :=
 ⟨fun _ _ _ => rfl, fun _ _ => rfl, fun _ _ _ _ => rfl, fun _ _ _ _ => rfl, fun _ _ _ _ _ => rfl, fun _ _ _ _ => List.setIfInBounds_toArray _ _ _, fun _ _ _ _ => rfl, fun _ _ _ _ _ => rfl⟩
theorem inn_calls (x a b : Int) (w : World) : Calls Tryz.prog 54 #[.int .i64 x, .int .i64 a, .int .i64 b] w fun e w' => e = .returned (.bool (decide (a ≤ x) && decide (x ≤ b))) ∧ w' = w := by
 by_cases h : a ≤ x
 ·go_enter Tryz.func54, Tryz.ntmps54
  go_wp2
  go_ret
  exact ⟨by simp [h], rfl⟩
 ·have hd : decide (a ≤ x) = false := by simpa using h
  go_enter Tryz.func54, Tryz.ntmps54
  go_wp2
  go_ret
  exact ⟨by simp, rfl⟩
theorem spec_coord (x : Int) (w : World) : Calls Tryz.prog 162 #[.int .i64 x] w fun e w' => e = .returned (.bool (cok x)) ∧ w' = w := by
 go_enter Tryz.func162, Tryz.ntmps162
 go_wp2_with fail
 refine (inn_calls _ _ _ _).mono ?_
 rintro e w' ⟨rfl, hw⟩
 replace hw := hw.symm
 subst hw
 go_wp2_with fail
 go_ret
 exact ⟨rfl, rfl⟩
theorem impl_coord (x : Int) (w : World) : Calls Tryz.prog 242 #[.int .i64 x] w fun e w' => e = .returned (.bool (cok x)) ∧ w' = w := by
 by_cases h : -30000 ≤ x
 ·go_enter Tryz.func242, Tryz.ntmps242
  go_wp2
  go_ret
  exact ⟨by simp [cok, h], rfl⟩
 ·have hd : decide (-30000 ≤ x) = false := by simpa using h
  go_enter Tryz.func242, Tryz.ntmps242
  go_wp2
  go_ret
  exact ⟨by simp [cok, hd], rfl⟩
theorem impl_ok (x y : Int) (w : World) : Calls Tryz.prog 237 #[.agg #[.int .i64 x, .int .i64 y]] w fun e w' => e = .returned (.bool (pok x y)) ∧ w' = w.alloc (.cells #[.int .i64 x, .int .i64 y] 91) := by
 go_enter Tryz.func237, Tryz.ntmps237
 go_wp2_with fail
 refine (impl_coord _ _).mono ?_
 rintro e w' ⟨rfl, hw⟩
 replace hw := hw.symm
 subst hw
 cases h : cok x
 ·go_wp2_with fail
  go_ret
  exact ⟨by simp [pok, h], rfl⟩
 ·go_wp2_with fail
  refine (impl_coord _ _).mono ?_
  rintro e w' ⟨rfl, hw⟩
  replace hw := hw.symm
  subst hw
  go_wp2_with fail
  go_ret
  exact ⟨by simp [pok, h], rfl⟩
theorem spec_pointok (x y : Int) (w : World) : Calls Tryz.prog 125 #[.agg #[.int .i64 x, .int .i64 y]] w fun e w' => e = .returned (.bool (pok x y)) ∧ w' = w.alloc (.cells #[.int .i64 x, .int .i64 y] 91) := by
 go_enter Tryz.func125, Tryz.ntmps125
 go_wp2_with fail
 refine (spec_coord _ _).mono ?_
 rintro e w' ⟨rfl, hw⟩
 replace hw := hw.symm
 subst hw
 cases h : cok x
 ·go_wp2_with fail
  go_ret
  exact ⟨by simp [pok, h], rfl⟩
 ·go_wp2_with fail
  refine (spec_coord _ _).mono ?_
  rintro e w' ⟨rfl, hw⟩
  replace hw := hw.symm
  subst hw
  go_wp2_with fail
  go_ret
  exact ⟨by simp [pok, h], rfl⟩
theorem impl_low (a b c d : Int) (w : World) : Calls Tryz.prog 250 #[.agg #[.int .i64 a, .int .i64 b, .int .i64 c, .int .i64 d]] w fun e w' => e = .returned (.agg #[.int .i64 a, .int .i64 b]) ∧ w' = (w.alloc (.cells #[.int .i64 a, .int .i64 b, .int .i64 c, .int .i64 d] 284)).alloc (.cells #[.int .i64 a, .int .i64 b] 91) := by
 go_enter Tryz.func250, Tryz.ntmps250
 go_wp2_with fail
 exact bodyPost_ret (v := .agg #[.int .i64 a, .int .i64 b]) (by simp [results, Tryz.results250, go_sem]) rfl ⟨rfl, rfl⟩
theorem impl_high (a b c d : Int) (w : World) : Calls Tryz.prog 251 #[.agg #[.int .i64 a, .int .i64 b, .int .i64 c, .int .i64 d]] w fun e w' => e = .returned (.agg #[.int .i64 c, .int .i64 d]) ∧ w' = (w.alloc (.cells #[.int .i64 a, .int .i64 b, .int .i64 c, .int .i64 d] 284)).alloc (.cells #[.int .i64 c, .int .i64 d] 91) := by
 go_enter Tryz.func251, Tryz.ntmps251
 go_wp2_with fail
 exact bodyPost_ret (v := .agg #[.int .i64 c, .int .i64 d]) (by simp [results, Tryz.results251, go_sem]) rfl ⟨rfl, rfl⟩
def PtsAt (w : World) (b off : Nat) (ps : List (Int × Int)) : Prop :=
 ∀ k, k < ps.length → w.cell? ⟨b, off + k * 2, none⟩ = some (.int .i64 (ps.getD k (0, 0)).1) ∧ w.cell? ⟨b, off + k * 2 + 1, none⟩ = some (.int .i64 (ps.getD k (0, 0)).2)
def Pts (w : World) (a : Option Addr) (ps : List (Int × Int)) : Prop :=
 ps = [] ∨ ∃ b off, a = some ⟨b, off, none⟩ ∧ b < w.heap.size ∧ PtsAt w b off ps
theorem PtsAt.below {w w' : World} {b off : Nat} {ps : List (Int × Int)} (h : PtsAt w b off ps) (hb : b < w.heap.size) (H : Below w.heap.size w w') : PtsAt w' b off ps := by
 intro k hk
 obtain ⟨h1, h2⟩ := h k hk
 exact ⟨by rw [H.cell hb]; exact h1, by rw [H.cell hb]; exact h2⟩
theorem Pts.below {w w' : World} {a : Option Addr} {ps : List (Int × Int)} (h : Pts w a ps) (H : Below w.heap.size w w') : Pts w' a ps := by
 rcases h with h | ⟨b, off, rfl, hb, h⟩
 ·exact .inl h
 ·exact .inr ⟨b, off, rfl, Nat.lt_of_lt_of_le hb H.size, h.below hb H⟩
def allok (ps : List (Int × Int)) : Bool := ps.all fun p => pok p.1 p.2
theorem allok_no (ps : List (Int × Int)) (k : Nat) (hk : k < ps.length) (h : pok (ps.getD k (0, 0)).1 (ps.getD k (0, 0)).2 = false) : allok ps = false := by
 rw [allok, List.all_eq_false]
 refine ⟨ps.getD k (0, 0), ?_, by rw [h]; decide⟩
 rw [List.getD_eq_getElem?_getD, List.getElem?_eq_getElem hk]
 exact List.getElem_mem hk
theorem allok_yes (ps : List (Int × Int)) (h : ∀ j, j < ps.length → pok (ps.getD j (0, 0)).1 (ps.getD j (0, 0)).2 = true) : allok ps = true := by
 rw [allok, List.all_eq_true]
 intro p hp
 obtain ⟨j, hj, rfl⟩ := List.mem_iff_getElem.1 hp
 have := h j hj
 rwa [List.getD_eq_getElem?_getD, List.getElem?_eq_getElem hj] at this
theorem bel2 {B : Nat} {a w : World} (h : Below B a w) (hB : B ≤ w.heap.size) (o p : Obj) : Below B a ((w.alloc o).alloc p) := (h.alloc hB o).alloc (by simp; omega) p
theorem keepcell {w w' : World} (hb : Below w.heap.size w w') {p : Addr} {v : Value} (h : w.cell? p = some v) : w'.cell? p = some v := by
 rw [hb.cell (World.block_lt_of_cell? w p h)]; exact h
theorem keepalloc {w : World} {p : Addr} {v : Value} (h : w.cell? p = some v) (o : Obj) : (w.alloc o).cell? p = some v :=
 keepcell ((Below.refl _ _).alloc (Nat.le_refl _) o) h
theorem keepdrew {w : World} {p : Addr} {v : Value} (h : w.cell? p = some v) : w.drew.cell? p = some v := h
theorem newcell (w : World) (vs : Array Value) (t : TypeId) (n k : Nat) (v : Value) (hn : n = w.heap.size) (h : vs[k]? = some v) : (w.alloc (.cells vs t)).cell? ⟨n, k, none⟩ = some v := by
 rw [World.cell?_alloc_at vs t n k hn]; exact h
theorem pts1 {w : World} {n : Nat} {a b : Int} (h0 : w.cell? ⟨n, 0, none⟩ = some (.int .i64 a)) (h1 : w.cell? ⟨n, 1, none⟩ = some (.int .i64 b)) : Pts w (some ⟨n, 0, none⟩) [(a, b)] := by
 refine .inr ⟨n, 0, rfl, World.block_lt_of_cell? w _ h0, ?_⟩
 intro k hk
 match k, hk with
 | 0, _ => exact ⟨h0, h1⟩
theorem pts2 {w : World} {n : Nat} {a b c d : Int} (h0 : w.cell? ⟨n, 0, none⟩ = some (.int .i64 a)) (h1 : w.cell? ⟨n, 1, none⟩ = some (.int .i64 b)) (h2 : w.cell? ⟨n, 2, none⟩ = some (.int .i64 c)) (h3 : w.cell? ⟨n, 3, none⟩ = some (.int .i64 d)) : Pts w (some ⟨n, 0, none⟩) [(a, b), (c, d)] := by
 refine .inr ⟨n, 0, rfl, World.block_lt_of_cell? w _ h0, ?_⟩
 intro k hk
 match k, hk with
 | 0, _ => exact ⟨h0, h1⟩
 | 1, _ => exact ⟨h2, h3⟩
theorem pts3 {w : World} {n : Nat} {a b c d e f : Int} (h0 : w.cell? ⟨n, 0, none⟩ = some (.int .i64 a)) (h1 : w.cell? ⟨n, 1, none⟩ = some (.int .i64 b)) (h2 : w.cell? ⟨n, 2, none⟩ = some (.int .i64 c)) (h3 : w.cell? ⟨n, 3, none⟩ = some (.int .i64 d)) (h4 : w.cell? ⟨n, 4, none⟩ = some (.int .i64 e)) (h5 : w.cell? ⟨n, 5, none⟩ = some (.int .i64 f)) : Pts w (some ⟨n, 0, none⟩) [(a, b), (c, d), (e, f)] := by
 refine .inr ⟨n, 0, rfl, World.block_lt_of_cell? w _ h0, ?_⟩
 intro k hk
 match k, hk with
 | 0, _ => exact ⟨h0, h1⟩
 | 1, _ => exact ⟨h2, h3⟩
 | 2, _ => exact ⟨h4, h5⟩
theorem pts4 {w : World} {n : Nat} {a b c d e f g h : Int} (h0 : w.cell? ⟨n, 0, none⟩ = some (.int .i64 a)) (h1 : w.cell? ⟨n, 1, none⟩ = some (.int .i64 b)) (h2 : w.cell? ⟨n, 2, none⟩ = some (.int .i64 c)) (h3 : w.cell? ⟨n, 3, none⟩ = some (.int .i64 d)) (h4 : w.cell? ⟨n, 4, none⟩ = some (.int .i64 e)) (h5 : w.cell? ⟨n, 5, none⟩ = some (.int .i64 f)) (h6 : w.cell? ⟨n, 6, none⟩ = some (.int .i64 g)) (h7 : w.cell? ⟨n, 7, none⟩ = some (.int .i64 h)) : Pts w (some ⟨n, 0, none⟩) [(a, b), (c, d), (e, f), (g, h)] := by
 refine .inr ⟨n, 0, rfl, World.block_lt_of_cell? w _ h0, ?_⟩
 intro k hk
 match k, hk with
 | 0, _ => exact ⟨h0, h1⟩
 | 1, _ => exact ⟨h2, h3⟩
 | 2, _ => exact ⟨h4, h5⟩
 | 3, _ => exact ⟨h6, h7⟩
theorem btrans {w a b : World} (h : Below w.heap.size w a) (k : Below a.heap.size a b) : Below w.heap.size w b := h.trans (k.mono h.size)
theorem balloc {w a : World} (h : Below w.heap.size w a) (o : Obj) : Below w.heap.size w (a.alloc o) := h.alloc h.size o
theorem bdrew {w a : World} (h : Below w.heap.size w a) : Below w.heap.size w a.drew := h.drew
theorem impl_all (a : Option Addr) (cap : Nat) (ps : List (Int × Int)) (w : World) (hm : ps.length ≤ 1099511627776) (hc : ps.length ≤ cap) (h : Pts w a ps) : Calls Tryz.prog 245 #[.slice a ps.length cap] w fun e w' => e = .returned (.bool (allok ps)) ∧ Below w.heap.size w w' := by
 go_enter Tryz.func245, Tryz.ntmps245
 go_wp2_with fail
 go_loopw [7] (fun ti wr => ∃ k : Nat, ti = .int .i64 k ∧ k ≤ ps.length ∧ Below w.heap.size w wr ∧ Hid (∀ j, j < k → pok (ps.getD j (0, 0)).1 (ps.getD j (0, 0)).2 = true)) (fun ti _ => ps.length - (intOf ti).toNat)
 case atStart => exact ⟨0, rfl, Nat.zero_le _, Below.refl _ _, fun j hj => absurd hj (by omega)⟩
 case round =>
  obtain ⟨k, rfl, hk, hb, H⟩ := hrel
  by_cases hlt : k < ps.length
  ·rcases h with rfl | ⟨b, off, rfl, hbs, hp⟩
   ·simp at hlt
   obtain ⟨c0, c1⟩ := hp.below hbs hb k hlt
   generalize hx : (ps.getD k (0, 0)).1 = x at c0
   generalize hy : (ps.getD k (0, 0)).2 = y at c1
   have Hx := hid hx
   have Hy := hid hy
   have Hp := hid hp
   clear hx hy hp
   go_wp2_with fail
   refine (impl_ok _ _ _).mono ?_
   rintro e w' ⟨rfl, rfl⟩
   cases h : pok x y
   ·go_wp2_with fail
    go_ret
    exact ⟨by rw [allok_no ps k hlt (by rw [Hx.out, Hy.out]; exact h)]; rfl, bel2 hb hb.size _ _⟩
   ·go_wp2_with fail
    go_roundw
    case rel =>
     refine ⟨k + 1, by go_num, by omega, bel2 hb hb.size _ _, hid fun j hj => ?_⟩
     by_cases e : j = k
     ·subst e; rw [Hx.out, Hy.out]; exact h
     ·exact H.out j (by omega)
    case measure => simp [intOf]; omega
  ·have hk' : k = ps.length := by omega
   go_wp2_with fail
   go_ret
   exact ⟨by rw [allok_yes ps fun j hj => H.out j (by omega)]; rfl, hb⟩
theorem spec_all (a : Option Addr) (cap : Nat) (ps : List (Int × Int)) (w : World) (hm : ps.length ≤ 1099511627776) (hc : ps.length ≤ cap) (h : Pts w a ps) : Calls Tryz.prog 92 #[.slice a ps.length cap] w fun e w' => e = .returned (.bool (allok ps)) ∧ Below w.heap.size w w' := by
 go_enter Tryz.func92, Tryz.ntmps92
 go_wp2_with fail
 go_loopw [3] (fun ti wr => ∃ k : Nat, ti = .int .i64 k ∧ k ≤ ps.length ∧ Below w.heap.size w wr ∧ Hid (∀ j, j < k → pok (ps.getD j (0, 0)).1 (ps.getD j (0, 0)).2 = true)) (fun ti _ => ps.length - (intOf ti).toNat)
 case atStart => exact ⟨0, rfl, Nat.zero_le _, Below.refl _ _, fun j hj => absurd hj (by omega)⟩
 case round =>
  obtain ⟨k, rfl, hk, hb, H⟩ := hrel
  by_cases hlt : k < ps.length
  ·rcases h with rfl | ⟨b, off, rfl, hbs, hp⟩
   ·simp at hlt
   obtain ⟨c0, c1⟩ := hp.below hbs hb k hlt
   generalize hx : (ps.getD k (0, 0)).1 = x at c0
   generalize hy : (ps.getD k (0, 0)).2 = y at c1
   have Hx := hid hx
   have Hy := hid hy
   have Hp := hid hp
   clear hx hy hp
   go_wp2_with fail
   refine (spec_pointok _ _ _).mono ?_
   rintro e w' ⟨rfl, rfl⟩
   cases h : pok x y
   ·go_wp2_with fail
    go_ret
    exact ⟨by rw [allok_no ps k hlt (by rw [Hx.out, Hy.out]; exact h)]; rfl, hb.alloc hb.size _⟩
   ·go_wp2_with fail
    go_roundw
    case rel =>
     refine ⟨k + 1, by go_num, by omega, hb.alloc hb.size _, hid fun j hj => ?_⟩
     by_cases e : j = k
     ·subst e; rw [Hx.out, Hy.out]; exact h
     ·exact H.out j (by omega)
    case measure => simp [intOf]; omega
  ·have hk' : k = ps.length := by omega
   go_wp2_with fail
   go_ret
   exact ⟨by rw [allok_yes ps fun j hj => H.out j (by omega)]; rfl, hb⟩
def cr (ax ay bx bY cx cy : Int) : Int := (bx - ax) * (cy - ay) - (cx - ax) * (bY - ay)
def sg (z : Int) : Int := if z < 0 then -1 else if 0 < z then 1 else 0
def In (x : Int) : Prop := -30000 ≤ x ∧ x ≤ 30000
theorem mulb (x y : Int) (h1 : -60000 ≤ x) (h2 : x ≤ 60000) (h3 : -60000 ≤ y) (h4 : y ≤ 60000) : -3600000000 ≤ x * y ∧ x * y ≤ 3600000000 := by
 have a := Int.mul_nonneg (show 0 ≤ 60000 - x by omega) (show 0 ≤ 60000 - y by omega)
 have b := Int.mul_nonneg (show 0 ≤ 60000 + x by omega) (show 0 ≤ 60000 + y by omega)
 have c := Int.mul_nonneg (show 0 ≤ 60000 - x by omega) (show 0 ≤ 60000 + y by omega)
 have d := Int.mul_nonneg (show 0 ≤ 60000 + x by omega) (show 0 ≤ 60000 - y by omega)
 simp only [Int.sub_mul, Int.add_mul, Int.mul_sub, Int.mul_add] at a b c d
 omega
theorem sg_bd (z : Int) : -1 ≤ sg z ∧ sg z ≤ 1 := by unfold sg; split <;> (try split) <;> omega
theorem in_of_pok {x y : Int} (h : pok x y = true) : In x ∧ In y := by
 simp only [pok, cok, Bool.and_eq_true, decide_eq_true_eq] at h
 exact h
theorem isnan_calls (x : Int) (w : World) : Calls Tryz.prog 150 #[.int .i64 x] w fun e w' => e = .returned (.bool false) ∧ w' = w := by
 go_enter Tryz.func150, Tryz.ntmps150
 go_wp2
 go_ret
 exact ⟨by simp, rfl⟩
theorem compare_calls (x : Int) (w : World) : Calls Tryz.prog 103 #[.int .i64 x, .int .i64 0] w fun e w' => e = .returned (.int .i64 (sg x)) ∧ w' = w := by
 by_cases h : x < 0
 ·have e : sg x = -1 := by unfold sg; rw [if_pos h]
  go_enter Tryz.func103, Tryz.ntmps103
  go_wp2_with (go_at_call 150; refine (isnan_calls _ _).mono ?_; rintro e w' ⟨rfl, rfl⟩)
  go_ret
  exact ⟨by first | rfl | (rw [e]; rfl), rfl⟩
 ·by_cases h2 : 0 < x
  ·have e : sg x = 1 := by unfold sg; rw [if_neg h, if_pos h2]
   go_enter Tryz.func103, Tryz.ntmps103
   go_wp2_with (go_at_call 150; refine (isnan_calls _ _).mono ?_; rintro e w' ⟨rfl, rfl⟩)
   go_ret
   exact ⟨by first | rfl | (rw [e]; rfl), rfl⟩
  ·obtain rfl : x = 0 := by omega
   go_enter Tryz.func103, Tryz.ntmps103
   go_wp2_with (go_at_call 150; refine (isnan_calls _ _).mono ?_; rintro e w' ⟨rfl, rfl⟩)
   go_ret
   exact ⟨rfl, rfl⟩
theorem impl_minus (px py qx qy : Int) (h1 : In px) (h2 : In py) (h3 : In qx) (h4 : In qy) (w : World) : Calls Tryz.prog 267 #[.agg #[.int .i64 px, .int .i64 py], .agg #[.int .i64 qx, .int .i64 qy]] w fun e w' => e = .returned (.agg #[.int .i64 (px - qx), .int .i64 (py - qy)]) ∧ Below w.heap.size w w' := by
 obtain ⟨a1, a2⟩ := h1
 obtain ⟨a3, a4⟩ := h2
 obtain ⟨a5, a6⟩ := h3
 obtain ⟨a7, a8⟩ := h4
 go_enter Tryz.func267, Tryz.ntmps267
 go_wp2_with fail
 refine bodyPost_ret (v := .agg #[.int .i64 (px - qx), .int .i64 (py - qy)]) (by simp [results, Tryz.results267, go_sem]) rfl ⟨rfl, ?_⟩
 (repeat (first | exact Below.refl _ _ | (refine btrans ?_ (by assumption)) | refine bdrew ?_ | refine balloc ?_ _))
theorem impl_cross (px py qx qy : Int) (h1 : -60000 ≤ px ∧ px ≤ 60000) (h2 : -60000 ≤ py ∧ py ≤ 60000) (h3 : -60000 ≤ qx ∧ qx ≤ 60000) (h4 : -60000 ≤ qy ∧ qy ≤ 60000) (w : World) : Calls Tryz.prog 257 #[.agg #[.int .i64 px, .int .i64 py], .agg #[.int .i64 qx, .int .i64 qy]] w fun e w' => e = .returned (.int .i64 (px * qy - qx * py)) ∧ Below w.heap.size w w' := by
 obtain ⟨a1, a2⟩ := mulb px qy h1.1 h1.2 h4.1 h4.2
 obtain ⟨a3, a4⟩ := mulb qx py h3.1 h3.2 h2.1 h2.2
 clear h1 h2 h3 h4
 go_enter Tryz.func257, Tryz.ntmps257
 go_wp2_with fail
 go_ret
 exact ⟨rfl, by (repeat (first | exact Below.refl _ _ | (refine btrans ?_ (by assumption)) | refine bdrew ?_ | refine balloc ?_ _))⟩
theorem impl_turn (px py bx bY cx cy : Int) (h1 : In px) (h2 : In py) (h3 : In bx) (h4 : In bY) (h5 : In cx) (h6 : In cy) (w : World) : Calls Tryz.prog 264 #[.agg #[.int .i64 px, .int .i64 py], .agg #[.int .i64 bx, .int .i64 bY], .agg #[.int .i64 cx, .int .i64 cy]] w fun e w' => e = .returned (.int .i64 (sg (cr px py bx bY cx cy))) ∧ Below w.heap.size w w' := by
 have hd1 : -60000 ≤ bx - px ∧ bx - px ≤ 60000 := by unfold In at *; omega
 have hd2 : -60000 ≤ bY - py ∧ bY - py ≤ 60000 := by unfold In at *; omega
 have hd3 : -60000 ≤ cx - px ∧ cx - px ≤ 60000 := by unfold In at *; omega
 have hd4 : -60000 ≤ cy - py ∧ cy - py ≤ 60000 := by unfold In at *; omega
 go_enter Tryz.func264, Tryz.ntmps264
 go_wp2_with fail
 go_region_held3 (fun w' => w'.cell? ⟨w.heap.size, 0, none⟩ = some (.int .i64 px) ∧ w'.cell? ⟨w.heap.size, 1, none⟩ = some (.int .i64 py) ∧ w'.cell? ⟨w.heap.size + 1, 0, none⟩ = some (.int .i64 bx) ∧ w'.cell? ⟨w.heap.size + 1, 1, none⟩ = some (.int .i64 bY) ∧ w'.cell? ⟨w.heap.size + 1 + 1, 0, none⟩ = some (.int .i64 cx) ∧ w'.cell? ⟨w.heap.size + 1 + 1, 1, none⟩ = some (.int .i64 cy)) ((repeat' apply And.intro) <;> (repeat (first | assumption | (refine newcell _ _ _ _ _ _ ?_ rfl; simp; done) | refine keepcell (by assumption) ?_ | refine keepdrew ?_ | refine keepalloc ?_ _)))
  (first
   | (go_at_call 267; refine (impl_minus _ _ _ _ (by assumption) (by assumption) (by assumption) (by assumption) _).mono ?_; rintro e w' ⟨rfl, hb⟩)
   | (go_at_call 257; refine (impl_cross _ _ _ _ hd1 hd2 hd3 hd4 _).mono ?_; rintro e w' ⟨rfl, hb⟩)
   | (go_at_call 103; refine (compare_calls _ _).mono ?_; rintro e w' ⟨rfl, hw⟩; replace hw := hw.symm; subst hw))
 go_wp2_with fail
 go_ret
 exact ⟨rfl, by (repeat (first | exact Below.refl _ _ | (refine btrans ?_ (by assumption)) | refine bdrew ?_ | refine balloc ?_ _))⟩
theorem spec_sign (x : Int) (w : World) : Calls Tryz.prog 192 #[.int .i64 x] w fun e w' => e = .returned (.int .i64 (sg x)) ∧ w' = w := by
 by_cases h : x < 0
 ·have e : sg x = -1 := by unfold sg; rw [if_pos h]
  go_enter Tryz.func192, Tryz.ntmps192
  go_wp2_with fail
  go_ret
  exact ⟨by first | rfl | (rw [e]; rfl), rfl⟩
 ·by_cases h2 : 0 < x
  ·have e : sg x = 1 := by unfold sg; rw [if_neg h, if_pos h2]
   go_enter Tryz.func192, Tryz.ntmps192
   go_wp2_with fail
   go_ret
   exact ⟨by first | rfl | (rw [e]; rfl), rfl⟩
  ·obtain rfl : x = 0 := by omega
   go_enter Tryz.func192, Tryz.ntmps192
   go_wp2_with fail
   go_ret
   exact ⟨rfl, rfl⟩
theorem spec_min (a b : Int) (w : World) : Calls Tryz.prog 164 #[.int .i64 a, .int .i64 b] w fun e w' => e = .returned (.int .i64 (min a b)) ∧ w' = w := by
 by_cases h : a < b
 ·have e : min a b = a := by omega
  go_enter Tryz.func164, Tryz.ntmps164
  go_wp2_with fail
  go_ret
  exact ⟨by first | rfl | (rw [e]; rfl), rfl⟩
 ·have e : min a b = b := by omega
  go_enter Tryz.func164, Tryz.ntmps164
  go_wp2_with fail
  go_ret
  exact ⟨by first | rfl | (rw [e]; rfl), rfl⟩
theorem spec_max (a b : Int) (w : World) : Calls Tryz.prog 165 #[.int .i64 a, .int .i64 b] w fun e w' => e = .returned (.int .i64 (max a b)) ∧ w' = w := by
 by_cases h : b < a
 ·have e : max a b = a := by omega
  go_enter Tryz.func165, Tryz.ntmps165
  go_wp2_with fail
  go_ret
  exact ⟨by first | rfl | (rw [e]; rfl), rfl⟩
 ·have e : max a b = b := by omega
  go_enter Tryz.func165, Tryz.ntmps165
  go_wp2_with fail
  go_ret
  exact ⟨by first | rfl | (rw [e]; rfl), rfl⟩
theorem spec_cross (ax ay bx bY cx cy : Int) (h1 : In ax) (h2 : In ay) (h3 : In bx) (h4 : In bY) (h5 : In cx) (h6 : In cy) (w : World) : Calls Tryz.prog 163 #[.agg #[.int .i64 ax, .int .i64 ay], .agg #[.int .i64 bx, .int .i64 bY], .agg #[.int .i64 cx, .int .i64 cy]] w fun e w' => e = .returned (.int .i64 (cr ax ay bx bY cx cy)) ∧ Below w.heap.size w w' := by
 obtain ⟨a1, a2⟩ := h1
 obtain ⟨a3, a4⟩ := h2
 obtain ⟨a5, a6⟩ := h3
 obtain ⟨a7, a8⟩ := h4
 obtain ⟨a9, a10⟩ := h5
 obtain ⟨a11, a12⟩ := h6
 obtain ⟨b1, b2⟩ := mulb (bx - ax) (cy - ay) (by omega) (by omega) (by omega) (by omega)
 obtain ⟨b3, b4⟩ := mulb (bY - ay) (cx - ax) (by omega) (by omega) (by omega) (by omega)
 go_enter Tryz.func163, Tryz.ntmps163
 go_wp2_with fail
 go_ret
 exact ⟨by rw [cr, Int.mul_comm (cx - ax)]; rfl, by (repeat (first | exact Below.refl _ _ | (refine btrans ?_ (by assumption)) | refine bdrew ?_ | refine balloc ?_ _))⟩
end Go.Proofs.YtenlhgnobfadgaaGreatDoor
