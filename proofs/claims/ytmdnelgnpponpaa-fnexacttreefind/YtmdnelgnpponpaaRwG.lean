/- Lists of whole numbers: marked, held, one put in its place. -/
import Derived.Test.YtmdnelgnpponpaaRwA0
import Derived.Test.YtmdnelgnpponpaaAreaM
import Derived.Maps.AppendAt
namespace Go.Proofs.Ytmdnelgnpponpaa
open Go.RowKit
set_option linter.unusedSimpArgs false
set_option linter.unusedVariables false
theorem Try.infoI : (Try.prog.info? 3).map (fun i => (i.zero, i.size, i.bytes)) = some (some (.int .i64 0), 1, 8) := by kernel_rfl
def IAt (w : World) (b off : Nat) (zs : List Int) : Prop := ∀ k, k < zs.length → w.cell? ⟨b, off + k, none⟩ = some (.int .i64 (zs.getD k 0))
/-- A list of whole numbers that may be written into: nil, or a block of its own. -/
def OwnI (w : World) (a : Option Addr) (zs : List Int) : Prop := (a = none ∧ zs = []) ∨ ∃ b, a = some ⟨b, 0, none⟩ ∧ b < w.heap.size ∧ IAt w b 0 zs ∧ w.there b 0 zs.length
theorem OwnI.blk {w w' : World} {a : Option Addr} {zs : List Int} (h : OwnI w a zs) (hs : w.heap.size ≤ w'.heap.size) (e : ∀ b off, a = some ⟨b, off, none⟩ → w'.heap[b]? = w.heap[b]?) : OwnI w' a zs := by
  rcases h with ⟨rfl, rfl⟩ | ⟨b, rfl, h1, h2, h3⟩
  · exact .inl ⟨rfl, rfl⟩
  · have eb := e b 0 rfl
    refine .inr ⟨b, rfl, by omega, fun k hk => ?_, fun j hj => ?_⟩
    · simp only [World.cell?, eb]; exact h2 k hk
    · simp only [World.cell?, World.frozen?, eb]; exact h3 j hj
theorem OwnI.lt {w : World} {a : Option Addr} {zs : List Int} (h : OwnI w a zs) : ∀ c off, a = some ⟨c, off, none⟩ → c < w.heap.size := by
  intro c off e
  rcases h with ⟨rfl, rfl⟩ | ⟨b, rfl, h, _⟩
  · cases e
  · cases e; exact h
theorem OwnI.below {w w' : World} {a : Option Addr} {zs : List Int} (h : OwnI w a zs) (H : Below w.heap.size w w') : OwnI w' a zs := h.blk H.size (fun b off e => H.block b (h.lt b off e))
theorem OwnI.grown {w w' : World} {a : Option Addr} {zs : List Int} {r : Option Nat} (h : OwnI w a zs) (hg : w.grownBy w' r) (hne : ∀ c off, a = some ⟨c, off, none⟩ → some c ≠ r) : OwnI w' a zs := h.blk hg.size (fun b off e => hg.block b (h.lt b off e) (hne b off e))
theorem OwnI.map_blk {a : Option Addr} {c : Nat} {w : World} {zs : List Int} (h : OwnI w a zs) (e : a.map (·.block) = some c) : a = some ⟨c, 0, none⟩ := by
  rcases h with ⟨rfl, rfl⟩ | ⟨b, rfl, h⟩
  · simp at e
  · simp at e; rw [e]
theorem OwnI.at {w : World} {a : Option Addr} {zs : List Int} (h : OwnI w a zs) {k : Nat} (hk : k < zs.length) : ∃ b, a = some ⟨b, 0, none⟩ ∧ w.cell? ⟨b, k, none⟩ = some (.int .i64 (zs.getD k 0)) ∧ w.frozen? ⟨b, k, none⟩ = false := by
  rcases h with ⟨rfl, rfl⟩ | ⟨b, rfl, h1, h2, h3⟩
  · simp at hk
  · refine ⟨b, rfl, by simpa using h2 k hk, ?_⟩
    simpa using (h3 k hk).2
def mki (n : Nat) : List Int := (List.range n).map (fun (k : Nat) => (1 : Int) + (k : Int))
theorem mki_len (n : Nat) : (mki n).length = n := by simp [mki]
theorem mki_at {n k : Nat} (h : k < n) : (mki n).getD k 0 = 1 + (k : Int) := by
  simp [mki, List.getD_eq_getElem?_getD, List.getElem?_map, List.getElem?_range h]
set_option maxHeartbeats 1000000 in
theorem eq_ints (a b : Option Addr) (cap cap' : Nat) (zs : List Int) (w : World) (hm : zs.length ≤ 1099511627776) (p1 : OwnI w a zs) (p2 : OwnI w b zs) : Calls Try.prog 22 #[.slice a zs.length cap, .slice b zs.length cap'] w fun e w' => e = .returned (.bool true) ∧ Below w.heap.size w w' := by
  have HP1 := hid p1
  have HP2 := hid p2
  clear p1 p2
  obtain ⟨n, hn⟩ : ∃ n, n = zs.length := ⟨_, rfl⟩
  have HN := hid hn.symm
  rw [← hn] at hm ⊢
  clear hn
  go_enter Try.func22, Try.ntmps22
  go_wp2_with fail
  go_loopw [5] (fun ti wr => ∃ k : Nat, ti = .int .i64 k ∧ k ≤ n ∧ Hid (Below w.heap.size w wr)) (fun ti _ => n - (intOf ti).toNat)
  case atStart => exact ⟨0, rfl, Nat.zero_le _, hid (Below.refl _ _)⟩
  case round =>
    obtain ⟨k, rfl, hk, HB⟩ := hrel
    by_cases hlt : k < n
    · have c1 : (k : Int) < (n : Int) := by omega
      obtain ⟨b1, rfl, d1, _⟩ := (HP1.out.below HB.out).at (k := k) (by rw [HN.out]; exact hlt)
      obtain ⟨b2, rfl, d2, _⟩ := (HP2.out.below HB.out).at (k := k) (by rw [HN.out]; exact hlt)
      generalize zs.getD k 0 = z at *
      go_wp2_with fail
      go_quiet (fail)
      go_wp2_with fail
      go_roundw
      case rel => exact ⟨k + 1, by go_num, by omega, hid (HB.out.trans ⟨rfl, rfl, rfl, Nat.le_refl _, fun _ _ => rfl⟩)⟩
      case measure => simp [intOf]; omega
    · have c1 : (n : Int) ≤ (k : Int) := by omega
      go_wp2_with fail
      go_ret
      exact ⟨rfl, HB.out⟩
theorem setI {w : World} {b k n : Nat} {v : Int} (hb : b < w.heap.size) (hk : k < n) (h : ∀ i, i < k → w.cell? ⟨b, i, none⟩ = some (.int .i64 (1 + (i : Int)))) (ht : w.there b 0 n) (hv : v = 1 + (k : Int)) : (∀ i, i < k + 1 → (w.setCell ⟨b, k, none⟩ (.int .i64 v)).cell? ⟨b, i, none⟩ = some (.int .i64 (1 + (i : Int)))) ∧ (w.setCell ⟨b, k, none⟩ (.int .i64 v)).there b 0 n := by
  subst hv
  obtain ⟨c0, _⟩ := ht k hk
  obtain ⟨u0, hu0⟩ := Option.isSome_iff_exists.1 c0
  simp only [Nat.zero_add] at hu0
  refine ⟨fun i hi => ?_, fun j hj => ?_⟩
  · by_cases e : i = k
    · subst e; exact World.cell?_setCell_same _ _ _ hu0
    · rw [World.cell?_setCell_other _ _ _ _ (by intro q; injection q; omega)]; exact h i (by omega)
  · obtain ⟨h1, h2⟩ := ht j hj
    refine ⟨?_, by rw [World.frozen?_setCell]; exact h2⟩
    obtain ⟨u, hu⟩ := Option.isSome_iff_exists.1 h1
    obtain ⟨u', hu'⟩ := cell?_setCell_some (p := ⟨b, k, none⟩) (x := .int .i64 (1 + (k : Int))) hu
    rw [hu']; rfl
set_option maxRecDepth 100000 in
set_option maxHeartbeats 1000000 in
theorem mark_ints (w : World) (a : Option Addr) (cap : Nat) (zs : List Int) (hm : zs.length ≤ 1099511627776) (h : OwnI w a zs) : Calls Try.prog 23 #[.slice a zs.length cap, .int .i64 1] w fun e w' => e = .returned (.int .i64 (1 + (zs.length : Int))) ∧ OwnI w' a (mki zs.length) ∧ w.grownBy w' (a.map (·.block)) := by
  rcases h with ⟨rfl, rfl⟩ | ⟨b, rfl, hb, hp, ht⟩
  · go_enter Try.func23, Try.ntmps23
    go_wp2_with fail
    go_loopw [1, 5] (fun tk' ti wr => tk' = .int .i64 1 ∧ ti = .int .i64 0 ∧ wr = w) (fun _ _ _ => 0)
    case atStart => exact ⟨rfl, rfl, rfl⟩
    case round =>
      obtain ⟨rfl, rfl, rfl⟩ := hrel
      go_wp2_with fail
      go_ret
      exact ⟨by first | rfl | (simp; done) | (show Ending.returned (.int .i64 1) = _; simp), .inl ⟨rfl, rfl⟩, grown_same _ _⟩
  · generalize hn : zs.length = n at *
    clear hp
    go_enter Try.func23, Try.ntmps23
    go_wp2_with fail
    go_loopw [1, 5] (fun tk' ti wr => ∃ k : Nat, ti = .int .i64 k ∧ tk' = .int .i64 (1 + (k : Int)) ∧ k ≤ n ∧ Hid (b < wr.heap.size ∧ (∀ i, i < k → wr.cell? ⟨b, i, none⟩ = some (.int .i64 (1 + (i : Int)))) ∧ wr.there b 0 n ∧ w.grownBy wr (some b))) (fun _ ti _ => n - (intOf ti).toNat)
    case atStart => exact ⟨0, rfl, rfl, Nat.zero_le _, hid ⟨hb, fun j hj => absurd hj (by omega), ht, grown_same _ _⟩⟩
    case round =>
      obtain ⟨k, rfl, rfl, hk, HH⟩ := hrel
      by_cases hlt : k < n
      · have c1 : (k : Int) < (n : Int) := by omega
        obtain ⟨g0, g0'⟩ := HH.out.2.2.1 k hlt
        obtain ⟨u0, hu0⟩ := Option.isSome_iff_exists.1 g0
        simp only [Nat.zero_add] at hu0 g0'
        clear g0
        go_wp2_with fail
        go_roundw
        case rel =>
          obtain ⟨r1, r2⟩ := setI (v := 1 + (k : Int)) HH.out.1 hlt HH.out.2.1 HH.out.2.2.1 rfl
          exact ⟨k + 1, by go_num, by go_num, by omega, hid ⟨by simpa using HH.out.1, r1, r2, grown_trans HH.out.2.2.2 (grown_set _ _ _ _)⟩⟩
        case measure => simp [intOf]; omega
      · obtain rfl : k = n := by omega
        go_wp2_with fail
        go_ret
        exact ⟨rfl, .inr ⟨b, rfl, HH.out.1, fun i hi => by rw [mki_len] at hi; rw [mki_at hi]; simpa using HH.out.2.1 i hi, by rw [mki_len]; exact HH.out.2.2.1⟩, HH.out.2.2.2⟩
set_option maxRecDepth 100000 in
set_option maxHeartbeats 1000000 in
theorem held_ints (w : World) (a : Option Addr) (cap n : Nat) (hm : n ≤ 1099511627776) (h : OwnI w a (mki n)) : Calls Try.prog 24 #[.slice a n cap, .int .i64 1] w fun e w' => e = .returned (.int .i64 (1 + (n : Int))) ∧ Below w.heap.size w w' := by
  have HP := hid h
  clear h
  go_enter Try.func24, Try.ntmps24
  go_wp2_with fail
  go_loopw [1, 5] (fun tk' ti wr => ∃ k : Nat, ti = .int .i64 k ∧ tk' = .int .i64 (1 + (k : Int)) ∧ k ≤ n ∧ wr = w) (fun _ ti _ => n - (intOf ti).toNat)
  case atStart => exact ⟨0, rfl, rfl, Nat.zero_le _, rfl⟩
  case round =>
    obtain ⟨k, rfl, rfl, hk, hw⟩ := hrel
    subst hw
    by_cases hlt : k < n
    · have c1 : (k : Int) < (n : Int) := by omega
      obtain ⟨b, rfl, d0, _⟩ := HP.out.at (k := k) (by rw [mki_len]; exact hlt)
      rw [mki_at hlt] at d0
      go_wp2_with fail
      go_roundw
      case rel => exact ⟨k + 1, by go_num, by go_num, by omega, by first | rfl | trivial⟩
      case measure => simp [intOf]; omega
    · obtain rfl : k = n := by omega
      go_wp2_with fail
      go_ret
      exact ⟨rfl, Below.refl _ _⟩
end Go.Proofs.Ytmdnelgnpponpaa
