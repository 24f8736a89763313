/- Lists of tiles in memory: marked, held, one held against the other; TileDown of both sides. -/
import Derived.Test.YtncnppkpkemajaaDoorTileT
import Derived.Test.YtncnppkpkemajaaDoorDraw
import Derived.Laws.AppendOwn
import Derived.Laws.MakeOwn
import Derived.Deep.MidRow
namespace Go.Proofs.YtncnppkpkemajaaDoor
open Go.RowKit
set_option linter.unusedSimpArgs false
set_option linter.unusedVariables false
/-- A row of whole numbers, cell behind cell (structs of numbers, field behind field). -/
def FlAt (w : World) (b off : Nat) (zs : List Int) : Prop := ∀ i, i < zs.length → w.cell? ⟨b, off + i, none⟩ = some (.int .i64 (zs.getD i 0))
def Fl (w : World) (a : Option Addr) (zs : List Int) : Prop := zs = [] ∨ ∃ b off, a = some ⟨b, off, none⟩ ∧ b < w.heap.size ∧ FlAt w b off zs
def FlOwn (w : World) (a : Option Addr) (zs : List Int) : Prop := zs = [] ∨ ∃ b, a = some ⟨b, 0, none⟩ ∧ b < w.heap.size ∧ FlAt w b 0 zs ∧ w.there b 0 zs.length
theorem FlAt.below {w w' : World} {b off : Nat} {zs : List Int} (h : FlAt w b off zs) (hb : b < w.heap.size) (H : Below w.heap.size w w') : FlAt w' b off zs := fun i hi => by rw [H.cell hb]; exact h i hi
theorem Fl.below {w w' : World} {a : Option Addr} {zs : List Int} (h : Fl w a zs) (H : Below w.heap.size w w') : Fl w' a zs := by
  rcases h with h | ⟨b, off, rfl, hb, h⟩
  · exact .inl h
  · exact .inr ⟨b, off, rfl, Nat.lt_of_lt_of_le hb H.size, h.below hb H⟩
theorem FlOwn.fl {w : World} {a : Option Addr} {zs : List Int} (h : FlOwn w a zs) : Fl w a zs := by
  rcases h with h | ⟨b, rfl, hb, h, _⟩
  · exact .inl h
  · exact .inr ⟨b, 0, rfl, hb, h⟩
theorem there_belowF {w w' : World} {b n : Nat} (h : w.there b 0 n) (hb : b < w.heap.size) (H : Below w.heap.size w w') : w'.there b 0 n := by
  intro j hj
  obtain ⟨h1, h2⟩ := h j hj
  exact ⟨by rw [H.cell hb]; exact h1, by rw [H.frozen hb]; exact h2⟩
theorem FlOwn.below {w w' : World} {a : Option Addr} {zs : List Int} (h : FlOwn w a zs) (H : Below w.heap.size w w') : FlOwn w' a zs := by
  rcases h with h | ⟨b, rfl, hb, h, ht⟩
  · exact .inl h
  · exact .inr ⟨b, rfl, Nat.lt_of_lt_of_le hb H.size, h.below hb H, there_belowF ht hb H⟩
/-- The marks 1, 2, .. -/
def mks (m : Nat) : List Int := (List.range m).map fun (i : Nat) => (i : Int) + 1
theorem mks_len (m : Nat) : (mks m).length = m := by simp [mks]
theorem mks_at {m i : Nat} (h : i < m) : (mks m).getD i 0 = (i : Int) + 1 := by simp [mks, List.getD_eq_getElem?_getD, List.getElem?_map, List.getElem?_range h]
theorem put_one {w : World} {b k n : Nat} (hk : k < n) (h : FlAt w b 0 (mks k)) (ht : w.there b 0 n) (z : Int) (hz : z = (k : Int) + 1) : FlAt (w.setCell ⟨b, k, none⟩ (.int .i64 z)) b 0 (mks (k + 1)) ∧ (w.setCell ⟨b, k, none⟩ (.int .i64 z)).there b 0 n := by
  obtain ⟨u, hu⟩ := Option.isSome_iff_exists.1 (ht k hk).1
  simp only [Nat.zero_add] at hu
  subst hz
  constructor
  · intro i hi
    rw [mks_len] at hi
    rw [mks_at hi, Nat.zero_add]
    by_cases e : i = k
    · subst e; exact World.cell?_setCell_same _ _ _ hu
    · rw [World.cell?_setCell_other _ _ _ _ (by intro q; injection q; omega)]
      have := h i (by rw [mks_len]; omega)
      rw [mks_at (by omega), Nat.zero_add] at this
      exact this
  · intro j hj
    obtain ⟨h1, h2⟩ := ht j hj
    refine ⟨?_, by rw [World.frozen?_setCell]; exact h2⟩
    obtain ⟨v, hv⟩ := Option.isSome_iff_exists.1 h1
    obtain ⟨v', hv'⟩ := cell?_setCell_some (p := ⟨b, k, none⟩) (x := .int .i64 ((k : Int) + 1)) hv
    rw [hv']; rfl
theorem grown_set1 {w w1 : World} {b k : Nat} (h : w.grownBy w1 (some b)) (u : Value) : w.grownBy (w1.setCell ⟨b, k, none⟩ u) (some b) := grown_trans h (grown_set _ _ _ _)
set_option maxRecDepth 100000 in
set_option maxHeartbeats 1000000 in
theorem mark_tiles (w : World) (a : Option Addr) (cap n : Nat) (zs : List Int) (hm : n ≤ 1099511627776) (hc : n ≤ cap) (hl : zs.length = n * 3) (h : FlOwn w a zs) : Calls Tryd.prog 28 #[.slice a n cap, .int .i64 1] w fun e w' => e = .returned (.int .i64 (1 + 3 * (n : Int))) ∧ FlOwn w' a (mks (n * 3)) ∧ w.grownBy w' (a.map (·.block)) := by
  rcases Nat.eq_zero_or_pos n with h0 | h0
  · subst h0
    go_enter Tryd.func28, Tryd.ntmps28
    go_wp2_with fail
    go_loopw [1, 5] (fun tk' ti wr => tk' = .int .i64 1 ∧ ti = .int .i64 0 ∧ wr = w) (fun _ _ _ => 0)
    case atStart => exact ⟨rfl, rfl, rfl⟩
    case round =>
      obtain ⟨rfl, rfl, rfl⟩ := hrel
      go_wp2_with fail
      go_ret
      exact ⟨rfl, .inl (by simp [mks]), grown_same _ _⟩
  · rcases h with rfl | ⟨b, rfl, hb, hp, ht⟩
    · simp at hl; omega
    rw [hl] at ht
    clear hp hl
    go_enter Tryd.func28, Tryd.ntmps28
    go_wp2_with fail
    go_loopw [1, 5] (fun tk' ti wr => ∃ k : Nat, ti = .int .i64 k ∧ tk' = .int .i64 (1 + 3 * (k : Int)) ∧ k ≤ n ∧ Hid (b < wr.heap.size ∧ FlAt wr b 0 (mks (k * 3)) ∧ wr.there b 0 (n * 3) ∧ w.grownBy wr (some b))) (fun _ ti _ => n - (intOf ti).toNat)
    case atStart => exact ⟨0, rfl, rfl, Nat.zero_le _, hid ⟨hb, fun j hj => by simp [mks] at hj, ht, grown_same _ _⟩⟩
    case round =>
      obtain ⟨k, rfl, rfl, hk, HH⟩ := hrel
      by_cases hlt : k < n
      · have c1 : (k : Int) < (n : Int) := by omega
        obtain ⟨r1, r1'⟩ := put_one (show k * 3 < n * 3 by omega) HH.out.2.1 HH.out.2.2.1 (1 + 3 * (k : Int)) (by omega)
        obtain ⟨r2, r2'⟩ := put_one (show k * 3 + 1 < n * 3 by omega) r1 r1' (1 + 3 * (k : Int) + 1) (by omega)
        obtain ⟨r3, r3'⟩ := put_one (show k * 3 + 2 < n * 3 by omega) r2 r2' (1 + 3 * (k : Int) + 1 + 1) (by omega)
        obtain ⟨g0, g0'⟩ := HH.out.2.2.1 (k * 3) (by omega)
        obtain ⟨g1, g1'⟩ := r1' (k * 3 + 1) (by omega)
        obtain ⟨g2, g2'⟩ := r2' (k * 3 + 2) (by omega)
        obtain ⟨u0, hu0⟩ := Option.isSome_iff_exists.1 g0
        obtain ⟨u1, hu1⟩ := Option.isSome_iff_exists.1 g1
        obtain ⟨u2, hu2⟩ := Option.isSome_iff_exists.1 g2
        have R := hid (And.intro r3 r3')
        simp only [Nat.zero_add] at hu0 hu1 hu2 g0' g1' g2'
        clear g0 g1 g2 r1 r1' r2 r2' r3 r3'
        go_wp2_with fail
        go_roundw
        case rel =>
          refine ⟨k + 1, by go_num, by go_num, by omega, ?_⟩
          exact hid ⟨by simpa using HH.out.1, by rw [show (k + 1) * 3 = k * 3 + 2 + 1 by omega]; exact R.out.1, R.out.2, grown_set1 (grown_set1 (grown_set1 HH.out.2.2.2 _) _) _⟩
        case measure => simp [intOf]; omega
      · obtain rfl : k = n := by omega
        go_wp2_with fail
        go_ret
        exact ⟨rfl, .inr ⟨b, rfl, HH.out.1, HH.out.2.1, by rw [mks_len]; exact HH.out.2.2.1⟩, HH.out.2.2.2⟩
set_option maxRecDepth 100000 in
set_option maxHeartbeats 1000000 in
theorem held_tiles (w : World) (a : Option Addr) (cap n : Nat) (hm : n ≤ 1099511627776) (hc : n ≤ cap) (h : Fl w a (mks (n * 3))) : Calls Tryd.prog 29 #[.slice a n cap, .int .i64 1] w fun e w' => e = .returned (.int .i64 (1 + 3 * (n : Int))) ∧ w' = w := by
  have HP := hid h
  clear h
  go_enter Tryd.func29, Tryd.ntmps29
  go_wp2_with fail
  go_loopw [1, 5] (fun tk' ti wr => ∃ k : Nat, ti = .int .i64 k ∧ tk' = .int .i64 (1 + 3 * (k : Int)) ∧ k ≤ n ∧ wr = w) (fun _ ti _ => n - (intOf ti).toNat)
  case atStart => exact ⟨0, rfl, rfl, Nat.zero_le _, rfl⟩
  case round =>
    obtain ⟨k, rfl, rfl, hk, hw⟩ := hrel
    subst hw
    by_cases hlt : k < n
    · have c1 : (k : Int) < (n : Int) := by omega
      obtain ⟨b, off, rfl, hbs, hp⟩ : ∃ b off, a = some ⟨b, off, none⟩ ∧ b < wr.heap.size ∧ FlAt wr b off (mks (n * 3)) := by
        rcases HP.out with h | h
        · have := congrArg List.length h; rw [mks_len] at this; simp at this; omega
        · exact h
      have d0 := hp (k * 3) (by rw [mks_len]; omega)
      have d1 := hp (k * 3 + 1) (by rw [mks_len]; omega)
      have d2 := hp (k * 3 + 2) (by rw [mks_len]; omega)
      rw [mks_at (by omega)] at d0 d1 d2
      rw [show ((k * 3 : Nat) : Int) + 1 = 1 + 3 * (k : Int) by omega] at d0
      rw [show ((k * 3 + 1 : Nat) : Int) + 1 = 1 + 3 * (k : Int) + 1 by omega, ← Nat.add_assoc] at d1
      rw [show ((k * 3 + 2 : Nat) : Int) + 1 = 1 + 3 * (k : Int) + 1 + 1 by omega, ← Nat.add_assoc] at d2
      clear hp
      go_wp2_with fail
      go_roundw
      case rel => exact ⟨k + 1, by go_num, by go_num, by omega, by first | rfl | trivial⟩
      case measure => simp [intOf]; omega
    · obtain rfl : k = n := by omega
      go_wp2_with fail
      go_ret
      exact ⟨rfl, rfl⟩
set_option maxHeartbeats 1000000 in
theorem eq_tiles (a b : Option Addr) (cap cap' n : Nat) (zs : List Int) (w : World) (hm : n ≤ 1099511627776) (hc : n ≤ cap) (hc' : n ≤ cap') (hl : zs.length = n * 3) (h : Fl w a zs) (h' : Fl w b zs) : Calls Tryd.prog 27 #[.slice a n cap, .slice b n cap'] w fun e w' => e = .returned (.bool true) ∧ Below w.heap.size w w' := by
  go_enter Tryd.func27, Tryd.ntmps27
  go_wp2_with fail
  go_loopw [5] (fun ti wr => ∃ k : Nat, ti = .int .i64 k ∧ k ≤ n ∧ Below w.heap.size w wr) (fun ti _ => n - (intOf ti).toNat)
  case atStart => exact ⟨0, rfl, Nat.zero_le _, Below.refl _ _⟩
  case round =>
    obtain ⟨k, rfl, hk, hb⟩ := hrel
    by_cases hlt : k < n
    · rcases h with rfl | ⟨p, off, rfl, hps, hp⟩
      · simp at hl; omega
      rcases h' with rfl | ⟨q, off', rfl, hqs, hq⟩
      · simp at hl; omega
      have c0 := hp.below hps hb (k * 3) (by omega)
      have c1 := hp.below hps hb (k * 3 + 1) (by omega)
      have c2 := hp.below hps hb (k * 3 + 2) (by omega)
      have d0 := hq.below hqs hb (k * 3) (by omega)
      have d1 := hq.below hqs hb (k * 3 + 1) (by omega)
      have d2 := hq.below hqs hb (k * 3 + 2) (by omega)
      rw [← Nat.add_assoc] at c1 c2 d1 d2
      generalize hx : zs.getD (k * 3) 0 = x at c0 d0
      generalize hy : zs.getD (k * 3 + 1) 0 = y at c1 d1
      generalize hz : zs.getD (k * 3 + 2) 0 = z at c2 d2
      have Hp := hid hp
      have Hq := hid hq
      clear hx hy hz hp hq
      have hk0 : (0 : Int) ≤ (k : Int) := by omega
      have hk1 : (k : Int) < (n : Int) := by omega
      go_wp2_with fail
      go_region_held3 (fun w' => w'.cell? ⟨p, off + k * 3, none⟩ = some (.int .i64 x) ∧ w'.cell? ⟨p, off + k * 3 + 1, none⟩ = some (.int .i64 y) ∧ w'.cell? ⟨p, off + k * 3 + 2, none⟩ = some (.int .i64 z) ∧ w'.cell? ⟨q, off' + k * 3, none⟩ = some (.int .i64 x) ∧ w'.cell? ⟨q, off' + k * 3 + 1, none⟩ = some (.int .i64 y) ∧ w'.cell? ⟨q, off' + k * 3 + 2, none⟩ = some (.int .i64 z)) ((go_split_ands; (repeat' apply And.intro) <;> (repeat (first | with_reducible assumption | (refine newcell _ _ _ _ _ _ ?_ rfl; simp; done) | refine keepcell (by with_reducible assumption) ?_ | refine keepdrew ?_ | refine keepalloc ?_ _))))
        (first
          | (go_at_call 26; refine (eq_tile _ _ _ _).mono ?_; rintro e w1 ⟨rfl, hb1⟩))
      go_wp2_with fail
      go_roundw
      case rel => exact ⟨k + 1, by go_num, by omega, by (repeat (first | with_reducible exact Below.refl _ _ | with_reducible assumption | (with_reducible refine btrans ?_ (by with_reducible assumption)) | with_reducible refine bdrew ?_ | with_reducible refine balloc ?_ _))⟩
      case measure => simp [intOf]; omega
    · have hk' : k = n := by omega
      go_wp2_with fail
      go_ret
      exact ⟨rfl, hb⟩
/-- The four tiles below one, field behind field. -/
def dnok (l c r : Int) : Bool := tok l c r && !decide (l = 8)
def dn4 (l c r : Int) : List Int := [l + 1, 2 * c, 2 * r, l + 1, 2 * c + 1, 2 * r, l + 1, 2 * c, 2 * r + 1, l + 1, 2 * c + 1, 2 * r + 1]
def dn (l c r : Int) : List Int := if dnok l c r then dn4 l c r else []
def dnn (l c r : Int) : Nat := if dnok l c r then 4 else 0
theorem dn_len (l c r : Int) : (dn l c r).length = dnn l c r * 3 := by unfold dn dnn; split <;> rfl
/-- A list of tiles that a call made: in a block of its own, made since w. -/
def TlNew (w w' : World) (v : Value) (n : Nat) (zs : List Int) : Prop := ∃ a cap, v = .slice a n cap ∧ n ≤ cap ∧ FlOwn w' a zs ∧ Below w.heap.size w w' ∧ ∀ p, a = some p → w.heap.size ≤ p.block
theorem flown_new (w : World) (zs : List Int) (t : TypeId) : FlOwn (w.alloc (.cells (zs.map (Value.int .i64)).toArray t)) (some ⟨w.heap.size, 0, none⟩) zs := by
  refine .inr ⟨_, rfl, by simp, fun i hi => ?_, fun j hj => ?_⟩
  · rw [World.cell?_alloc_new]
    simp [List.getD_eq_getElem?_getD, hi]
  · refine ⟨?_, World.frozen?_alloc_new w _ _ _⟩
    rw [World.cell?_alloc_new]
    simp [hj]
theorem flown_at (w : World) (B : Nat) (hB : B = w.heap.size) (zs : List Int) (t : TypeId) (w' : World) (hw : w'.heap = (w.alloc (.cells (zs.map (Value.int .i64)).toArray t)).heap) : FlOwn w' (some ⟨B, 0, none⟩) zs := by
  subst hB
  have h := flown_new w zs t
  have e : ∀ a, w'.cell? a = (w.alloc (.cells (zs.map (Value.int .i64)).toArray t)).cell? a := fun a => by unfold World.cell?; rw [hw]
  have e2 : ∀ a, w'.frozen? a = (w.alloc (.cells (zs.map (Value.int .i64)).toArray t)).frozen? a := fun a => by unfold World.frozen?; rw [hw]
  rcases h with h | ⟨b, hb, h1, h2, h3⟩
  · exact .inl h
  · exact .inr ⟨b, hb, by rw [hw]; exact h1, fun i hi => by rw [e]; exact h2 i hi, fun j hj => by rw [e, e2]; exact h3 j hj⟩
set_option maxHeartbeats 1000000 in
theorem impl_tiledown (l c r : Int) (w : World) (ht : Tab w) : Calls Tryd.prog 22 #[.agg #[.int .i64 l, .int .i64 c, .int .i64 r]] w fun e w' => ∃ v, e = .returned v ∧ TlNew w w' v (dnn l c r) (dn l c r) := by
  have Ht := hid ht
  clear ht
  cases h : tok l c r
  · have hu : dnok l c r = false := by simp [dnok, h]
    rw [show dn l c r = [] by simp [dn, hu], show dnn l c r = 0 by simp [dnn, hu]]
    go_enter Tryd.func22, Tryd.ntmps22
    go_wp2_with fail
    refine (impl_tileok l c r _ (Ht.out.alloc _)).mono ?_
    rw [h]
    rintro e w' ⟨rfl, rfl⟩
    go_wp2_with fail
    go_ret
    exact ⟨.slice (some ⟨w.heap.size + 1 + 1, 0, none⟩) 0 0, rfl, some ⟨w.heap.size + 1 + 1, 0, none⟩, 0, rfl, Nat.le_refl _, .inl rfl, by (repeat (first | with_reducible exact Below.refl _ _ | with_reducible assumption | (with_reducible refine btrans ?_ (by with_reducible assumption)) | with_reducible refine bdrew ?_ | with_reducible refine balloc ?_ _ | with_reducible refine bset ?_ (by simp; omega) _)), fun p hp => by injection hp with hp; subst hp; dsimp only; omega⟩
  have hok := h
  obtain ⟨k, rfl, hk, c0, c1, r0, r1⟩ := tok_parts h
  obtain ⟨_, _, _, q1, q2, _, _⟩ := sid_bounds k hk
  by_cases h8 : k = 8
  · subst h8
    have hu : dnok ((8 : Nat) : Int) c r = false := by simp [dnok]
    rw [show dn ((8 : Nat) : Int) c r = [] by unfold dn; rw [hu]; rfl, show dnn ((8 : Nat) : Int) c r = 0 by unfold dnn; rw [hu]; rfl]
    go_enter Tryd.func22, Tryd.ntmps22
    go_wp2_with fail
    refine (impl_tileok ((8 : Nat) : Int) c r _ (Ht.out.alloc _)).mono ?_
    rw [hok]
    rintro e w' ⟨rfl, rfl⟩
    go_wp2_with fail
    go_ret
    exact ⟨.slice (some ⟨w.heap.size + 1 + 1, 0, none⟩) 0 0, rfl, some ⟨w.heap.size + 1 + 1, 0, none⟩, 0, rfl, Nat.le_refl _, .inl rfl, by (repeat (first | with_reducible exact Below.refl _ _ | with_reducible assumption | (with_reducible refine btrans ?_ (by with_reducible assumption)) | with_reducible refine bdrew ?_ | with_reducible refine balloc ?_ _ | with_reducible refine bset ?_ (by simp; omega) _)), fun p hp => by injection hp with hp; subst hp; dsimp only; omega⟩
  · have hu : dnok (k : Int) c r = true := by simp [dnok, hok]; omega
    rw [show dn (k : Int) c r = dn4 k c r by simp [dn, hu], show dnn (k : Int) c r = 4 by simp [dnn, hu]]
    have hz : ¬ ((k : Int) = 8) := by omega
    go_enter Tryd.func22, Tryd.ntmps22
    go_wp2_with fail
    refine (impl_tileok k c r _ (Ht.out.alloc _)).mono ?_
    rw [hok]
    rintro e w' ⟨rfl, rfl⟩
    go_wp2_with fail
    go_region
    go_wp2_with fail
    go_ret
    exact ⟨.slice (some ⟨w.heap.size + 1 + 1, 0, none⟩) 4 4, rfl, some ⟨w.heap.size + 1 + 1, 0, none⟩, 4, rfl, Nat.le_refl _, flown_at _ (w.heap.size + 1 + 1) (by simp) (dn4 k c r) _ _ rfl, by (repeat (first | with_reducible exact Below.refl _ _ | with_reducible assumption | (with_reducible refine btrans ?_ (by with_reducible assumption)) | with_reducible refine bdrew ?_ | with_reducible refine balloc ?_ _ | with_reducible refine bset ?_ (by simp; omega) _)), fun p hp => by injection hp with hp; subst hp; dsimp only; omega⟩
end Go.Proofs.YtncnppkpkemajaaDoor
