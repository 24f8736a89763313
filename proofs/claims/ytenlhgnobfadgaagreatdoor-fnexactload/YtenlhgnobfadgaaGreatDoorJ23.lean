/- Texts of stores, joined: Around, Shape. -/
import Derived.Test.YtenlhgnobfadgaaGreatDoorJ20
import Derived.Test.YtenlhgnobfadgaaGreatDoorJ22
namespace Go.Proofs.YtenlhgnobfadgaaGreatDoor
open Go.RowKit
set_option linter.unusedSimpArgs false
set_option linter.unusedVariables false
def aok (ps : List (Int × Int)) : Bool := !ps.isEmpty && allok ps
def aX (ps : List (Int × Int)) : Int := if aok ps = true then ps.tail.foldl (fun m p => min m p.1) (ps.getD 0 (0, 0)).1 else 0
def aY (ps : List (Int × Int)) : Int := if aok ps = true then ps.tail.foldl (fun m p => min m p.2) (ps.getD 0 (0, 0)).2 else 0
def bX (ps : List (Int × Int)) : Int := if aok ps = true then ps.tail.foldl (fun m p => max m p.1) (ps.getD 0 (0, 0)).1 else 0
def bY' (ps : List (Int × Int)) : Int := if aok ps = true then ps.tail.foldl (fun m p => max m p.2) (ps.getD 0 (0, 0)).2 else 0
theorem keephdrew2 {w : World} {b : Nat} {o : Obj} (h : w.heap[b]? = some o) : w.drew.heap[b]? = some o := h
theorem set4 {w w1 : World} {B : Nat} {o0 o1 o2 o3 : Value} {t : TypeId} (gz : w1.heap[B]? = some (.cells #[o0, o1, o2, o3] t (0, 0))) (hb : Below w.heap.size w w1) (hB : w.heap.size ≤ B) (a b c d : Value) :
    ((((w1.setCell ⟨B, 0, none⟩ a).setCell ⟨B, 1, none⟩ b).setCell ⟨B, 2, none⟩ c).setCell ⟨B, 3, none⟩ d).heap[B]? = some (.cells #[a, b, c, d] t (0, 0)) ∧ Below w.heap.size w ((((w1.setCell ⟨B, 0, none⟩ a).setCell ⟨B, 1, none⟩ b).setCell ⟨B, 2, none⟩ c).setCell ⟨B, 3, none⟩ d) :=
  ⟨set_at (set_at (set_at (set_at gz))), bset (bset (bset (bset hb hB _) hB _) hB _) hB _⟩
theorem a_no {ps : List (Int × Int)} (h : aok ps = false) : aX ps = 0 ∧ aY ps = 0 ∧ bX ps = 0 ∧ bY' ps = 0 := by
  unfold aX aY bX bY'; rw [h]; exact ⟨rfl, rfl, rfl, rfl⟩
theorem PtsAt.tail {w : World} {b off : Nat} {p : Int × Int} {ps : List (Int × Int)} (h : PtsAt w b off (p :: ps)) : PtsAt w b (off + 2) ps := by
  intro k hk
  obtain ⟨h1, h2⟩ := h (k + 1) (by simp; omega)
  simp only [List.getD_cons_succ] at h1 h2
  rw [show off + (k + 1) * 2 = off + 2 + k * 2 by omega] at h1 h2
  exact ⟨h1, h2⟩
end Go.Proofs.YtenlhgnobfadgaaGreatDoor
namespace Go.Proofs.YtenlhgnobfadgaaGreatDoor
open Go.RowKit
set_option linter.unusedSimpArgs false
set_option linter.unusedVariables false
/-- A shape's value: its kind and its list of points. -/
abbrev shv (k : Int) (a : Option Addr) (n cap : Nat) : Value := .agg #[.int .i64 k, .slice a n cap]
/-- Each of the first k points differs from the one behind it. -/
def diffTo (ps : List (Int × Int)) : Nat → Bool
  | 0 => true
  | k + 1 => diffTo ps k && !((ps.getD k (0, 0)).1 == (ps.getD (k + 1) (0, 0)).1 && (ps.getD k (0, 0)).2 == (ps.getD (k + 1) (0, 0)).2)
def lineb (ps : List (Int × Int)) : Bool := decide (2 ≤ ps.length) && decide (ps.length ≤ 60) && diffTo ps (ps.length - 1)
theorem diff_mono {ps : List (Int × Int)} {k : Nat} (h : diffTo ps k = false) : ∀ m, k ≤ m → diffTo ps m = false
  | 0, hm => by obtain rfl : k = 0 := by omega
                exact h
  | m + 1, hm => by
    by_cases e : k = m + 1
    · subst e; exact h
    · rw [diffTo, diff_mono h m (by omega)]; rfl
theorem fig_dot (a : Option Addr) (n cap : Nat) (w : World) : Calls Tryz.prog 106 #[shv 0 a n cap] w fun e w' => e = .returned (.iface 179 (.slice a n cap)) ∧ Below w.heap.size w w' := by
  go_enter Tryz.func106, Tryz.ntmps106
  go_wp2_with fail
  go_ret
  exact ⟨rfl, by (repeat (first | with_reducible exact Below.refl _ _ | with_reducible assumption | (with_reducible refine btrans ?_ (by with_reducible assumption)) | with_reducible refine bdrew ?_ | with_reducible refine balloc ?_ _))⟩
theorem fig_path (a : Option Addr) (n cap : Nat) (w : World) : Calls Tryz.prog 106 #[shv 1 a n cap] w fun e w' => e = .returned (.iface 180 (.slice a n cap)) ∧ Below w.heap.size w w' := by
  go_enter Tryz.func106, Tryz.ntmps106
  go_wp2_with fail
  go_ret
  exact ⟨rfl, by (repeat (first | with_reducible exact Below.refl _ _ | with_reducible assumption | (with_reducible refine btrans ?_ (by with_reducible assumption)) | with_reducible refine bdrew ?_ | with_reducible refine balloc ?_ _))⟩
theorem fig_block (a : Option Addr) (n cap : Nat) (w : World) : Calls Tryz.prog 106 #[shv 2 a n cap] w fun e w' => e = .returned (.iface 181 (.slice a n cap)) ∧ Below w.heap.size w w' := by
  go_enter Tryz.func106, Tryz.ntmps106
  go_wp2_with fail
  go_ret
  exact ⟨rfl, by (repeat (first | with_reducible exact Below.refl _ _ | with_reducible assumption | (with_reducible refine btrans ?_ (by with_reducible assumption)) | with_reducible refine bdrew ?_ | with_reducible refine balloc ?_ _))⟩
theorem fig_ring (a : Option Addr) (n cap : Nat) (w : World) : Calls Tryz.prog 106 #[shv 3 a n cap] w fun e w' => e = .returned (.iface 182 (.slice a n cap)) ∧ Below w.heap.size w w' := by
  go_enter Tryz.func106, Tryz.ntmps106
  go_wp2_with fail
  go_ret
  exact ⟨rfl, by (repeat (first | with_reducible exact Below.refl _ _ | with_reducible assumption | (with_reducible refine btrans ?_ (by with_reducible assumption)) | with_reducible refine bdrew ?_ | with_reducible refine balloc ?_ _))⟩
theorem fig_blank (k : Int) (a : Option Addr) (n cap : Nat) (w : World) (h0 : (k == 0) = false) (h1 : (k == 1) = false) (h2 : (k == 2) = false) (h3 : (k == 3) = false) : Calls Tryz.prog 106 #[shv k a n cap] w fun e w' => e = .returned (.iface 184 (.agg #[])) ∧ Below w.heap.size w w' := by
  go_enter Tryz.func106, Tryz.ntmps106
  go_wp2_with fail
  go_ret
  exact ⟨rfl, by (repeat (first | with_reducible exact Below.refl _ _ | with_reducible assumption | (with_reducible refine btrans ?_ (by with_reducible assumption)) | with_reducible refine bdrew ?_ | with_reducible refine balloc ?_ _))⟩
theorem blank_right (w : World) : Calls Tryz.prog 269 #[.agg #[]] w fun e w' => e = .returned (.bool false) ∧ Below w.heap.size w w' := by
  go_enter Tryz.func269, Tryz.ntmps269
  go_wp2_with fail
  go_ret
  exact ⟨rfl, by (repeat (first | with_reducible exact Below.refl _ _ | with_reducible assumption | (with_reducible refine btrans ?_ (by with_reducible assumption)) | with_reducible refine bdrew ?_ | with_reducible refine balloc ?_ _))⟩
set_option maxHeartbeats 400000 in
theorem dot_right (a : Option Addr) (cap : Nat) (ps : List (Int × Int)) (w : World) (hm : ps.length ≤ 1099511627776) (h : Pts w a ps) : Calls Tryz.prog 241 #[.slice a ps.length cap] w fun e w' => e = .returned (.bool (decide (ps.length = 1) && allok ps)) ∧ Below w.heap.size w w' := by
  by_cases h1 : ps.length = 1
  · obtain ⟨⟨x, y⟩, rfl⟩ := List.length_eq_one_iff.1 h1
    obtain ⟨b, off, rfl, hbs, hp⟩ : ∃ b off, a = some ⟨b, off, none⟩ ∧ b < w.heap.size ∧ PtsAt w b off [(x, y)] := by
      rcases h with h | h
      · cases h
      · exact h
    obtain ⟨c0, c1⟩ := hp 0 (by simp)
    simp only [Nat.zero_mul, Nat.add_zero, List.getD_cons_zero] at c0 c1
    have Hp := hid hp
    clear hp h h1
    go_enter Tryz.func241, Tryz.ntmps241
    go_wp2_with fail
    refine (impl_ok _ _ _).mono ?_
    rintro e w1 ⟨rfl, rfl⟩
    go_wp2_with fail
    go_ret
    exact ⟨by simp [allok], by (repeat (first | with_reducible exact Below.refl _ _ | with_reducible assumption | (with_reducible refine btrans ?_ (by with_reducible assumption)) | with_reducible refine bdrew ?_ | with_reducible refine balloc ?_ _))⟩
  · have hne : ((ps.length : Int) == 1) = false := by rw [beq_eq_false_iff_ne]; omega
    go_enter Tryz.func241, Tryz.ntmps241
    go_wp2_with fail
    go_ret
    exact ⟨by simp [h1], by (repeat (first | with_reducible exact Below.refl _ _ | with_reducible assumption | (with_reducible refine btrans ?_ (by with_reducible assumption)) | with_reducible refine bdrew ?_ | with_reducible refine balloc ?_ _))⟩
set_option maxHeartbeats 1000000 in
theorem path_right (a : Option Addr) (cap : Nat) (ps : List (Int × Int)) (w : World) (hm : ps.length ≤ 1099511627776) (hc : ps.length ≤ cap) (h : Pts w a ps) : Calls Tryz.prog 244 #[.slice a ps.length cap] w fun e w' => e = .returned (.bool (lineb ps && allok ps)) ∧ Below w.heap.size w w' := by
  by_cases h2 : (ps.length : Int) < 2
  · have hv : (lineb ps && allok ps) = false := by unfold lineb; rw [decide_eq_false (by omega)]; rfl
    rw [hv]
    go_enter Tryz.func244, Tryz.ntmps244
    go_wp2_with fail
    go_ret
    exact ⟨rfl, by (repeat (first | with_reducible exact Below.refl _ _ | with_reducible assumption | (with_reducible refine btrans ?_ (by with_reducible assumption)) | with_reducible refine bdrew ?_ | with_reducible refine balloc ?_ _))⟩
  by_cases h6 : 60 < (ps.length : Int)
  · have hv : (lineb ps && allok ps) = false := by unfold lineb; rw [decide_eq_false (show ¬ ps.length ≤ 60 by omega), Bool.and_false]; rfl
    rw [hv]
    go_enter Tryz.func244, Tryz.ntmps244
    go_wp2_with fail
    go_ret
    exact ⟨rfl, by (repeat (first | with_reducible exact Below.refl _ _ | with_reducible assumption | (with_reducible refine btrans ?_ (by with_reducible assumption)) | with_reducible refine bdrew ?_ | with_reducible refine balloc ?_ _))⟩
  have hall := fun w' (hw : Pts w' a ps) => impl_all a cap ps w' hm hc hw
  have Hh := hid h
  clear h
  cases ha : allok ps
  · rw [Bool.and_false]
    rw [ha] at hall
    have Hall := hid hall
    clear hall
    go_enter Tryz.func244, Tryz.ntmps244
    go_wp2_with fail
    refine (Hall.out _ (Hh.out.below ?_)).mono ?_
    · (repeat (first | with_reducible exact Below.refl _ _ | with_reducible assumption | (with_reducible refine btrans ?_ (by with_reducible assumption)) | with_reducible refine bdrew ?_ | with_reducible refine balloc ?_ _))
    rintro e w1 ⟨rfl, hb1⟩
    go_wp2_with fail
    go_ret
    exact ⟨rfl, hb1⟩
  rw [ha] at hall
  have Hall := hid hall
  have hv : (lineb ps && true) = diffTo ps (ps.length - 1) := by unfold lineb; rw [decide_eq_true (by omega), decide_eq_true (by omega)]; simp
  have Hv := hid hv
  rw [hv]
  clear hall ha hv
  have hcap : ¬ cap = 1 := by omega
  have hs1 : (1 : Int) ≤ (ps.length : Int) := by omega
  have hs2 : (ps.length : Int) ≤ (cap : Int) := by omega
  obtain ⟨b, off, rfl, hbs, hp⟩ : ∃ b off, a = some ⟨b, off, none⟩ ∧ b < w.heap.size ∧ PtsAt w b off ps := by
    rcases Hh.out with h | h
    · rw [h] at hs1; simp at hs1
    · exact h
  have Hp := hid hp
  clear hp
  go_enter Tryz.func244, Tryz.ntmps244
  go_wp2_with fail
  refine (Hall.out _ (Hh.out.below ?_)).mono ?_
  · (repeat (first | with_reducible exact Below.refl _ _ | with_reducible assumption | (with_reducible refine btrans ?_ (by with_reducible assumption)) | with_reducible refine bdrew ?_ | with_reducible refine balloc ?_ _))
  rintro e w1 ⟨rfl, hb1⟩
  go_wp2_with fail
  go_loopw [21] (fun ti wr => ∃ k : Nat, ti = .int .i64 k ∧ k ≤ ps.length - 1 ∧ Below w.heap.size w wr ∧ Hid (diffTo ps k = true)) (fun ti _ => ps.length - 1 - (intOf ti).toNat)
  case atStart => exact ⟨0, rfl, Nat.zero_le _, hb1, hid rfl⟩
  case round =>
    obtain ⟨k, rfl, hk, hb, H⟩ := hrel
    by_cases hlt : k < ps.length - 1
    · obtain ⟨c0, c1⟩ := Hp.out.below hbs hb k (by omega)
      obtain ⟨d0, d1⟩ := Hp.out.below hbs hb (k + 1) (by omega)
      have hd : diffTo ps (k + 1) = (diffTo ps k && !((ps.getD k (0, 0)).1 == (ps.getD (k + 1) (0, 0)).1 && (ps.getD k (0, 0)).2 == (ps.getD (k + 1) (0, 0)).2)) := rfl
      rw [H.out] at hd
      rw [show off + (k + 1) * 2 = off + 2 + k * 2 by omega] at d0 d1
      generalize (ps.getD k (0, 0)).1 = x at *
      generalize (ps.getD k (0, 0)).2 = y at *
      generalize (ps.getD (k + 1) (0, 0)).1 = u at *
      generalize (ps.getD (k + 1) (0, 0)).2 = v at *
      have Hd := hid hd
      clear hd
      have hk0 : (0 : Int) ≤ (k : Int) := by omega
      have hk1 : (k : Int) < (ps.length : Int) := by omega
      have hk2 : (k : Int) < (ps.length : Int) - 1 := by omega
      have hk3 : k < ps.length - 1 := hlt
      by_cases hx : x = u
      · subst hx
        by_cases hy : y = v
        · subst hy
          go_wp2_with fail
          go_region_held3 (fun w' => w'.cell? ⟨b, off + k * 2, none⟩ = some (.int .i64 x) ∧ w'.cell? ⟨b, off + k * 2 + 1, none⟩ = some (.int .i64 y) ∧ w'.cell? ⟨wr.heap.size, 0, none⟩ = some (.int .i64 x) ∧ w'.cell? ⟨wr.heap.size, 1, none⟩ = some (.int .i64 y)) ((go_split_ands; (repeat' apply And.intro) <;> (repeat (first | with_reducible assumption | (refine newcell _ _ _ _ _ _ ?_ rfl; simp; done) | refine keepcell (by with_reducible assumption) ?_ | refine keepdrew ?_ | refine keepalloc ?_ _))))
            (first
              | (fail))
          go_wp2_with fail
          go_ret
          exact ⟨by rw [diff_mono (show diffTo ps (k + 1) = false by rw [Hd.out]; simp) _ (by omega)]; rfl, by (repeat (first | with_reducible exact Below.refl _ _ | with_reducible assumption | (with_reducible refine btrans ?_ (by with_reducible assumption)) | with_reducible refine bdrew ?_ | with_reducible refine balloc ?_ _))⟩
        · have hy' : (y == v) = false := by rw [beq_eq_false_iff_ne]; exact hy
          go_wp2_with fail
          go_region_held3 (fun w' => w'.cell? ⟨b, off + k * 2, none⟩ = some (.int .i64 x) ∧ w'.cell? ⟨b, off + k * 2 + 1, none⟩ = some (.int .i64 y) ∧ w'.cell? ⟨wr.heap.size, 0, none⟩ = some (.int .i64 x) ∧ w'.cell? ⟨wr.heap.size, 1, none⟩ = some (.int .i64 v)) ((go_split_ands; (repeat' apply And.intro) <;> (repeat (first | with_reducible assumption | (refine newcell _ _ _ _ _ _ ?_ rfl; simp; done) | refine keepcell (by with_reducible assumption) ?_ | refine keepdrew ?_ | refine keepalloc ?_ _))))
            (first
              | (fail))
          go_wp2_with fail
          go_roundw
          case rel => exact ⟨k + 1, by go_num, by omega, by (repeat (first | with_reducible exact Below.refl _ _ | with_reducible assumption | (with_reducible refine btrans ?_ (by with_reducible assumption)) | with_reducible refine bdrew ?_ | with_reducible refine balloc ?_ _)), hid (by rw [Hd.out]; simp [*])⟩
          case measure => simp [intOf]; omega
      · have hx' : (x == u) = false := by rw [beq_eq_false_iff_ne]; exact hx
        go_wp2_with fail
        go_region_held3 (fun w' => w'.cell? ⟨b, off + k * 2, none⟩ = some (.int .i64 x) ∧ w'.cell? ⟨b, off + k * 2 + 1, none⟩ = some (.int .i64 y) ∧ w'.cell? ⟨wr.heap.size, 0, none⟩ = some (.int .i64 u) ∧ w'.cell? ⟨wr.heap.size, 1, none⟩ = some (.int .i64 v)) ((go_split_ands; (repeat' apply And.intro) <;> (repeat (first | with_reducible assumption | (refine newcell _ _ _ _ _ _ ?_ rfl; simp; done) | refine keepcell (by with_reducible assumption) ?_ | refine keepdrew ?_ | refine keepalloc ?_ _))))
          (first
            | (fail))
        go_wp2_with fail
        go_roundw
        case rel => exact ⟨k + 1, by go_num, by omega, by (repeat (first | with_reducible exact Below.refl _ _ | with_reducible assumption | (with_reducible refine btrans ?_ (by with_reducible assumption)) | with_reducible refine bdrew ?_ | with_reducible refine balloc ?_ _)), hid (by rw [Hd.out]; simp [*])⟩
        case measure => simp [intOf]; omega
    · obtain rfl : k = ps.length - 1 := by omega
      go_wp2_with fail
      go_ret
      exact ⟨by rw [H.out]; rfl, hb⟩
end Go.Proofs.YtenlhgnobfadgaaGreatDoor
