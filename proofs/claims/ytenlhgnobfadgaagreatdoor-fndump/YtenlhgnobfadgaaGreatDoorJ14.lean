/- Texts of stores, joined: RwI, RwJ, Vd, Ve, Vf. -/
import Derived.Test.YtenlhgnobfadgaaGreatDoorJ13
set_option maxRecDepth 100000
set_option maxHeartbeats 4000000
set_option linter.unusedSimpArgs false
set_option linter.unusedVariables false
namespace Go.Proofs.YtenlhgnobfadgaaGreatDoor
open Go.RowKit
theorem nbrs_take : ∀ (l : List Tr), (∀ k (h : k + 1 < l.length), nbr l[k] l[k + 1] = false) → nbrs l = true
 | [], _ => rfl
 | [_], _ => rfl
 | x :: y :: r, h => by
  simp only [nbrs, Bool.and_eq_true, Bool.not_eq_true']
  refine ⟨h 0 (by simp), nbrs_take (y :: r) (fun k hk => ?_)⟩
  exact h (k + 1) (by simp at hk ⊢; omega)
theorem nbrs_no : ∀ (l : List Tr) (k : Nat) (h : k + 1 < l.length), nbr l[k] l[k + 1] = true → nbrs l = false
 | [], k, h, _ => by simp at h
 | [_], k, h, _ => by simp at h
 | x :: y :: r, 0, h, hn => by
  have hn' : nbr x y = true := hn
  simp [nbrs, hn']
 | x :: y :: r, k + 1, h, hn => by
  have ih := nbrs_no (y :: r) k (by simp at h ⊢; omega) hn
  simp [nbrs, ih]
theorem rows_apart0 (a : Option Addr) (cap : Nat) (w : World) : Calls Tryz.prog 79 #[.slice a 0 cap] w fun e w' => e = .returned (.bool true) ∧ Below w.heap.size w w' := by
 go_enter Tryz.func79, Tryz.ntmps79
 go_wp2_with fail
 refine (values_c _ _ _ _).mono ?_
 rintro e z ⟨rfl, rfl⟩
 go_wp2_with fail
 have hB0 : Below w.heap.size w (w.alloc (.cells #[.slice a 0 cap] 30)) := balloc (Below.refl _ _) _
 refine (sorted_0 w.heap.size cap a _ (by simp)).mono ?_
 rintro e w1 ⟨a', cp, rfl, hB1⟩
 have hB := btrans hB0 hB1
 clear hB0 hB1
 go_wp2_with fail
 go_loopw [4] (fun ti wr => ti = .int .i64 1 ∧ Hid (Below w.heap.size w wr)) (fun ti _ => 0)
 case atStart => exact ⟨rfl, hid hB⟩
 case round =>
  clear hB
  obtain ⟨rfl, HB⟩ := hrel
  go_wp2_with fail
  go_ret
  exact ⟨rfl, HB.out⟩
theorem rows_apart (b off cap : Nat) (xs : List El) (w : World) (hlen : xs.length ≤ 300) (h0 : ¬ xs.length = 0) (hb : b < w.heap.size) (hc : ElsAt w b off xs) (ht : ∀ x ∈ xs, tmb (trE x)) : Calls Tryz.prog 79 #[.slice (some ⟨b, off, none⟩) xs.length cap] w fun e w' => e = .returned (.bool (apartR (xs.map trE))) ∧ Below w.heap.size w w' := by
 have h0' : 0 < xs.length := by omega
 have HSF := hid (fun (W : World) (Bs : Nat) (hb0 : Below w.heap.size w W) (hBs : W.cell? ⟨Bs, 0, none⟩ = some (.slice (some ⟨b, off, none⟩) xs.length cap)) => sorted_c Bs b off cap xs h0' (by omega) W (Nat.lt_of_lt_of_le hb hb0.size) hBs (hc.below hb hb0))
 clear hc
 obtain ⟨n, hn⟩ : ∃ n, n = xs.length := ⟨_, rfl⟩
 have HN := hid hn
 rw [← hn] at HSF h0' hlen ⊢
 clear hn h0
 go_enter Tryz.func79, Tryz.ntmps79
 go_wp2_with fail
 refine (values_c _ _ _ _).mono ?_
 rintro e z ⟨rfl, rfl⟩
 go_wp2_with fail
 have hB0 : Below w.heap.size w (w.alloc (.cells #[.slice (some ⟨b, off, none⟩) n cap] 30)) := balloc (Below.refl _ _) _
 refine (HSF.out _ _ hB0 (by simp)).mono ?_
 rintro e w1 ⟨g, cp, ys, rfl, hyl, hgl, hE, hP, hL, hB1⟩
 have hap : apartR (xs.map trE) = nbrs (ys.map trE) := apartR_sorted (hP.map trE) (fun x hx => by
  obtain ⟨y, hy, rfl⟩ := List.mem_map.1 hx
  exact ht y hy) (List.pairwise_map.2 (hL.imp (fun h => h)))
 have HAP := hid hap
 have hB := btrans hB0 hB1
 have HYL := hid hyl
 have HE := hid hE
 clear hap hP hL hB1 hB0 hE hyl HSF ht
 go_wp2_with fail
 go_loopw [4] (fun ti wr => ∃ k : Nat, ti = .int .i64 ((k + 1 : Nat) : Int) ∧ k + 1 ≤ n ∧ Hid (∀ m (h : m + 1 < ys.length), m < k → nbr (trE ys[m]) (trE ys[m + 1]) = false) ∧ Hid (g < wr.heap.size ∧ ElsAt wr g 0 ys) ∧ Hid (Below w.heap.size w wr)) (fun ti _ => n - (intOf ti).toNat)
 case atStart => exact ⟨0, rfl, by omega, hid (fun m h hh => absurd hh (by omega)), hid ⟨hgl, HE.out⟩, hid hB⟩
 case round =>
  clear hB hgl HE
  obtain ⟨k, rfl, hk, HC, HE, HB⟩ := hrel
  by_cases hlt : k + 1 < n
  ·have c1 : ((k + 1 : Nat) : Int) < (n : Int) := by omega
   have hk1 : k + 1 < ys.length := by rw [HYL.out]; exact hlt
   obtain ⟨x0, x1, x2, x3, x4⟩ := HE.out.2 k (by omega)
   obtain ⟨y0, y1, y2, y3, y4⟩ := HE.out.2 (k + 1) hk1
   have HT := hid (fun (t : Int) (W : World) => impl_there ((ys[k]'(by omega)).1, (ys[k]'(by omega)).2.1, (ys[k]'(by omega)).2.2.1, (ys[k]'(by omega)).2.2.2.1, List.replicate (ys[k]'(by omega)).2.2.2.2.2.1 (0, 0)) (ys[k]'(by omega)).2.2.2.2.1 (ys[k]'(by omega)).2.2.2.2.2.2 t W)
   have HNB := hid (show nbr (trE (ys[k]'(by omega))) (trE ys[k + 1]) = (decide ((ys[k]'(by omega)).1 = ys[k + 1].1) && thr ((ys[k]'(by omega)).1, (ys[k]'(by omega)).2.1, (ys[k]'(by omega)).2.2.1) ys[k + 1].2.1) from rfl)
   have HNO := hid (fun (h : nbr (trE (ys[k]'(by omega))) (trE ys[k + 1]) = true) => nbrs_no (ys.map trE) k (by simpa using hk1) (by simpa using h))
   have HCA : Hid (nbr (trE (ys[k]'(by omega))) (trE ys[k + 1]) = false → ∀ m (h : m + 1 < ys.length), m < k + 1 → nbr (trE ys[m]) (trE ys[m + 1]) = false) := hid (fun hf m hm hmk => by
    by_cases e : m = k
    ·subst e; exact hf
    ·exact HC.out m hm (by omega))
   unfold rwv tr at HT
   simp only [List.length_replicate, Nat.zero_add] at HT x0 x1 x2 x3 x4 y0 y1 y2 y3 y4
   generalize nbr (trE (ys[k]'(by omega))) (trE ys[k + 1]) = nb at HNB HNO HCA
   generalize (ys[k]'(by omega)).1 = i1 at *
   generalize (ys[k]'(by omega)).2.1 = f1 at *
   generalize (ys[k]'(by omega)).2.2.1 = t1 at *
   generalize (ys[k]'(by omega)).2.2.2.1 = k1 at *
   generalize (ys[k]'(by omega)).2.2.2.2.1 = a1 at *
   generalize (ys[k]'(by omega)).2.2.2.2.2.1 = n1 at *
   generalize (ys[k]'(by omega)).2.2.2.2.2.2 = p1 at *
   generalize ys[k + 1].1 = i2 at *
   generalize ys[k + 1].2.1 = f2 at *
   generalize ys[k + 1].2.2.1 = t2 at *
   generalize ys[k + 1].2.2.2.1 = k2 at *
   generalize ys[k + 1].2.2.2.2.1 = a2 at *
   generalize ys[k + 1].2.2.2.2.2.1 = n2 at *
   generalize ys[k + 1].2.2.2.2.2.2 = p2 at *
   obtain ⟨j, hj⟩ : ∃ j : Nat, j = k + 1 := ⟨_, rfl⟩
   have HJ := hid hj
   rw [← hj] at y0 y1 y2 y3 y4 c1 ⊢
   have hj0 : (0 : Int) ≤ (j : Int) := by omega
   have hw1 : IntKind.i64.wrap ((j : Int) - 1) = (k : Int) := by rw [IntWalk.i64_in _ ⟨by omega, by omega⟩]; omega
   have hk0 : (0 : Int) ≤ (k : Int) := by omega
   have ck : (k : Int) < (n : Int) := by omega
   have hjn : j < n := by omega
   have hkn : k < n := by omega
   clear hj hk hlt hk1
   have HB2 := HB
   have HE2 := HE
   go_wp2_with fail
   go_cut [5, 6] (fun t5 t6 wx => ∃ ba bb : Nat, t5 = .pointer (some ⟨ba, 0, none⟩) ∧ t6 = .pointer (some ⟨bb, 0, none⟩) ∧ Below wr.heap.size wr wx ∧ wx.heap[ba]? = some (.cells #[.int .i64 i1, .int .i64 f1, .int .i64 t1, .int .i64 k1, .slice a1 n1 p1] 65 (0, 0)) ∧ wx.heap[bb]? = some (.cells #[.int .i64 i2, .int .i64 f2, .int .i64 t2, .int .i64 k2, .slice a2 n2 p2] 65 (0, 0)))
   case first =>
    go_region_held3 (fun w' => w'.cell? ⟨g, k * 5, none⟩ = some (.int .i64 i1) ∧ w'.cell? ⟨g, k * 5 + 1, none⟩ = some (.int .i64 f1) ∧ w'.cell? ⟨g, k * 5 + 2, none⟩ = some (.int .i64 t1) ∧ w'.cell? ⟨g, k * 5 + 3, none⟩ = some (.int .i64 k1) ∧ w'.cell? ⟨g, k * 5 + 4, none⟩ = some (.slice a1 n1 p1) ∧ w'.cell? ⟨g, j * 5, none⟩ = some (.int .i64 i2) ∧ w'.cell? ⟨g, j * 5 + 1, none⟩ = some (.int .i64 f2) ∧ w'.cell? ⟨g, j * 5 + 2, none⟩ = some (.int .i64 t2) ∧ w'.cell? ⟨g, j * 5 + 3, none⟩ = some (.int .i64 k2) ∧ w'.cell? ⟨g, j * 5 + 4, none⟩ = some (.slice a2 n2 p2)) ((go_split_ands; (repeat' apply And.intro) <;> (with_reducible repeat (first | assumption | refine keepset ?_ (by dsimp only; omega) | refine keepdrew ?_ | refine keepalloc ?_ _))))
     (first
      | (fail))
    all_goals
     go_wp2_with fail
     go_meet
     first
      | exact ⟨_, _, rfl, rfl, by (repeat (first | exact Below.refl _ _ | (refine btrans ?_ (by with_reducible assumption)) | refine bdrew ?_ | refine balloc ?_ _)), old_alloc (new_alloc _ _ _ (by simp)), new_alloc _ _ _ (by simp)⟩
      | exact ⟨_, _, rfl, rfl, by (repeat (first | exact Below.refl _ _ | (refine btrans ?_ (by with_reducible assumption)) | refine bdrew ?_ | refine balloc ?_ _)), new_alloc _ _ _ (by simp), old_alloc (new_alloc _ _ _ (by simp))⟩
   case rest =>
    clear x0 x1 x2 x3 x4 y0 y1 y2 y3 y4
    obtain ⟨ba, bb, rfl, rfl, hbx, ga, gb⟩ := hcut
    obtain ⟨⟨x0, x1, x2, x3, x4⟩, _⟩ := cell5g ga
    obtain ⟨⟨y0, y1, y2, y3, y4⟩, _⟩ := cell5g gb
    clear ga gb
    have HB3 := hid (btrans HB2.out hbx)
    have HE3 := hid (And.intro (Nat.lt_of_lt_of_le HE2.out.1 hbx.size) (HE2.out.2.below HE2.out.1 hbx))
    have hadd : IntKind.i64.wrap ((j : Int) + 1) = ((j + 1 : Nat) : Int) := by rw [IntWalk.i64_in _ ⟨by omega, by omega⟩]; omega
    clear hbx HB2 HB HE HE2
    have HT2 := hid (fun W => HT.out f2 W)
    clear HT
    generalize hth : thr (i1, f1, t1) f2 = th at *
    cases qi : (i1 == i2)
    ·have nbf : nb = false := by rw [HNB.out, show decide (i1 = i2) = false by simpa using qi]; rfl
     have HQ := hid (HCA.out nbf)
     clear nbf
     go_wp2_with fail
     go_roundw
     case rel => exact ⟨j, by go_num, by omega, by rw [HJ.out]; exact HQ, HE3, HB3⟩
     case measure => simp [intOf]; omega
    ·have HN2 : Hid (nb = th) := hid (by rw [HNB.out, show decide (i1 = i2) = true by simpa using qi]; rfl)
     cases th
     ·go_wp2_with fail
      refine (HT2.out _).mono ?_
      rintro e z ⟨rfl, hz⟩
      have HQ := hid (HCA.out HN2.out)
      have HB4 := hid (btrans HB3.out hz)
      have HE4 := hid (And.intro (Nat.lt_of_lt_of_le HE3.out.1 hz.size) (HE3.out.2.below HE3.out.1 hz))
      clear hz HE3 HB3
      go_wp2_with fail
      go_roundw
      case rel => exact ⟨j, by go_num, by omega, by rw [HJ.out]; exact HQ, HE4, HB4⟩
      case measure => simp [intOf]; omega
     ·go_wp2_with fail
      refine (HT2.out _).mono ?_
      rintro e z ⟨rfl, hz⟩
      have HQ := hid (HNO.out HN2.out)
      have HB4 := hid (btrans HB3.out hz)
      clear hz HE3 HB3
      go_wp2_with fail
      go_ret
      exact ⟨by rw [HAP.out, HQ.out]; rfl, HB4.out⟩
  ·have hall := nbrs_take (ys.map trE) (fun m hm => by
    simp only [List.length_map] at hm
    simpa using HC.out m hm (by rw [HYL.out] at hm; omega))
   have HALL := hid hall
   have c1 : (n : Int) ≤ ((k + 1 : Nat) : Int) := by omega
   clear hall
   go_wp2_with fail
   go_ret
   exact ⟨by rw [HAP.out, HALL.out]; rfl, HB.out⟩
theorem impl_right (now : Int) (r : Rw) (a : Option Addr) (cap : Nat) (w : World) (hm : r.2.2.2.2.length ≤ 1099511627776) (hc : r.2.2.2.2.length ≤ cap) (h : Pts w a r.2.2.2.2) : Calls Tryz.prog 78 #[rwv r a cap, .int .i64 now] w fun e w' => e = .returned (.bool (rowb now r)) ∧ Below w.heap.size w w' := by
 obtain ⟨id, fr, te, kd, ps⟩ := r
 have HS := hid (fun (W : World) (hb : Below w.heap.size w W) => impl_ShapeOk kd a cap ps W hm hc (h.below hb))
 have HID := hid (fun w => impl_id id w)
 have HRB := hid (show rowb now (id, fr, te, kd, ps) = (idb id && (decide (1 ≤ fr) && decide (fr ≤ now)) && (decide (te = 0) || (decide (fr < te) && decide (te ≤ now))) && shok kd ps) from rfl)
 unfold rwv
 unfold shv at HS
 simp only
 clear h hm hc
 generalize rowb now (id, fr, te, kd, ps) = rb at *
 generalize shok kd ps = so at *
 generalize ps.length = n at *
 generalize idb id = ib at *
 generalize hE : (decide (te = 0) || (decide (fr < te) && decide (te ≤ now))) = E at *
 go_enter Tryz.func78, Tryz.ntmps78
 go_upto_region 1 with fail
 have hBx : Below w.heap.size w (w.alloc (.cells #[.int .i64 id, .int .i64 fr, .int .i64 te, .int .i64 kd, .slice a n cap] 65)) := balloc (Below.refl _ _) _
 have gx := new_alloc w w.heap.size (.cells #[.int .i64 id, .int .i64 fr, .int .i64 te, .int .i64 kd, .slice a n cap] 65) rfl
 generalize w.alloc (.cells #[.int .i64 id, .int .i64 fr, .int .i64 te, .int .i64 kd, .slice a n cap] 65) = W1 at *
 obtain ⟨⟨x0, x1, x2, x3, x4⟩, _⟩ := cell5g gx
 go_cut [5] from 6 to 21 (fun t wx => t = .bool E ∧ wx = W1)
 case first =>
  by_cases h1 : te = 0
  ·have q1 : (te == 0) = true := by simpa using h1
   go_wp2_with fail
   go_meet
   exact ⟨by rw [← hE]; simp [h1], rfl⟩
  ·have q1 : (te == 0) = false := by simpa using h1
   by_cases h2 : fr < te
   ·go_wp2_with fail
    go_meet
    exact ⟨by rw [← hE]; simp [h1, h2], rfl⟩
   ·have q2 : decide (fr < te) = false := by simpa using h2
    have q3 : te ≤ fr := by omega
    go_wp2_with fail
    go_meet
    exact ⟨by rw [← hE, q2]; simp [h1], rfl⟩
 case rest =>
  obtain ⟨rfl, rfl⟩ := hcut
  clear hE
  cases ib
  ·go_wp2_with fail
   refine (HID.out _).mono ?_
   rintro e z ⟨rfl, hw⟩
   replace hw := hw.symm
   subst hw
   go_wp2_with fail
   go_ret
   exact ⟨by rw [HRB.out]; rfl, hBx⟩
  by_cases h1 : 1 ≤ fr
  ·by_cases h2 : fr ≤ now
   ·cases E
    ·go_wp2_with fail
     refine (HID.out _).mono ?_
     rintro e z ⟨rfl, hw⟩
     replace hw := hw.symm
     subst hw
     go_wp2_with fail
     go_ret
     exact ⟨by rw [HRB.out]; simp [h1, h2], hBx⟩
    ·go_wp2_with fail
     refine (HID.out _).mono ?_
     rintro e z ⟨rfl, hw⟩
     replace hw := hw.symm
     subst hw
     go_wp2_with fail
     refine (HS.out _ hBx).mono ?_
     rintro e z ⟨rfl, hz⟩
     go_wp2_with fail
     go_ret
     exact ⟨by rw [HRB.out]; simp [h1, h2], btrans hBx hz⟩
   ·have q2 : decide (fr ≤ now) = false := by simpa using h2
    have q3 : now < fr := by omega
    go_wp2_with fail
    refine (HID.out _).mono ?_
    rintro e z ⟨rfl, hw⟩
    replace hw := hw.symm
    subst hw
    go_wp2_with fail
    go_ret
    exact ⟨by rw [HRB.out, q2]; simp, hBx⟩
  ·have q2 : decide (1 ≤ fr) = false := by simpa using h1
   have q3 : fr < 1 := by omega
   go_wp2_with fail
   refine (HID.out _).mono ?_
   rintro e z ⟨rfl, hw⟩
   replace hw := hw.symm
   subst hw
   go_wp2_with fail
   go_ret
   exact ⟨by rw [HRB.out, q2]; simp, hBx⟩
theorem els_of_rows {N : Nat → Prop} {w : World} {b o : Nat} (rs : List Rw) (h : RwsAt N w b o rs) : ∃ xs : List El, xs.length = rs.length ∧ xs.map trE = rs.map tr ∧ ElsAt w b o xs := by
 have hex : ∀ j : Nat, ∃ x : El, ∀ (hj : j < rs.length), trE x = tr rs[j] ∧ w.cell? ⟨b, o + j * 5, none⟩ = some (.int .i64 x.1) ∧ w.cell? ⟨b, o + j * 5 + 1, none⟩ = some (.int .i64 x.2.1) ∧ w.cell? ⟨b, o + j * 5 + 2, none⟩ = some (.int .i64 x.2.2.1) ∧ w.cell? ⟨b, o + j * 5 + 3, none⟩ = some (.int .i64 x.2.2.2.1) ∧ w.cell? ⟨b, o + j * 5 + 4, none⟩ = some (.slice x.2.2.2.2.1 x.2.2.2.2.2.1 x.2.2.2.2.2.2) := by
  intro j
  by_cases hj : j < rs.length
  ·obtain ⟨a, cap, k0, k1, k2, k3, k4, _⟩ := h j hj
   exact ⟨(rs[j].1, rs[j].2.1, rs[j].2.2.1, rs[j].2.2.2.1, a, rs[j].2.2.2.2.length, cap), fun _ => ⟨rfl, k0, k1, k2, k3, k4⟩⟩
  ·exact ⟨(0, 0, 0, 0, none, 0, 0), fun h' => absurd h' hj⟩
 have ⟨f, hf⟩ := Classical.axiomOfChoice hex
 refine ⟨(List.range rs.length).map f, by simp, ?_, ?_⟩
 ·apply List.ext_getElem (by simp)
  intro j h1 h2
  simp only [List.length_map] at h2
  simp only [List.getElem_map, List.getElem_range]
  exact (hf j h2).1
 ·intro j hj
  simp only [List.length_map, List.length_range] at hj
  have e : ((List.range rs.length).map f)[j]'(by simpa using hj) = f j := by simp
  rw [e]
  exact (hf j hj).2
theorem apart_rows {N : Nat → Prop} (now : Int) (a : Option Addr) (cap : Nat) (rs : List Rw) (w : World) (hl : rs.length ≤ 300) (h : Rws N w a rs) (hr : ∀ m (h : m < rs.length), rowb now rs[m] = true) : Calls Tryz.prog 79 #[.slice a rs.length cap] w fun e w' => e = .returned (.bool (apartR (rs.map tr))) ∧ Below w.heap.size w w' := by
 by_cases h0 : rs.length = 0
 ·have e : rs = [] := List.eq_nil_of_length_eq_zero h0
  subst e
  exact rows_apart0 a cap w
 ·rcases h with h | ⟨b, o, rfl, hb, hA⟩
  ·subst h; exact absurd rfl h0
  ·obtain ⟨xs, h1, h2, h3⟩ := els_of_rows rs hA
   rw [← h1, ← h2]
   refine rows_apart b o cap xs w (by omega) (by omega) hb h3 (fun x hx => ?_)
   have hm : trE x ∈ rs.map tr := by rw [← h2]; exact List.mem_map_of_mem hx
   obtain ⟨r, hr1, hr2⟩ := List.mem_map.1 hm
   rw [← hr2]
   obtain ⟨m, hm1, rfl⟩ := List.mem_iff_getElem.1 hr1
   have := hr m hm1
   unfold rowb at this
   simp only [Bool.and_eq_true] at this
   exact rwb_tmb this.1
theorem impl_RowsOk {N : Nat → Prop} (now : Int) (a : Option Addr) (cap : Nat) (rs : List Rw) (w : World) (hm : rs.length ≤ 1099511627776) (h : Rws N w a rs) : Calls Tryz.prog 45 #[.agg #[.int .i64 now, .slice a rs.length cap]] w fun e w' => e = .returned (.bool (rowsb now rs)) ∧ Below w.heap.size w w' := by
 have HAP := hid (fun (W : World) (hb : Below w.heap.size w W) (hl : rs.length ≤ 300) (hr : ∀ m (h : m < rs.length), rowb now rs[m] = true) => apart_rows now a cap rs W hl (h.below hb) hr)
 have HR := hid h
 clear h
 obtain ⟨n, hn⟩ : ∃ n, n = rs.length := ⟨_, rfl⟩
 have HN := hid hn.symm
 rw [← hn] at hm ⊢
 clear hn
 by_cases h0 : now < 0
 ·rw [rowsb_now h0]
  go_enter Tryz.func45, Tryz.ntmps45
  go_wp2_with fail
  go_ret
  exact ⟨rfl, balloc (Below.refl _ _) _⟩
 by_cases hl : 300 < n
 ·rw [rowsb_long (by rw [HN.out]; exact hl)]
  have hl' : (300 : Int) < (n : Int) := by omega
  go_enter Tryz.func45, Tryz.ntmps45
  go_wp2_with fail
  go_ret
  exact ⟨rfl, balloc (Below.refl _ _) _⟩
 have hl' : (n : Int) ≤ 300 := by omega
 have hld : decide ((300 : Int) < (n : Int)) = false := by rw [decide_eq_false_iff_not]; omega
 go_enter Tryz.func45, Tryz.ntmps45
 go_wp2_with fail
 have g1 := new_alloc w w.heap.size (.cells #[.int .i64 now, .slice a n cap] 32) rfl
 have hB := balloc (Below.refl w.heap.size w) (.cells #[.int .i64 now, .slice a n cap] 32)
 generalize w.alloc (.cells #[.int .i64 now, .slice a n cap] 32) = W at *
 clear hld
 go_loopw [17] (fun ti wr => ∃ i : Nat, ti = .int .i64 i ∧ i ≤ n ∧ Hid (∀ m (h : m < rs.length), m < i → rowb now rs[m] = true) ∧ Hid (wr.heap[w.heap.size]? = some (.cells #[.int .i64 now, .slice a n cap] 32 (0, 0))) ∧ Hid (Below w.heap.size w wr)) (fun ti _ => n - (intOf ti).toNat)
 case atStart => exact ⟨0, rfl, Nat.zero_le _, hid (fun m h hh => absurd hh (by omega)), hid g1, hid hB⟩
 case round =>
  clear g1 hB
  obtain ⟨i, rfl, hi, HA, G1, HBW⟩ := hrel
  obtain ⟨d0, d1, _, _⟩ := cell2f G1.out
  by_cases hlt : i < n
  ·have c1 : (i : Int) < (n : Int) := by omega
   have hir : i < rs.length := by rw [HN.out]; exact hlt
   obtain ⟨b, o, rfl, hbs, a', cap', k0, k1, k2, k3, k4, k5, k6, k7, _⟩ := (HR.out.below HBW.out).at i hir
   have HRI := hid (fun (W : World) (hb : Below wr.heap.size wr W) => impl_right now rs[i] a' cap' W k6 k5 (k7.below hb))
   unfold rwv at HRI
   have HRF := hid (fun (hr : rowb now rs[i] = false) => rowsb_row (now := now) hir hr)
   clear k5 k6 k7
   have HROW : Hid (∀ rb, rowb now rs[i] = rb → rb = true → ∀ m (h : m < rs.length), m < i + 1 → rowb now rs[m] = true) := hid (fun rb e1 e2 m h hm => by
    by_cases e : m = i
    ·subst e; rw [e1, e2]
    ·exact HA.out m h (by omega))
   have hrow : ∃ rb, rowb now rs[i] = rb := ⟨_, rfl⟩
   obtain ⟨rb, hrb⟩ := hrow
   have HR2 := hid (HROW.out rb hrb)
   have HR3 : Hid (rb = false → rowsb now rs = false) := hid (fun e => HRF.out (by rw [hrb, e]))
   rw [hrb] at HRI
   clear hrb HROW HRF
   generalize rs[i].1 = id at *
   generalize rs[i].2.1 = fr at *
   generalize rs[i].2.2.1 = te at *
   generalize rs[i].2.2.2.1 = kd at *
   generalize rs[i].2.2.2.2.length = np at *
   go_upto_region 6 with fail
   have hBx : Below wr.heap.size wr (wr.alloc (.cells #[.int .i64 id, .int .i64 fr, .int .i64 te, .int .i64 kd, .slice a' np cap'] 65)) := balloc (Below.refl _ _) _
   have gx := new_alloc wr wr.heap.size (.cells #[.int .i64 id, .int .i64 fr, .int .i64 te, .int .i64 kd, .slice a' np cap'] 65) rfl
   have g1 := keepheap2 hBx G1.out
   have hB := btrans HBW.out hBx
   clear d0 d1 k0 k1 k2 k3 k4
   generalize wr.alloc (.cells #[.int .i64 id, .int .i64 fr, .int .i64 te, .int .i64 kd, .slice a' np cap'] 65) = W1 at *
   obtain ⟨⟨x0, x1, x2, x3, x4⟩, _⟩ := cell5g gx
   obtain ⟨d0, d1, _, _⟩ := cell2f g1
   cases rb
   ·go_wp2_with fail
    refine (HRI.out _ hBx).mono ?_
    rintro e z ⟨rfl, hz⟩
    have HF := hid (HR3.out trivial)
    go_wp2_with fail
    go_ret
    exact ⟨by rw [HF.out]; rfl, btrans hB hz⟩
   ·go_wp2_with fail
    refine (HRI.out _ hBx).mono ?_
    rintro e z ⟨rfl, hz⟩
    have HF := hid (HR2.out trivial)
    have G2 := hid (keepheap2 hz g1)
    have HB2 := hid (btrans hB hz)
    clear hz hB gx g1 x0 x1 x2 x3 x4 d0 d1
    go_wp2_with fail
    go_roundw
    case rel => exact ⟨i + 1, by go_num, by omega, HF, G2, HB2⟩
    case measure => simp [intOf]; omega
  ·have hall : ∀ m (h : m < rs.length), rowb now rs[m] = true := fun m h => HA.out m h (by rw [HN.out] at h; omega)
   have HF := hid (show rowsb now rs = apartR (rs.map tr) by
    unfold rowsb
    have e1 : decide (0 ≤ now) = true := by simpa using (show 0 ≤ now by omega)
    have e2 : decide (rs.length ≤ 300) = true := by rw [HN.out]; simpa using (show n ≤ 300 by omega)
    have e3 : rs.all (rowb now) = true := by
     rw [List.all_eq_true]
     intro x hx
     obtain ⟨m, hm1, rfl⟩ := List.mem_iff_getElem.1 hx
     exact hall m hm1
    rw [e1, e2, e3]
    rfl)
   have hcc := HAP.out wr HBW.out (by rw [HN.out]; omega) hall
   rw [HN.out] at hcc
   have HC := hid hcc
   clear hcc
   have c1 : (n : Int) ≤ (i : Int) := by omega
   clear hall
   go_wp2_with fail
   refine HC.out.mono ?_
   rintro e z ⟨rfl, hz⟩
   go_wp2_with fail
   go_ret
   exact ⟨by rw [HF.out]; rfl, btrans HBW.out hz⟩
def RC (w : World) (r : Rw) (e : Ending) (w' : World) : Prop :=
 ∃ g cp, e = .returned (rwv r (some ⟨g, 0, none⟩) cp) ∧ r.2.2.2.2.length ≤ cp ∧ w.heap.size ≤ g ∧ PtsOwn w' g r.2.2.2.2 ∧ Below w.heap.size w w'
theorem row_copied (r : Rw) (b off cap : Nat) (w : World) (hm : r.2.2.2.2.length ≤ 1099511627776) (hbs : b < w.heap.size) (h : Pts w (some ⟨b, off, none⟩) r.2.2.2.2) : Calls Tryz.prog 84 #[rwv r (some ⟨b, off, none⟩) cap] w fun e w' => RC w r e w' := by
 obtain ⟨id, fr, te, kd, ps⟩ := r
 unfold RC rwv
 simp only at *
 have hB : Below w.heap.size w ((w.alloc (.cells #[.int .i64 id, .int .i64 fr, .int .i64 te, .int .i64 kd, .slice (some ⟨b, off, none⟩) ps.length cap] 65)).alloc (.cells #[.int .i64 0, .int .i64 0, .int .i64 0, .int .i64 0, .slice none 0 0] 65)) := balloc (balloc (Below.refl _ _) _) _
 have HC := hid (impl_copyG kd b off cap ps _ hm (h.below hB) (Nat.lt_of_lt_of_le hbs hB.size))
 clear h
 have g0 := old_alloc (o' := .cells #[.int .i64 0, .int .i64 0, .int .i64 0, .int .i64 0, .slice none 0 0] 65) (new_alloc w w.heap.size (.cells #[.int .i64 id, .int .i64 fr, .int .i64 te, .int .i64 kd, .slice (some ⟨b, off, none⟩) ps.length cap] 65) rfl)
 have g1 := new_alloc (w.alloc (.cells #[.int .i64 id, .int .i64 fr, .int .i64 te, .int .i64 kd, .slice (some ⟨b, off, none⟩) ps.length cap] 65)) (w.heap.size + 1) (.cells #[.int .i64 0, .int .i64 0, .int .i64 0, .int .i64 0, .slice none 0 0] 65) (by simp)
 go_enter Tryz.func84, Tryz.ntmps84
 go_upto_region 1 with fail
 generalize (w.alloc (.cells #[.int .i64 id, .int .i64 fr, .int .i64 te, .int .i64 kd, .slice (some ⟨b, off, none⟩) ps.length cap] 65)).alloc (.cells #[.int .i64 0, .int .i64 0, .int .i64 0, .int .i64 0, .slice none 0 0] 65) = W at *
 obtain ⟨⟨x0, x1, x2, x3, x4⟩, _⟩ := cell5g g0
 go_wp2_with fail
 refine HC.out.mono ?_
 rintro e y ⟨g, cp, rfl, hcp, hgs, ho, hy⟩
 have hWs := lt_of_block g1
 replace g0 := keepheap2 hy g0
 replace g1 := keepheap2 hy g1
 have HB := hid (btrans hB hy)
 have HO := hid ho
 have hgw : w.heap.size + 1 < g := by omega
 clear hB hy ho HC x0 x1 x2 x3 x4
 obtain ⟨⟨x0, x1, x2, x3, x4⟩, y0, y1, y2, y3, y4⟩ := cell5g g0
 obtain ⟨⟨v0, v1, v2, v3, v4⟩, u0, u1, u2, u3, u4⟩ := cell5g g1
 go_wp2_with fail
 have gF := set5 (set_far (q := w.heap.size) (k := 4) (u := .slice (some ⟨g, 0, none⟩) ps.length cp) (set_far (q := w.heap.size) (k := 3) (u := .int .i64 kd) g1 (by omega)) (by omega)) (.int .i64 id) (.int .i64 fr) (.int .i64 te) (.int .i64 kd) (.slice (some ⟨g, 0, none⟩) ps.length cp)
 have bF := bset (bset (bset (bset (bset (bset (bset HB.out (q := w.heap.size) (k := 3) (Nat.le_refl _) (.int .i64 kd)) (q := w.heap.size) (k := 4) (Nat.le_refl _) (.slice (some ⟨g, 0, none⟩) ps.length cp)) (q := w.heap.size + 1) (k := 0) (by omega) (.int .i64 id)) (q := w.heap.size + 1) (k := 1) (by omega) (.int .i64 fr)) (q := w.heap.size + 1) (k := 2) (by omega) (.int .i64 te)) (q := w.heap.size + 1) (k := 3) (by omega) (.int .i64 kd)) (q := w.heap.size + 1) (k := 4) (by omega) (.slice (some ⟨g, 0, none⟩) ps.length cp)
 have oF := own_blk (w' := (((((((y.setCell ⟨w.heap.size, 3, none⟩ (.int .i64 kd)).setCell ⟨w.heap.size, 4, none⟩ (.slice (some ⟨g, 0, none⟩) ps.length cp)).setCell ⟨w.heap.size + 1, 0, none⟩ (.int .i64 id)).setCell ⟨w.heap.size + 1, 1, none⟩ (.int .i64 fr)).setCell ⟨w.heap.size + 1, 2, none⟩ (.int .i64 te)).setCell ⟨w.heap.size + 1, 3, none⟩ (.int .i64 kd)).setCell ⟨w.heap.size + 1, 4, none⟩ (.slice (some ⟨g, 0, none⟩) ps.length cp))) HO.out (by rw [Below.heap_setCell _ _ _ _ (by dsimp only; omega), Below.heap_setCell _ _ _ _ (by dsimp only; omega), Below.heap_setCell _ _ _ _ (by dsimp only; omega), Below.heap_setCell _ _ _ _ (by dsimp only; omega), Below.heap_setCell _ _ _ _ (by dsimp only; omega), Below.heap_setCell _ _ _ _ (by dsimp only; omega), Below.heap_setCell _ _ _ _ (by dsimp only; omega)]) (by simp only [World.size_setCell]; exact HO.out.1)
 generalize (((((((y.setCell ⟨w.heap.size, 3, none⟩ (.int .i64 kd)).setCell ⟨w.heap.size, 4, none⟩ (.slice (some ⟨g, 0, none⟩) ps.length cp)).setCell ⟨w.heap.size + 1, 0, none⟩ (.int .i64 id)).setCell ⟨w.heap.size + 1, 1, none⟩ (.int .i64 fr)).setCell ⟨w.heap.size + 1, 2, none⟩ (.int .i64 te)).setCell ⟨w.heap.size + 1, 3, none⟩ (.int .i64 kd)).setCell ⟨w.heap.size + 1, 4, none⟩ (.slice (some ⟨g, 0, none⟩) ps.length cp)) = wf at *
 obtain ⟨⟨z0, z1, z2, z3, z4⟩, _⟩ := cell5g gF
 exact bodyPost_ret (v := .agg #[.int .i64 id, .int .i64 fr, .int .i64 te, .int .i64 kd, .slice (some ⟨g, 0, none⟩) ps.length cp]) (by simp [results, Tryz.results84, go_sem, z0, z1, z2, z3, z4]) rfl ⟨g, cp, rfl, hcp, by omega, oF, bF⟩
def RT (w : World) (r : Rw) (q : Bool) (e : Ending) (w' : World) : Prop :=
 ∃ g cp, e = .returned (.tuple #[rwv r (some ⟨g, 0, none⟩) cp, .bool q]) ∧ r.2.2.2.2.length ≤ cp ∧ w.heap.size ≤ g ∧ PtsOwn w' g r.2.2.2.2 ∧ Below w.heap.size w w'
def allb (_ : Rw) : Bool := true
theorem copied_1 (r : Rw) (b off cap : Nat) (w : World) (hm : r.2.2.2.2.length ≤ 1099511627776) (hbs : b < w.heap.size) (h : Pts w (some ⟨b, off, none⟩) r.2.2.2.2) : Calls Tryz.prog 83 #[rwv r (some ⟨b, off, none⟩) cap] w fun e w' => RT w r (allb r) e w' := by
 show Calls Tryz.prog 83 #[rwv r (some ⟨b, off, none⟩) cap] w fun e w' => RT w r true e w'
 have HC := hid (fun (W : World) (hb : Below w.heap.size w W) => row_copied r b off cap W hm (Nat.lt_of_lt_of_le hbs hb.size) (h.below hb))
 clear h
 obtain ⟨id, fr, te, kd, ps⟩ := r
 unfold RT
 unfold RC rwv at *
 simp only at *
 have hB : Below w.heap.size w ((w.alloc (.cells #[.int .i64 id, .int .i64 fr, .int .i64 te, .int .i64 kd, .slice (some ⟨b, off, none⟩) ps.length cap] 65)).alloc (.cells #[.int .i64 0, .int .i64 0, .int .i64 0, .int .i64 0, .slice none 0 0] 65)) := balloc (balloc (Below.refl _ _) _) _
 have g0 := old_alloc (o' := .cells #[.int .i64 0, .int .i64 0, .int .i64 0, .int .i64 0, .slice none 0 0] 65) (new_alloc w w.heap.size (.cells #[.int .i64 id, .int .i64 fr, .int .i64 te, .int .i64 kd, .slice (some ⟨b, off, none⟩) ps.length cap] 65) rfl)
 have g1 := new_alloc (w.alloc (.cells #[.int .i64 id, .int .i64 fr, .int .i64 te, .int .i64 kd, .slice (some ⟨b, off, none⟩) ps.length cap] 65)) (w.heap.size + 1) (.cells #[.int .i64 0, .int .i64 0, .int .i64 0, .int .i64 0, .slice none 0 0] 65) (by simp)
 go_enter Tryz.func83, Tryz.ntmps83
 go_upto_region 1 with fail
 generalize (w.alloc (.cells #[.int .i64 id, .int .i64 fr, .int .i64 te, .int .i64 kd, .slice (some ⟨b, off, none⟩) ps.length cap] 65)).alloc (.cells #[.int .i64 0, .int .i64 0, .int .i64 0, .int .i64 0, .slice none 0 0] 65) = W at *
 obtain ⟨⟨x0, x1, x2, x3, x4⟩, _⟩ := cell5g g0
 go_wp2_with fail
 refine (HC.out _ hB).mono ?_
 rintro e y ⟨g, cp, rfl, hcp, hgs, ho, hy⟩
 have hWs := lt_of_block g1
 replace g1 := keepheap2 hy g1
 have HB := hid (btrans hB hy)
 have HO := hid ho
 clear hB hy ho HC x0 x1 x2 x3 x4 g0
 obtain ⟨⟨v0, v1, v2, v3, v4⟩, u0, u1, u2, u3, u4⟩ := cell5g g1
 go_wp2_with fail
 have gF := set5 g1 (.int .i64 id) (.int .i64 fr) (.int .i64 te) (.int .i64 kd) (.slice (some ⟨g, 0, none⟩) ps.length cp)
 have bF := bset (bset (bset (bset (bset HB.out (q := w.heap.size + 1) (k := 0) (by omega) (.int .i64 id)) (q := w.heap.size + 1) (k := 1) (by omega) (.int .i64 fr)) (q := w.heap.size + 1) (k := 2) (by omega) (.int .i64 te)) (q := w.heap.size + 1) (k := 3) (by omega) (.int .i64 kd)) (q := w.heap.size + 1) (k := 4) (by omega) (.slice (some ⟨g, 0, none⟩) ps.length cp)
 have oF := own_blk (w' := (((((y.setCell ⟨w.heap.size + 1, 0, none⟩ (.int .i64 id)).setCell ⟨w.heap.size + 1, 1, none⟩ (.int .i64 fr)).setCell ⟨w.heap.size + 1, 2, none⟩ (.int .i64 te)).setCell ⟨w.heap.size + 1, 3, none⟩ (.int .i64 kd)).setCell ⟨w.heap.size + 1, 4, none⟩ (.slice (some ⟨g, 0, none⟩) ps.length cp))) HO.out (by rw [Below.heap_setCell _ _ _ _ (by dsimp only; omega), Below.heap_setCell _ _ _ _ (by dsimp only; omega), Below.heap_setCell _ _ _ _ (by dsimp only; omega), Below.heap_setCell _ _ _ _ (by dsimp only; omega), Below.heap_setCell _ _ _ _ (by dsimp only; omega)]) (by simp only [World.size_setCell]; exact HO.out.1)
 generalize (((((y.setCell ⟨w.heap.size + 1, 0, none⟩ (.int .i64 id)).setCell ⟨w.heap.size + 1, 1, none⟩ (.int .i64 fr)).setCell ⟨w.heap.size + 1, 2, none⟩ (.int .i64 te)).setCell ⟨w.heap.size + 1, 3, none⟩ (.int .i64 kd)).setCell ⟨w.heap.size + 1, 4, none⟩ (.slice (some ⟨g, 0, none⟩) ps.length cp)) = wf at *
 obtain ⟨⟨z0, z1, z2, z3, z4⟩, _⟩ := cell5g gF
 exact bodyPost_ret (v := .tuple #[.agg #[.int .i64 id, .int .i64 fr, .int .i64 te, .int .i64 kd, .slice (some ⟨g, 0, none⟩) ps.length cp], .bool true]) (by simp [results, Tryz.results83, go_sem, z0, z1, z2, z3, z4]) rfl ⟨g, cp, rfl, hcp, by omega, oF, bF⟩
def RwsS (w : World) (B : Nat) (rs : List Rw) : Prop := B < w.heap.size ∧ ∀ j (h : j < rs.length), ∃ c cp, c < w.heap.size ∧ w.cell? ⟨B, j * 5, none⟩ = some (.int .i64 rs[j].1) ∧ w.cell? ⟨B, j * 5 + 1, none⟩ = some (.int .i64 rs[j].2.1) ∧ w.cell? ⟨B, j * 5 + 2, none⟩ = some (.int .i64 rs[j].2.2.1) ∧ w.cell? ⟨B, j * 5 + 3, none⟩ = some (.int .i64 rs[j].2.2.2.1) ∧ w.cell? ⟨B, j * 5 + 4, none⟩ = some (.slice (some ⟨c, 0, none⟩) rs[j].2.2.2.2.length cp) ∧ rs[j].2.2.2.2.length ≤ 1099511627776 ∧ Pts w (some ⟨c, 0, none⟩) rs[j].2.2.2.2
theorem RwsS.below {w w' : World} {B : Nat} {rs : List Rw} (h : RwsS w B rs) (H : Below w.heap.size w w') : RwsS w' B rs := by
 refine ⟨Nat.lt_of_lt_of_le h.1 H.size, fun j hj => ?_⟩
 obtain ⟨c, cp, a0, a1, a2, a3, a4, a5, a6, a7⟩ := h.2 j hj
 exact ⟨c, cp, Nat.lt_of_lt_of_le a0 H.size, keepcell H a1, keepcell H a2, keepcell H a3, keepcell H a4, keepcell H a5, a6, a7.below H⟩
theorem flt_next {rs : List Rw} {p : Rw → Bool} {i : Nat} (hi : i < rs.length) : (rs.take (i + 1)).filter p = if p rs[i] = true then (rs.take i).filter p ++ [rs[i]] else (rs.take i).filter p := by
 rw [List.take_add_one, List.getElem?_eq_getElem hi, List.filter_append]
 by_cases h : p rs[i] = true
 ·simp [h]
 ·simp [h]
theorem make_rows0 (n : Nat) (hn : n ≤ 1099511627776) (w : World) : (Instr.makeSlice 30 (.int .i64 0) (.int .i64 n)).run Tryz.prog w = .ok (.slice (some ⟨w.heap.size, 0, none⟩) 0 n) (w.alloc (.cells (madeCells #[.int .i64 0, .int .i64 0, .int .i64 0, .int .i64 0, .slice none 0 0] (n * 5)) 65)) := by
 obtain ⟨i0, hi, hz0, hz1, hz2⟩ := info_parts Tryz.infoRow
 have := run_make (P := Tryz.prog) w 30 65 i0 _ Tryz.underlying30 hi hz0 .i64 .i64 0 n (by omega) (by omega) (by rw [hz2]; omega) (by omega)
 rw [hz1] at this
 exact this
theorem kept_form {base hi : Nat} {w : World} {v : Value} {rs : List Rw} {xs : List El} (h : RowsX base hi w v rs xs) : ∃ a cap, v = .slice a rs.length cap := by
 rcases h.rows with ⟨rfl, _, e⟩ | ⟨g, cap, e, _⟩
 ·exact ⟨none, 0, e⟩
 ·exact ⟨_, cap, e⟩
def VR (w : World) (now : Int) (rs : List Rw) (e : Ending) (w' : World) : Prop :=
 ∃ a cap xs, e = .returned (.agg #[.int .i64 now, .slice a rs.length cap]) ∧ RowsX w.heap.size w'.heap.size w' (.slice a rs.length cap) rs xs ∧ Below w.heap.size w w'
theorem set1r {w : World} {p : Nat} {o0 o1 : Value} {t : TypeId} (h : w.heap[p]? = some (.cells #[o0, o1] t (0, 0))) (b : Value) : (w.setCell ⟨p, 1, none⟩ b).heap[p]? = some (.cells #[o0, b] t (0, 0)) := by
 have hlt := lt_of_block h
 have h' : w.heap[p] = .cells #[o0, o1] t (0, 0) := by simpa [Array.getElem?_eq_getElem hlt] using h
 show (w.heap.modify p _)[p]? = _
 rw [Array.getElem?_eq_getElem (by simpa using hlt), Array.getElem_modify_self, h']
 rfl
theorem own_nilR {w : World} {B : Nat} : w.ownsRow B 65 5 (.slice none 0 0) 0 [] := ⟨by simp, .inl ⟨rfl, rfl⟩⟩
end Go.Proofs.YtenlhgnobfadgaaGreatDoor
