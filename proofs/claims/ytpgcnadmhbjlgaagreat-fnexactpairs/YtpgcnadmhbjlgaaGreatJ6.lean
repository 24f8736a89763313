/- Texts of stores, joined: Bb0, Bf0, Bf, Bc. -/
import Derived.Test.YtpgcnadmhbjlgaaGreatBa0
import Derived.Test.YtpgcnadmhbjlgaaGreatJ2
import Derived.Test.YtpgcnadmhbjlgaaGreatJ4
import Derived.Test.YtpgcnadmhbjlgaaGreatJ5
namespace Go.Proofs.YtpgcnadmhbjlgaaGreat
open Go.RowKit
set_option linter.unusedSimpArgs false
set_option linter.unusedVariables false
theorem foldl_min (f : Int × Int → Int) : ∀ (qs : List (Int × Int)) (m k : Int), qs.foldl (fun x p => min x (f p)) (min m k) = min m (qs.foldl (fun x p => min x (f p)) k)
  | [], m, k => rfl
  | q :: qs, m, k => by
    simp only [List.foldl_cons]
    rw [show min (min m k) (f q) = min m (min k (f q)) by omega]
    exact foldl_min f qs m _
theorem foldl_max (f : Int × Int → Int) : ∀ (qs : List (Int × Int)) (m k : Int), qs.foldl (fun x p => max x (f p)) (max m k) = max m (qs.foldl (fun x p => max x (f p)) k)
  | [], m, k => rfl
  | q :: qs, m, k => by
    simp only [List.foldl_cons]
    rw [show max (max m k) (f q) = max m (max k (f q)) by omega]
    exact foldl_max f qs m _
theorem aok_app {ps qs : List (Int × Int)} (h1 : aok ps = true) (h2 : aok qs = true) : aok (ps ++ qs) = true := by
  unfold aok allok at *
  cases ps with
  | nil => simp at h1
  | cons p ps =>
    simp only [List.isEmpty_cons, Bool.not_false, Bool.true_and, List.cons_append, List.all_cons, List.all_append, Bool.and_eq_true] at h1 h2 ⊢
    exact ⟨h1.1, h1.2, h2.2⟩
theorem box_app {ps qs : List (Int × Int)} (h1 : aok ps = true) (h2 : aok qs = true) : aX (ps ++ qs) = min (aX ps) (aX qs) ∧ aY (ps ++ qs) = min (aY ps) (aY qs) ∧ bX (ps ++ qs) = max (bX ps) (bX qs) ∧ bY' (ps ++ qs) = max (bY' ps) (bY' qs) := by
  have h3 := aok_app h1 h2
  unfold aX aY bX bY'
  rw [if_pos h1, if_pos h2, if_pos h3, if_pos h1, if_pos h2, if_pos h3, if_pos h1, if_pos h2, if_pos h3, if_pos h1, if_pos h2, if_pos h3]
  cases ps with
  | nil => simp [aok] at h1
  | cons p ps =>
    cases qs with
    | nil => simp [aok] at h2
    | cons q qs =>
      simp only [List.cons_append, List.tail_cons, List.getD_cons_zero, List.foldl_append, List.foldl_cons]
      exact ⟨foldl_min (fun p => p.1) qs _ _, foldl_min (fun p => p.2) qs _ _, foldl_max (fun p => p.1) qs _ _, foldl_max (fun p => p.2) qs _ _⟩
theorem shok_aok {k : Int} {ps : List (Int × Int)} (h : shok k ps = true) : aok ps = true ∧ 0 < ps.length ∧ ps.length ≤ 60 := by
  cases ha : allok ps
  · rw [shok_no ha] at h; cases h
  have hl : 0 < ps.length ∧ ps.length ≤ 60 := by
    unfold shok at h
    split at h
    · simp only [Bool.and_eq_true, decide_eq_true_eq] at h; omega
    split at h
    · simp only [lineb, Bool.and_eq_true, decide_eq_true_eq] at h; omega
    split at h
    · simp only [rectb, Bool.and_eq_true, decide_eq_true_eq] at h; omega
    split at h
    · simp only [ringOk, Bool.and_eq_true, decide_eq_true_eq] at h; omega
    · cases h
  refine ⟨?_, hl⟩
  unfold aok
  rw [ha, Bool.and_true]
  cases ps with
  | nil => simp at hl
  | cons p ps => rfl
/-- The points of what is there under some ids. -/
def bpts (rs : List Rw) (t : Int) (ids : List Int) : List (Int × Int) := ids.flatMap (fun id => raP (rat rs id t))
theorem bpts_next {rs : List Rw} {t : Int} {ids : List Int} {i : Nat} (hi : i < ids.length) : bpts rs t (ids.take (i + 1)) = bpts rs t (ids.take i) ++ raP (rat rs ids[i] t) := by
  unfold bpts
  rw [List.take_add_one, List.getElem?_eq_getElem hi, List.flatMap_append]
  simp only [Option.toList_some, List.flatMap_cons, List.flatMap_nil, List.append_nil]
theorem bpts_aok {rs : List Rw} {t : Int} {ids : List Int} (h : ∀ id ∈ ids, shok (raK (rat rs id t)) (raP (rat rs id t)) = true) : ∀ i, i ≤ ids.length → (bpts rs t (ids.take i)).length ≤ i * 60 ∧ aok (bpts rs t (ids.take i)) = decide (0 < i)
  | 0, _ => by simp [bpts, aok]
  | i + 1, hi => by
    obtain ⟨h1, h2⟩ := bpts_aok h i (by omega)
    have hl : i < ids.length := by omega
    obtain ⟨q1, q2, q3⟩ := shok_aok (h ids[i] (List.getElem_mem hl))
    rw [bpts_next hl]
    refine ⟨by rw [List.length_append]; omega, ?_⟩
    by_cases e : i = 0
    · subst e
      simp only [List.take_zero]
      rw [show bpts rs t [] = [] from rfl, List.nil_append, q1]
      rfl
    · rw [aok_app (by rw [h2]; simpa using (by omega : 0 < i)) q1]
      simp
def BD (ps : List (Int × Int)) (e : Ending) : Prop := e = .returned (.tuple #[.agg #[.int .i64 (aX ps), .int .i64 (aY ps), .int .i64 (bX ps), .int .i64 (bY' ps)], .bool (aok ps)])
end Go.Proofs.YtpgcnadmhbjlgaaGreat
namespace Go.Proofs.YtpgcnadmhbjlgaaGreat
open Go.RowKit
set_option linter.unusedSimpArgs false
set_option linter.unusedVariables false
/-- Whether what is there under two ids meets. -/
def mt (rs : List Rw) (t : Int) (x y : Int) : Bool := smP (raK (rat rs x t)) (raP (rat rs x t)) (raK (rat rs y t)) (raP (rat rs y t))
/-- The pairs of the id at i with the m behind it. -/
def prK (rs : List Rw) (t : Int) (ids : List Int) (i m : Nat) : List (Int × Int) := (((ids.drop (i + 1)).take m).filter (mt rs t (ids.getD i 0))).map (fun y => (ids.getD i 0, y))
/-- The pairs of the first i. -/
def prO (rs : List Rw) (t : Int) (ids : List Int) (i : Nat) : List (Int × Int) := (List.range i).flatMap (fun j => prK rs t ids j (ids.length - (j + 1)))
def prs (rs : List Rw) (t : Int) (ids : List Int) : List (Int × Int) := prO rs t ids ids.length
theorem prK_next {rs : List Rw} {t : Int} {ids : List Int} {i m : Nat} (h : i + 1 + m < ids.length) : prK rs t ids i (m + 1) = if mt rs t (ids.getD i 0) (ids.getD (i + 1 + m) 0) = true then prK rs t ids i m ++ [(ids.getD i 0, ids.getD (i + 1 + m) 0)] else prK rs t ids i m := by
  unfold prK
  have e : (ids.drop (i + 1))[m]? = some (ids.getD (i + 1 + m) 0) := by
    rw [List.getElem?_drop, List.getD_eq_getElem?_getD, List.getElem?_eq_getElem h]
    rfl
  rw [List.take_add_one, e, List.filter_append, List.map_append]
  by_cases q : mt rs t (ids.getD i 0) (ids.getD (i + 1 + m) 0) = true
  · simp only [Option.toList_some, List.filter_cons, q, if_true, List.filter_nil, List.map_cons, List.map_nil]
  · simp only [Option.toList_some, List.filter_cons, q, if_false, List.filter_nil, List.map_nil, List.append_nil]
    simp
theorem prO_next {rs : List Rw} {t : Int} {ids : List Int} {i : Nat} : prO rs t ids (i + 1) = prO rs t ids i ++ prK rs t ids i (ids.length - (i + 1)) := by
  unfold prO
  rw [List.range_succ, List.flatMap_append]
  simp only [List.flatMap_cons, List.flatMap_nil, List.append_nil]
theorem prK_len (rs : List Rw) (t : Int) (ids : List Int) (i m : Nat) : (prK rs t ids i m).length ≤ m := by
  unfold prK
  rw [List.length_map]
  have h1 := List.length_filter_le (mt rs t (ids.getD i 0)) ((ids.drop (i + 1)).take m)
  have h2 : ((ids.drop (i + 1)).take m).length ≤ m := by rw [List.length_take]; omega
  omega
theorem prO_len (rs : List Rw) (t : Int) (ids : List Int) (h : ids.length ≤ 300) : ∀ i, (prO rs t ids i).length ≤ i * 300
  | 0 => by simp [prO]
  | i + 1 => by
    have h1 := prO_len rs t ids h i
    have h2 := prK_len rs t ids i (ids.length - (i + 1))
    rw [prO_next, List.length_append]
    omega
/-- What Pairs tells, in memory of its own. -/
def PA (w : World) (ps : List (Int × Int)) (e : Ending) (w' : World) : Prop :=
  ∃ b cap, e = .returned (.slice (some ⟨b, 0, none⟩) ps.length cap) ∧ PtsOwn w' b ps ∧ w.heap.size ≤ b ∧ Below w.heap.size w w'
theorem Tryz.infoA2 : (Tryz.prog.info? 51).map (fun i => (i.zero, i.size, i.bytes)) = some (some (.agg #[.int .i64 0, .int .i64 0]), 2, 16) := by kernel_rfl
theorem own_new2 {w : World} {B : Nat} (hB : B ≤ w.heap.size) : (w.alloc (.cells #[] 51)).ownsRow B 51 2 (.slice (some ⟨w.heap.size, 0, none⟩) 0 0) 0 [] := by
  have := World.ownsRow_made (base := B) (e := 51) (size := 2) w #[] 0 hB (by decide) rfl
  simpa using this
theorem own_prs {w : World} {B g cap n : Nat} {ps : List (Int × Int)} (h : w.ownsRow B 51 2 (.slice (some ⟨g, 0, none⟩) n cap) n (fl2 ps)) (hn : ps.length = n) : B ≤ g ∧ n ≤ cap ∧ PtsOwn w g ps := by
  subst hn
  have h' := h
  rcases h.2 with ⟨q, _⟩ | ⟨g', cap', cur, e, hb, hg, hc, _⟩
  · cases q
  · cases e
    refine ⟨hb, hc, (Array.getElem?_eq_some_iff.1 hg).1, fun k hk => ?_, fun j hj => ?_⟩
    · obtain ⟨f0, f1⟩ := fl2_at ps k hk
      have hcs := World.ownsRow.cells h' rfl
      have q0 := hcs _ _ f0
      have q1 := hcs _ _ f1
      rw [Addr.add_mid] at q0 q1
      exact ⟨q0, by rw [Nat.add_assoc]; exact q1⟩
    · simp only [Nat.zero_add]
      refine ⟨?_, World.ownsRow.frozenAt h' j⟩
      rw [World.ownsRow.cellAt h' j hj, List.getElem?_eq_getElem (by rw [fl2_len]; exact hj)]
      rfl
end Go.Proofs.YtpgcnadmhbjlgaaGreat
namespace Go.Proofs.YtpgcnadmhbjlgaaGreat
open Go.RowKit
set_option linter.unusedSimpArgs false
set_option linter.unusedVariables false
theorem ElsAt.blk2 {w w' : World} {b off : Nat} {xs : List El} (h : ElsAt w b off xs) (e : w'.heap[b]? = w.heap[b]?) : ElsAt w' b off xs := fun j hj => by
  have hc : ∀ k, w'.cell? ⟨b, k, none⟩ = w.cell? ⟨b, k, none⟩ := fun k => by simp only [World.cell?, e]
  rw [hc, hc, hc, hc, hc]
  exact h j hj
/-- The list of pairs that is being made, beside the rows' cells. -/
def PB2 (w : World) (g : Nat) (ys : List El) (ps : List (Int × Int)) (gp c : Nat) (wr : World) : Prop :=
  wr.ownsRow w.heap.size 51 2 (.slice (some ⟨gp, 0, none⟩) ps.length c) ps.length (fl2 ps) ∧ gp < wr.heap.size ∧ gp ≠ g ∧ g < wr.heap.size ∧ ElsAt wr g 0 ys ∧ Below w.heap.size w wr
theorem PB2.below {w wr w' : World} {g : Nat} {ys : List El} {ps : List (Int × Int)} {gp c : Nat} (h : PB2 w g ys ps gp c wr) (H : Below wr.heap.size wr w') : PB2 w g ys ps gp c w' := by
  obtain ⟨h1, h2, h3, h4, h5, h6⟩ := h
  exact ⟨own_frame0 h1 (fun d e => by simp [Value.ownBlock] at e; subst e; exact H.block _ h2), Nat.lt_of_lt_of_le h2 H.size, h3, Nat.lt_of_lt_of_le h4 H.size, h5.blk2 (H.block g h4), btrans h6 H⟩
set_option maxRecDepth 100000 in
set_option maxHeartbeats 4000000 in
theorem impl_Pairs {N : Nat → Prop} (now : Int) (a : Option Addr) (cap : Nat) (rs : List Rw) (t : Int) (w : World) (hm : rs.length ≤ 1099511627776) (h : Rws N w a rs) : Calls Tryz.prog 8 #[.agg #[.int .i64 now, .slice a rs.length cap], .int .i64 t] w fun e w' => PA w (prs rs t (idsb now rs t)) e w' := by
  obtain ⟨i0, hi0, hz0, hz1, hz2⟩ := info_parts Tryz.infoA2
  have HTA := hid (fun (W : World) (hb : Below w.heap.size w W) => impl_thereAt now a cap rs t w W hm h hb)
  have HIL := hid (idsb_len now rs t)
  clear h
  generalize idsb now rs t = ids at *
  generalize rs.length = n0 at *
  go_enter Tryz.func8, Tryz.ntmps8
  go_upto_region 1 with fail
  have hBx : Below w.heap.size w (w.alloc (.cells #[.int .i64 now, .slice a n0 cap] 30)) := balloc (Below.refl _ _) _
  have g0 := new_alloc w w.heap.size (.cells #[.int .i64 now, .slice a n0 cap] 30) rfl
  generalize w.alloc (.cells #[.int .i64 now, .slice a n0 cap] 30) = W0 at *
  obtain ⟨d0, d1, _, _⟩ := cell2r g0
  go_wp2_with fail
  refine (HTA.out _ hBx).mono ?_
  rintro e W ⟨g, a', cap', ys, rfl, hcap, hids, ha', hgW, hgs, hE, hEL, hBW⟩
  have HB1 := hid (btrans hBx hBW)
  have HE := hid hE
  have HEL := hid hEL
  have HIDS := hid hids
  have HA := hid ha'
  clear hids ha' hE hEL hBW hgW d0 d1 g0 hBx HTA
  obtain ⟨n, hn⟩ : ∃ n, n = ys.length := ⟨_, rfl⟩
  have HN := hid hn.symm
  rw [← hn] at HA hcap ⊢
  clear hn
  have hlen : n = ids.length := by have := congrArg List.length HIDS.out; rw [List.length_map, HN.out] at this; exact this
  have hnm : n ≤ 300 := by rw [hlen]; exact HIL.out
  have HLEN := hid hlen
  clear hlen
  go_upto_region 3 with fail
  have HPB : Hid (PB2 w g ys [] W.heap.size 0 (W.alloc (.cells #[] 51))) := hid ⟨own_new2 (by have := HB1.out.size; omega), by simp, by omega, by simp; omega, HE.out.blk2 ((balloc (Below.refl _ W) _).block g hgs), balloc HB1.out _⟩
  clear HE HB1 hgs
  generalize W.alloc (.cells #[] 51) = W1 at *
  generalize W.heap.size = gp0 at *
  go_wp2_with fail
  go_loopw [6, 17] (fun tv ti wr => ∃ i gp c : Nat, ti = .int .i64 i ∧ i ≤ n ∧ tv = .slice (some ⟨gp, 0, none⟩) (prO rs t ids i).length c ∧ Hid (PB2 w g ys (prO rs t ids i) gp c wr)) (fun _ ti _ => n - (intOf ti).toNat)
  case atStart => exact ⟨0, gp0, 0, rfl, Nat.zero_le _, rfl, HPB⟩
  case round =>
    clear HPB
    obtain ⟨i, gp, c, rfl, hi, rfl, HP⟩ := hrel
    by_cases hlt : i < n
    · have c1 : (i : Int) < (n : Int) := by omega
      have hiy : i < ys.length := by rw [HN.out]; exact hlt
      have ea := HA.out (by omega)
      subst ea
      obtain ⟨y0, y1, y2, y3, y4⟩ := HP.out.2.2.2.2.1 i hiy
      obtain ⟨e1, e2, e3, e4, e5, e6⟩ := HEL.out ys[i] (List.getElem_mem hiy)
      have eid : ys[i].1 = ids.getD i 0 := by have := HIDS.out; subst this; simp [hiy]
      rw [eid] at e1 e2 e3 e4 e5 e6 y0
      simp only [Nat.zero_add] at y0 y1 y2 y3 y4
      rw [e2] at y4
      rw [e1] at y3
      have HMT : Hid (∀ y, mt rs t (ids.getD i 0) y = smP (raK (rat rs (ids.getD i 0) t)) (raP (rat rs (ids.getD i 0) t)) (raK (rat rs y t)) (raP (rat rs y t))) := hid (fun y => rfl)
      have HKN := hid (fun (m : Nat) (h : i + 1 + m < ids.length) => prK_next (rs := rs) (t := t) h)
      have HKL := hid (fun m => prK_len rs t ids i m)
      have HOL := hid (prO_len rs t ids HIL.out i)
      have HON := hid (prO_next (rs := rs) (t := t) (ids := ids) (i := i))
      have HK0 : Hid (prK rs t ids i 0 = []) := hid (by simp [prK])
      generalize raP (rat rs (ids.getD i 0) t) = ps at *
      generalize raK (rat rs (ids.getD i 0) t) = kd at *
      generalize ids.getD i 0 = id1 at *
      generalize ys[i].2.1 = fr at *
      generalize ys[i].2.2.1 = te at *
      generalize ys[i].2.2.2.2.1 = a1 at *
      generalize ys[i].2.2.2.2.2.2 = cp at *
      generalize prO rs t ids i = zs at *
      go_upto_region 6 with fail
      have hal : Below wr.heap.size wr (wr.alloc (.cells #[.int .i64 id1, .int .i64 fr, .int .i64 te, .int .i64 kd, .slice a1 ps.length cp] 55)) := balloc (Below.refl _ _) _
      have gx := new_alloc wr wr.heap.size (.cells #[.int .i64 id1, .int .i64 fr, .int .i64 te, .int .i64 kd, .slice a1 ps.length cp] 55) rfl
      have HPZ := hid (HP.out.below hal)
      have hgx : gp ≠ wr.heap.size := by have := HP.out.2.1; omega
      clear hal y0 y1 y2 y3 y4 HP
      generalize wr.alloc (.cells #[.int .i64 id1, .int .i64 fr, .int .i64 te, .int .i64 kd, .slice a1 ps.length cp] 55) = Z at *
      generalize wr.heap.size = ib at *
      have hw1 : IntKind.i64.wrap ((i : Int) + 1) = ((i + 1 : Nat) : Int) := by rw [IntWalk.i64_in _ ⟨by omega, by omega⟩]; omega
      have GX := hid gx
      clear gx
      go_cut [17, 25, 26, 27] from 17 to 43 (fun t17 t25 t26 t27 wx => t17 = .int .i64 i ∧ (∃ o cc, t25 = .slice (some ⟨g, o, none⟩) (n - (i + 1)) cc ∧ (i + 1 < n → o = (i + 1) * 5)) ∧ t26 = .int .i64 ((n - (i + 1) : Nat) : Int) ∧ t27 = .int .i64 0 ∧ wx = Z)
      case first =>
        clear HKN HKL HOL HON HK0 HMT HPZ GX HEL HIDS HLEN HIL HN HA
        by_cases hcc : cap' = i + 1
        · subst hcc
          go_wp2_with fail
          all_goals go_meet
          have hzz : n - (i + 1) = 0 := by omega
          all_goals exact ⟨rfl, ⟨0, _, by first | rfl | (rw [hzz]; rfl) | rw [hzz], fun h => absurd h (by omega)⟩, by first | rfl | (rw [hzz]; rfl) | rw [hzz], rfl, rfl⟩
        · have hcd : ¬ i + 1 = cap' := fun e => hcc e.symm
          have hce : ¬ cap' - (i + 1) = 0 := by omega
          go_wp2_with fail
          all_goals go_meet
          all_goals exact ⟨rfl, ⟨(i + 1) * 5, _, rfl, fun _ => rfl⟩, rfl, rfl, rfl⟩
      case rest =>
        obtain ⟨rfl, ⟨o, cc, rfl, ho⟩, rfl, rfl, hwx⟩ := hcut
        subst hwx
        generalize hn2 : n - (i + 1) = n2 at *
        go_wp2_with fail
        go_loopw [6, 27] (fun tv tk wr' => ∃ m gp' c' : Nat, ∃ zk : List (Int × Int), tk = .int .i64 m ∧ m ≤ n2 ∧ tv = .slice (some ⟨gp', 0, none⟩) zk.length c' ∧ Hid (zk = zs ++ prK rs t ids i m) ∧ Hid (PB2 w g ys zk gp' c' wr') ∧ Hid (gp' ≠ ib ∧ wr'.heap[ib]? = some (.cells #[.int .i64 id1, .int .i64 fr, .int .i64 te, .int .i64 kd, .slice a1 ps.length cp] 55 (0, 0)))) (fun _ tk _ => n2 - (intOf tk).toNat)
        case atStart => exact ⟨0, gp, c, zs, rfl, Nat.zero_le _, rfl, hid (by rw [HK0.out, List.append_nil]), HPZ, hid ⟨hgx, GX.out⟩⟩
        case round =>
          clear HPZ GX hgx
          obtain ⟨m, gp', c', zk, rfl, hm2, rfl, HZK, HP, HG⟩ := hrel
          by_cases hlt2 : m < n2
          · have c2 : (m : Int) < (n2 : Int) := by omega
            have hin : i + 1 < n := by omega
            have ho2 := ho hin
            subst ho2
            have hiy2 : i + 1 + m < ys.length := by rw [HN.out]; omega
            have hii2 : i + 1 + m < ids.length := by rw [← HLEN.out]; omega
            obtain ⟨y0, y1, y2, y3, y4⟩ := HP.out.2.2.2.2.1 (i + 1 + m) hiy2
            obtain ⟨f1, f2, f3, f4, f5, f6⟩ := HEL.out ys[i + 1 + m] (List.getElem_mem hiy2)
            have eid2 : ys[i + 1 + m].1 = ids.getD (i + 1 + m) 0 := by have := HIDS.out; subst this; simp [hiy2]
            rw [eid2] at f1 f2 f3 f4 f5 f6 y0
            rw [show 0 + (i + 1 + m) * 5 = (i + 1) * 5 + m * 5 by omega] at y0 y1 y2 y3 y4
            rw [f2] at y4
            rw [f1] at y3
            have HKX := hid (HKN.out m hii2)
            have hkl := HKL.out m
            have hmt := HMT.out (ids.getD (i + 1 + m) 0)
            rw [hmt] at HKX
            clear hmt
            generalize raP (rat rs (ids.getD (i + 1 + m) 0) t) = qs at *
            generalize raK (rat rs (ids.getD (i + 1 + m) 0) t) = kd2 at *
            generalize ids.getD (i + 1 + m) 0 = id2 at *
            generalize ys[i + 1 + m].2.1 = fr2 at *
            generalize ys[i + 1 + m].2.2.1 = te2 at *
            generalize ys[i + 1 + m].2.2.2.2.1 = a2 at *
            generalize ys[i + 1 + m].2.2.2.2.2.2 = cp2 at *
            have HME := hid (fun (W : World) (hb : Below w.heap.size w W) => impl_meets id1 fr te kd id2 fr2 te2 kd2 a1 a2 cp cp2 ps qs W e4 e3 e6 (e5.below hb) f4 f3 f6 (f5.below hb))
            generalize smP kd ps kd2 qs = qb at *
            generalize prK rs t ids i m = ks at *
            have hil : wr.heap.size = wr.heap.size := rfl
            go_upto_region 9 with fail
            have hal : Below wr.heap.size wr (wr.alloc (.cells #[.int .i64 id2, .int .i64 fr2, .int .i64 te2, .int .i64 kd2, .slice a2 qs.length cp2] 55)) := balloc (Below.refl _ _) _
            have gy := new_alloc wr wr.heap.size (.cells #[.int .i64 id2, .int .i64 fr2, .int .i64 te2, .int .i64 kd2, .slice a2 qs.length cp2] 55) rfl
            have gx := keepheap2 hal HG.out.2
            have hgb := HG.out.1
            replace HP := hid (HP.out.below hal)
            clear hal y0 y1 y2 y3 y4 HG hil
            generalize wr.alloc (.cells #[.int .i64 id2, .int .i64 fr2, .int .i64 te2, .int .i64 kd2, .slice a2 qs.length cp2] 55) = Z2 at *
            generalize wr.heap.size = jb at *
            obtain ⟨⟨x0, x1, x2, x3, x4⟩, _⟩ := cell5g gx
            obtain ⟨⟨y0, y1, y2, y3, y4⟩, _⟩ := cell5g gy
            go_wp2_with fail
            refine (HME.out _ HP.out.2.2.2.2.2).mono ?_
            rintro e z ⟨rfl, hz⟩
            replace HP := hid (HP.out.below hz)
            replace gx := keepheap2 hz gx
            replace gy := keepheap2 hz gy
            clear hz x0 x1 x2 x3 x4 y0 y1 y2 y3 y4 HME
            cases qb
            · have HKE : Hid (prK rs t ids i (m + 1) = ks) := hid (by rw [HKX.out, if_neg (by simp)])
              have HG2 := hid (And.intro hgb gx)
              go_wp2_with fail
              go_roundw
              case rel => exact ⟨m + 1, gp', c', zk, by go_num, by omega, rfl, hid (by rw [HKE.out]; exact HZK.out), HP, HG2⟩
              case measure => simp [intOf]; omega
            · have HKE : Hid (prK rs t ids i (m + 1) = ks ++ [(id1, id2)]) := hid (by rw [HKX.out, if_pos rfl])
              obtain ⟨hown, hgl, hgg, hgs, hE, hBz⟩ := HP.out
              obtain ⟨⟨x0, x1, x2, x3, x4⟩, _⟩ := cell5g gx
              obtain ⟨⟨y0, y1, y2, y3, y4⟩, _⟩ := cell5g gy
              have HOW := hid hown
              have HE := hid hE
              have HBz := hid hBz
              have GX := hid gx
              have hzl : zs.length ≤ i * 300 := HOL.out
              have hwz := hBz.size
              have hll : zk.length ≤ 90300 := by rw [HZK.out, List.length_append]; omega
              clear hown hE hBz gx gy HP
              have hibl := lt_of_block GX.out
              go_wp2_with (at_builtin; (refine wpList_append_lies _ rfl (.tmp 34) (.tmp 40) 26 rfl w.heap.size 51 i0 _ 2 16 Tryz.underlying26 hi0 hz0 hz1 hz2 rfl (by decide) (.slice (some ⟨gp', 0, none⟩) zk.length c') zk.length (fl2 zk) rfl (HOW.out.alloc _) ⟨z.heap.size, 0, none⟩ 1 1 (fl2 [(id1, id2)]) rfl rfl (World.news_of_block (cs := #[.int .i64 id1, .int .i64 id2]) (t := 51) (fr := (0, 0)) (heap_alloc_new z _)) (by simp [fl2, Value.oneCell']) (by omega) (by unfold maxLen; omega) (by omega) (by simp; omega) (z.heap.size + 1) (by simp) ?_; intro gg cq w2 hown2 hgrow hat hlt3))
              have hgrow' : (z.alloc (.cells #[.int .i64 id1, .int .i64 id2] 51)).grownBy w2 (some gp') := hgrow
              have hal : Below z.heap.size z (z.alloc (.cells #[.int .i64 id1, .int .i64 id2] 51)) := balloc (Below.refl _ _) _
              have hgq : gg = gp' ∨ gg = z.heap.size + 1 := by
                rcases hat with h | h
                · left; simp [Value.ownBlock] at h; exact h.symm
                · exact .inr h
              have HP2 : Hid (PB2 w g ys (zk ++ [(id1, id2)]) gg cq w2) := hid (by
                refine ⟨?_, hlt3, by omega, Nat.lt_of_lt_of_le (Nat.lt_of_lt_of_le hgs hal.size) hgrow'.size, (HE.out.blk2 (hal.block g hgs)).blk2 (hgrow'.block g (Nat.lt_of_lt_of_le hgs hal.size) (by simp; omega)), bgrown (btrans HBz.out hal) hgrow' ?_⟩
                · rw [List.length_append]
                  have e : fl2 (zk ++ [(id1, id2)]) = fl2 zk ++ fl2 [(id1, id2)] := by simp [fl2]
                  rw [e]
                  exact hown2
                · exact (HOW.out.lt gp' rfl).1)
              have HG2 : Hid (gg ≠ ib ∧ w2.heap[ib]? = some (.cells #[.int .i64 id1, .int .i64 fr, .int .i64 te, .int .i64 kd, .slice a1 ps.length cp] 55 (0, 0))) := hid ⟨by omega, grown_blk hgrow' (keepheap2 hal GX.out) (by omega)⟩
              have hln : (zk ++ [(id1, id2)]).length = zk.length + 1 := by rw [List.length_append]; rfl
              clear hown2 hgrow hgrow' hat hal
              go_roundw
              case rel => exact ⟨m + 1, gg, cq, zk ++ [(id1, id2)], by go_num, by omega, by rw [hln], hid (by rw [HKE.out, ← List.append_assoc, ← HZK.out]), HP2, HG2⟩
              case measure => simp [intOf]; omega
          · have hme : m = n2 := by omega
            have c2 : (n2 : Int) ≤ (m : Int) := by omega
            have hzo : zk = prO rs t ids (i + 1) := by rw [HON.out, ← HLEN.out, hn2, ← hme]; exact HZK.out
            have HPE := hid HP.out
            rw [hzo] at HPE
            have hln : (prO rs t ids (i + 1)).length = zk.length := by rw [hzo]
            clear HP HG
            go_wp2_with fail
            go_roundw
            case rel => exact ⟨i + 1, gp', c', by go_num, by omega, by rw [hln], HPE⟩
            case measure => simp [intOf]; omega
    · have c1 : (n : Int) ≤ (i : Int) := by omega
      have hin : i = ids.length := by have := HLEN.out; omega
      have HF : Hid (prO rs t ids i = prs rs t ids) := hid (by rw [hin]; rfl)
      clear hin
      go_wp2_with fail
      go_ret
      rw [← HF.out]
      obtain ⟨q1, q2, q3⟩ := own_prs HP.out.1 rfl
      exact ⟨gp, c, rfl, q3, q1, HP.out.2.2.2.2.2⟩
end Go.Proofs.YtpgcnadmhbjlgaaGreat
namespace Go.Proofs.YtpgcnadmhbjlgaaGreat
open Go.RowKit
set_option linter.unusedSimpArgs false
set_option linter.unusedVariables false
/-- What l06Row tells of an id that is there. -/
def RB (w : World) (rk : Int) (rp : List (Int × Int)) (rb : Bool) (e : Ending) (w' : World) : Prop :=
  ∃ gq cq, e = .returned (.tuple #[.agg #[.int .i64 rk, .slice (some ⟨gq, 0, none⟩) rp.length cq], .bool rb]) ∧ rp.length ≤ cq ∧ w.heap.size ≤ gq ∧ gq < w'.heap.size ∧ Pts w' (some ⟨gq, 0, none⟩) rp ∧ Below w.heap.size w w'
theorem spec_rowB {N : Nat → Prop} (now : Int) (a : Option Addr) (cap : Nat) (rs : List Rw) (id t : Int) (w : World) (hm : rs.length ≤ 1099511627776) (h : Rws N w a rs) (hid2 : id ∈ idsb now rs t) : Calls Tryz.prog 19 #[.agg #[.int .i64 now, .slice a rs.length cap], .int .i64 id, .int .i64 t] w fun e w' => RB w (raK (rat rs id t)) (raP (rat rs id t)) (rat rs id t).isSome e w' := by
  obtain ⟨hr, hs⟩ := idsb_row hid2
  refine (spec_row now a cap rs id t w hm h (fun m hm => (shok_aok (rowsb_sh hr hm)).2.1)).mono ?_
  rintro e w' ⟨a', cap', rfl, hc, ho, hn, hb⟩
  rcases ho with ⟨_, q⟩ | ⟨b, rfl, ho⟩
  · have := (shok_aok hs).2.1
    rw [q] at this
    simp at this
  · exact ⟨b, cap', rfl, hc, hn b 0 rfl, ho.1, ho.pts, hb⟩
/-- The shape that was found, in its own place. -/
def RQ (W : World) (rk : Int) (rp : List (Int × Int)) (tv : Value) (wx : World) : Prop :=
  ∃ ba gq cq, tv = .pointer (some ⟨ba, 0, none⟩) ∧ W.heap.size ≤ ba ∧ wx.heap[ba]? = some (.cells #[.int .i64 rk, .slice (some ⟨gq, 0, none⟩) rp.length cq] 47 (0, 0)) ∧ rp.length ≤ cq ∧ Pts wx (some ⟨gq, 0, none⟩) rp ∧ Below W.heap.size W wx ∧ W.heap.size ≤ gq ∧ gq < wx.heap.size ∧ ba ≠ gq
theorem rq_mk {W Z : World} {rk : Int} {rp : List (Int × Int)} {xb gq cq : Nat} (gX : Z.heap[xb]? = some (.cells #[.int .i64 0, .slice none 0 0] 47 (0, 0))) (hcq : rp.length ≤ cq) (hp : Pts Z (some ⟨gq, 0, none⟩) rp) (hne : xb ≠ gq) (hxb : W.heap.size ≤ xb) (hD : Below W.heap.size W Z) (hlo : W.heap.size ≤ gq) (hhi : gq < Z.heap.size) : RQ W rk rp (.pointer (some ⟨xb, 0, none⟩)) ((Z.setCell ⟨xb, 0, none⟩ (.int .i64 rk)).setCell ⟨xb, 1, none⟩ (.slice (some ⟨gq, 0, none⟩) rp.length cq)) := by
  refine ⟨xb, gq, cq, rfl, hxb, set2r gX _ _, hcq, ?_, bset (bset hD (q := xb) (k := 0) hxb _) (q := xb) (k := 1) hxb _, hlo, by simpa using hhi, hne⟩
  rcases hp with h | ⟨b, off, ea, hb, hp⟩
  · exact .inl h
  · cases ea
    refine .inr ⟨gq, 0, rfl, by simpa using hb, fun k hk => ?_⟩
    rw [World.cell?_setCell_far _ _ _ _ (by dsimp only; omega), World.cell?_setCell_far _ _ _ _ (by dsimp only; omega), World.cell?_setCell_far _ _ _ _ (by dsimp only; omega), World.cell?_setCell_far _ _ _ _ (by dsimp only; omega)]
    exact hp k hk
/-- Where the walk of Bounds stands. -/
def SB (w : World) (now : Int) (a : Option Addr) (n0 cap : Nat) (gi ob : Nat) (ids : List Int) (zs : List (Int × Int)) (wr : World) : Prop :=
  wr.heap[w.heap.size]? = some (.cells #[.int .i64 now, .slice a n0 cap] 30 (0, 0)) ∧ wr.heap[w.heap.size + 1]? = some (.cells #[.int .i64 0, .int .i64 0, .int .i64 0, .int .i64 0] 38 (0, 0)) ∧ wr.heap[ob]? = some (.cells #[.int .i64 (aX zs), .int .i64 (aY zs), .int .i64 (bX zs), .int .i64 (bY' zs)] 38 (0, 0)) ∧ gi < wr.heap.size ∧ IAt wr gi 0 ids ∧ Below w.heap.size w wr
theorem IAt.blk {w w' : World} {b off : Nat} {zs : List Int} (h : IAt w b off zs) (e : w'.heap[b]? = w.heap[b]?) : IAt w' b off zs := fun k hk => by
  have hc : ∀ k, w'.cell? ⟨b, k, none⟩ = w.cell? ⟨b, k, none⟩ := fun k => by simp only [World.cell?, e]
  rw [hc]
  exact h k hk
/-- The ids that were told, with a block for them. -/
theorem ids_blk {w : World} {a1 : Option Addr} {ids : List Int} (h : OwnI w a1 ids) (d : Nat) (hd : d < w.heap.size) : ∃ gi, (0 < ids.length → a1 = some ⟨gi, 0, none⟩) ∧ gi < w.heap.size ∧ IAt w gi 0 ids := by
  rcases h with ⟨rfl, rfl⟩ | ⟨b, rfl, hb, hi, _⟩
  · exact ⟨d, fun h => absurd h (by simp), hd, fun k hk => absurd hk (by simp)⟩
  · exact ⟨b, fun _ => rfl, hb, hi⟩
set_option maxRecDepth 100000 in
set_option maxHeartbeats 4000000 in
theorem spec_Bounds {N : Nat → Prop} (now : Int) (a : Option Addr) (cap : Nat) (rs : List Rw) (t : Int) (w : World) (hm : rs.length ≤ 1099511627776) (h : Rws N w a rs) : Calls Tryz.prog 14 #[.agg #[.int .i64 now, .slice a rs.length cap], .int .i64 t] w fun e w' => BD (bpts rs t (idsb now rs t)) e ∧ Below w.heap.size w w' := by
  have HIA := hid (fun (W : World) (hb : Below w.heap.size w W) => spec_IdsAt now a cap rs t W hm (h.below hb))
  have HRW := hid (fun (id : Int) (hi : id ∈ idsb now rs t) (W : World) (hb : Below w.heap.size w W) => spec_rowB now a cap rs id t W hm (h.below hb) hi)
  have HSH := hid (fun (id : Int) (h : id ∈ idsb now rs t) => (idsb_row h).2)
  have HIL : Hid ((idsb now rs t).length ≤ 1099511627776) := hid (by
    unfold idsb
    split
    · rw [srt_len]; have := ids_len rs t; omega
    · simp)
  clear h
  unfold BD
  generalize hr0 : aX (bpts rs t (idsb now rs t)) = r0
  generalize hr1 : aY (bpts rs t (idsb now rs t)) = r1
  generalize hr2 : bX (bpts rs t (idsb now rs t)) = r2
  generalize hr3 : bY' (bpts rs t (idsb now rs t)) = r3
  generalize hr4 : aok (bpts rs t (idsb now rs t)) = r4
  have HRR := hid (And.intro hr0 (And.intro hr1 (And.intro hr2 (And.intro hr3 hr4))))
  clear hr0 hr1 hr2 hr3 hr4
  generalize idsb now rs t = ids at *
  generalize rs.length = n0 at *
  go_enter Tryz.func14, Tryz.ntmps14
  go_upto_region 1 with fail
  have hBx : Below w.heap.size w ((w.alloc (.cells #[.int .i64 now, .slice a n0 cap] 30)).alloc (.cells #[.int .i64 0, .int .i64 0, .int .i64 0, .int .i64 0] 38)) := balloc (balloc (Below.refl _ _) _) _
  have g0 := old_alloc (o' := .cells #[.int .i64 0, .int .i64 0, .int .i64 0, .int .i64 0] 38) (new_alloc w w.heap.size (.cells #[.int .i64 now, .slice a n0 cap] 30) rfl)
  have g1 := new_alloc (w.alloc (.cells #[.int .i64 now, .slice a n0 cap] 30)) (w.heap.size + 1) (.cells #[.int .i64 0, .int .i64 0, .int .i64 0, .int .i64 0] 38) (by simp)
  generalize (w.alloc (.cells #[.int .i64 now, .slice a n0 cap] 30)).alloc (.cells #[.int .i64 0, .int .i64 0, .int .i64 0, .int .i64 0] 38) = W0 at *
  obtain ⟨d0, d1, _, _⟩ := cell2r g0
  have HG1 := hid g1
  have HG0 := hid g0
  clear g1 g0
  go_wp2_with fail
  refine (HIA.out _ hBx).mono ?_
  rintro e W1 ⟨a1, c1, rfl, hI, _, hB1⟩
  replace HG0 := hid (keepheap2 hB1 HG0.out)
  replace HG1 := hid (keepheap2 hB1 HG1.out)
  have HB1 := hid (btrans hBx hB1)
  obtain ⟨gi, ha1, hgi, hIA⟩ := ids_blk hI w.heap.size (lt_of_block HG0.out)
  have HA := hid ha1
  have HI := hid hIA
  clear hI ha1 hIA hB1 hBx d0 d1 HIA
  go_upto_region 3 with fail
  have hal : Below W1.heap.size W1 (W1.alloc (.cells #[.int .i64 0, .int .i64 0, .int .i64 0, .int .i64 0] 38)) := balloc (Below.refl _ _) _
  have gO := new_alloc W1 W1.heap.size (.cells #[.int .i64 0, .int .i64 0, .int .i64 0, .int .i64 0] 38) rfl
  have HSB : Hid (SB w now a n0 cap gi W1.heap.size ids [] (W1.alloc (.cells #[.int .i64 0, .int .i64 0, .int .i64 0, .int .i64 0] 38))) := hid ⟨keepheap2 hal HG0.out, keepheap2 hal HG1.out, gO, Nat.lt_of_lt_of_le hgi hal.size, HI.out.blk (hal.block gi hgi), btrans HB1.out hal⟩
  have h1o : w.heap.size + 1 < W1.heap.size := lt_of_block HG1.out
  clear hal gO HG0 HG1 HB1 HI
  generalize W1.alloc (.cells #[.int .i64 0, .int .i64 0, .int .i64 0, .int .i64 0] 38) = W2 at *
  generalize W1.heap.size = ob at *
  obtain ⟨n, hn⟩ : ∃ n, n = ids.length := ⟨_, rfl⟩
  have HN := hid hn.symm
  rw [← hn] at HA ⊢
  have hnm : n ≤ 1099511627776 := by rw [hn]; exact HIL.out
  clear hn
  have HPT := hid (fun i (hi : i ≤ ids.length) => bpts_aok HSH.out i hi)
  go_wp2_with fail
  go_loopw [8] (fun ti wr => ∃ i : Nat, ti = .int .i64 i ∧ i ≤ n ∧ Hid (SB w now a n0 cap gi ob ids (bpts rs t (ids.take i)) wr)) (fun ti _ => n - (intOf ti).toNat)
  case atStart => exact ⟨0, rfl, Nat.zero_le _, HSB⟩
  case round =>
    clear HSB
    obtain ⟨i, rfl, hi, HS⟩ := hrel
    have HPI := hid (HPT.out i (by rw [HN.out]; exact hi))
    by_cases hlt : i < n
    · have c1 : (i : Int) < (n : Int) := by omega
      have hii : i < ids.length := by rw [HN.out]; exact hlt
      have ea := HA.out (by omega)
      subst ea
      obtain ⟨s0, s1, s2, hgil, s4, s5⟩ := HS.out
      have hxi := s4 i hii
      rw [Nat.zero_add, List.getD_eq_getElem?_getD, List.getElem?_eq_getElem hii, Option.getD_some] at hxi
      have HRI := hid (HRW.out ids[i] (List.getElem_mem hii))
      have HSI := hid (shok_aok (HSH.out ids[i] (List.getElem_mem hii)))
      have HSK := hid (HSH.out ids[i] (List.getElem_mem hii))
      have HNX := hid (bpts_next (rs := rs) (t := t) hii)
      have HB0 := hid s5
      have hwl : w.heap.size < wr.heap.size := lt_of_block s0
      obtain ⟨x0, x1, _, _⟩ := cell2r s0
      have HAP : Hid (0 < i → aX (bpts rs t (ids.take i) ++ raP (rat rs ids[i] t)) = min (aX (bpts rs t (ids.take i))) (aX (raP (rat rs ids[i] t))) ∧ aY (bpts rs t (ids.take i) ++ raP (rat rs ids[i] t)) = min (aY (bpts rs t (ids.take i))) (aY (raP (rat rs ids[i] t))) ∧ bX (bpts rs t (ids.take i) ++ raP (rat rs ids[i] t)) = max (bX (bpts rs t (ids.take i))) (bX (raP (rat rs ids[i] t))) ∧ bY' (bpts rs t (ids.take i) ++ raP (rat rs ids[i] t)) = max (bY' (bpts rs t (ids.take i))) (bY' (raP (rat rs ids[i] t)))) := hid (fun h0 => box_app (by rw [HPI.out.2]; simpa using h0) HSI.out.1)
      have HA0 : Hid (i = 0 → bpts rs t (ids.take i) = []) := hid (fun e => by subst e; rfl)
      generalize raP (rat rs ids[i] t) = rp at *
      generalize raK (rat rs ids[i] t) = rk at *
      generalize (rat rs ids[i] t).isSome = rb at *
      generalize ids[i] = id at *
      generalize bpts rs t (ids.take i) = zs at *
      clear s0 s1 s2 s4 s5
      go_upto_region 6 with fail
      go_cut [9, 10] from 17 to 43 (fun t9 _ wx => RQ wr rk rp t9 wx)
      case first =>
        clear HRW HPT HSH HNX HAP HA0 HPI HSI HSK HS HIL HA HN
        refine wp_region_held_drew (S := (fun w' => w'.cell? ⟨w.heap.size, 0, none⟩ = some (.int .i64 now) ∧ w'.cell? ⟨w.heap.size, 1, none⟩ = some (.slice a n0 cap) ∧ w'.cell? ⟨gi, i, none⟩ = some (.int .i64 id))) (by kernel_rfl) ?_ (fun hHeld => ?_)
        · (repeat' apply And.intro) <;> (repeat (first | with_reducible assumption | with_reducible refine keepset ?_ (by dsimp only; omega) | with_reducible refine keepdrew ?_ | with_reducible refine keepalloc ?_ _ | with_reducible refine keepcell (by with_reducible assumption) ?_))
        have hB0 : Below w.heap.size w wr.drew := bdrew HB0.out
        have hD0 : Below wr.heap.size wr wr.drew := bdrew (Below.refl _ _)
        generalize wr.drew = V0 at *
        refine wpAnyH_take (i := 0) (v := ?_) rfl (by kernel_rfl) (by kernel_rfl) (by kernel_rfl) (fun _ _ _ h => h) (Or.inl ⟨by rfl, ?_⟩) hHeld ?_
        rotate_left
        · intro w hSw; (try dsimp only at hSw); go_simp; try (with_reducible rfl)
        try simp only [sq]
        refine wpAnyH_take (i := 1) (v := ?_) rfl (by kernel_rfl) (by kernel_rfl) (by kernel_rfl) (fun _ _ _ h => h) (Or.inl ⟨by rfl, ?_⟩) hHeld ?_
        rotate_left
        · intro w hSw; (try dsimp only at hSw); go_simp; try (with_reducible rfl)
        try simp only [sq]
        refine wpAnyH_take (i := 2) (v := ?_) rfl (by kernel_rfl) (by kernel_rfl) (by kernel_rfl) (fun _ _ _ h => h) (Or.inl ⟨by rfl, ?_⟩) hHeld ?_
        rotate_left
        · intro w hSw; (try dsimp only at hSw); go_simp; try (with_reducible rfl)
        try simp only [sq]
        refine wpAnyH_take (i := 3) (v := ?_) rfl (by kernel_rfl) (by kernel_rfl) (by kernel_rfl) (fun _ _ _ h => h) (Or.inl ⟨by rfl, ?_⟩) hHeld ?_
        rotate_left
        · intro w hSw; (try dsimp only at hSw); go_simp; try (with_reducible rfl)
        try simp only [sq]
        refine wpAnyH_take (i := 4) (v := ?_) rfl (by kernel_rfl) (by kernel_rfl) (by kernel_rfl) (fun _ _ _ h => h) (Or.inl ⟨by rfl, ?_⟩) hHeld ?_
        rotate_left
        · intro w hSw; (try dsimp only at hSw); go_simp; try (with_reducible rfl)
        try simp only [sq]
        refine wpAnyH_take (i := 5) (v := ?_) rfl (by kernel_rfl) (by kernel_rfl) (by kernel_rfl) (fun _ _ _ h => h) (Or.inl ⟨by rfl, ?_⟩) hHeld ?_
        rotate_left
        · intro w hSw; (try dsimp only at hSw); go_simp; try (with_reducible rfl)
        try simp only [sq]
        refine wpAnyH_ready (rs := [6, 10]) (by kernel_rfl) (by simp) ?_
        refine (AllReadyH.cons rfl (fun K hK => ?_) (AllReadyH.cons rfl (fun K hK => ?_) AllReadyH.nil))
        · skip
          try simp only [sq]
          go_simp
          go_at_call 19
          refine (HRI.out _ hB0).mono ?_
          rintro e y ⟨gq, cq, rfl, hcq, hgq, hgl, hpq, hy⟩
          have hBy := btrans hB0 hy
          have hDy := btrans hD0 hy
          go_wp2_with fail
          refine hK.out _ _ ?_ (fun hHeld => ?_)
          · (go_split_ands; (repeat' apply And.intro) <;> (repeat (first | with_reducible assumption | with_reducible refine keepset ?_ (by dsimp only; omega) | with_reducible refine keepdrew ?_ | with_reducible refine keepalloc ?_ _ | with_reducible refine keepcell (by with_reducible assumption) ?_)))
          clear hK K
          try simp only [sq]
          refine wpAnyH_take (i := 7) (v := ?_) rfl (by kernel_rfl) (by kernel_rfl) (by kernel_rfl) (fun _ _ _ h => h) (Or.inl ⟨by rfl, ?_⟩) hHeld ?_
          rotate_left
          · intro w hSw; (try dsimp only at hSw); go_simp; try (with_reducible rfl)
          try simp only [sq]
          refine wpAnyH_take (i := 8) (v := ?_) rfl (by kernel_rfl) (by kernel_rfl) (by kernel_rfl) (fun _ _ _ h => h) (Or.inl ⟨by rfl, ?_⟩) hHeld ?_
          rotate_left
          · intro w hSw; (try dsimp only at hSw); go_simp; try (with_reducible rfl)
          try simp only [sq]
          refine wpAnyH_take (i := 9) (v := ?_) rfl (by kernel_rfl) (by kernel_rfl) (by kernel_rfl) (fun _ _ _ h => h) (Or.inl ⟨by rfl, ?_⟩) hHeld ?_
          rotate_left
          · intro w hSw; (try dsimp only at hSw); go_simp; try (with_reducible rfl)
          try simp only [sq]
          refine wpAnyH_ready (rs := [10]) (by kernel_rfl) (by simp) ?_
          refine (AllReadyH.cons rfl (fun K hK => ?_) AllReadyH.nil)
          try simp only [sq]
          go_simp
          refine hK.out _ _ ?_ (fun hHeld => ?_)
          · (go_split_ands; (repeat' apply And.intro) <;> (repeat (first | with_reducible assumption | with_reducible refine keepset ?_ (by dsimp only; omega) | with_reducible refine keepdrew ?_ | with_reducible refine keepalloc ?_ _ | with_reducible refine keepcell (by with_reducible assumption) ?_)))
          clear hK K
          try simp only [sq]
          have gX := new_alloc y y.heap.size (.cells #[.int .i64 0, .slice none 0 0] 47) rfl
          have hal : Below y.heap.size y (y.alloc (.cells #[.int .i64 0, .slice none 0 0] 47)) := balloc (Below.refl _ _) _
          have hBa := btrans hBy hal
          have hDa := btrans hDy hal
          have hpqa := hpq.below hal
          have hxg : y.heap.size ≠ gq := by omega
          have hxb : wr.heap.size ≤ y.heap.size := hDy.size
          have hals := hal.size
          clear hal
          generalize y.alloc (.cells #[.int .i64 0, .slice none 0 0] 47) = Z at *
          generalize y.heap.size = xb at *
          refine wpAnyH_ready (rs := [11]) (by kernel_rfl) (by simp) ?_
          refine (AllReadyH.cons rfl (fun K hK => ?_) AllReadyH.nil)
          obtain ⟨v0, v1, s0, s1⟩ := cell2r gX
          try simp only [sq]
          go_simp
          refine hK.out _ _ ?_ (fun hHeld => ?_)
          · (go_split_ands; (repeat' apply And.intro) <;> (repeat (first | with_reducible assumption | with_reducible refine keepset ?_ (by dsimp only; omega) | with_reducible refine keepdrew ?_ | with_reducible refine keepalloc ?_ _ | with_reducible refine keepcell (by with_reducible assumption) ?_)))
          clear hK K
          try simp only [sq]
          refine wpAnyH_take (i := 12) (v := ?_) rfl (by kernel_rfl) (by kernel_rfl) (by kernel_rfl) (fun _ _ _ h => h) (Or.inl ⟨by rfl, ?_⟩) hHeld ?_
          rotate_left
          · intro w hSw; (try dsimp only at hSw); go_simp; try (with_reducible rfl)
          try simp only [sq]
          refine wpAnyH_done (by kernel_rfl) ?_ _
          go_wp2_with fail
          go_meet
          exact rq_mk gX hcq hpqa hxg (by omega) hDa (Nat.le_trans hD0.size hgq) (Nat.lt_of_lt_of_le hgl hals)
        · skip
          try simp only [sq]
          go_simp
          refine hK.out _ _ ?_ (fun hHeld => ?_)
          · (go_split_ands; (repeat' apply And.intro) <;> (repeat (first | with_reducible assumption | with_reducible refine keepset ?_ (by dsimp only; omega) | with_reducible refine keepdrew ?_ | with_reducible refine keepalloc ?_ _ | with_reducible refine keepcell (by with_reducible assumption) ?_)))
          clear hK K
          try simp only [sq]
          have gX := new_alloc V0 V0.heap.size (.cells #[.int .i64 0, .slice none 0 0] 47) rfl
          have hal : Below V0.heap.size V0 (V0.alloc (.cells #[.int .i64 0, .slice none 0 0] 47)) := balloc (Below.refl _ _) _
          have hBa := btrans hB0 hal
          have hDa := btrans hD0 hal
          have hxb : wr.heap.size ≤ V0.heap.size := hD0.size
          have hals := hal.size
          clear hal
          generalize V0.alloc (.cells #[.int .i64 0, .slice none 0 0] 47) = Z at *
          generalize V0.heap.size = xb at *
          refine wpAnyH_ready (rs := [6]) (by kernel_rfl) (by simp) ?_
          refine (AllReadyH.cons rfl (fun K hK => ?_) AllReadyH.nil)
          try simp only [sq]
          go_simp
          go_at_call 19
          refine (HRI.out _ hBa).mono ?_
          rintro e y ⟨gq, cq, rfl, hcq, hgq, hgl, hpq, hy⟩
          have hxg : xb ≠ gq := by have := lt_of_block gX; omega
          replace gX := keepheap2 hy gX
          have hBy := btrans hBa hy
          have hDy := btrans hDa hy
          go_wp2_with fail
          refine hK.out _ _ ?_ (fun hHeld => ?_)
          · (go_split_ands; (repeat' apply And.intro) <;> (repeat (first | with_reducible assumption | with_reducible refine keepset ?_ (by dsimp only; omega) | with_reducible refine keepdrew ?_ | with_reducible refine keepalloc ?_ _ | with_reducible refine keepcell (by with_reducible assumption) ?_)))
          clear hK K
          try simp only [sq]
          refine wpAnyH_take (i := 7) (v := ?_) rfl (by kernel_rfl) (by kernel_rfl) (by kernel_rfl) (fun _ _ _ h => h) (Or.inl ⟨by rfl, ?_⟩) hHeld ?_
          rotate_left
          · intro w hSw; (try dsimp only at hSw); go_simp; try (with_reducible rfl)
          try simp only [sq]
          refine wpAnyH_take (i := 8) (v := ?_) rfl (by kernel_rfl) (by kernel_rfl) (by kernel_rfl) (fun _ _ _ h => h) (Or.inl ⟨by rfl, ?_⟩) hHeld ?_
          rotate_left
          · intro w hSw; (try dsimp only at hSw); go_simp; try (with_reducible rfl)
          try simp only [sq]
          refine wpAnyH_take (i := 9) (v := ?_) rfl (by kernel_rfl) (by kernel_rfl) (by kernel_rfl) (fun _ _ _ h => h) (Or.inl ⟨by rfl, ?_⟩) hHeld ?_
          rotate_left
          · intro w hSw; (try dsimp only at hSw); go_simp; try (with_reducible rfl)
          try simp only [sq]
          refine wpAnyH_ready (rs := [11]) (by kernel_rfl) (by simp) ?_
          refine (AllReadyH.cons rfl (fun K hK => ?_) AllReadyH.nil)
          obtain ⟨v0, v1, s0, s1⟩ := cell2r gX
          try simp only [sq]
          go_simp
          refine hK.out _ _ ?_ (fun hHeld => ?_)
          · (go_split_ands; (repeat' apply And.intro) <;> (repeat (first | with_reducible assumption | with_reducible refine keepset ?_ (by dsimp only; omega) | with_reducible refine keepdrew ?_ | with_reducible refine keepalloc ?_ _ | with_reducible refine keepcell (by with_reducible assumption) ?_)))
          clear hK K
          try simp only [sq]
          refine wpAnyH_take (i := 12) (v := ?_) rfl (by kernel_rfl) (by kernel_rfl) (by kernel_rfl) (fun _ _ _ h => h) (Or.inl ⟨by rfl, ?_⟩) hHeld ?_
          rotate_left
          · intro w hSw; (try dsimp only at hSw); go_simp; try (with_reducible rfl)
          try simp only [sq]
          refine wpAnyH_done (by kernel_rfl) ?_ _
          go_wp2_with fail
          go_meet
          exact rq_mk gX hcq hpq hxg (by omega) hDy (Nat.le_trans hDa.size hgq) hgl
      case rest =>
        obtain ⟨ba, gq, cq, rfl, hba, gA, hcq, hpq, hD, _⟩ := hcut
        obtain ⟨s0, s1, s2, _, s4, s5⟩ := HS.out
        have HS0 := hid (keepheap2 hD s0)
        have HS1 := hid (keepheap2 hD s1)
        have HS2 := hid (keepheap2 hD s2)
        have HS4 := hid (s4.blk (hD.block gi hgil))
        have HS5 := hid (btrans s5 hD)
        have hol : ob < wr.heap.size := lt_of_block s2
        have hws := hD.size
        have HBX := hid (fun (W : World) (hb : Below wc.heap.size wc W) => spec_ShapeBox rk (some ⟨gq, 0, none⟩) cq rp W (by have := HSI.out.2.2; omega) hcq (hpq.below hb))
        have hsv : sv aX rk rp = aX rp ∧ sv aY rk rp = aY rp ∧ sv bX rk rp = bX rp ∧ sv bY' rk rp = bY' rp := by
          unfold sv; rw [HSK.out]; exact ⟨rfl, rfl, rfl, rfl⟩
        rw [hsv.1, hsv.2.1, hsv.2.2.1, hsv.2.2.2] at HBX
        clear s0 s1 s2 s4 s5 hpq hsv x0 x1 hxi HRI HRW HB0
        unfold shv at HBX
        obtain ⟨v0, v1, _, _⟩ := cell2r gA
        generalize hXb : aX rp = p0 at *
        generalize hYb : aY rp = p1 at *
        generalize hXB : bX rp = p2 at *
        generalize hYB : bY' rp = p3 at *
        generalize (shok rk rp && aok rp) = p4 at *
        generalize rp.length = nrp at *
        go_wp2_with fail
        refine (HBX.out _ (Below.refl _ _)).mono ?_
        rintro e z ⟨rfl, hz⟩
        replace HS0 := hid (keepheap2 hz HS0.out)
        replace HS1 := hid (keepheap2 hz HS1.out)
        replace HS2 := hid (keepheap2 hz HS2.out)
        replace HS4 := hid (HS4.out.blk (hz.block gi (by omega)))
        replace HS5 := hid (btrans HS5.out hz)
        have hzs := hz.size
        clear hz v0 v1 gA HBX hD
        go_upto_region 8 with fail
        have hal : Below z.heap.size z (z.alloc (.cells #[.int .i64 p0, .int .i64 p1, .int .i64 p2, .int .i64 p3] 38)) := balloc (Below.refl _ _) _
        have gN := new_alloc z z.heap.size (.cells #[.int .i64 p0, .int .i64 p1, .int .i64 p2, .int .i64 p3] 38) rfl
        replace HS0 := hid (keepheap2 hal HS0.out)
        replace HS1 := hid (keepheap2 hal HS1.out)
        have gO := keepheap2 hal HS2.out
        replace HS4 := hid (HS4.out.blk (hal.block gi (by omega)))
        replace HS5 := hid (btrans HS5.out hal)
        have hals := hal.size
        clear hal HS2
        generalize z.alloc (.cells #[.int .i64 p0, .int .i64 p1, .int .i64 p2, .int .i64 p3] 38) = Z at *
        generalize z.heap.size = zb at *
        obtain ⟨n0', n1', n2', n3', _, _, _, _⟩ := cell4 gN
        obtain ⟨o0', o1', o2', o3', f0, f1, f2, f3⟩ := cell4 gO
        have hzo : zb ≠ ob := by omega
        have HJN := hid (fun (A B C D : Int) (W : World) => spec_join A B C D p0 p1 p2 p3 W)
        by_cases hi0 : i = 0
        · have hib : ((i : Int) == 0) = true := by rw [beq_iff_eq]; omega
          have hz0 := HA0.out hi0
          go_upto_region 10 with fail
          obtain ⟨gF, bF⟩ := set4 gO HS5.out (show w.heap.size ≤ ob by omega) (.int .i64 p0) (.int .i64 p1) (.int .i64 p2) (.int .i64 p3)
          have hfar : ∀ b, b ≠ ob → ((((Z.setCell ⟨ob, 0, none⟩ (.int .i64 p0)).setCell ⟨ob, 1, none⟩ (.int .i64 p1)).setCell ⟨ob, 2, none⟩ (.int .i64 p2)).setCell ⟨ob, 3, none⟩ (.int .i64 p3)).heap[b]? = Z.heap[b]? := fun b hb => by rw [Below.heap_setCell _ _ _ _ (by dsimp only; omega), Below.heap_setCell _ _ _ _ (by dsimp only; omega), Below.heap_setCell _ _ _ _ (by dsimp only; omega), Below.heap_setCell _ _ _ _ (by dsimp only; omega)]
          replace HS0 := hid ((hfar _ (by omega)).trans HS0.out)
          replace HS1 := hid ((hfar _ (by omega)).trans HS1.out)
          replace HS4 := hid (HS4.out.blk (hfar gi (by omega)))
          replace gN := (hfar zb hzo).trans gN
          replace HS5 := hid bF
          replace gO := gF
          have hss : ((((Z.setCell ⟨ob, 0, none⟩ (.int .i64 p0)).setCell ⟨ob, 1, none⟩ (.int .i64 p1)).setCell ⟨ob, 2, none⟩ (.int .i64 p2)).setCell ⟨ob, 3, none⟩ (.int .i64 p3)).heap.size = Z.heap.size := by simp
          clear gF bF hfar o0' o1' o2' o3' f0 f1 f2 f3 n0' n1' n2' n3'
          generalize (((Z.setCell ⟨ob, 0, none⟩ (.int .i64 p0)).setCell ⟨ob, 1, none⟩ (.int .i64 p1)).setCell ⟨ob, 2, none⟩ (.int .i64 p2)).setCell ⟨ob, 3, none⟩ (.int .i64 p3) = Z2 at *
          obtain ⟨n0', n1', n2', n3', _, _, _, _⟩ := cell4 gN
          obtain ⟨o0', o1', o2', o3', f0, f1, f2, f3⟩ := cell4 gO
          go_wp2_with fail
          refine (HJN.out p0 p1 p2 p3 _).mono ?_
          rintro e y ⟨rfl, hy⟩
          replace HS0 := hid (keepheap2 hy HS0.out)
          replace HS1 := hid (keepheap2 hy HS1.out)
          replace HS4 := hid (HS4.out.blk (hy.block gi (by omega)))
          replace HS5 := hid (btrans HS5.out hy)
          replace gO := keepheap2 hy gO
          have hys := hy.size
          clear hy HJN o0' o1' o2' o3' f0 f1 f2 f3 n0' n1' n2' n3' gN
          obtain ⟨o0', o1', o2', o3', f0, f1, f2, f3⟩ := cell4 gO
          generalize hm0 : min p0 p0 = m0' at *
          generalize hm1 : min p1 p1 = m1' at *
          generalize hm2 : max p2 p2 = m2' at *
          generalize hm3 : max p3 p3 = m3' at *
          go_wp2_with fail
          obtain ⟨gF, bF⟩ := set4 gO HS5.out (show w.heap.size ≤ ob by omega) (.int .i64 m0') (.int .i64 m1') (.int .i64 m2') (.int .i64 m3')
          have hfar : ∀ b, b ≠ ob → ((((y.setCell ⟨ob, 0, none⟩ (.int .i64 m0')).setCell ⟨ob, 1, none⟩ (.int .i64 m1')).setCell ⟨ob, 2, none⟩ (.int .i64 m2')).setCell ⟨ob, 3, none⟩ (.int .i64 m3')).heap[b]? = y.heap[b]? := fun b hb => by rw [Below.heap_setCell _ _ _ _ (by dsimp only; omega), Below.heap_setCell _ _ _ _ (by dsimp only; omega), Below.heap_setCell _ _ _ _ (by dsimp only; omega), Below.heap_setCell _ _ _ _ (by dsimp only; omega)]
          have HSN : Hid (SB w now a n0 cap gi ob ids (bpts rs t (ids.take (i + 1))) ((((y.setCell ⟨ob, 0, none⟩ (.int .i64 m0')).setCell ⟨ob, 1, none⟩ (.int .i64 m1')).setCell ⟨ob, 2, none⟩ (.int .i64 m2')).setCell ⟨ob, 3, none⟩ (.int .i64 m3'))) := hid (by
            rw [HNX.out]
            refine ⟨(hfar _ (by omega)).trans HS0.out, (hfar _ (by omega)).trans HS1.out, ?_, by simp; omega, HS4.out.blk (hfar gi (by omega)), bF⟩
            rw [gF]
            subst hz0; rw [List.nil_append, hXb, hYb, hXB, hYB, ← hm0, ← hm1, ← hm2, ← hm3, Int.min_self, Int.min_self, Int.max_self, Int.max_self])
          clear gF bF hfar gO o0' o1' o2' o3' f0 f1 f2 f3
          generalize (((y.setCell ⟨ob, 0, none⟩ (.int .i64 m0')).setCell ⟨ob, 1, none⟩ (.int .i64 m1')).setCell ⟨ob, 2, none⟩ (.int .i64 m2')).setCell ⟨ob, 3, none⟩ (.int .i64 m3') = Z3 at *
          go_roundw
          case rel => exact ⟨i + 1, by go_num, by omega, HSN⟩
          case measure => simp [intOf]; omega
        · have hib : ((i : Int) == 0) = false := by rw [beq_eq_false_iff_ne]; omega
          obtain ⟨m0, m1, m2, m3⟩ := HAP.out (by omega)
          go_wp2_with fail
          refine (HJN.out (aX zs) (aY zs) (bX zs) (bY' zs) _).mono ?_
          rintro e y ⟨rfl, hy⟩
          replace HS0 := hid (keepheap2 hy HS0.out)
          replace HS1 := hid (keepheap2 hy HS1.out)
          replace HS4 := hid (HS4.out.blk (hy.block gi (by omega)))
          replace HS5 := hid (btrans HS5.out hy)
          replace gO := keepheap2 hy gO
          have hys := hy.size
          clear hy HJN o0' o1' o2' o3' f0 f1 f2 f3 n0' n1' n2' n3' gN
          obtain ⟨o0', o1', o2', o3', f0, f1, f2, f3⟩ := cell4 gO
          generalize hm0 : min (aX zs) p0 = m0' at *
          generalize hm1 : min (aY zs) p1 = m1' at *
          generalize hm2 : max (bX zs) p2 = m2' at *
          generalize hm3 : max (bY' zs) p3 = m3' at *
          go_wp2_with fail
          obtain ⟨gF, bF⟩ := set4 gO HS5.out (show w.heap.size ≤ ob by omega) (.int .i64 m0') (.int .i64 m1') (.int .i64 m2') (.int .i64 m3')
          have hfar : ∀ b, b ≠ ob → ((((y.setCell ⟨ob, 0, none⟩ (.int .i64 m0')).setCell ⟨ob, 1, none⟩ (.int .i64 m1')).setCell ⟨ob, 2, none⟩ (.int .i64 m2')).setCell ⟨ob, 3, none⟩ (.int .i64 m3')).heap[b]? = y.heap[b]? := fun b hb => by rw [Below.heap_setCell _ _ _ _ (by dsimp only; omega), Below.heap_setCell _ _ _ _ (by dsimp only; omega), Below.heap_setCell _ _ _ _ (by dsimp only; omega), Below.heap_setCell _ _ _ _ (by dsimp only; omega)]
          have HSN : Hid (SB w now a n0 cap gi ob ids (bpts rs t (ids.take (i + 1))) ((((y.setCell ⟨ob, 0, none⟩ (.int .i64 m0')).setCell ⟨ob, 1, none⟩ (.int .i64 m1')).setCell ⟨ob, 2, none⟩ (.int .i64 m2')).setCell ⟨ob, 3, none⟩ (.int .i64 m3'))) := hid (by
            rw [HNX.out]
            refine ⟨(hfar _ (by omega)).trans HS0.out, (hfar _ (by omega)).trans HS1.out, ?_, by simp; omega, HS4.out.blk (hfar gi (by omega)), bF⟩
            rw [gF]
            rw [m0, m1, m2, m3, ← hm0, ← hm1, ← hm2, ← hm3])
          clear gF bF hfar gO o0' o1' o2' o3' f0 f1 f2 f3
          generalize (((y.setCell ⟨ob, 0, none⟩ (.int .i64 m0')).setCell ⟨ob, 1, none⟩ (.int .i64 m1')).setCell ⟨ob, 2, none⟩ (.int .i64 m2')).setCell ⟨ob, 3, none⟩ (.int .i64 m3') = Z3 at *
          go_roundw
          case rel => exact ⟨i + 1, by go_num, by omega, HSN⟩
          case measure => simp [intOf]; omega
    · have c1 : (n : Int) ≤ (i : Int) := by omega
      have hin : i = n := by omega
      obtain ⟨s0, s1, s2, hgil, s4, s5⟩ := HS.out
      have HE2 : Hid (bpts rs t (ids.take i) = bpts rs t ids) := hid (by rw [hin, ← HN.out, List.take_length])
      have HOK : Hid (aok (bpts rs t ids) = decide (0 < n)) := hid (by rw [← HE2.out, HPI.out.2, hin])
      obtain ⟨e0, e1, e2, e3, e4⟩ := HRR.out
      rw [HE2.out, e0, e1, e2, e3] at s2
      have HR4 : Hid (r4 = decide (0 < n)) := hid (by rw [← e4]; exact HOK.out)
      have HS5 := hid s5
      obtain ⟨o0', o1', o2', o3', _, _, _, _⟩ := cell4 s2
      obtain ⟨q0, q1, q2, q3, f0, f1, f2, f3⟩ := cell4 s1
      have HS1 := hid s1
      clear hin HS HPI s0 s1 s2 s4 s5 hgil e0 e1 e2 e3 e4 HOK HE2 HRR
      have hdn : decide ((0 : Int) < (n : Int)) = r4 := by rw [HR4.out]; simp
      go_wp2_with fail
      obtain ⟨gF, bF⟩ := set4 HS1.out HS5.out (by omega) (.int .i64 r0) (.int .i64 r1) (.int .i64 r2) (.int .i64 r3)
      generalize (((wr.setCell ⟨w.heap.size + 1, 0, none⟩ (.int .i64 r0)).setCell ⟨w.heap.size + 1, 1, none⟩ (.int .i64 r1)).setCell ⟨w.heap.size + 1, 2, none⟩ (.int .i64 r2)).setCell ⟨w.heap.size + 1, 3, none⟩ (.int .i64 r3) = wf at *
      obtain ⟨z0, z1, z2, z3, _, _, _, _⟩ := cell4 gF
      exact bodyPost_ret (v := .tuple #[.agg #[.int .i64 r0, .int .i64 r1, .int .i64 r2, .int .i64 r3], .bool r4]) (by simp [results, Tryz.results14, go_sem, z0, z1, z2, z3, HR4.out]) rfl ⟨rfl, bF⟩
end Go.Proofs.YtpgcnadmhbjlgaaGreat
