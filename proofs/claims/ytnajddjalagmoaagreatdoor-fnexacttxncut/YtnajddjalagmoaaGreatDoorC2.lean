/- Texts of stores, joined: RwA0, RwA1, RwA2, Sk, Sw, Sl, Ar, Ar2, Pa, Pb. -/
import Derived.Test.YtnajddjalagmoaaGreatDoorRw0
import Derived.Test.YtnajddjalagmoaaGreatDoorDrawP
import Derived.OwnWalk
import Derived.Deep.AppendLies
import Derived.Test.YtnajddjalagmoaaGreatDoorRwB
import Derived.Test.YtnajddjalagmoaaGreatDoorRwJ
import Derived.Test.YtnajddjalagmoaaGreatDoorC1
import Derived.Test.YtnajddjalagmoaaGreatDoorSj
import Derived.RegionTactic
import Derived.ChangeAlike
import Derived.Test.YtnajddjalagmoaaGreatDoorRows
import Derived.WalkKit
import Derived.LaidEql
import Derived.Stop.Asserts
import Derived.RowKitTokens
import Derived.Below
namespace Go.Proofs.YtnajddjalagmoaaGreatDoor
open Go.RowKit
set_option linter.unusedSimpArgs false
set_option linter.unusedVariables false
theorem Tryz.infoPC : (Tryz.prog.info? 96).map (fun i => (i.zero, i.size, i.bytes)) = some (some (.agg #[.int .i64 0, .int .i64 0]), 2, 16) := by kernel_rfl
theorem cell2r {w : World} {p : Nat} {a b : Value} {t : TypeId} (h : w.heap[p]? = some (.cells #[a, b] t (0, 0))) : w.cell? ⟨p, 0, none⟩ = some a ∧ w.cell? ⟨p, 1, none⟩ = some b ∧ w.frozen? ⟨p, 0, none⟩ = false ∧ w.frozen? ⟨p, 1, none⟩ = false := by
  refine ⟨?_, ?_, ?_, ?_⟩ <;> simp [World.cell?, World.frozen?, h]
theorem own_blk {w w' : World} {b : Nat} {ps : List (Int × Int)} (h : PtsOwn w b ps) (e : w'.heap[b]? = w.heap[b]?) (hs : b < w'.heap.size) : PtsOwn w' b ps := by
  obtain ⟨h1, h2, h3⟩ := h
  refine ⟨hs, fun k hk => ?_, fun j hj => ?_⟩
  · simp only [World.cell?, e]; exact h2 k hk
  · simp only [World.cell?, World.frozen?, e]; exact h3 j hj
def fl2 (qs : List (Int × Int)) : List Value := qs.flatMap fun q => [.int .i64 q.1, .int .i64 q.2]
theorem fl2_len (qs : List (Int × Int)) : (fl2 qs).length = qs.length * 2 := by
  induction qs with
  | nil => rfl
  | cons q r ih => simp only [fl2, List.flatMap_cons, List.length_append, List.length_cons, List.length_nil] at ih ⊢; omega
theorem fl2_at (qs : List (Int × Int)) : ∀ k, k < qs.length → (fl2 qs)[k * 2]? = some (.int .i64 (qs.getD k (0, 0)).1) ∧ (fl2 qs)[k * 2 + 1]? = some (.int .i64 (qs.getD k (0, 0)).2) := by
  induction qs with
  | nil => intro k hk; simp at hk
  | cons q r ih =>
    intro k hk
    cases k with
    | zero => simp [fl2]
    | succ k =>
      have := ih k (by simpa using hk)
      simp only [fl2, List.flatMap_cons, List.getD_cons_succ] at this ⊢
      rw [show (k + 1) * 2 = k * 2 + 2 by omega]
      simpa [List.getElem?_append_right] using this
theorem fl2_one (qs : List (Int × Int)) : ∀ u ∈ fl2 qs, u.oneCell' = true := by
  intro u hu
  simp only [fl2, List.mem_flatMap] at hu
  obtain ⟨q, _, hu⟩ := hu
  simp at hu
  rcases hu with rfl | rfl <;> rfl
theorem fl2_news {w : World} {b off : Nat} {ps : List (Int × Int)} (h : PtsAt w b off ps) : ∀ j u, (fl2 ps)[j]? = some u → w.cell? ((⟨b, off, none⟩ : Addr).add j) = some u := by
  intro j u hu
  have hj : j < ps.length * 2 := by rw [← fl2_len]; exact (List.getElem?_eq_some_iff.1 hu).1
  rw [Addr.add_mid]
  have h2 := h (j / 2) (by omega)
  obtain ⟨f0, f1⟩ := fl2_at ps (j / 2) (by omega)
  rcases Nat.mod_two_eq_zero_or_one j with e | e
  · have ej : j = j / 2 * 2 := by omega
    rw [ej] at hu ⊢
    rw [f0] at hu
    rw [← hu]
    exact h2.1
  · have ej : j = j / 2 * 2 + 1 := by omega
    rw [ej] at hu ⊢
    rw [f1] at hu
    rw [← hu, ← Nat.add_assoc]
    exact h2.2
theorem own_pts {w : World} {B g cap n : Nat} {ps : List (Int × Int)} (h : w.ownsRow B 96 2 (.slice (some ⟨g, 0, none⟩) n cap) n (fl2 ps)) (hn : ps.length = n) : B ≤ g ∧ n ≤ cap ∧ PtsOwn w g ps := by
  subst hn
  have h' := h
  rcases h.2 with ⟨q, _⟩ | ⟨g', cap', cur, e, hb, hg, hc, _⟩
  · cases q
  · cases e
    refine ⟨hb, hc, (Array.getElem?_eq_some_iff.1 hg).1, fun k hk => ?_, fun j hj => ?_⟩
    · obtain ⟨f0, f1⟩ := fl2_at ps k hk
      have hcs := World.ownsRow.cells h' rfl
      have q0 := hcs _ _ f0
      have q1 := hcs _ _ f1
      rw [Addr.add_mid] at q0 q1
      exact ⟨q0, by rw [Nat.add_assoc]; exact q1⟩
    · simp only [Nat.zero_add]
      refine ⟨?_, World.ownsRow.frozenAt h' j⟩
      rw [World.ownsRow.cellAt h' j hj, List.getElem?_eq_getElem (by rw [fl2_len]; exact hj)]
      rfl
/-- A copy of a shape. -/
def CP (w : World) (kd : Int) (ps : List (Int × Int)) (e : Ending) (w' : World) : Prop :=
  ∃ g cap, e = .returned (.agg #[.int .i64 kd, .slice (some ⟨g, 0, none⟩) ps.length cap]) ∧ ps.length ≤ cap ∧ w.heap.size ≤ g ∧ PtsOwn w' g ps ∧ Below w.heap.size w w'
theorem own_new {w : World} {B : Nat} (hB : B ≤ w.heap.size) : (w.alloc (.cells #[] 96)).ownsRow B 96 2 (.slice (some ⟨w.heap.size, 0, none⟩) 0 0) 0 [] := by
  have := World.ownsRow_made (base := B) (e := 96) (size := 2) w #[] 0 hB (by decide) rfl
  simpa using this
set_option maxRecDepth 100000 in
set_option maxHeartbeats 1000000 in
theorem spec_copy (kd : Int) (a : Option Addr) (cap : Nat) (ps : List (Int × Int)) (w : World) (h0 : 0 < ps.length) (hm : ps.length ≤ 1099511627776) (h : Pts w a ps) : Calls Tryz.prog 26 #[.agg #[.int .i64 kd, .slice a ps.length cap]] w fun e w' => CP w kd ps e w' := by
  obtain ⟨i0, hi0, hz0, hz1, hz2⟩ := info_parts Tryz.infoPC
  obtain ⟨b, off, rfl, hbs, hp⟩ : ∃ b off, a = some ⟨b, off, none⟩ ∧ b < w.heap.size ∧ PtsAt w b off ps := by
    rcases h with h | h
    · rw [h] at h0; simp at h0
    · exact h
  have hN := fl2_len ps
  have HP := hid hp
  clear hp h
  have hB3 : Below w.heap.size w (((w.alloc (.cells #[.int .i64 kd, .slice (some ⟨b, off, none⟩) ps.length cap] 44)).alloc (.cells #[.int .i64 0, .slice none 0 0] 44)).alloc (.cells #[] 96)) := balloc (balloc (balloc (Below.refl _ _) _) _) _
  have hown := own_new (w := (w.alloc (.cells #[.int .i64 kd, .slice (some ⟨b, off, none⟩) ps.length cap] 44)).alloc (.cells #[.int .i64 0, .slice none 0 0] 44)) (B := w.heap.size + 2) (by simp)
  have gA := old_alloc (o' := .cells #[] 96) (old_alloc (o' := .cells #[.int .i64 0, .slice none 0 0] 44) (new_alloc w w.heap.size (.cells #[.int .i64 kd, .slice (some ⟨b, off, none⟩) ps.length cap] 44) rfl))
  have gB := old_alloc (o' := .cells #[] 96) (new_alloc (w.alloc (.cells #[.int .i64 kd, .slice (some ⟨b, off, none⟩) ps.length cap] 44)) (w.heap.size + 1) (.cells #[.int .i64 0, .slice none 0 0] 44) (by simp))
  have hsz3 : (((w.alloc (.cells #[.int .i64 kd, .slice (some ⟨b, off, none⟩) ps.length cap] 44)).alloc (.cells #[.int .i64 0, .slice none 0 0] 44)).alloc (.cells #[] 96)).heap.size = w.heap.size + 3 := by simp
  have hsz2 : ((w.alloc (.cells #[.int .i64 kd, .slice (some ⟨b, off, none⟩) ps.length cap] 44)).alloc (.cells #[.int .i64 0, .slice none 0 0] 44)).heap.size = w.heap.size + 2 := by simp
  rw [hsz2] at hown
  have HNW := hid (fl2_news (HP.out.below hbs hB3))
  have HOW := hid hown
  have HGA := hid gA
  have HGB := hid gB
  have HB3 := hid hB3
  have HSZ := hid hsz3
  have HF1 := hid (fl2_one ps)
  clear hown gA gB hB3 hsz3 hsz2
  go_enter Tryz.func26, Tryz.ntmps26
  go_wp2_with (at_builtin; (refine wpList_append_lies _ rfl (.tmp 3) (.tmp 5) 42 rfl (w.heap.size + 2) 96 i0 _ 2 16 Tryz.underlying42 hi0 hz0 hz1 hz2 rfl (by decide) _ 0 [] (by rfl) HOW.out ⟨b, off, none⟩ ps.length cap (fl2 ps) (by rfl) hN HNW.out HF1.out h0 (by unfold maxLen; omega) (by omega) (by rw [HSZ.out]; omega) (w.heap.size + 3) HSZ.out ?_; intro gg cp w2 hown1 hgrow hat hlt; have gA := grown_blk (p := w.heap.size + 2) hgrow HGA.out (by omega); have gB := grown_blk (p := w.heap.size + 2) hgrow HGB.out (by omega); obtain ⟨a0, a1, f0, f1⟩ := cell2r gA; obtain ⟨b0, b1, e0, e1⟩ := cell2r gB))
  have HO1 := hid (own_pts (ps := ps) (by simpa using hown1) (by omega))
  have HB4 := hid (bgrown (p := w.heap.size + 2) HB3.out hgrow (by omega))
  clear hown1 hgrow
  obtain ⟨h1, h2, h3⟩ := HO1.out
  have gF := set2r (set_far (q := w.heap.size) (k := 1) (u := .slice (some ⟨gg, 0, none⟩) ps.length cp) gB (by omega)) (.int .i64 kd) (.slice (some ⟨gg, 0, none⟩) ps.length cp)
  have bF := bset (bset (bset HB4.out (q := w.heap.size) (k := 1) (Nat.le_refl _) (.slice (some ⟨gg, 0, none⟩) ps.length cp)) (q := w.heap.size + 1) (k := 0) (by omega) (.int .i64 kd)) (q := w.heap.size + 1) (k := 1) (by omega) (.slice (some ⟨gg, 0, none⟩) ps.length cp)
  have oF : PtsOwn (((w2.setCell ⟨w.heap.size, 1, none⟩ (.slice (some ⟨gg, 0, none⟩) ps.length cp)).setCell ⟨w.heap.size + 1, 0, none⟩ (.int .i64 kd)).setCell ⟨w.heap.size + 1, 1, none⟩ (.slice (some ⟨gg, 0, none⟩) ps.length cp)) gg ps := by
    refine own_blk h3 ?_ (by simp; exact h3.1)
    rw [Below.heap_setCell _ _ _ _ (by dsimp only; omega), Below.heap_setCell _ _ _ _ (by dsimp only; omega), Below.heap_setCell _ _ _ _ (by dsimp only; omega)]
  generalize ((w2.setCell ⟨w.heap.size, 1, none⟩ (.slice (some ⟨gg, 0, none⟩) ps.length cp)).setCell ⟨w.heap.size + 1, 0, none⟩ (.int .i64 kd)).setCell ⟨w.heap.size + 1, 1, none⟩ (.slice (some ⟨gg, 0, none⟩) ps.length cp) = wf at *
  obtain ⟨z0, z1, _, _⟩ := cell2r gF
  exact bodyPost_ret (v := .agg #[.int .i64 kd, .slice (some ⟨gg, 0, none⟩) ps.length cp]) (by simp [results, Tryz.results26, go_sem, z0, z1]) rfl ⟨gg, cp, rfl, by omega, by omega, oF, bF⟩
end Go.Proofs.YtnajddjalagmoaaGreatDoor
namespace Go.Proofs.YtnajddjalagmoaaGreatDoor
open Go.RowKit
set_option linter.unusedSimpArgs false
set_option linter.unusedVariables false
theorem keepheapA {w w' : World} (hb : Below w.heap.size w w') {b : Nat} {o : Obj} (h : w.heap[b]? = some o) : w'.heap[b]? = some o := by
  rw [hb.block b (lt_of_block h)]; exact h
def atb (id t : Int) (r : Rw) : Bool := decide (r.1 = id) && thr (tr r) t
def rat (rs : List Rw) (id t : Int) : Option Rw := rs.find? (atb id t)
def raK (o : Option Rw) : Int := match o with
  | some r => r.2.2.2.1
  | none => 0
def raP (o : Option Rw) : List (Int × Int) := match o with
  | some r => r.2.2.2.2
  | none => []
theorem rat_some {rs : List Rw} {id t : Int} {i : Nat} (h : i < rs.length) (hb : ∀ m (h : m < rs.length), m < i → atb id t rs[m] = false) (hi : atb id t rs[i] = true) : rat rs id t = some rs[i] := by
  unfold rat
  rw [List.find?_eq_some_iff_getElem]
  exact ⟨hi, i, h, rfl, fun j hj => by simp [hb j (by omega) hj]⟩
theorem rat_none {rs : List Rw} {id t : Int} (hb : ∀ m (h : m < rs.length), atb id t rs[m] = false) : rat rs id t = none := by
  unfold rat
  rw [List.find?_eq_none]
  intro x hx
  obtain ⟨m, hm, rfl⟩ := List.mem_iff_getElem.1 hx
  rw [hb m hm]; simp
/-- What RowAt tells, in memory of its own. -/
def RA (w : World) (rk : Int) (rp : List (Int × Int)) (rb : Bool) (e : Ending) (w' : World) : Prop :=
  ∃ a' cap', e = .returned (.tuple #[.agg #[.int .i64 rk, .slice a' rp.length cap'], .bool rb]) ∧ rp.length ≤ cap' ∧ ((a' = none ∧ rp = []) ∨ ∃ b, a' = some ⟨b, 0, none⟩ ∧ PtsOwn w' b rp) ∧ (∀ b off, a' = some ⟨b, off, none⟩ → w.heap.size ≤ b) ∧ Below w.heap.size w w'
theorem ra_no {w w' : World} {rk : Int} {rp : List (Int × Int)} {rb : Bool} (h1 : rk = 0) (h2 : rp = []) (h3 : rb = false) (hb : Below w.heap.size w w') : RA w rk rp rb (.returned (.tuple #[.agg #[.int .i64 0, .slice none 0 0], .bool false])) w' := by
  subst h1; subst h2; subst h3
  exact ⟨none, 0, rfl, Nat.le_refl _, .inl ⟨rfl, rfl⟩, fun _ _ e => (by cases e), hb⟩
theorem ra_yes {w w' : World} {rk kd : Int} {rp ps : List (Int × Int)} {rb : Bool} {g cap : Nat} (h1 : rk = kd) (h2 : rp = ps) (h3 : rb = true) (hc : ps.length ≤ cap) (hg : w.heap.size ≤ g) (ho : PtsOwn w' g ps) (hb : Below w.heap.size w w') : RA w rk rp rb (.returned (.tuple #[.agg #[.int .i64 kd, .slice (some ⟨g, 0, none⟩) ps.length cap], .bool true])) w' := by
  subst h1; subst h2; subst h3
  exact ⟨_, cap, rfl, hc, .inr ⟨g, rfl, ho⟩, fun _ _ e => (by cases e; exact hg), hb⟩
set_option maxRecDepth 100000 in
set_option maxHeartbeats 4000000 in
theorem spec_row {N : Nat → Prop} (now : Int) (a : Option Addr) (cap : Nat) (rs : List Rw) (id t : Int) (w : World) (hm : rs.length ≤ 1099511627776) (h : Rws N w a rs) (hpos : ∀ m (h : m < rs.length), 0 < rs[m].2.2.2.2.length) : Calls Tryz.prog 100 #[.agg #[.int .i64 now, .slice a rs.length cap], .int .i64 id, .int .i64 t] w fun e w' => RA w (raK (rat rs id t)) (raP (rat rs id t)) (rat rs id t).isSome e w' := by
  have HR := hid h
  have HPOS := hid hpos
  clear h hpos
  obtain ⟨n, hn⟩ : ∃ n, n = rs.length := ⟨_, rfl⟩
  have HN := hid hn.symm
  rw [← hn] at hm ⊢
  clear hn
  have HY : Hid (∀ i (h : i < rs.length), (∀ m (h : m < rs.length), m < i → atb id t rs[m] = false) → atb id t rs[i] = true → raK (rat rs id t) = rs[i].2.2.2.1 ∧ raP (rat rs id t) = rs[i].2.2.2.2 ∧ (rat rs id t).isSome = true) := hid (fun i h hb hi => by rw [rat_some h hb hi]; exact ⟨rfl, rfl, rfl⟩)
  have HNO : Hid ((∀ m (h : m < rs.length), atb id t rs[m] = false) → raK (rat rs id t) = 0 ∧ raP (rat rs id t) = [] ∧ (rat rs id t).isSome = false) := hid (fun hb => by rw [rat_none hb]; exact ⟨rfl, rfl, rfl⟩)
  generalize raK (rat rs id t) = rk at *
  generalize raP (rat rs id t) = rp at *
  generalize (rat rs id t).isSome = rb at *
  go_enter Tryz.func100, Tryz.ntmps100
  go_upto_region 1 with fail
  have hBx : Below w.heap.size w ((w.alloc (.cells #[.int .i64 now, .slice a n cap] 35)).alloc (.cells #[.int .i64 0, .slice none 0 0] 44)) := balloc (balloc (Below.refl _ _) _) _
  have g0 := old_alloc (o' := .cells #[.int .i64 0, .slice none 0 0] 44) (new_alloc w w.heap.size (.cells #[.int .i64 now, .slice a n cap] 35) rfl)
  have g1 := new_alloc (w.alloc (.cells #[.int .i64 now, .slice a n cap] 35)) (w.heap.size + 1) (.cells #[.int .i64 0, .slice none 0 0] 44) (by simp)
  generalize (w.alloc (.cells #[.int .i64 now, .slice a n cap] 35)).alloc (.cells #[.int .i64 0, .slice none 0 0] 44) = W0 at *
  go_wp2_with fail
  go_loopw [8] (fun ti wr => ∃ i : Nat, ti = .int .i64 i ∧ i ≤ n ∧ Hid (∀ m (h : m < rs.length), m < i → atb id t rs[m] = false) ∧ Hid (wr.heap[w.heap.size]? = some (.cells #[.int .i64 now, .slice a n cap] 35 (0, 0))) ∧ Hid (wr.heap[w.heap.size + 1]? = some (.cells #[.int .i64 0, .slice none 0 0] 44 (0, 0))) ∧ Hid (Below w.heap.size w wr)) (fun ti _ => n - (intOf ti).toNat)
  case atStart => exact ⟨0, rfl, Nat.zero_le _, hid (fun m h hh => absurd hh (by omega)), hid g0, hid g1, hid hBx⟩
  case round =>
    clear g0 g1 hBx
    obtain ⟨i, rfl, hi, HA, G0, G1, HBW⟩ := hrel
    obtain ⟨d0, d1, _, _⟩ := cell2r G0.out
    obtain ⟨v0, v1, w0, w1⟩ := cell2r G1.out
    by_cases hlt : i < n
    · have c1 : (i : Int) < (n : Int) := by omega
      have hir : i < rs.length := by rw [HN.out]; exact hlt
      obtain ⟨b, o, rfl, hbs, a', cap', k0, k1, k2, k3, k4, k5, k6, k7, _⟩ := (HR.out.below HBW.out).at i hir
      have HT := hid (show atb id t rs[i] = (decide (rs[i].1 = id) && thr (tr rs[i]) t) from rfl)
      have ST := hid (fun w' => spec_there rs[i] a' cap' t w')
      have SC := hid (fun (w' : World) (hw : Pts w' a' rs[i].2.2.2.2) => spec_copy rs[i].2.2.2.1 a' cap' rs[i].2.2.2.2 w' (HPOS.out i hir) k6 hw)
      have HYES := hid (HY.out i hir HA.out)
      have HNEXT : Hid (atb id t rs[i] = false → ∀ m (h : m < rs.length), m < i + 1 → atb id t rs[m] = false) := hid (fun e1 m h hm => by
        by_cases e : m = i
        · subst e; exact e1
        · exact HA.out m h (by omega))
      have K7 := hid k7
      clear k5 k6 k7
      unfold rwv at ST
      generalize atb id t rs[i] = q at HT HYES HNEXT
      generalize thr (tr rs[i]) t = q2 at *
      generalize rs[i].1 = id2 at *
      generalize rs[i].2.1 = fr at *
      generalize rs[i].2.2.1 = te at *
      generalize rs[i].2.2.2.1 = kd at *
      generalize rs[i].2.2.2.2 = ps at *
      cases qi : (id2 == id)
      · have hq : q = false := by rw [HT.out, show decide (id2 = id) = false by simpa using qi]; rfl
        have HF := hid (HNEXT.out hq)
        clear hq
        go_wp2_with fail
        go_roundw
        case rel => exact ⟨i + 1, by go_num, by omega, HF, G0, G1, HBW⟩
        case measure => simp [intOf]; omega
      have he : decide (id2 = id) = true := by simpa using qi
      cases q2
      · have HF := hid (HNEXT.out (by rw [HT.out, he]; rfl))
        go_wp2_with fail
        refine (ST.out _).mono ?_
        rintro e z ⟨rfl, hz⟩
        have HG0 := hid (keepheapA hz G0.out)
        have HG1 := hid (keepheapA hz G1.out)
        have HBz := hid (btrans HBW.out hz)
        clear hz
        go_wp2_with fail
        go_roundw
        case rel => exact ⟨i + 1, by go_num, by omega, HF, HG0, HG1, HBz⟩
        case measure => simp [intOf]; omega
      · have HF := hid (HYES.out (by rw [HT.out, he]; rfl))
        go_wp2_with fail
        refine (ST.out _).mono ?_
        rintro e z ⟨rfl, hz⟩
        have g0 := keepheapA hz G0.out
        have HG1 := hid (keepheapA hz G1.out)
        have HBz := hid (btrans HBW.out hz)
        have HPz := hid (K7.out.below hz)
        replace k3 := keepcell hz k3
        replace k4 := keepcell hz k4
        clear hz d0 d1 v0 v1 w0 w1 k0 k1 k2
        obtain ⟨d0, d1, _, _⟩ := cell2r g0
        go_wp2_with fail
        refine (SC.out _ HPz.out).mono ?_
        rintro e y ⟨g, cp, rfl, hcp, hgs, ho, hy⟩
        have g1 := keepheapA hy HG1.out
        have HBy := hid (btrans HBz.out hy)
        obtain ⟨v0, v1, w0, w1⟩ := cell2r g1
        have hgw : w.heap.size + 1 < g := Nat.lt_of_lt_of_le (lt_of_block HG1.out) hgs
        have HO := hid ho
        clear ho hy g0 d0 d1 k3 k4
        go_wp2_with fail
        have gF := set2r g1 (.int .i64 kd) (.slice (some ⟨g, 0, none⟩) ps.length cp)
        have bF := bset (bset HBy.out (q := w.heap.size + 1) (k := 0) (by omega) (.int .i64 kd)) (q := w.heap.size + 1) (k := 1) (by omega) (.slice (some ⟨g, 0, none⟩) ps.length cp)
        have oF : PtsOwn ((y.setCell ⟨w.heap.size + 1, 0, none⟩ (.int .i64 kd)).setCell ⟨w.heap.size + 1, 1, none⟩ (.slice (some ⟨g, 0, none⟩) ps.length cp)) g ps := by
          refine own_blk HO.out ?_ (by simp; exact HO.out.1)
          rw [Below.heap_setCell _ _ _ _ (by dsimp only; omega), Below.heap_setCell _ _ _ _ (by dsimp only; omega)]
        generalize (y.setCell ⟨w.heap.size + 1, 0, none⟩ (.int .i64 kd)).setCell ⟨w.heap.size + 1, 1, none⟩ (.slice (some ⟨g, 0, none⟩) ps.length cp) = wf at *
        obtain ⟨z0, z1, _, _⟩ := cell2r gF
        exact bodyPost_ret (v := .tuple #[.agg #[.int .i64 kd, .slice (some ⟨g, 0, none⟩) ps.length cp], .bool true]) (by simp [results, Tryz.results100, go_sem, z0, z1]) rfl (ra_yes HF.out.1 HF.out.2.1 HF.out.2.2 hcp (by omega) oF bF)
    · have HF := hid (HNO.out (fun m hm1 => HA.out m hm1 (by rw [HN.out] at hm1; omega)))
      have c1 : (n : Int) ≤ (i : Int) := by omega
      go_wp2_with fail
      have gF := set2r G1.out (.int .i64 0) (.slice none 0 0)
      have bF := bset (bset HBW.out (q := w.heap.size + 1) (k := 0) (by omega) (.int .i64 0)) (q := w.heap.size + 1) (k := 1) (by omega) (.slice none 0 0)
      generalize (wr.setCell ⟨w.heap.size + 1, 0, none⟩ (.int .i64 0)).setCell ⟨w.heap.size + 1, 1, none⟩ (.slice none 0 0) = wf at *
      obtain ⟨z0, z1, _, _⟩ := cell2r gF
      exact bodyPost_ret (v := .tuple #[.agg #[.int .i64 0, .slice none 0 0], .bool false]) (by simp [results, Tryz.results100, go_sem, z0, z1]) rfl (ra_no HF.out.1 HF.out.2.1 HF.out.2.2 bF)
/-- What shapeAt tells, in memory of the rows. -/
def SA (w : World) (rk : Int) (rp : List (Int × Int)) (rb : Bool) (e : Ending) (w' : World) : Prop :=
  ∃ a' cap', e = .returned (.tuple #[.agg #[.int .i64 rk, .slice a' rp.length cap'], .bool rb]) ∧ ((rb = false ∧ a' = none ∧ cap' = 0 ∧ rp = []) ∨ (rb = true ∧ 0 < rp.length ∧ rp.length ≤ 1099511627776 ∧ Pts w' a' rp)) ∧ Below w.heap.size w w'
set_option maxRecDepth 100000 in
set_option maxHeartbeats 4000000 in
theorem impl_shapeAt {N : Nat → Prop} (now : Int) (a : Option Addr) (cap : Nat) (rs : List Rw) (id t : Int) (w : World) (hm : rs.length ≤ 1099511627776) (h : Rws N w a rs) (hpos : ∀ m (h : m < rs.length), 0 < rs[m].2.2.2.2.length) : Calls Tryz.prog 101 #[.agg #[.int .i64 now, .slice a rs.length cap], .int .i64 id, .int .i64 t] w fun e w' => SA w (raK (rat rs id t)) (raP (rat rs id t)) (rat rs id t).isSome e w' := by
  have HR := hid h
  have HPOS := hid hpos
  clear h hpos
  obtain ⟨n, hn⟩ : ∃ n, n = rs.length := ⟨_, rfl⟩
  have HN := hid hn.symm
  rw [← hn] at hm ⊢
  clear hn
  have HY : Hid (∀ i (h : i < rs.length), (∀ m (h : m < rs.length), m < i → atb id t rs[m] = false) → atb id t rs[i] = true → raK (rat rs id t) = rs[i].2.2.2.1 ∧ raP (rat rs id t) = rs[i].2.2.2.2 ∧ (rat rs id t).isSome = true) := hid (fun i h hb hi => by rw [rat_some h hb hi]; exact ⟨rfl, rfl, rfl⟩)
  have HNO : Hid ((∀ m (h : m < rs.length), atb id t rs[m] = false) → raK (rat rs id t) = 0 ∧ raP (rat rs id t) = [] ∧ (rat rs id t).isSome = false) := hid (fun hb => by rw [rat_none hb]; exact ⟨rfl, rfl, rfl⟩)
  generalize raK (rat rs id t) = rk at *
  generalize raP (rat rs id t) = rp at *
  generalize (rat rs id t).isSome = rb at *
  go_enter Tryz.func101, Tryz.ntmps101
  go_upto_region 1 with fail
  have hBx : Below w.heap.size w ((w.alloc (.cells #[.int .i64 now, .slice a n cap] 35)).alloc (.cells #[.int .i64 0, .slice none 0 0] 44)) := balloc (balloc (Below.refl _ _) _) _
  have g0 := old_alloc (o' := .cells #[.int .i64 0, .slice none 0 0] 44) (new_alloc w w.heap.size (.cells #[.int .i64 now, .slice a n cap] 35) rfl)
  have g1 := new_alloc (w.alloc (.cells #[.int .i64 now, .slice a n cap] 35)) (w.heap.size + 1) (.cells #[.int .i64 0, .slice none 0 0] 44) (by simp)
  generalize (w.alloc (.cells #[.int .i64 now, .slice a n cap] 35)).alloc (.cells #[.int .i64 0, .slice none 0 0] 44) = W0 at *
  obtain ⟨d0, d1, _, _⟩ := cell2r g0
  go_wp2_with fail
  clear d0 d1 g0
  go_loopw [13] (fun ti wr => ∃ i : Nat, ti = .int .i64 i ∧ i ≤ n ∧ Hid (∀ m (h : m < rs.length), m < i → atb id t rs[m] = false) ∧ Hid (wr.heap[w.heap.size + 1]? = some (.cells #[.int .i64 0, .slice none 0 0] 44 (0, 0))) ∧ Hid (Below w.heap.size w wr)) (fun ti _ => n - (intOf ti).toNat)
  case atStart => exact ⟨0, rfl, Nat.zero_le _, hid (fun m h hh => absurd hh (by omega)), hid g1, hid hBx⟩
  case round =>
    clear g1 hBx
    obtain ⟨i, rfl, hi, HA, G1, HBW⟩ := hrel
    by_cases hlt : i < n
    · have c1 : (i : Int) < (n : Int) := by omega
      have hir : i < rs.length := by rw [HN.out]; exact hlt
      obtain ⟨b, o, rfl, hbs, a', cap', k0, k1, k2, k3, k4, k5, k6, k7, _⟩ := HR.out.at i hir
      replace k0 := keepcell HBW.out k0
      replace k1 := keepcell HBW.out k1
      replace k2 := keepcell HBW.out k2
      replace k3 := keepcell HBW.out k3
      replace k4 := keepcell HBW.out k4
      have HT := hid (show atb id t rs[i] = (decide (rs[i].1 = id) && thr (tr rs[i]) t) from rfl)
      have ST := hid (fun w' => impl_there rs[i] a' cap' t w')
      have HYES := hid (HY.out i hir HA.out)
      have HPI := hid (HPOS.out i hir)
      have HNEXT : Hid (atb id t rs[i] = false → ∀ m (h : m < rs.length), m < i + 1 → atb id t rs[m] = false) := hid (fun e1 m h hm => by
        by_cases e : m = i
        · subst e; exact e1
        · exact HA.out m h (by omega))
      have K7 := hid k7
      have K6 := hid k6
      clear k5 k6 k7
      unfold rwv at ST
      generalize atb id t rs[i] = q at HT HYES HNEXT
      generalize thr (tr rs[i]) t = q2 at *
      generalize rs[i].1 = id2 at *
      generalize rs[i].2.1 = fr at *
      generalize rs[i].2.2.1 = te at *
      generalize rs[i].2.2.2.1 = kd at *
      generalize rs[i].2.2.2.2 = ps at *
      go_upto_region 4 with fail
      have hBx : Below wr.heap.size wr (wr.alloc (.cells #[.int .i64 id2, .int .i64 fr, .int .i64 te, .int .i64 kd, .slice a' ps.length cap'] 126)) := balloc (Below.refl _ _) _
      have gx := new_alloc wr wr.heap.size (.cells #[.int .i64 id2, .int .i64 fr, .int .i64 te, .int .i64 kd, .slice a' ps.length cap'] 126) rfl
      have g1 := keepheapA hBx G1.out
      have hB := btrans HBW.out hBx
      clear k0 k1 k2 k3 k4 hBx
      generalize wr.alloc (.cells #[.int .i64 id2, .int .i64 fr, .int .i64 te, .int .i64 kd, .slice a' ps.length cap'] 126) = W1 at *
      generalize wr.heap.size = X at *
      obtain ⟨⟨x0, x1, x2, x3, x4⟩, _⟩ := cell5g gx
      cases qi : (id2 == id)
      · have hq : q = false := by rw [HT.out, show decide (id2 = id) = false by simpa using qi]; rfl
        have HF := hid (HNEXT.out hq)
        have HG := hid g1
        have HB2 := hid hB
        clear hq g1 hB gx
        go_wp2_with fail
        go_roundw
        case rel => exact ⟨i + 1, by go_num, by omega, HF, HG, HB2⟩
        case measure => simp [intOf]; omega
      have he : decide (id2 = id) = true := by simpa using qi
      have HGX := hid gx
      have HG := hid g1
      have HB2 := hid hB
      clear gx g1 hB
      cases q2
      · have HF := hid (HNEXT.out (by rw [HT.out, he]; rfl))
        go_wp2_with fail
        refine (ST.out _).mono ?_
        rintro e z ⟨rfl, hz⟩
        have HG1 := hid (keepheapA hz HG.out)
        have HBz := hid (btrans HB2.out hz)
        clear hz
        go_wp2_with fail
        go_roundw
        case rel => exact ⟨i + 1, by go_num, by omega, HF, HG1, HBz⟩
        case measure => simp [intOf]; omega
      · have HF := hid (HYES.out (by rw [HT.out, he]; rfl))
        go_wp2_with fail
        refine (ST.out _).mono ?_
        rintro e z ⟨rfl, hz⟩
        have gx := keepheapA hz HGX.out
        have g1 := keepheapA hz HG.out
        have HBz := hid (btrans HB2.out hz)
        clear hz x0 x1 x2 x3 x4
        obtain ⟨⟨x0, x1, x2, x3, x4⟩, _⟩ := cell5g gx
        obtain ⟨v0, v1, w0, w1⟩ := cell2r g1
        go_wp2_with fail
        have gF := set2r g1 (.int .i64 kd) (.slice a' ps.length cap')
        have hB3 : Below z.heap.size z z := Below.refl _ _
        have bF := bset (bset HBz.out (q := w.heap.size + 1) (k := 0) (by omega) (.int .i64 kd)) (q := w.heap.size + 1) (k := 1) (by omega) (.slice a' ps.length cap')
        have pF : Pts ((z.setCell ⟨w.heap.size + 1, 0, none⟩ (.int .i64 kd)).setCell ⟨w.heap.size + 1, 1, none⟩ (.slice a' ps.length cap')) a' ps := K7.out.below bF
        generalize (z.setCell ⟨w.heap.size + 1, 0, none⟩ (.int .i64 kd)).setCell ⟨w.heap.size + 1, 1, none⟩ (.slice a' ps.length cap') = wf at *
        obtain ⟨z0, z1, _, _⟩ := cell2r gF
        obtain ⟨e1, e2, e3⟩ := HF.out
        subst e1; subst e2; subst e3
        exact bodyPost_ret (v := .tuple #[.agg #[.int .i64 _, .slice a' _ cap'], .bool true]) (by simp [results, Tryz.results101, go_sem, z0, z1]) rfl ⟨a', cap', rfl, .inr ⟨rfl, HPI.out, K6.out, pF⟩, bF⟩
    · have HF := hid (HNO.out (fun m hm1 => HA.out m hm1 (by rw [HN.out] at hm1; omega)))
      have c1 : (n : Int) ≤ (i : Int) := by omega
      obtain ⟨v0, v1, w0, w1⟩ := cell2r G1.out
      go_wp2_with fail
      have gF := set2r G1.out (.int .i64 0) (.slice none 0 0)
      have bF := bset (bset HBW.out (q := w.heap.size + 1) (k := 0) (by omega) (.int .i64 0)) (q := w.heap.size + 1) (k := 1) (by omega) (.slice none 0 0)
      generalize (wr.setCell ⟨w.heap.size + 1, 0, none⟩ (.int .i64 0)).setCell ⟨w.heap.size + 1, 1, none⟩ (.slice none 0 0) = wf at *
      obtain ⟨z0, z1, _, _⟩ := cell2r gF
      obtain ⟨e1, e2, e3⟩ := HF.out
      subst e1; subst e2; subst e3
      exact bodyPost_ret (v := .tuple #[.agg #[.int .i64 0, .slice none 0 0], .bool false]) (by simp [results, Tryz.results101, go_sem, z0, z1]) rfl ⟨none, 0, rfl, .inl ⟨rfl, rfl, rfl, rfl⟩, bF⟩
end Go.Proofs.YtnajddjalagmoaaGreatDoor
namespace Go.Proofs.YtnajddjalagmoaaGreatDoor
open Go.RowKit
set_option linter.unusedSimpArgs false
set_option linter.unusedVariables false
def ratb (now : Int) (rs : List Rw) (id t : Int) : Option Rw := if rowsb now rs = true then rat rs id t else none
theorem shok_pos {k : Int} {ps : List (Int × Int)} (h : shok k ps = true) : 0 < ps.length := by
  unfold shok at h
  split at h
  · simp only [Bool.and_eq_true, decide_eq_true_eq] at h; omega
  split at h
  · simp only [lineb, Bool.and_eq_true, decide_eq_true_eq] at h; omega
  split at h
  · simp only [rectb, Bool.and_eq_true, decide_eq_true_eq] at h; omega
  split at h
  · simp only [ringOk, Bool.and_eq_true, decide_eq_true_eq] at h; omega
  · cases h
theorem rowsb_pos {now : Int} {rs : List Rw} (h : rowsb now rs = true) : ∀ m (h : m < rs.length), 0 < rs[m].2.2.2.2.length := by
  intro m hm
  unfold rowsb at h
  simp only [Bool.and_eq_true, List.all_eq_true] at h
  have := h.2.1 rs[m] (List.getElem_mem hm)
  unfold rowb at this
  simp only [Bool.and_eq_true] at this
  exact shok_pos this.2
set_option maxRecDepth 100000 in
set_option maxHeartbeats 2000000 in
theorem spec_RowAt {N : Nat → Prop} (now : Int) (a : Option Addr) (cap : Nat) (rs : List Rw) (id t : Int) (w : World) (hm : rs.length ≤ 1099511627776) (h : Rws N w a rs) : Calls Tryz.prog 72 #[.agg #[.int .i64 now, .slice a rs.length cap], .int .i64 id, .int .i64 t] w fun e w' => RA w (raK (ratb now rs id t)) (raP (ratb now rs id t)) (ratb now rs id t).isSome e w' := by
  have HOK := hid (fun (W : World) (hb : Below w.heap.size w W) => spec_RowsOk now a cap rs W hm (h.below hb))
  have HSR : Hid (rowsb now rs = true → ∀ (W : World) (hb : Below w.heap.size w W), Calls Tryz.prog 100 #[.agg #[.int .i64 now, .slice a rs.length cap], .int .i64 id, .int .i64 t] W fun e w' => RA W (raK (ratb now rs id t)) (raP (ratb now rs id t)) (ratb now rs id t).isSome e w') := hid (fun e W hb => by
    have hr : ratb now rs id t = rat rs id t := by unfold ratb; rw [if_pos e]
    rw [hr]
    exact spec_row now a cap rs id t W hm (h.below hb) (rowsb_pos e))
  have HNO : Hid (rowsb now rs = false → raK (ratb now rs id t) = 0 ∧ raP (ratb now rs id t) = [] ∧ (ratb now rs id t).isSome = false) := hid (fun e => by
    have hr : ratb now rs id t = none := by unfold ratb; rw [if_neg (by rw [e]; simp)]
    rw [hr]; exact ⟨rfl, rfl, rfl⟩)
  clear h
  generalize raK (ratb now rs id t) = rk at *
  generalize raP (ratb now rs id t) = rp at *
  generalize (ratb now rs id t).isSome = rb at *
  generalize rowsb now rs = ob at *
  generalize rs.length = n at *
  go_enter Tryz.func72, Tryz.ntmps72
  go_upto_region 1 with fail
  have hBx : Below w.heap.size w ((w.alloc (.cells #[.int .i64 now, .slice a n cap] 35)).alloc (.cells #[.int .i64 0, .slice none 0 0] 44)) := balloc (balloc (Below.refl _ _) _) _
  have g0 := old_alloc (o' := .cells #[.int .i64 0, .slice none 0 0] 44) (new_alloc w w.heap.size (.cells #[.int .i64 now, .slice a n cap] 35) rfl)
  have g1 := new_alloc (w.alloc (.cells #[.int .i64 now, .slice a n cap] 35)) (w.heap.size + 1) (.cells #[.int .i64 0, .slice none 0 0] 44) (by simp)
  generalize (w.alloc (.cells #[.int .i64 now, .slice a n cap] 35)).alloc (.cells #[.int .i64 0, .slice none 0 0] 44) = W0 at *
  obtain ⟨d0, d1, _, _⟩ := cell2r g0
  go_wp2_with fail
  refine (HOK.out _ hBx).mono ?_
  rintro e z ⟨rfl, hz⟩
  replace g0 := keepheapA hz g0
  replace g1 := keepheapA hz g1
  have HB := hid (btrans hBx hz)
  clear hBx hz HOK d0 d1
  obtain ⟨d0, d1, _, _⟩ := cell2r g0
  obtain ⟨v0, v1, w0, w1⟩ := cell2r g1
  cases ob
  · obtain ⟨e1, e2, e3⟩ := HNO.out rfl
    go_wp2_with fail
    have gF := set2r g1 (.int .i64 0) (.slice none 0 0)
    have bF := bset (bset HB.out (q := w.heap.size + 1) (k := 0) (by omega) (.int .i64 0)) (q := w.heap.size + 1) (k := 1) (by omega) (.slice none 0 0)
    generalize (z.setCell ⟨w.heap.size + 1, 0, none⟩ (.int .i64 0)).setCell ⟨w.heap.size + 1, 1, none⟩ (.slice none 0 0) = wf at *
    obtain ⟨z0, z1, _, _⟩ := cell2r gF
    exact bodyPost_ret (v := .tuple #[.agg #[.int .i64 0, .slice none 0 0], .bool false]) (by simp [results, Tryz.results72, go_sem, z0, z1]) rfl (ra_no e1 e2 e3 bF)
  · have SR := hid (HSR.out rfl z HB.out)
    have HG1 := hid g1
    clear HSR HNO g0 g1 v0 v1 w0 w1
    go_wp2_with fail
    refine SR.out.mono ?_
    rintro e y ⟨a', cap', rfl, hc, ho, hnew, hy⟩
    have g1 := keepheapA hy HG1.out
    have HBy := hid (btrans HB.out hy)
    have HO := hid ho
    have hzs := lt_of_block HG1.out
    clear ho hy d0 d1
    obtain ⟨v0, v1, w0, w1⟩ := cell2r g1
    go_wp2_with fail
    have gF := set2r g1 (.int .i64 rk) (.slice a' rp.length cap')
    have bF := bset (bset HBy.out (q := w.heap.size + 1) (k := 0) (by omega) (.int .i64 rk)) (q := w.heap.size + 1) (k := 1) (by omega) (.slice a' rp.length cap')
    have oF : (a' = none ∧ rp = []) ∨ ∃ b, a' = some ⟨b, 0, none⟩ ∧ PtsOwn ((y.setCell ⟨w.heap.size + 1, 0, none⟩ (.int .i64 rk)).setCell ⟨w.heap.size + 1, 1, none⟩ (.slice a' rp.length cap')) b rp := by
      rcases HO.out with h | ⟨b, e, h⟩
      · exact .inl h
      · have hb := hnew b 0 e
        refine .inr ⟨b, e, own_blk h ?_ (by simp; exact h.1)⟩
        rw [Below.heap_setCell _ _ _ _ (by dsimp only; omega), Below.heap_setCell _ _ _ _ (by dsimp only; omega)]
    generalize (y.setCell ⟨w.heap.size + 1, 0, none⟩ (.int .i64 rk)).setCell ⟨w.heap.size + 1, 1, none⟩ (.slice a' rp.length cap') = wf at *
    obtain ⟨z0, z1, _, _⟩ := cell2r gF
    exact bodyPost_ret (v := .tuple #[.agg #[.int .i64 rk, .slice a' rp.length cap'], .bool rb]) (by simp [results, Tryz.results72, go_sem, z0, z1]) rfl ⟨a', cap', rfl, hc, oF, fun b off e => by have := hnew b off e; omega, bF⟩
end Go.Proofs.YtnajddjalagmoaaGreatDoor
namespace Go.Proofs.YtnajddjalagmoaaGreatDoor
open Go.RowKit
set_option linter.unusedSimpArgs false
set_option linter.unusedVariables false
def txn (ts : List Tx) (n : Int) : Tx := ts.getD n.toNat (0, false, [])
theorem txn_at {ts : List Tx} {m : Nat} (h : m < ts.length) : txn ts (m : Int) = ts[m] := by
  unfold txn
  rw [show ((m : Int)).toNat = m by omega, List.getD_eq_getElem?_getD, List.getElem?_eq_getElem h]; rfl
def opn (now : Int) (rs : List Rw) (ts : List Tx) (n : Int) : Bool := storeb now rs ts && ((decide (0 ≤ n) && decide (n ≤ (ts.length : Int) - 1)) && (txn ts n).2.1)
def chf (cs : List Ch) (id : Int) : Option Ch := cs.find? (fun c => decide (c.1 = id))
theorem chf_some {cs : List Ch} {id : Int} {i : Nat} (h : i < cs.length) (hb : ∀ m (h : m < cs.length), m < i → cs[m].1 ≠ id) (hi : cs[i].1 = id) : chf cs id = some cs[i] := by
  unfold chf
  rw [List.find?_eq_some_iff_getElem]
  exact ⟨by simpa using hi, i, h, rfl, fun j hj => by simpa using hb j (by omega) hj⟩
theorem chf_none {cs : List Ch} {id : Int} (hb : ∀ m (h : m < cs.length), cs[m].1 ≠ id) : chf cs id = none := by
  unfold chf
  rw [List.find?_eq_none]
  intro x hx
  obtain ⟨m, hm, rfl⟩ := List.getElem_of_mem hx
  simpa using hb m hm
def seK (rs : List Rw) (cs : List Ch) (id t : Int) : Int := match chf cs id with
  | some c => if c.2.1 then 0 else c.2.2.1
  | none => raK (rat rs id t)
def seP (rs : List Rw) (cs : List Ch) (id t : Int) : List (Int × Int) := match chf cs id with
  | some c => if c.2.1 then [] else c.2.2.2
  | none => raP (rat rs id t)
def seB (rs : List Rw) (cs : List Ch) (id t : Int) : Bool := match chf cs id with
  | some c => !c.2.1
  | none => (rat rs id t).isSome
theorem se_some {rs : List Rw} {cs : List Ch} {id t : Int} {i : Nat} (h : i < cs.length) (hb : ∀ m (h : m < cs.length), m < i → cs[m].1 ≠ id) (hi : cs[i].1 = id) : (cs[i].2.1 = true → seK rs cs id t = 0 ∧ seP rs cs id t = [] ∧ seB rs cs id t = false) ∧ (cs[i].2.1 = false → seK rs cs id t = cs[i].2.2.1 ∧ seP rs cs id t = cs[i].2.2.2 ∧ seB rs cs id t = true) := by
  unfold seK seP seB
  rw [chf_some h hb hi]
  exact ⟨fun e => by simp [e], fun e => by simp [e]⟩
theorem se_none {rs : List Rw} {cs : List Ch} {id t : Int} (hb : ∀ m (h : m < cs.length), cs[m].1 ≠ id) : seK rs cs id t = raK (rat rs id t) ∧ seP rs cs id t = raP (rat rs id t) ∧ seB rs cs id t = (rat rs id t).isSome := by
  unfold seK seP seB
  rw [chf_none hb]
  exact ⟨rfl, rfl, rfl⟩
set_option maxRecDepth 100000 in
set_option maxHeartbeats 2000000 in
theorem spec_open {N1 N2 : Nat → Prop} (now : Int) (a ta : Option Addr) (cap tcap : Nat) (rs : List Rw) (ts : List Tx) (n : Int) (w : World) (hm : rs.length ≤ 1099511627776) (htm : ts.length ≤ 1099511627776) (hr : Rws N1 w a rs) (ht : Txs N2 1099511627776 w ta ts) : Calls Tryz.prog 22 #[.agg #[.int .i64 now, .slice a rs.length cap, .slice ta ts.length tcap], .int .i64 n] w fun e w' => e = .returned (.bool (opn now rs ts n)) ∧ Below w.heap.size w w' := by
  have HOK := hid (fun (W : World) (hb : Below w.heap.size w W) => spec_StoreOk now a ta cap tcap rs ts W hm htm (hr.below hb) (ht.below hb))
  have HTX := hid ht
  have HOP := hid (show opn now rs ts n = (storeb now rs ts && ((decide (0 ≤ n) && decide (n ≤ (ts.length : Int) - 1)) && (txn ts n).2.1)) from rfl)
  clear hr ht
  generalize opn now rs ts n = q at *
  generalize storeb now rs ts = ob at *
  obtain ⟨tn, hn⟩ : ∃ tn, tn = ts.length := ⟨_, rfl⟩
  have HN := hid hn.symm
  rw [← hn] at htm HOK HOP ⊢
  clear hn
  generalize rs.length = rn at *
  have hB0 : Below w.heap.size w (w.alloc (.cells #[.int .i64 now, .slice a rn cap, .slice ta tn tcap] 38)) := balloc (Below.refl _ _) _
  have g0 := new_alloc w w.heap.size (.cells #[.int .i64 now, .slice a rn cap, .slice ta tn tcap] 38) rfl
  go_enter Tryz.func22, Tryz.ntmps22
  go_upto_region 1 with fail
  generalize w.alloc (.cells #[.int .i64 now, .slice a rn cap, .slice ta tn tcap] 38) = W0 at *
  obtain ⟨⟨d0, d1, d2⟩, _⟩ := cellk3 g0
  go_wp2_with fail
  refine (HOK.out _ hB0).mono ?_
  rintro e z ⟨rfl, hz⟩
  replace g0 := keepheapA hz g0
  have HB := hid (btrans hB0 hz)
  clear hB0 hz HOK d0 d1 d2
  obtain ⟨⟨d0, d1, d2⟩, _⟩ := cellk3 g0
  clear g0
  cases ob
  · go_wp2_with fail
    go_ret
    exact ⟨by rw [HOP.out]; rfl, HB.out⟩
  · have HI := hid (fun W => in_r n 0 ((tn : Int) - 1) W)
    by_cases hin : 0 ≤ n ∧ n ≤ (tn : Int) - 1
    · have hq : (decide (0 ≤ n) && decide (n ≤ (tn : Int) - 1)) = true := by simp [hin.1, hin.2]
      have HQ := hid (show q = (txn ts n).2.1 by rw [HOP.out, hq]; simp)
      rw [hq] at HI
      obtain ⟨m, rfl⟩ : ∃ m : Nat, n = (m : Int) := ⟨n.toNat, by omega⟩
      have hmn : m < tn := by omega
      have hmr : m < ts.length := by rw [HN.out]; exact hmn
      obtain ⟨b, o, rfl, hbs, a', cap', k0, k1, k2, _, _, _, _⟩ := (HTX.out.below HB.out).at m hmr
      have HQ2 := hid (show ts[m].2.1 = q by rw [HQ.out, txn_at hmr])
      generalize ts[m].2.1 = q2 at *
      clear HQ hq hin HOP
      go_wp2_with fail
      refine (HI.out _).mono ?_
      rintro e z2 ⟨rfl, hz2⟩
      replace hz2 := hz2.symm
      subst hz2
      go_wp2_with fail
      go_ret
      exact ⟨by rw [HQ2.out]; rfl, HB.out⟩
    · have hq : (decide (0 ≤ n) && decide (n ≤ (tn : Int) - 1)) = false := by
        by_cases h1 : 0 ≤ n
        · have : ¬ n ≤ (tn : Int) - 1 := fun h => hin ⟨h1, h⟩
          simp [this]
        · simp [h1]
      have HQ := hid (show q = false by rw [HOP.out, hq]; simp)
      rw [hq] at HI
      go_wp2_with fail
      refine (HI.out _).mono ?_
      rintro e z2 ⟨rfl, hz2⟩
      replace hz2 := hz2.symm
      subst hz2
      go_wp2_with fail
      go_ret
      exact ⟨by rw [HQ.out]; rfl, HB.out⟩
set_option maxRecDepth 100000 in
set_option maxHeartbeats 4000000 in
theorem spec_sees {N1 N2 : Nat → Prop} (now : Int) (a ta : Option Addr) (cap tcap : Nat) (rs : List Rw) (ts : List Tx) (m : Nat) (id : Int) (w : World) (hm : rs.length ≤ 1099511627776) (htm : ts.length ≤ 1099511627776) (hr : Rws N1 w a rs) (ht : Txs N2 1099511627776 w ta ts) (hmr : m < ts.length) (hrb : rowsb now rs = true) (hpos : ∀ i (h : i < ts[m].2.2.length), ts[m].2.2[i].2.1 = false → 0 < ts[m].2.2[i].2.2.2.length) : Calls Tryz.prog 41 #[.agg #[.int .i64 now, .slice a rs.length cap, .slice ta ts.length tcap], .int .i64 m, .int .i64 id] w fun e w' => RA w (seK rs ts[m].2.2 id ts[m].1) (seP rs ts[m].2.2 id ts[m].1) (seB rs ts[m].2.2 id ts[m].1) e w' := by
  have HSR : Hid (∀ (W : World) (hb : Below w.heap.size w W), Calls Tryz.prog 72 #[.agg #[.int .i64 now, .slice a rs.length cap], .int .i64 id, .int .i64 ts[m].1] W fun e w' => RA W (raK (rat rs id ts[m].1)) (raP (rat rs id ts[m].1)) (rat rs id ts[m].1).isSome e w') := hid (fun W hb => by
    have hrr : ratb now rs id ts[m].1 = rat rs id ts[m].1 := by unfold ratb; rw [if_pos hrb]
    have := spec_RowAt now a cap rs id ts[m].1 W hm (hr.below hb)
    rw [hrr] at this
    exact this)
  obtain ⟨b, o, rfl, hbs, ca, ccap, k0, k1, k2, _, hcm, hcs, _⟩ := ht.at m hmr
  have HCS := hid hcs
  have HPOS := hid hpos
  clear hr ht hcs hpos
  generalize ts[m].1 = st at *
  generalize ts[m].2.1 = op at *
  generalize ts[m].2.2 = cs at *
  have HY := hid (fun i h hb hi => se_some (rs := rs) (cs := cs) (id := id) (t := st) (i := i) h hb hi)
  have HNO := hid (fun hb => se_none (rs := rs) (cs := cs) (id := id) (t := st) hb)
  generalize seK rs cs id st = sk at *
  generalize seP rs cs id st = sp at *
  generalize seB rs cs id st = sb at *
  generalize raK (rat rs id st) = rk at *
  generalize raP (rat rs id st) = rp at *
  generalize (rat rs id st).isSome = rb at *
  have c0 : (m : Int) < (ts.length : Int) := by omega
  generalize ts.length = tn at *
  generalize rs.length = rn at *
  obtain ⟨n, hn⟩ : ∃ n, n = cs.length := ⟨_, rfl⟩
  have HN := hid hn.symm
  rw [← hn] at hcm k2
  clear hn
  go_enter Tryz.func41, Tryz.ntmps41
  go_upto_region 1 with fail
  have hBx : Below w.heap.size w ((w.alloc (.cells #[.int .i64 now, .slice a rn cap, .slice (some ⟨b, o, none⟩) tn tcap] 38)).alloc (.cells #[.int .i64 0, .slice none 0 0] 44)) := balloc (balloc (Below.refl _ _) _) _
  have g0 := old_alloc (o' := .cells #[.int .i64 0, .slice none 0 0] 44) (new_alloc w w.heap.size (.cells #[.int .i64 now, .slice a rn cap, .slice (some ⟨b, o, none⟩) tn tcap] 38) rfl)
  have g1 := new_alloc (w.alloc (.cells #[.int .i64 now, .slice a rn cap, .slice (some ⟨b, o, none⟩) tn tcap] 38)) (w.heap.size + 1) (.cells #[.int .i64 0, .slice none 0 0] 44) (by simp)
  have hs0 : ((w.alloc (.cells #[.int .i64 now, .slice a rn cap, .slice (some ⟨b, o, none⟩) tn tcap] 38)).alloc (.cells #[.int .i64 0, .slice none 0 0] 44)).heap.size = w.heap.size + 1 + 1 := by simp
  generalize (w.alloc (.cells #[.int .i64 now, .slice a rn cap, .slice (some ⟨b, o, none⟩) tn tcap] 38)).alloc (.cells #[.int .i64 0, .slice none 0 0] 44) = W0 at *
  obtain ⟨⟨d0, d1, d2⟩, _⟩ := cellk3 g0
  replace k0 := keepcell hBx k0
  replace k1 := keepcell hBx k1
  replace k2 := keepcell hBx k2
  go_upto_region 2 with fail
  have hBy : Below w.heap.size w (W0.alloc (.cells #[.int .i64 st, .bool op, .slice ca n ccap] 63)) := balloc hBx _
  have g2 := new_alloc W0 (w.heap.size + 1 + 1) (.cells #[.int .i64 st, .bool op, .slice ca n ccap] 63) (by omega)
  replace g0 := old_alloc (o' := (.cells #[.int .i64 st, .bool op, .slice ca n ccap] 63)) g0
  replace g1 := old_alloc (o' := (.cells #[.int .i64 st, .bool op, .slice ca n ccap] 63)) g1
  clear k0 k1 k2 d0 d1 d2 hBx
  generalize W0.alloc (.cells #[.int .i64 st, .bool op, .slice ca n ccap] 63) = W1 at *
  go_wp2_with fail
  go_loopw [9] (fun ti wr => ∃ i : Nat, ti = .int .i64 i ∧ i ≤ n ∧ Hid (∀ m (h : m < cs.length), m < i → cs[m].1 ≠ id) ∧ Hid (wr.heap[w.heap.size]? = some (.cells #[.int .i64 now, .slice a rn cap, .slice (some ⟨b, o, none⟩) tn tcap] 38 (0, 0))) ∧ Hid (wr.heap[w.heap.size + 1]? = some (.cells #[.int .i64 0, .slice none 0 0] 44 (0, 0))) ∧ Hid (wr.heap[w.heap.size + 1 + 1]? = some (.cells #[.int .i64 st, .bool op, .slice ca n ccap] 63 (0, 0))) ∧ Hid (Below w.heap.size w wr)) (fun ti _ => n - (intOf ti).toNat)
  case atStart => exact ⟨0, rfl, Nat.zero_le _, hid (fun m h hh => absurd hh (by omega)), hid g0, hid g1, hid g2, hid hBy⟩
  case round =>
    clear g0 g1 g2 hBy
    obtain ⟨i, rfl, hi, HA, G0, G1, G2, HBW⟩ := hrel
    obtain ⟨⟨d0, d1, d2⟩, _⟩ := cellk3 G0.out
    obtain ⟨v0, v1, w0, w1⟩ := cell2r G1.out
    obtain ⟨⟨t0, t1, t2⟩, _⟩ := cellk3 G2.out
    by_cases hlt : i < n
    · have c1 : (i : Int) < (n : Int) := by omega
      have hir : i < cs.length := by rw [HN.out]; exact hlt
      obtain ⟨b', o', rfl, hbs', a', cap', x0, x1, x2, x3, x4, x5, x6, _⟩ := (HCS.out.below HBW.out).at i hir
      have SC := hid (fun (hg : cs[i].2.1 = false) (w' : World) (hw : Pts w' a' cs[i].2.2.2) => spec_copy cs[i].2.2.1 a' cap' cs[i].2.2.2 w' (HPOS.out i hir hg) x5 hw)
      have HYES := hid (HY.out i hir HA.out)
      have HNEXT : Hid (cs[i].1 ≠ id → ∀ m (h : m < cs.length), m < i + 1 → cs[m].1 ≠ id) := hid (fun e1 m h hm => by
        by_cases e : m = i
        · subst e; exact e1
        · exact HA.out m h (by omega))
      have K7 := hid x6
      clear x4 x5 x6
      generalize cs[i].1 = id2 at *
      generalize cs[i].2.1 = gn at *
      generalize cs[i].2.2.1 = kd at *
      generalize cs[i].2.2.2 = ps at *
      cases qi : (id2 == id)
      · have hq : id2 ≠ id := by simpa using qi
        have HF := hid (HNEXT.out hq)
        clear hq
        go_wp2_with fail
        go_roundw
        case rel => exact ⟨i + 1, by go_num, by omega, HF, G0, G1, G2, HBW⟩
        case measure => simp [intOf]; omega
      have he : id2 = id := by simpa using qi
      cases gn
      · have HF := hid ((HYES.out he).2 rfl)
        have SC2 := hid (SC.out rfl wr K7.out)
        clear he HYES HNEXT SC
        go_wp2_with fail
        refine SC2.out.mono ?_
        rintro e y ⟨g, cp, rfl, hcp, hgs, ho, hy⟩
        have g1 := keepheapA hy G1.out
        have HBy := hid (btrans HBW.out hy)
        have hgw : w.heap.size + 1 < g := Nat.lt_of_lt_of_le (lt_of_block G1.out) hgs
        clear d0 d1 d2 v0 v1 w0 w1 t0 t1 t2 x0 x1 x2 x3
        obtain ⟨v0, v1, w0, w1⟩ := cell2r g1
        have HO := hid ho
        clear ho hy SC2
        go_wp2_with fail
        have gF := set2r g1 (.int .i64 kd) (.slice (some ⟨g, 0, none⟩) ps.length cp)
        have bF := bset (bset HBy.out (q := w.heap.size + 1) (k := 0) (by omega) (.int .i64 kd)) (q := w.heap.size + 1) (k := 1) (by omega) (.slice (some ⟨g, 0, none⟩) ps.length cp)
        have oF : PtsOwn ((y.setCell ⟨w.heap.size + 1, 0, none⟩ (.int .i64 kd)).setCell ⟨w.heap.size + 1, 1, none⟩ (.slice (some ⟨g, 0, none⟩) ps.length cp)) g ps := by
          refine own_blk HO.out ?_ (by simp; exact HO.out.1)
          rw [Below.heap_setCell _ _ _ _ (by dsimp only; omega), Below.heap_setCell _ _ _ _ (by dsimp only; omega)]
        generalize (y.setCell ⟨w.heap.size + 1, 0, none⟩ (.int .i64 kd)).setCell ⟨w.heap.size + 1, 1, none⟩ (.slice (some ⟨g, 0, none⟩) ps.length cp) = wf at *
        obtain ⟨z0, z1, _, _⟩ := cell2r gF
        exact bodyPost_ret (v := .tuple #[.agg #[.int .i64 kd, .slice (some ⟨g, 0, none⟩) ps.length cp], .bool true]) (by simp [results, Tryz.results41, go_sem, z0, z1]) rfl (ra_yes HF.out.1 HF.out.2.1 HF.out.2.2 hcp (by omega) oF bF)
      · have HF := hid ((HYES.out he).1 rfl)
        clear he HYES HNEXT SC
        go_wp2_with fail
        have gF := set2r G1.out (.int .i64 0) (.slice none 0 0)
        have bF := bset (bset HBW.out (q := w.heap.size + 1) (k := 0) (by omega) (.int .i64 0)) (q := w.heap.size + 1) (k := 1) (by omega) (.slice none 0 0)
        generalize (wr.setCell ⟨w.heap.size + 1, 0, none⟩ (.int .i64 0)).setCell ⟨w.heap.size + 1, 1, none⟩ (.slice none 0 0) = wf at *
        obtain ⟨z0, z1, _, _⟩ := cell2r gF
        exact bodyPost_ret (v := .tuple #[.agg #[.int .i64 0, .slice none 0 0], .bool false]) (by simp [results, Tryz.results41, go_sem, z0, z1]) rfl (ra_no HF.out.1 HF.out.2.1 HF.out.2.2 bF)
    · have HF := hid (HNO.out (fun m hm1 => HA.out m hm1 (by rw [HN.out] at hm1; omega)))
      have c1 : (n : Int) ≤ (i : Int) := by omega
      have SR := hid (HSR.out wr HBW.out)
      go_wp2_with fail
      refine SR.out.mono ?_
      rintro e y ⟨a', cap', rfl, hc, ho, hnew, hy⟩
      have g1 := keepheapA hy G1.out
      have HBy := hid (btrans HBW.out hy)
      have HO := hid ho
      have hzs := lt_of_block G1.out
      clear ho hy d0 d1 d2 v0 v1 w0 w1 t0 t1 t2
      obtain ⟨v0, v1, w0, w1⟩ := cell2r g1
      obtain ⟨f1, f2, f3⟩ := HF.out
      subst f1; subst f2; subst f3
      go_wp2_with fail
      have gF := set2r g1 (.int .i64 sk) (.slice a' sp.length cap')
      have bF := bset (bset HBy.out (q := w.heap.size + 1) (k := 0) (by omega) (.int .i64 sk)) (q := w.heap.size + 1) (k := 1) (by omega) (.slice a' sp.length cap')
      have oF : (a' = none ∧ sp = []) ∨ ∃ b, a' = some ⟨b, 0, none⟩ ∧ PtsOwn ((y.setCell ⟨w.heap.size + 1, 0, none⟩ (.int .i64 sk)).setCell ⟨w.heap.size + 1, 1, none⟩ (.slice a' sp.length cap')) b sp := by
        rcases HO.out with h | ⟨b, e, h⟩
        · exact .inl h
        · have hb := hnew b 0 e
          refine .inr ⟨b, e, own_blk h ?_ (by simp; exact h.1)⟩
          rw [Below.heap_setCell _ _ _ _ (by dsimp only; omega), Below.heap_setCell _ _ _ _ (by dsimp only; omega)]
      have hlw := HBW.out.size
      generalize (y.setCell ⟨w.heap.size + 1, 0, none⟩ (.int .i64 sk)).setCell ⟨w.heap.size + 1, 1, none⟩ (.slice a' sp.length cap') = wf at *
      obtain ⟨z0, z1, _, _⟩ := cell2r gF
      exact bodyPost_ret (v := .tuple #[.agg #[.int .i64 sk, .slice a' sp.length cap'], .bool sb]) (by simp [results, Tryz.results41, go_sem, z0, z1]) rfl ⟨a', cap', rfl, hc, oF, fun b off e => by have := hnew b off e; omega, bF⟩
/-- What an open transaction has. -/
theorem opn_yes {now : Int} {rs : List Rw} {ts : List Tx} {n : Int} (h : opn now rs ts n = true) : ∃ m : Nat, n = (m : Int) ∧ ∃ hm : m < ts.length, rowsb now rs = true ∧ txn ts n = ts[m] ∧ edb ts[m].2.2 = true ∧ ts[m].2.1 = true := by
  unfold opn storeb at h
  simp only [Bool.and_eq_true, decide_eq_true_eq, List.all_eq_true] at h
  obtain ⟨⟨h1, _, h2⟩, ⟨h3, h4⟩, h5⟩ := h
  obtain ⟨m, rfl⟩ : ∃ m : Nat, n = (m : Int) := ⟨n.toNat, by omega⟩
  have hm : m < ts.length := by omega
  have hx := h2 ts[m] (List.getElem_mem hm)
  unfold txb at hx
  simp only [Bool.and_eq_true] at hx
  refine ⟨m, rfl, hm, h1, txn_at hm, hx.2, ?_⟩
  rw [txn_at hm] at h5; exact h5
theorem edb_pos {cs : List Ch} (h : edb cs = true) : ∀ i (h : i < cs.length), cs[i].2.1 = false → 0 < cs[i].2.2.2.length := by
  intro i hi hg
  unfold edb at h
  rw [List.all_eq_true] at h
  have := h i (List.mem_range.2 hi)
  unfold edi chb at this
  rw [getD_ch hi, hg] at this
  simp at this
  exact shok_pos this.1.2
end Go.Proofs.YtnajddjalagmoaaGreatDoor
namespace Go.Proofs.YtnajddjalagmoaaGreatDoor
open Go.RowKit
set_option linter.unusedSimpArgs false
set_option linter.unusedVariables false
theorem keepheapW {w w' : World} (hb : Below w.heap.size w w') {b : Nat} {o : Obj} (h : w.heap[b]? = some o) : w'.heap[b]? = some o := (hb.block b (by by_cases q : b < w.heap.size; exact q; rw [Array.getElem?_eq_none (by omega)] at h; cases h)).trans h
/-- There is a transaction of the number, and it is open. -/
def gob (ts : List Tx) (n : Int) : Bool := decide (0 ≤ n) && (decide (n < (ts.length : Int)) && (txn ts n).2.1)
theorem gob_opn {now : Int} {rs : List Rw} {ts : List Tx} {n : Int} : opn now rs ts n = (storeb now rs ts && gob ts n) := by
  unfold opn gob
  have : decide (n ≤ (ts.length : Int) - 1) = decide (n < (ts.length : Int)) := by
    by_cases h : n < (ts.length : Int)
    · rw [decide_eq_true h, decide_eq_true (by omega)]
    · rw [decide_eq_false h, decide_eq_false (by omega)]
  rw [this, Bool.and_assoc]
set_option maxRecDepth 100000 in
set_option maxHeartbeats 2000000 in
theorem goes_c {N : Nat → Prop} (now : Int) (a ta : Option Addr) (rn cap tcap : Nat) (ts : List Tx) (n : Int) (w : World) (htm : ts.length ≤ 1099511627776) (ht : Txs N 1099511627776 w ta ts) : Calls Tryz.prog 88 #[.agg #[.int .i64 now, .slice a rn cap, .slice ta ts.length tcap], .int .i64 n] w fun e w' => e = .returned (.bool (gob ts n)) ∧ Below w.heap.size w w' := by
  have HTX := hid ht
  have HG := hid (show gob ts n = (decide (0 ≤ n) && (decide (n < (ts.length : Int)) && (txn ts n).2.1)) from rfl)
  clear ht
  generalize gob ts n = gb at *
  obtain ⟨tn, hn⟩ : ∃ tn, tn = ts.length := ⟨_, rfl⟩
  have HN := hid hn.symm
  rw [← hn] at htm HG ⊢
  clear hn
  have hB : Below w.heap.size w (w.alloc (.cells #[.int .i64 now, .slice a rn cap, .slice ta tn tcap] 38)) := balloc (Below.refl _ _) _
  have g0 := new_alloc w w.heap.size (.cells #[.int .i64 now, .slice a rn cap, .slice ta tn tcap] 38) rfl
  go_enter Tryz.func88, Tryz.ntmps88
  go_upto_region 1 with fail
  generalize w.alloc (.cells #[.int .i64 now, .slice a rn cap, .slice ta tn tcap] 38) = W at *
  obtain ⟨⟨d0, d1, d2⟩, _⟩ := cellk3 g0
  by_cases h1 : 0 ≤ n
  · by_cases h2 : n < (tn : Int)
    · obtain ⟨m, rfl⟩ : ∃ m : Nat, n = (m : Int) := ⟨n.toNat, by omega⟩
      have hmr : m < ts.length := by rw [HN.out]; omega
      obtain ⟨b, o, rfl, hbs, a', cap', k0, k1, k2, _, _, _, _⟩ := (HTX.out.below hB).at m hmr
      have HQ : Hid (gb = ts[m].2.1) := hid (by rw [HG.out, txn_at hmr]; simp [h1, h2])
      clear HG k0 k2
      generalize ts[m].2.1 = op at *
      go_wp2_with fail
      go_ret
      exact ⟨by rw [HQ.out]; rfl, hB⟩
    · have HQ : Hid (gb = false) := hid (by rw [HG.out]; simp [h2])
      have h2' : (tn : Int) ≤ n := by omega
      clear HG
      go_wp2_with fail
      go_ret
      exact ⟨by rw [HQ.out]; rfl, hB⟩
  · have HQ : Hid (gb = false) := hid (by rw [HG.out]; simp [h1])
    clear HG
    go_wp2_with fail
    go_ret
    exact ⟨by rw [HQ.out]; rfl, hB⟩
set_option maxRecDepth 100000 in
set_option maxHeartbeats 4000000 in
theorem atwork_c (now : Int) (a ca : Option Addr) (rn cap b o tn tcap m n ccap : Nat) (st : Int) (op : Bool) (w : World) (hmt : m < tn) (htm : tn ≤ 1099511627776) (k0 : w.cell? ⟨b, o + m * 3, none⟩ = some (.int .i64 st)) (k1 : w.cell? ⟨b, o + m * 3 + 1, none⟩ = some (.bool op)) (k2 : w.cell? ⟨b, o + m * 3 + 2, none⟩ = some (.slice ca n ccap)) : Calls Tryz.prog 90 #[.agg #[.int .i64 now, .slice a rn cap, .slice (some ⟨b, o, none⟩) tn tcap], .int .i64 m] w fun e w' => e = .returned (.agg #[.slice ca n ccap, .int .i64 st, .bool op, .int .i64 now, .slice a rn cap]) ∧ Below w.heap.size w w' := by
  have c0 : (m : Int) < (tn : Int) := by omega
  have c0'' : (0 : Int) ≤ (m : Int) := by omega
  have hB0 : Below w.heap.size w ((w.alloc (.cells #[.int .i64 now, .slice a rn cap, .slice (some ⟨b, o, none⟩) tn tcap] 38)).alloc (.cells #[.slice none 0 0, .int .i64 0, .bool false, .int .i64 0, .slice none 0 0] 104)) := balloc (balloc (Below.refl _ _) _) _
  have g0 := old_alloc (o' := (.cells #[.slice none 0 0, .int .i64 0, .bool false, .int .i64 0, .slice none 0 0] 104)) (new_alloc w w.heap.size (.cells #[.int .i64 now, .slice a rn cap, .slice (some ⟨b, o, none⟩) tn tcap] 38) rfl)
  have g1 := new_alloc (w.alloc (.cells #[.int .i64 now, .slice a rn cap, .slice (some ⟨b, o, none⟩) tn tcap] 38)) (w.heap.size + 1) (.cells #[.slice none 0 0, .int .i64 0, .bool false, .int .i64 0, .slice none 0 0] 104) (by simp)
  replace k0 := keepcell hB0 k0
  replace k1 := keepcell hB0 k1
  replace k2 := keepcell hB0 k2
  go_enter Tryz.func90, Tryz.ntmps90
  go_upto_region 1 with fail
  generalize (w.alloc (.cells #[.int .i64 now, .slice a rn cap, .slice (some ⟨b, o, none⟩) tn tcap] 38)).alloc (.cells #[.slice none 0 0, .int .i64 0, .bool false, .int .i64 0, .slice none 0 0] 104) = z at *
  obtain ⟨⟨d0, d1, d2⟩, _⟩ := cellk3 g0
  go_upto_region 2 with fail
  have hBt : Below z.heap.size z (z.alloc (.cells #[.int .i64 st, .bool op, .slice ca n ccap] 63)) := balloc (Below.refl _ _) _
  have g2 := new_alloc z z.heap.size (.cells #[.int .i64 st, .bool op, .slice ca n ccap] 63) rfl
  replace g0 := keepheapW hBt g0
  replace g1 := keepheapW hBt g1
  have HB2 := hid (btrans hB0 hBt)
  clear hBt d0 d1 d2 k0 k1 k2 hB0
  generalize z.alloc (.cells #[.int .i64 st, .bool op, .slice ca n ccap] 63) = Y at *
  generalize z.heap.size = Z at *
  obtain ⟨⟨d0, d1, d2⟩, _⟩ := cellk3 g0
  obtain ⟨⟨t0, t1, t2⟩, _⟩ := cellk3 g2
  obtain ⟨⟨f0, f1, f2, f3, f4⟩, p0, p1, p2, p3, p4⟩ := cell5g g1
  go_wp2_with fail
  have gF := set5 g1 (.slice ca n ccap) (.int .i64 st) (.bool op) (.int .i64 now) (.slice a rn cap)
  have bF := bset (bset (bset (bset (bset HB2.out (q := w.heap.size + 1) (k := 0) (by omega) (.slice ca n ccap)) (q := w.heap.size + 1) (k := 1) (by omega) (.int .i64 st)) (q := w.heap.size + 1) (k := 2) (by omega) (.bool op)) (q := w.heap.size + 1) (k := 3) (by omega) (.int .i64 now)) (q := w.heap.size + 1) (k := 4) (by omega) (.slice a rn cap)
  generalize (((((Y.setCell ⟨w.heap.size + 1, 0, none⟩ (.slice ca n ccap)).setCell ⟨w.heap.size + 1, 1, none⟩ (.int .i64 st)).setCell ⟨w.heap.size + 1, 2, none⟩ (.bool op)).setCell ⟨w.heap.size + 1, 3, none⟩ (.int .i64 now)).setCell ⟨w.heap.size + 1, 4, none⟩ (.slice a rn cap)) = wf at *
  obtain ⟨⟨z0, z1, z2, z3, z4⟩, _⟩ := cell5g gF
  exact bodyPost_ret (v := .agg #[.slice ca n ccap, .int .i64 st, .bool op, .int .i64 now, .slice a rn cap]) (by simp [results, Tryz.results90, go_sem, z0, z1, z2, z3, z4]) rfl ⟨rfl, bF⟩
end Go.Proofs.YtnajddjalagmoaaGreatDoor
namespace Go.Proofs.YtnajddjalagmoaaGreatDoor
open Go.RowKit
set_option linter.unusedSimpArgs false
set_option linter.unusedVariables false
def zrun : Value := .agg #[.slice none 0 0, .int .i64 0, .bool false, .int .i64 0, .slice none 0 0]
set_option maxRecDepth 100000 in
set_option maxHeartbeats 4000000 in
theorem run_no {N1 N2 : Nat → Prop} (now : Int) (a ta : Option Addr) (cap tcap : Nat) (rs : List Rw) (ts : List Tx) (n : Int) (w : World) (hm : rs.length ≤ 1099511627776) (htm : ts.length ≤ 1099511627776) (hr : Rws N1 w a rs) (ht : Txs N2 1099511627776 w ta ts) (et : TypeId) (ev : Value) (hg : w.cell? ⟨0, 0, none⟩ = some (.iface et ev)) (h : opn now rs ts n = false) : Calls Tryz.prog 57 #[.agg #[.int .i64 now, .slice a rs.length cap, .slice ta ts.length tcap], .int .i64 n] w fun e w' => e = .returned (.tuple #[zrun, .iface 111 (.agg #[.int .i64 1, .iface et ev])]) ∧ Below w.heap.size w w' := by
  have HOK := hid (fun (W : World) (hb : Below w.heap.size w W) => impl_StoreOk now a ta cap tcap rs ts W hm htm (hr.below hb) (ht.below hb))
  have HGO := hid (fun (W : World) (hb : Below w.heap.size w W) => goes_c now a ta rs.length cap tcap ts n W htm (ht.below hb))
  rw [gob_opn] at h
  clear hr ht
  generalize storeb now rs ts = ob at *
  generalize gob ts n = gb at *
  generalize ts.length = tn at *
  generalize rs.length = rn at *
  have hB0 : Below w.heap.size w ((w.alloc (.cells #[.int .i64 now, .slice a rn cap, .slice ta tn tcap] 38)).alloc (.cells #[.slice none 0 0, .int .i64 0, .bool false, .int .i64 0, .slice none 0 0] 104)) := balloc (balloc (Below.refl _ _) _) _
  have g0 := old_alloc (o' := (.cells #[.slice none 0 0, .int .i64 0, .bool false, .int .i64 0, .slice none 0 0] 104)) (new_alloc w w.heap.size (.cells #[.int .i64 now, .slice a rn cap, .slice ta tn tcap] 38) rfl)
  have g1 := new_alloc (w.alloc (.cells #[.int .i64 now, .slice a rn cap, .slice ta tn tcap] 38)) (w.heap.size + 1) (.cells #[.slice none 0 0, .int .i64 0, .bool false, .int .i64 0, .slice none 0 0] 104) (by simp)
  go_enter Tryz.func57, Tryz.ntmps57
  go_upto_region 1 with fail
  generalize (w.alloc (.cells #[.int .i64 now, .slice a rn cap, .slice ta tn tcap] 38)).alloc (.cells #[.slice none 0 0, .int .i64 0, .bool false, .int .i64 0, .slice none 0 0] 104) = W0 at *
  obtain ⟨⟨d0, d1, d2⟩, _⟩ := cellk3 g0
  go_wp2_with fail
  refine (HGO.out _ hB0).mono ?_
  rintro e z0 ⟨rfl, hz⟩
  replace g0 := keepheapA hz g0
  replace g1 := keepheapA hz g1
  have hB1 := btrans hB0 hz
  clear hB0 hz HGO d0 d1 d2
  cases gb
  · obtain ⟨z, hz⟩ : ∃ z, z = z0 := ⟨_, rfl⟩
    rw [← hz] at g0 g1 hB1 ⊢
    clear hz
    have HB := hid hB1
    clear hB1
    have hgz := keepcell HB.out hg
    have hgl := World.block_lt_of_cell? w ⟨0, 0, none⟩ hg
    simp only at hgl
    clear hg
    obtain ⟨⟨d0, d1, d2⟩, _⟩ := cellk3 g0
    obtain ⟨⟨f0, f1, f2, f3, f4⟩, p0, p1, p2, p3, p4⟩ := cell5g g1
    clear g0
    go_wp2_with fail
    go_region
    go_wp2_with fail
    have gF := set5 g1 (.slice none 0 0) (.int .i64 0) (.bool false) (.int .i64 0) (.slice none 0 0)
    have bF := bset (bset (bset (bset (bset HB.out (q := w.heap.size + 1) (k := 0) (by omega) (.slice none 0 0)) (q := w.heap.size + 1) (k := 1) (by omega) (.int .i64 0)) (q := w.heap.size + 1) (k := 2) (by omega) (.bool false)) (q := w.heap.size + 1) (k := 3) (by omega) (.int .i64 0)) (q := w.heap.size + 1) (k := 4) (by omega) (.slice none 0 0)
    generalize (((((z.setCell ⟨w.heap.size + 1, 0, none⟩ (.slice none 0 0)).setCell ⟨w.heap.size + 1, 1, none⟩ (.int .i64 0)).setCell ⟨w.heap.size + 1, 2, none⟩ (.bool false)).setCell ⟨w.heap.size + 1, 3, none⟩ (.int .i64 0)).setCell ⟨w.heap.size + 1, 4, none⟩ (.slice none 0 0)) = wf at *
    obtain ⟨⟨z0, z1, z2, z3, z4⟩, _⟩ := cell5g gF
    replace z0 : wf.drew.cell? ⟨w.heap.size + 1, 0, none⟩ = some (.slice none 0 0) := z0
    replace z1 : wf.drew.cell? ⟨w.heap.size + 1, 1, none⟩ = some (.int .i64 0) := z1
    replace z2 : wf.drew.cell? ⟨w.heap.size + 1, 2, none⟩ = some (.bool false) := z2
    replace z3 : wf.drew.cell? ⟨w.heap.size + 1, 3, none⟩ = some (.int .i64 0) := z3
    replace z4 : wf.drew.cell? ⟨w.heap.size + 1, 4, none⟩ = some (.slice none 0 0) := z4
    exact bodyPost_ret (v := .tuple #[zrun, .iface 111 (.agg #[.int .i64 1, .iface et ev])]) (by simp [results, Tryz.results57, go_sem, z0, z1, z2, z3, z4, zrun]) rfl ⟨rfl, bdrew bF⟩
  · have hob : ob = false := by simpa using h
    subst hob
    obtain ⟨⟨d0, d1, d2⟩, _⟩ := cellk3 g0
    go_wp2_with fail
    refine (HOK.out _ hB1).mono ?_
    rintro e z ⟨rfl, hz⟩
    replace g0 := keepheapA hz g0
    replace g1 := keepheapA hz g1
    have HB := hid (btrans hB1 hz)
    have hgz := keepcell HB.out hg
    have hgl := World.block_lt_of_cell? w ⟨0, 0, none⟩ hg
    simp only at hgl
    clear hg hB1 hz HOK d0 d1 d2
    obtain ⟨⟨d0, d1, d2⟩, _⟩ := cellk3 g0
    obtain ⟨⟨f0, f1, f2, f3, f4⟩, p0, p1, p2, p3, p4⟩ := cell5g g1
    clear g0
    go_wp2_with fail
    go_region
    go_wp2_with fail
    have gF := set5 g1 (.slice none 0 0) (.int .i64 0) (.bool false) (.int .i64 0) (.slice none 0 0)
    have bF := bset (bset (bset (bset (bset HB.out (q := w.heap.size + 1) (k := 0) (by omega) (.slice none 0 0)) (q := w.heap.size + 1) (k := 1) (by omega) (.int .i64 0)) (q := w.heap.size + 1) (k := 2) (by omega) (.bool false)) (q := w.heap.size + 1) (k := 3) (by omega) (.int .i64 0)) (q := w.heap.size + 1) (k := 4) (by omega) (.slice none 0 0)
    generalize (((((z.setCell ⟨w.heap.size + 1, 0, none⟩ (.slice none 0 0)).setCell ⟨w.heap.size + 1, 1, none⟩ (.int .i64 0)).setCell ⟨w.heap.size + 1, 2, none⟩ (.bool false)).setCell ⟨w.heap.size + 1, 3, none⟩ (.int .i64 0)).setCell ⟨w.heap.size + 1, 4, none⟩ (.slice none 0 0)) = wf at *
    obtain ⟨⟨z0, z1, z2, z3, z4⟩, _⟩ := cell5g gF
    replace z0 : wf.drew.cell? ⟨w.heap.size + 1, 0, none⟩ = some (.slice none 0 0) := z0
    replace z1 : wf.drew.cell? ⟨w.heap.size + 1, 1, none⟩ = some (.int .i64 0) := z1
    replace z2 : wf.drew.cell? ⟨w.heap.size + 1, 2, none⟩ = some (.bool false) := z2
    replace z3 : wf.drew.cell? ⟨w.heap.size + 1, 3, none⟩ = some (.int .i64 0) := z3
    replace z4 : wf.drew.cell? ⟨w.heap.size + 1, 4, none⟩ = some (.slice none 0 0) := z4
    exact bodyPost_ret (v := .tuple #[zrun, .iface 111 (.agg #[.int .i64 1, .iface et ev])]) (by simp [results, Tryz.results57, go_sem, z0, z1, z2, z3, z4, zrun]) rfl ⟨rfl, bdrew bF⟩
set_option maxRecDepth 100000 in
set_option maxHeartbeats 4000000 in
theorem run_yes {N1 N2 : Nat → Prop} (now : Int) (a ta : Option Addr) (cap tcap : Nat) (rs : List Rw) (ts : List Tx) (m : Nat) (w : World) (hm : rs.length ≤ 1099511627776) (htm : ts.length ≤ 1099511627776) (hr : Rws N1 w a rs) (ht : Txs N2 1099511627776 w ta ts) (hmr : m < ts.length) (hst : storeb now rs ts = true) (hop : ts[m].2.1 = true) : Calls Tryz.prog 57 #[.agg #[.int .i64 now, .slice a rs.length cap, .slice ta ts.length tcap], .int .i64 m] w fun e w' => ∃ ca ccap, e = .returned (.tuple #[.agg #[.slice ca ts[m].2.2.length ccap, .int .i64 ts[m].1, .bool true, .int .i64 now, .slice a rs.length cap], .nilIface]) ∧ ts[m].2.2.length ≤ 1099511627776 ∧ Chs N2 1099511627776 w' ca ts[m].2.2 ∧ Below w.heap.size w w' := by
  have HOK := hid (fun (W : World) (hb : Below w.heap.size w W) => impl_StoreOk now a ta cap tcap rs ts W hm htm (hr.below hb) (ht.below hb))
  rw [hst] at HOK
  have HGO := hid (fun (W : World) (hb : Below w.heap.size w W) => goes_c now a ta rs.length cap tcap ts (m : Int) W htm (ht.below hb))
  have hgb : gob ts (m : Int) = true := by unfold gob; rw [txn_at hmr, hop]; simp; omega
  rw [hgb] at HGO
  obtain ⟨b, o, rfl, hbs, ca, ccap, k0, k1, k2, _, hcm, hcs, _⟩ := ht.at m hmr
  rw [hop] at k1
  have HCS := hid hcs
  clear hr ht hcs hst hop hgb
  generalize ts[m].1 = st at *
  generalize ts[m].2.2 = cs at *
  generalize ts.length = tn at *
  generalize rs.length = rn at *
  obtain ⟨n, hn⟩ : ∃ n, n = cs.length := ⟨_, rfl⟩
  rw [← hn] at hcm k2 ⊢
  clear hn
  have HAW := hid (fun (W : World) (hb : Below w.heap.size w W) => atwork_c now a ca rn cap b o tn tcap m n ccap st true W hmr htm (keepcell hb k0) (keepcell hb k1) (keepcell hb k2))
  clear k0 k1 k2
  have hB0 : Below w.heap.size w ((w.alloc (.cells #[.int .i64 now, .slice a rn cap, .slice (some ⟨b, o, none⟩) tn tcap] 38)).alloc (.cells #[.slice none 0 0, .int .i64 0, .bool false, .int .i64 0, .slice none 0 0] 104)) := balloc (balloc (Below.refl _ _) _) _
  have g0 := old_alloc (o' := (.cells #[.slice none 0 0, .int .i64 0, .bool false, .int .i64 0, .slice none 0 0] 104)) (new_alloc w w.heap.size (.cells #[.int .i64 now, .slice a rn cap, .slice (some ⟨b, o, none⟩) tn tcap] 38) rfl)
  have g1 := new_alloc (w.alloc (.cells #[.int .i64 now, .slice a rn cap, .slice (some ⟨b, o, none⟩) tn tcap] 38)) (w.heap.size + 1) (.cells #[.slice none 0 0, .int .i64 0, .bool false, .int .i64 0, .slice none 0 0] 104) (by simp)
  go_enter Tryz.func57, Tryz.ntmps57
  go_upto_region 1 with fail
  generalize (w.alloc (.cells #[.int .i64 now, .slice a rn cap, .slice (some ⟨b, o, none⟩) tn tcap] 38)).alloc (.cells #[.slice none 0 0, .int .i64 0, .bool false, .int .i64 0, .slice none 0 0] 104) = W0 at *
  obtain ⟨⟨d0, d1, d2⟩, _⟩ := cellk3 g0
  go_wp2_with fail
  refine (HGO.out _ hB0).mono ?_
  rintro e z0 ⟨rfl, hz⟩
  replace g0 := keepheapA hz g0
  replace g1 := keepheapA hz g1
  replace hB0 := btrans hB0 hz
  clear hz d0 d1 d2
  obtain ⟨⟨d0, d1, d2⟩, _⟩ := cellk3 g0
  go_wp2_with fail
  refine (HOK.out _ hB0).mono ?_
  rintro e z1 ⟨rfl, hz⟩
  replace g0 := keepheapA hz g0
  replace g1 := keepheapA hz g1
  replace hB0 := btrans hB0 hz
  clear hz d0 d1 d2
  obtain ⟨⟨d0, d1, d2⟩, _⟩ := cellk3 g0
  go_wp2_with fail
  refine (HAW.out _ hB0).mono ?_
  rintro e Y ⟨rfl, hz⟩
  replace g1 := keepheapA hz g1
  have HB2 := hid (btrans hB0 hz)
  clear hz d0 d1 d2 hB0 HOK HGO HAW g0
  obtain ⟨⟨f0, f1, f2, f3, f4⟩, p0, p1, p2, p3, p4⟩ := cell5g g1
  go_wp2_with fail
  have gF := set5 g1 (.slice ca n ccap) (.int .i64 st) (.bool true) (.int .i64 now) (.slice a rn cap)
  have bF := bset (bset (bset (bset (bset HB2.out (q := w.heap.size + 1) (k := 0) (by omega) (.slice ca n ccap)) (q := w.heap.size + 1) (k := 1) (by omega) (.int .i64 st)) (q := w.heap.size + 1) (k := 2) (by omega) (.bool true)) (q := w.heap.size + 1) (k := 3) (by omega) (.int .i64 now)) (q := w.heap.size + 1) (k := 4) (by omega) (.slice a rn cap)
  generalize (((((Y.setCell ⟨w.heap.size + 1, 0, none⟩ (.slice ca n ccap)).setCell ⟨w.heap.size + 1, 1, none⟩ (.int .i64 st)).setCell ⟨w.heap.size + 1, 2, none⟩ (.bool true)).setCell ⟨w.heap.size + 1, 3, none⟩ (.int .i64 now)).setCell ⟨w.heap.size + 1, 4, none⟩ (.slice a rn cap)) = wf at *
  obtain ⟨⟨z0', z1', z2, z3, z4⟩, _⟩ := cell5g gF
  exact bodyPost_ret (v := .tuple #[.agg #[.slice ca n ccap, .int .i64 st, .bool true, .int .i64 now, .slice a rn cap], .nilIface]) (by simp [results, Tryz.results57, go_sem, z0', z1', z2, z3, z4]) rfl ⟨ca, ccap, rfl, hcm, HCS.out.below bF, bF⟩
theorem edb_asc {cs : List Ch} (h : edb cs = true) : ∀ i j, i < j → j < cs.length → idc cs i < idc cs j := by
  have h1 : ∀ j, 0 < j → j < cs.length → idc cs (j - 1) < idc cs j := by
    intro j h0 hj
    unfold edb at h
    rw [List.all_eq_true] at h
    have := h j (List.mem_range.2 hj)
    unfold edi asc at this
    simp only [Bool.and_eq_true, Bool.or_eq_true, decide_eq_true_eq] at this
    rcases this.2 with h2 | h2
    · omega
    · exact h2
  intro i j hij
  induction j with
  | zero => omega
  | succ j ih =>
    intro hj
    have h2 := h1 (j + 1) (by omega) hj
    rw [show j + 1 - 1 = j by omega] at h2
    by_cases e : i = j
    · subst e; exact h2
    · have := ih (by omega) (by omega); omega
/-- A list of points does not lie in a block that holds a shape. -/
theorem pts_off {y : World} {a' : Option Addr} {rp : List (Int × Int)} {p : Nat} {k : Int} {q : Value} {t : TypeId} (h : Pts y a' rp) (h0 : 0 < rp.length) (hq : ∀ i : Int, q ≠ .int .i64 i) (g : y.heap[p]? = some (.cells #[.int .i64 k, q] t (0, 0))) (u v : Value) : Pts ((y.setCell ⟨p, 0, none⟩ u).setCell ⟨p, 1, none⟩ v) a' rp := by
  rcases h with h | ⟨b, off, e, hb, hp⟩
  · subst h; simp at h0
  · have hne : b ≠ p := by
      intro e2
      subst e2
      obtain ⟨h1, h2⟩ := hp 0 h0
      simp [World.cell?, g] at h1 h2
      rcases off with _ | _ | off
      · simp at h2
        exact hq _ h2
      · simp at h1
        exact hq _ h1
      · simp at h1
    refine .inr ⟨b, off, e, by simp; exact hb, fun j hj => ?_⟩
    rw [World.cell?_setCell_other _ _ _ _ (by intro e; injection e; omega), World.cell?_setCell_other _ _ _ _ (by intro e; injection e; omega), World.cell?_setCell_other _ _ _ _ (by intro e; injection e; omega), World.cell?_setCell_other _ _ _ _ (by intro e; injection e; omega)]
    exact hp j hj
end Go.Proofs.YtnajddjalagmoaaGreatDoor
namespace Go.Proofs.YtnajddjalagmoaaGreatDoor
open Go.RowKit Go.Extern.Stop Go.Stop Go.Extern
theorem ar_valueOfP (t : Addr) (w : World) : (ReflectliteValue.unpack (.iface 146 (.pointer (some t)))).run Tryz.prog w
    = .ok (.agg #[.pointer (some ⟨4, 146, none⟩), .pointer (some ⟨w.heap.size, 0, none⟩), .int .u64 150]) (w.alloc (.cells #[.pointer (some t)] 146)) := by kernel_rfl
theorem ar_typeP (a : Addr) (w : World) : (ReflectliteValue.methodAny (ReflectliteValue.valueError "reflectlite.Value.Type" 0) (fun t _ _ _ => ReflectliteType.toType t) #[.agg #[.pointer (some ⟨4, 146, none⟩), .pointer (some a), .int .u64 150]]).run Tryz.prog w
    = .ok (.iface 173 (.agg #[.pointer (some ⟨4, 146, none⟩)])) w := by kernel_rfl
theorem ar_methodKind (n : Nat) (h : Value) (w : World) : (Go.method (n + 4) 173 (.agg #[h]) "Kind").run Tryz.prog w = .ok (179, h) w := by kernel_rfl
theorem ar_kindP (w : World) : ((ReflectliteType.abiMethod fun t => (fun a : Nat => Value.int IntKind.u8 (a : Int)) <$> Rtype.kind t) #[.pointer (some ⟨4, 146, none⟩)]).run Tryz.prog w = .ok (.int .u8 22) w := by kernel_rfl
theorem ar_kindS (w : World) : ((ReflectliteType.abiMethod fun t => (fun a : Nat => Value.int IntKind.u8 (a : Int)) <$> Rtype.kind t) #[.pointer (some ⟨4, 111, none⟩)]).run Tryz.prog w = .ok (.int .u8 25) w := by kernel_rfl
theorem ar_rlm (z : Sem Value) (f : TypeId → Addr → Nat → Nat → Sem Value) (v : Value) :
    ReflectliteValue.method z f #[v] = (do match ← ReflectliteValue.parts v with | none => z | some (t, a, fl) => f t a fl (fl % 32)) := rfl
theorem ar_partsP (a : Addr) (w : World) : (ReflectliteValue.parts (.agg #[.pointer (some ⟨4, 146, none⟩), .pointer (some a), .int .u64 150])).run Tryz.prog w = .ok (some (146, a, 150)) w := by kernel_rfl
theorem ar_isNilP (a p : Addr) (W : World) (ha : W.cell? a = some (.pointer (some p))) :
    (ReflectliteValue.method (ReflectliteValue.valueError "reflectlite.Value.IsNil" 0) ReflectliteValue.isNil #[.agg #[.pointer (some ⟨4, 146, none⟩), .pointer (some a), .int .u64 150]]).run Tryz.prog W = .ok (.bool false) W := by
  rw [ar_rlm]
  simp only [Sem.run_bind, ar_partsP, Result.andThen]
  simp [ReflectliteValue.isNil, loadVar, isAgg, underlying, Tryz.underlying146, ha, Result.andThen]
theorem ar_methodElem (n : Nat) (h : Value) (w : World) : (Go.method (n + 4) 173 (.agg #[h]) "Elem").run Tryz.prog w = .ok (194, .agg #[h]) w := by kernel_rfl
theorem ar_methodImplements (n : Nat) (h : Value) (w : World) : (Go.method (n + 4) 173 (.agg #[h]) "Implements").run Tryz.prog w = .ok (195, .agg #[h]) w := by kernel_rfl
theorem ar_methodAssignableTo (n : Nat) (h : Value) (w : World) : (Go.method (n + 4) 173 (.agg #[h]) "AssignableTo").run Tryz.prog w = .ok (192, .agg #[h]) w := by kernel_rfl
theorem ar_elemP (w : World) : (ReflectliteType.method ReflectliteType.elem #[.agg #[.pointer (some ⟨4, 146, none⟩)]]).run Tryz.prog w = .ok (.iface 173 (.agg #[.pointer (some ⟨4, 111, none⟩)])) w := by kernel_rfl
theorem ar_implementsS (w : World) : (ReflectliteType.relation "Implements" ReflectliteType.implements_ #[.agg #[.pointer (some ⟨4, 111, none⟩)], .iface 173 (.agg #[.pointer (some ⟨4, 73, none⟩)])]).run Tryz.prog w = .ok (.bool true) w := by kernel_rfl
theorem ar_typeOfS (v : Value) (w : World) : (ReflectliteType.typeOf #[.iface 111 v]).run Tryz.prog w = .ok (.iface 173 (.agg #[.pointer (some ⟨4, 111, none⟩)])) w := by kernel_rfl
theorem ar_assignableS (w : World) : (ReflectliteType.relation "AssignableTo" ReflectliteType.assignableTo #[.agg #[.pointer (some ⟨4, 111, none⟩)], .iface 173 (.agg #[.pointer (some ⟨4, 111, none⟩)])]).run Tryz.prog w = .ok (.bool true) w := by kernel_rfl
theorem ar_valueOfS (c : Int) (u : Value) (w : World) : (ReflectliteValue.unpack (.iface 111 (.agg #[.int .i64 c, u]))).run Tryz.prog w
    = .ok (.agg #[.pointer (some ⟨4, 111, none⟩), .pointer (some ⟨w.heap.size, 0, none⟩), .int .u64 153]) (w.alloc (.cells #[.int .i64 c, u] 111)) := by kernel_rfl
theorem ar_elemOfP (w : World) : (Rtype.elem? 146).run Tryz.prog w = .ok (some 111) w := by kernel_rfl
theorem ar_mkS (p : Addr) (w : World) : (ReflectliteValue.mk 111 p ReflectliteValue.flagAddr).run Tryz.prog w = .ok (.agg #[.pointer (some ⟨4, 111, none⟩), .pointer (some p), .int .u64 409]) w := by kernel_rfl
theorem ar_elemVP (a p : Addr) (W : World) (ha : W.cell? a = some (.pointer (some p))) :
    (ReflectliteValue.method (ReflectliteValue.valueError "reflectlite.Value.Elem" 0) ReflectliteValue.elem #[.agg #[.pointer (some ⟨4, 146, none⟩), .pointer (some a), .int .u64 150]]).run Tryz.prog W
      = .ok (.agg #[.pointer (some ⟨4, 111, none⟩), .pointer (some p), .int .u64 409]) W := by
  rw [ar_rlm]
  simp only [Sem.run_bind, ar_partsP, Result.andThen]
  simp [ReflectliteValue.elem, loadVar, isAgg, underlying, Tryz.underlying146, ha, Result.andThen, ar_elemOfP, ar_mkS]
theorem ar_rls (v x : Value) : ReflectliteValue.set #[v, x] = (do
    let (some (dst, a, fl), some (src, b, _)) := (← ReflectliteValue.parts v, ← ReflectliteValue.parts x)
      | unsupported (.noEntry "extern/(internal/reflectlite.Value).Set.zeroValue")
    if fl / ReflectliteValue.flagAddr % 2 == 0 then unsupported (.noEntry "extern/(internal/reflectlite.Value).Set.unaddressable")
    let val ← loadVar src b
    if ← Rtype.directlyAssignable dst src then storeVar dst a val
    else if ← Rtype.implements dst src then
      if (← Rtype.kind src) == 20 then
        match val with
        | .nilIface => unsupported (.noEntry "extern/reflectlite: a nil value of one interface type handed on as a value of another")
        | _ => storeVar dst a val
      else storeVar dst a (.iface src val)
    else panicString ("reflectlite.Set: value of type " ++ (← Rtype.spelt src) ++ " is not assignable to type " ++ (← Rtype.spelt dst))
    pure (.tuple #[])) := rfl
theorem ar_partsSa (a : Addr) (w : World) : (ReflectliteValue.parts (.agg #[.pointer (some ⟨4, 111, none⟩), .pointer (some a), .int .u64 409])).run Tryz.prog w = .ok (some (111, a, 409)) w := by kernel_rfl
theorem ar_partsS (a : Addr) (w : World) : (ReflectliteValue.parts (.agg #[.pointer (some ⟨4, 111, none⟩), .pointer (some a), .int .u64 153])).run Tryz.prog w = .ok (some (111, a, 153)) w := by kernel_rfl
theorem ar_directS (w : World) : (Rtype.directlyAssignable 111 111).run Tryz.prog w = .ok true w := by kernel_rfl
theorem ar_setS (ta b : Nat) (c : Int) (u old0 old1 : Value) (W : World) (hu : u.oneCell' = true) (hb0 : W.cell? ⟨b, 0, none⟩ = some (.int .i64 c)) (hb1 : W.cell? ⟨b, 1, none⟩ = some u) (ht0 : W.cell? ⟨ta, 0, none⟩ = some old0) (hf0 : W.frozen? ⟨ta, 0, none⟩ = false) (ht1 : W.cell? ⟨ta, 1, none⟩ = some old1) (hf1 : W.frozen? ⟨ta, 1, none⟩ = false) :
    (ReflectliteValue.set #[.agg #[.pointer (some ⟨4, 111, none⟩), .pointer (some ⟨ta, 0, none⟩), .int .u64 409], .agg #[.pointer (some ⟨4, 111, none⟩), .pointer (some ⟨b, 0, none⟩), .int .u64 153]]).run Tryz.prog W
      = .ok (.tuple #[]) ((W.setCell ⟨ta, 0, none⟩ (.int .i64 c)).setCell ⟨ta, 1, none⟩ u) := by
  rw [ar_rls]
  simp only [Sem.run_bind, ar_partsSa, ar_partsS, Result.andThen]
  simp [ReflectliteValue.flagAddr, loadVar, isAgg, underlying, Tryz.underlying111, hb0, hb1, Result.andThen, ar_directS, loadCells, loadCellsFrom, storeVar, Value.cells, storeCells, Addr.add]
  rw [run_store Tryz.prog W ⟨ta, 0, none⟩ _ _ (by rfl)]
  simp [ht0, hf0]
  rw [run_store Tryz.prog _ ⟨ta, 1, none⟩ _ _ hu]
  simp [ht1, hf1, World.cell?_setCell_other, World.frozen?_setCell]
end Go.Proofs.YtnajddjalagmoaaGreatDoor
namespace Go.Proofs.YtnajddjalagmoaaGreatDoor
open Go.RowKit Go.Extern.Stop Go.Stop Go.Extern
set_option maxHeartbeats 4000000 in
theorem ar_hit (c : Int) (u : Value) (tb : Nat) (old0 old1 : Value) (w : World) (hu : u.oneCell' = true) (hg : w.cell? ⟨3, 0, none⟩ = some (.iface 173 (.agg #[.pointer (some ⟨4, 73, none⟩)]))) (ht0 : w.cell? ⟨tb, 0, none⟩ = some old0) (hf0 : w.frozen? ⟨tb, 0, none⟩ = false) (ht1 : w.cell? ⟨tb, 1, none⟩ = some old1) (hf1 : w.frozen? ⟨tb, 1, none⟩ = false) :
    Calls Tryz.prog 93 #[.iface 111 (.agg #[.int .i64 c, u]), .iface 146 (.pointer (some ⟨tb, 0, none⟩))] w fun ev w' => ev = .returned (.bool true) ∧ w' = (((((w.alloc (.cells #[.pointer (some ⟨tb, 0, none⟩)] 146)).alloc (.cells #[.pointer (some ⟨4, 146, none⟩), .pointer (some ⟨w.heap.size, 0, none⟩), .int .u64 150] 186)).alloc (.cells #[.pointer (some ⟨4, 146, none⟩), .pointer (some ⟨w.heap.size, 0, none⟩), .int .u64 150] 186)).alloc (.cells #[.int .i64 c, u] 111)).setCell ⟨tb, 0, none⟩ (.int .i64 c)).setCell ⟨tb, 1, none⟩ u := by
  have x1 := @run_callFunc_extern Tryz.prog 118 _ (fun args => ReflectliteValue.unpack (args.getD 0 (.tuple #[]))) Tryz.func118 (by kernel_rfl) (by kernel_rfl) (by kernel_rfl) (by kernel_rfl)
  have x2 := @run_callFunc_extern Tryz.prog 119 _ (ReflectliteValue.methodAny (ReflectliteValue.valueError "reflectlite.Value.Type" 0) (fun t _ _ _ => ReflectliteType.toType t)) Tryz.func119 (by kernel_rfl) (by kernel_rfl) (by kernel_rfl) (by kernel_rfl)
  have x3 := @run_callFunc_extern Tryz.prog 120 _ (ReflectliteValue.method (ReflectliteValue.valueError "reflectlite.Value.IsNil" 0) ReflectliteValue.isNil) Tryz.func120 (by kernel_rfl) (by kernel_rfl) (by kernel_rfl) (by kernel_rfl)
  have x4 := @run_callFunc_extern Tryz.prog 179 _ (ReflectliteType.abiMethod fun t => do pure (.int .u8 (← Rtype.kind t))) Tryz.func179 (by kernel_rfl) (by kernel_rfl) (by kernel_rfl) (by kernel_rfl)
  have x5 := @run_callFunc_extern Tryz.prog 194 _ (ReflectliteType.method ReflectliteType.elem) Tryz.func194 (by kernel_rfl) (by kernel_rfl) (by kernel_rfl) (by kernel_rfl)
  have x6 := @run_callFunc_extern Tryz.prog 195 _ (ReflectliteType.relation "Implements" ReflectliteType.implements_) Tryz.func195 (by kernel_rfl) (by kernel_rfl) (by kernel_rfl) (by kernel_rfl)
  have x7 := @run_callFunc_extern Tryz.prog 91 _ ReflectliteType.typeOf Tryz.func91 (by kernel_rfl) (by kernel_rfl) (by kernel_rfl) (by kernel_rfl)
  have x8 := @run_callFunc_extern Tryz.prog 192 _ (ReflectliteType.relation "AssignableTo" ReflectliteType.assignableTo) Tryz.func192 (by kernel_rfl) (by kernel_rfl) (by kernel_rfl) (by kernel_rfl)
  have x9 := @run_callFunc_extern Tryz.prog 133 _ (ReflectliteValue.method (ReflectliteValue.valueError "reflectlite.Value.Elem" 0) ReflectliteValue.elem) Tryz.func133 (by kernel_rfl) (by kernel_rfl) (by kernel_rfl) (by kernel_rfl)
  have x10 := @run_callFunc_extern Tryz.prog 134 _ ReflectliteValue.set Tryz.func134 (by kernel_rfl) (by kernel_rfl) (by kernel_rfl) (by kernel_rfl)
  have tO := ar_typeOfS
  have mA := ar_methodAssignableTo
  have a25 := ar_assignableS
  have v25 := ar_valueOfS
  have f6 := ar_valueOfP
  have f7 := ar_typeP
  have mK := ar_methodKind
  have mE := ar_methodElem
  have mI := ar_methodImplements
  have k27 := ar_kindP
  have k25 := ar_kindS
  have e27 := ar_elemP
  have i25 := ar_implementsS
  have n8 := ar_isNilP ⟨w.heap.size, 0, none⟩ ⟨tb, 0, none⟩ ((w.alloc (.cells #[.pointer (some ⟨tb, 0, none⟩)] 146)).alloc (.cells #[.pointer (some ⟨4, 146, none⟩), .pointer (some ⟨w.heap.size, 0, none⟩), .int .u64 150] 186)) (by simp)
  have hlt : 3 < w.heap.size := World.block_lt_of_cell? w ⟨3, 0, none⟩ hg
  have hg2 : ((w.alloc (.cells #[.pointer (some ⟨tb, 0, none⟩)] 146)).alloc (.cells #[.pointer (some ⟨4, 146, none⟩), .pointer (some ⟨w.heap.size, 0, none⟩), .int .u64 150] 186)).cell? ⟨3, 0, none⟩ = some (.iface 173 (.agg #[.pointer (some ⟨4, 73, none⟩)])) := by
    rw [World.cell?_alloc_lt _ _ ⟨3, 0, none⟩ (by simp <;> omega), World.cell?_alloc_lt _ _ ⟨3, 0, none⟩ hlt]; exact hg
  have htl : tb < w.heap.size := World.block_lt_of_cell? w ⟨tb, 0, none⟩ ht0
  have el := ar_elemVP ⟨w.heap.size, 0, none⟩ ⟨tb, 0, none⟩ (((w.alloc (.cells #[.pointer (some ⟨tb, 0, none⟩)] 146)).alloc (.cells #[.pointer (some ⟨4, 146, none⟩), .pointer (some ⟨w.heap.size, 0, none⟩), .int .u64 150] 186)).alloc (.cells #[.pointer (some ⟨4, 146, none⟩), .pointer (some ⟨w.heap.size, 0, none⟩), .int .u64 150] 186)) (by rw [World.cell?_alloc_lt _ _ ⟨w.heap.size, 0, none⟩ (by simp <;> omega)]; simp)
  have st := ar_setS tb (w.heap.size + 1 + 1 + 1) c u old0 old1 ((((w.alloc (.cells #[.pointer (some ⟨tb, 0, none⟩)] 146)).alloc (.cells #[.pointer (some ⟨4, 146, none⟩), .pointer (some ⟨w.heap.size, 0, none⟩), .int .u64 150] 186)).alloc (.cells #[.pointer (some ⟨4, 146, none⟩), .pointer (some ⟨w.heap.size, 0, none⟩), .int .u64 150] 186)).alloc (.cells #[.int .i64 c, u] 111)) hu
    (by rw [World.cell?_alloc_at _ _ _ _ (by simp)]; rfl)
    (by rw [World.cell?_alloc_at _ _ _ _ (by simp)]; rfl)
    (by rw [World.cell?_alloc_lt _ _ ⟨tb, 0, none⟩ (by simp <;> omega), World.cell?_alloc_lt _ _ ⟨tb, 0, none⟩ (by simp <;> omega), World.cell?_alloc_lt _ _ ⟨tb, 0, none⟩ (by simp <;> omega), World.cell?_alloc_lt _ _ ⟨tb, 0, none⟩ htl]; exact ht0)
    (by rw [World.frozen?_alloc_old _ _ ⟨tb, 0, none⟩ (by simp <;> omega), World.frozen?_alloc_old _ _ ⟨tb, 0, none⟩ (by simp <;> omega), World.frozen?_alloc_old _ _ ⟨tb, 0, none⟩ (by simp <;> omega), World.frozen?_alloc_old _ _ ⟨tb, 0, none⟩ (Nat.ne_of_lt htl)]; exact hf0)
    (by rw [World.cell?_alloc_lt _ _ ⟨tb, 1, none⟩ (by simp <;> omega), World.cell?_alloc_lt _ _ ⟨tb, 1, none⟩ (by simp <;> omega), World.cell?_alloc_lt _ _ ⟨tb, 1, none⟩ (by simp <;> omega), World.cell?_alloc_lt _ _ ⟨tb, 1, none⟩ htl]; exact ht1)
    (by rw [World.frozen?_alloc_old _ _ ⟨tb, 1, none⟩ (by simp <;> omega), World.frozen?_alloc_old _ _ ⟨tb, 1, none⟩ (by simp <;> omega), World.frozen?_alloc_old _ _ ⟨tb, 1, none⟩ (by simp <;> omega), World.frozen?_alloc_old _ _ ⟨tb, 1, none⟩ (Nat.ne_of_lt htl)]; exact hf1)
  go_enter Tryz.func93, Tryz.ntmps93
  go_wp2
  refine wp_loop_rounds 1 ?_
  rw [rounds_succ]
  go_wp2
  go_ret
  exact ⟨rfl, rfl⟩
set_option maxHeartbeats 1000000 in
theorem ar_nil (v : Value) (w : World) : Calls Tryz.prog 93 #[.nilIface, v] w fun e w' => e = .returned (.bool false) ∧ w' = w := by
  go_enter Tryz.func93, Tryz.ntmps93
  go_wp2
  go_ret
  exact ⟨rfl, rfl⟩
end Go.Proofs.YtnajddjalagmoaaGreatDoor
namespace Go.Proofs.YtnajddjalagmoaaGreatDoor
open Go.RowKit Go.Extern.Stop Go.Stop Go.Extern
set_option linter.unusedSimpArgs false
set_option linter.unusedVariables false
theorem is_typeOf (v : Value) (w : World) : (Extern.ReflectliteType.typeOf #[.iface 247 v]).run Tryz.prog w = .ok (.iface 173 (.agg #[.pointer (some ⟨4, 247, none⟩)])) w := by kernel_rfl
theorem is_comparable (w : World) : ((Extern.ReflectliteType.method fun t => do Go.Extern.Rtype.noPackHeld "Comparable" t; pure (.bool (← typeInfo t).comparable)) #[.agg #[.pointer (some ⟨4, 247, none⟩)]]).run Tryz.prog w = .ok (.bool true) w := by kernel_rfl
theorem is_callComparable (w : World) : (callFunc 193 #[.agg #[.pointer (some ⟨4, 247, none⟩)]]).run Tryz.prog w = .ok (.value (.bool true)) w := by
  rw [@run_callFunc_extern Tryz.prog 193 _ (Extern.ReflectliteType.method fun t => do Go.Extern.Rtype.noPackHeld "Comparable" t; pure (.bool (← typeInfo t).comparable)) Tryz.func193 (by kernel_rfl) (by kernel_rfl) (by kernel_rfl) (by kernel_rfl), is_comparable]
  rfl
theorem is_methodComparable (n : Nat) (v : Value) (w : World) : (Go.method (n + 4) 173 v "Comparable").run Tryz.prog w = .ok (193, v) w := by kernel_rfl
theorem is_comp : (Tryz.prog.info? 247).map (·.comparable) = some true := by kernel_rfl
theorem is_size : (Tryz.prog.info? 286).map (·.size) = some 1 := by kernel_rfl
theorem is_noIsR (v : Value) (xT : TypeId) (w : World) : (Instr.typeAssert (.iface 111 v) xT 175 true).run Tryz.prog w = .ok (.tuple #[.nilIface, .bool false]) w := run_typeAssert_lacksB Tryz.underlying175 (by kernel_rfl) (by kernel_rfl) v xT w
theorem is_hasUnR (v : Value) (xT : TypeId) (w : World) : (Instr.typeAssert (.iface 111 v) xT 178 true).run Tryz.prog w = .ok (.tuple #[.iface 111 v, .bool true]) w := run_typeAssert_hasB Tryz.underlying178 (by kernel_rfl) v xT w
theorem is_methodUn (n : Nat) (v : Value) (w : World) : (Go.method (n + 4) 111 v "Unwrap").run Tryz.prog w = .ok (189, v) w := by kernel_rfl
set_option maxHeartbeats 4000000 in
/-- errors.Is of a refusal that wraps the sentinel. -/
theorem is_hit (c : Int) (b : Addr) (w : World) : Calls Tryz.prog 58 #[.iface 111 (.agg #[.int .i64 c, .iface 247 (.pointer (some b))]), .iface 247 (.pointer (some b))] w fun e w' => e = .returned (.bool true) ∧ Below w.heap.size w w' := by
  obtain ⟨i, hi, hcmp⟩ := Option.map_eq_some_iff.1 is_comp
  obtain ⟨j, hj, hjs⟩ := Option.map_eq_some_iff.1 is_size
  have x1 := @run_callFunc_extern Tryz.prog 91 _ ReflectliteType.typeOf Tryz.func91 (by kernel_rfl) (by kernel_rfl) (by kernel_rfl) (by kernel_rfl)
  have x2 := is_callComparable
  have tT := is_typeOf
  have mR := is_methodComparable
  have nR := is_noIsR
  have uR := is_hasUnR
  have mU := is_methodUn
  have heq := run_eql_iface_ptr_same (P := Tryz.prog) (w.alloc (.cells #[.int .i64 c, .iface 247 (.pointer (some b))] 111)) b Tryz.underlying73 Tryz.underlying247 hi hcmp hj
  have hty := run_eql_iface_types (P := Tryz.prog) 111 247 (.agg #[.int .i64 c, .iface 247 (.pointer (some b))]) (.pointer (some b)) Tryz.underlying73 (by decide) w
  go_enter Tryz.func58, Tryz.ntmps58
  go_wp2
  refine wp_loop_rounds 2 ?_
  rw [rounds_succ]
  go_wp2
  rw [rounds_succ]
  go_wp2
  go_ret
  exact ⟨rfl, balloc (Below.refl _ _) _⟩
theorem is_none (b : Addr) (w : World) : Calls Tryz.prog 58 #[.nilIface, .iface 247 (.pointer (some b))] w fun e w' => e = .returned (.bool false) ∧ w' = w := by
  have hn := run_eql_iface_nil_left (P := Tryz.prog) w 247 (.pointer (some b)) Tryz.underlying73
  go_enter Tryz.func58, Tryz.ntmps58
  go_wp2
  go_ret
  exact ⟨rfl, rfl⟩
end Go.Proofs.YtnajddjalagmoaaGreatDoor
namespace Go.Proofs.YtnajddjalagmoaaGreatDoor
open Go.RowKit
set_option linter.unusedSimpArgs false
set_option linter.unusedVariables false
set_option maxHeartbeats 2000000 in
theorem code_ref (c : Int) (u : Value) (w : World) (hu : u.oneCell' = true) (hg : w.cell? ⟨3, 0, none⟩ = some (.iface 173 (.agg #[.pointer (some ⟨4, 73, none⟩)]))) : Calls Tryz.prog 59 #[.iface 111 (.agg #[.int .i64 c, u])] w fun e w' => e = .returned (.int .i64 c) ∧ Below w.heap.size w w' := by
  have g0 := new_alloc w w.heap.size (.cells #[.int .i64 0, .nilIface] 111) rfl
  have hB : Below w.heap.size w (w.alloc (.cells #[.int .i64 0, .nilIface] 111)) := balloc (Below.refl _ _) _
  have hg' := keepcell hB hg
  have hl : w.heap.size < (w.alloc (.cells #[.int .i64 0, .nilIface] 111)).heap.size := by simp
  go_enter Tryz.func59, Tryz.ntmps59
  go_upto_region 2 with fail
  generalize w.alloc (.cells #[.int .i64 0, .nilIface] 111) = W at *
  have q0 : W.cell? ⟨w.heap.size, 0, none⟩ = some (.int .i64 0) := by simp only [World.cell?, g0]; rfl
  have q1 : W.cell? ⟨w.heap.size, 1, none⟩ = some .nilIface := by simp only [World.cell?, g0]; rfl
  have q2 : W.frozen? ⟨w.heap.size, 0, none⟩ = false := by simp only [World.frozen?, g0]; rfl
  have q3 : W.frozen? ⟨w.heap.size, 1, none⟩ = false := by simp only [World.frozen?, g0]; rfl
  have HA := hid (ar_hit c u w.heap.size _ _ W hu hg' q0 q2 q1 q3)
  go_wp2_with fail
  refine HA.out.mono ?_
  rintro e z ⟨rfl, hz⟩
  have hb : Below w.heap.size w z := by
    subst hz
    exact bset (bset (balloc (balloc (balloc (balloc hB _) _) _) _) (q := w.heap.size) (k := 0) (Nat.le_refl _) _) (q := w.heap.size) (k := 1) (Nat.le_refl _) _
  have hc : z.cell? ⟨w.heap.size, 0, none⟩ = some (.int .i64 c) := by
    subst hz
    rw [World.cell?_setCell_other _ _ _ _ (by intro q; injection q; omega)]
    refine World.cell?_setCell_same (u := .int .i64 0) _ _ _ ?_
    exact keepalloc (keepalloc (keepalloc (keepalloc q0 _) _) _) _
  clear hz q0 q1 q2 q3 HA hg' g0
  go_wp2_with fail
  go_ret
  exact ⟨rfl, hb⟩
set_option maxHeartbeats 1000000 in
theorem code_nil (w : World) : Calls Tryz.prog 59 #[.nilIface] w fun e w' => e = .returned (.int .i64 0) ∧ Below w.heap.size w w' := by
  go_enter Tryz.func59, Tryz.ntmps59
  go_wp2_with fail
  refine (ar_nil _ _).mono ?_
  rintro e z ⟨rfl, hz⟩
  replace hz := hz.symm
  subst hz
  go_wp2_with fail
  go_ret
  exact ⟨rfl, balloc (Below.refl _ _) _⟩
end Go.Proofs.YtnajddjalagmoaaGreatDoor
