/- Texts of stores, joined: RwA0, RwA1, Sk, Sw, Sl, Ar, Ar2, Pa, Pb, Vb, Sh0, Si. -/
import Derived.Test.YtnajddjalagmoaaGreatDoorRw0
import Derived.Test.YtnajddjalagmoaaGreatDoorDrawP
import Derived.OwnWalk
import Derived.Deep.AppendLies
import Derived.Test.YtnajddjalagmoaaGreatDoorRwB
import Derived.Test.YtnajddjalagmoaaGreatDoorJ1
import Derived.Test.YtnajddjalagmoaaGreatDoorRwJ
import Derived.Test.YtnajddjalagmoaaGreatDoorSj
import Derived.RegionTactic
import Derived.ChangeAlike
import Derived.Test.YtnajddjalagmoaaGreatDoorRows
import Derived.WalkKit
import Derived.LaidEql
import Derived.Stop.Asserts
import Derived.RowKitTokens
import Derived.Below
import Derived.Test.YtnajddjalagmoaaGreatDoorRwK
import Derived.Test.YtnajddjalagmoaaGreatDoorRwP
import Derived.Test.YtnajddjalagmoaaGreatDoorSb
namespace Go.Proofs.YtnajddjalagmoaaGreatDoor
open Go.RowKit
set_option linter.unusedSimpArgs false
set_option linter.unusedVariables false
theorem Tryz.infoPC : (Tryz.prog.info? 96).map (fun i => (i.zero, i.size, i.bytes)) = some (some (.agg #[.int .i64 0, .int .i64 0]), 2, 16) := by kernel_rfl
theorem cell2r {w : World} {p : Nat} {a b : Value} {t : TypeId} (h : w.heap[p]? = some (.cells #[a, b] t (0, 0))) : w.cell? ⟨p, 0, none⟩ = some a ∧ w.cell? ⟨p, 1, none⟩ = some b ∧ w.frozen? ⟨p, 0, none⟩ = false ∧ w.frozen? ⟨p, 1, none⟩ = false := by
  refine ⟨?_, ?_, ?_, ?_⟩ <;> simp [World.cell?, World.frozen?, h]
theorem own_blk {w w' : World} {b : Nat} {ps : List (Int × Int)} (h : PtsOwn w b ps) (e : w'.heap[b]? = w.heap[b]?) (hs : b < w'.heap.size) : PtsOwn w' b ps := by
  obtain ⟨h1, h2, h3⟩ := h
  refine ⟨hs, fun k hk => ?_, fun j hj => ?_⟩
  · simp only [World.cell?, e]; exact h2 k hk
  · simp only [World.cell?, World.frozen?, e]; exact h3 j hj
def fl2 (qs : List (Int × Int)) : List Value := qs.flatMap fun q => [.int .i64 q.1, .int .i64 q.2]
theorem fl2_len (qs : List (Int × Int)) : (fl2 qs).length = qs.length * 2 := by
  induction qs with
  | nil => rfl
  | cons q r ih => simp only [fl2, List.flatMap_cons, List.length_append, List.length_cons, List.length_nil] at ih ⊢; omega
theorem fl2_at (qs : List (Int × Int)) : ∀ k, k < qs.length → (fl2 qs)[k * 2]? = some (.int .i64 (qs.getD k (0, 0)).1) ∧ (fl2 qs)[k * 2 + 1]? = some (.int .i64 (qs.getD k (0, 0)).2) := by
  induction qs with
  | nil => intro k hk; simp at hk
  | cons q r ih =>
    intro k hk
    cases k with
    | zero => simp [fl2]
    | succ k =>
      have := ih k (by simpa using hk)
      simp only [fl2, List.flatMap_cons, List.getD_cons_succ] at this ⊢
      rw [show (k + 1) * 2 = k * 2 + 2 by omega]
      simpa [List.getElem?_append_right] using this
theorem fl2_one (qs : List (Int × Int)) : ∀ u ∈ fl2 qs, u.oneCell' = true := by
  intro u hu
  simp only [fl2, List.mem_flatMap] at hu
  obtain ⟨q, _, hu⟩ := hu
  simp at hu
  rcases hu with rfl | rfl <;> rfl
theorem fl2_news {w : World} {b off : Nat} {ps : List (Int × Int)} (h : PtsAt w b off ps) : ∀ j u, (fl2 ps)[j]? = some u → w.cell? ((⟨b, off, none⟩ : Addr).add j) = some u := by
  intro j u hu
  have hj : j < ps.length * 2 := by rw [← fl2_len]; exact (List.getElem?_eq_some_iff.1 hu).1
  rw [Addr.add_mid]
  have h2 := h (j / 2) (by omega)
  obtain ⟨f0, f1⟩ := fl2_at ps (j / 2) (by omega)
  rcases Nat.mod_two_eq_zero_or_one j with e | e
  · have ej : j = j / 2 * 2 := by omega
    rw [ej] at hu ⊢
    rw [f0] at hu
    rw [← hu]
    exact h2.1
  · have ej : j = j / 2 * 2 + 1 := by omega
    rw [ej] at hu ⊢
    rw [f1] at hu
    rw [← hu, ← Nat.add_assoc]
    exact h2.2
theorem own_pts {w : World} {B g cap n : Nat} {ps : List (Int × Int)} (h : w.ownsRow B 96 2 (.slice (some ⟨g, 0, none⟩) n cap) n (fl2 ps)) (hn : ps.length = n) : B ≤ g ∧ n ≤ cap ∧ PtsOwn w g ps := by
  subst hn
  have h' := h
  rcases h.2 with ⟨q, _⟩ | ⟨g', cap', cur, e, hb, hg, hc, _⟩
  · cases q
  · cases e
    refine ⟨hb, hc, (Array.getElem?_eq_some_iff.1 hg).1, fun k hk => ?_, fun j hj => ?_⟩
    · obtain ⟨f0, f1⟩ := fl2_at ps k hk
      have hcs := World.ownsRow.cells h' rfl
      have q0 := hcs _ _ f0
      have q1 := hcs _ _ f1
      rw [Addr.add_mid] at q0 q1
      exact ⟨q0, by rw [Nat.add_assoc]; exact q1⟩
    · simp only [Nat.zero_add]
      refine ⟨?_, World.ownsRow.frozenAt h' j⟩
      rw [World.ownsRow.cellAt h' j hj, List.getElem?_eq_getElem (by rw [fl2_len]; exact hj)]
      rfl
/-- A copy of a shape. -/
def CP (w : World) (kd : Int) (ps : List (Int × Int)) (e : Ending) (w' : World) : Prop :=
  ∃ g cap, e = .returned (.agg #[.int .i64 kd, .slice (some ⟨g, 0, none⟩) ps.length cap]) ∧ ps.length ≤ cap ∧ w.heap.size ≤ g ∧ PtsOwn w' g ps ∧ Below w.heap.size w w'
theorem own_new {w : World} {B : Nat} (hB : B ≤ w.heap.size) : (w.alloc (.cells #[] 96)).ownsRow B 96 2 (.slice (some ⟨w.heap.size, 0, none⟩) 0 0) 0 [] := by
  have := World.ownsRow_made (base := B) (e := 96) (size := 2) w #[] 0 hB (by decide) rfl
  simpa using this
set_option maxRecDepth 100000 in
set_option maxHeartbeats 1000000 in
theorem spec_copy (kd : Int) (a : Option Addr) (cap : Nat) (ps : List (Int × Int)) (w : World) (h0 : 0 < ps.length) (hm : ps.length ≤ 1099511627776) (h : Pts w a ps) : Calls Tryz.prog 26 #[.agg #[.int .i64 kd, .slice a ps.length cap]] w fun e w' => CP w kd ps e w' := by
  obtain ⟨i0, hi0, hz0, hz1, hz2⟩ := info_parts Tryz.infoPC
  obtain ⟨b, off, rfl, hbs, hp⟩ : ∃ b off, a = some ⟨b, off, none⟩ ∧ b < w.heap.size ∧ PtsAt w b off ps := by
    rcases h with h | h
    · rw [h] at h0; simp at h0
    · exact h
  have hN := fl2_len ps
  have HP := hid hp
  clear hp h
  have hB3 : Below w.heap.size w (((w.alloc (.cells #[.int .i64 kd, .slice (some ⟨b, off, none⟩) ps.length cap] 44)).alloc (.cells #[.int .i64 0, .slice none 0 0] 44)).alloc (.cells #[] 96)) := balloc (balloc (balloc (Below.refl _ _) _) _) _
  have hown := own_new (w := (w.alloc (.cells #[.int .i64 kd, .slice (some ⟨b, off, none⟩) ps.length cap] 44)).alloc (.cells #[.int .i64 0, .slice none 0 0] 44)) (B := w.heap.size + 2) (by simp)
  have gA := old_alloc (o' := .cells #[] 96) (old_alloc (o' := .cells #[.int .i64 0, .slice none 0 0] 44) (new_alloc w w.heap.size (.cells #[.int .i64 kd, .slice (some ⟨b, off, none⟩) ps.length cap] 44) rfl))
  have gB := old_alloc (o' := .cells #[] 96) (new_alloc (w.alloc (.cells #[.int .i64 kd, .slice (some ⟨b, off, none⟩) ps.length cap] 44)) (w.heap.size + 1) (.cells #[.int .i64 0, .slice none 0 0] 44) (by simp))
  have hsz3 : (((w.alloc (.cells #[.int .i64 kd, .slice (some ⟨b, off, none⟩) ps.length cap] 44)).alloc (.cells #[.int .i64 0, .slice none 0 0] 44)).alloc (.cells #[] 96)).heap.size = w.heap.size + 3 := by simp
  have hsz2 : ((w.alloc (.cells #[.int .i64 kd, .slice (some ⟨b, off, none⟩) ps.length cap] 44)).alloc (.cells #[.int .i64 0, .slice none 0 0] 44)).heap.size = w.heap.size + 2 := by simp
  rw [hsz2] at hown
  have HNW := hid (fl2_news (HP.out.below hbs hB3))
  have HOW := hid hown
  have HGA := hid gA
  have HGB := hid gB
  have HB3 := hid hB3
  have HSZ := hid hsz3
  have HF1 := hid (fl2_one ps)
  clear hown gA gB hB3 hsz3 hsz2
  go_enter Tryz.func26, Tryz.ntmps26
  go_wp2_with (at_builtin; (refine wpList_append_lies _ rfl (.tmp 3) (.tmp 5) 42 rfl (w.heap.size + 2) 96 i0 _ 2 16 Tryz.underlying42 hi0 hz0 hz1 hz2 rfl (by decide) _ 0 [] (by rfl) HOW.out ⟨b, off, none⟩ ps.length cap (fl2 ps) (by rfl) hN HNW.out HF1.out h0 (by unfold maxLen; omega) (by omega) (by rw [HSZ.out]; omega) (w.heap.size + 3) HSZ.out ?_; intro gg cp w2 hown1 hgrow hat hlt; have gA := grown_blk (p := w.heap.size + 2) hgrow HGA.out (by omega); have gB := grown_blk (p := w.heap.size + 2) hgrow HGB.out (by omega); obtain ⟨a0, a1, f0, f1⟩ := cell2r gA; obtain ⟨b0, b1, e0, e1⟩ := cell2r gB))
  have HO1 := hid (own_pts (ps := ps) (by simpa using hown1) (by omega))
  have HB4 := hid (bgrown (p := w.heap.size + 2) HB3.out hgrow (by omega))
  clear hown1 hgrow
  obtain ⟨h1, h2, h3⟩ := HO1.out
  have gF := set2r (set_far (q := w.heap.size) (k := 1) (u := .slice (some ⟨gg, 0, none⟩) ps.length cp) gB (by omega)) (.int .i64 kd) (.slice (some ⟨gg, 0, none⟩) ps.length cp)
  have bF := bset (bset (bset HB4.out (q := w.heap.size) (k := 1) (Nat.le_refl _) (.slice (some ⟨gg, 0, none⟩) ps.length cp)) (q := w.heap.size + 1) (k := 0) (by omega) (.int .i64 kd)) (q := w.heap.size + 1) (k := 1) (by omega) (.slice (some ⟨gg, 0, none⟩) ps.length cp)
  have oF : PtsOwn (((w2.setCell ⟨w.heap.size, 1, none⟩ (.slice (some ⟨gg, 0, none⟩) ps.length cp)).setCell ⟨w.heap.size + 1, 0, none⟩ (.int .i64 kd)).setCell ⟨w.heap.size + 1, 1, none⟩ (.slice (some ⟨gg, 0, none⟩) ps.length cp)) gg ps := by
    refine own_blk h3 ?_ (by simp; exact h3.1)
    rw [Below.heap_setCell _ _ _ _ (by dsimp only; omega), Below.heap_setCell _ _ _ _ (by dsimp only; omega), Below.heap_setCell _ _ _ _ (by dsimp only; omega)]
  generalize ((w2.setCell ⟨w.heap.size, 1, none⟩ (.slice (some ⟨gg, 0, none⟩) ps.length cp)).setCell ⟨w.heap.size + 1, 0, none⟩ (.int .i64 kd)).setCell ⟨w.heap.size + 1, 1, none⟩ (.slice (some ⟨gg, 0, none⟩) ps.length cp) = wf at *
  obtain ⟨z0, z1, _, _⟩ := cell2r gF
  exact bodyPost_ret (v := .agg #[.int .i64 kd, .slice (some ⟨gg, 0, none⟩) ps.length cp]) (by simp [results, Tryz.results26, go_sem, z0, z1]) rfl ⟨gg, cp, rfl, by omega, by omega, oF, bF⟩
set_option maxRecDepth 100000 in
set_option maxHeartbeats 2000000 in
theorem impl_copy (kd : Int) (a : Option Addr) (cap : Nat) (ps : List (Int × Int)) (w : World) (h0 : 0 < ps.length) (hm : ps.length ≤ 1099511627776) (h : Pts w a ps) : Calls Tryz.prog 64 #[.agg #[.int .i64 kd, .slice a ps.length cap]] w fun e w' => CP w kd ps e w' := by
  obtain ⟨i0, hi0, hz0, hz1, hz2⟩ := info_parts Tryz.infoPC
  obtain ⟨b, off, rfl, hbs, hp⟩ : ∃ b off, a = some ⟨b, off, none⟩ ∧ b < w.heap.size ∧ PtsAt w b off ps := by
    rcases h with h | h
    · rw [h] at h0; simp at h0
    · exact h
  have hN := fl2_len ps
  have HP := hid hp
  have HF1 := hid (fl2_one ps)
  clear hp h
  go_enter Tryz.func64, Tryz.ntmps64
  go_upto_region 1 with fail
  have hB : Below w.heap.size w ((w.alloc (.cells #[.int .i64 kd, .slice (some ⟨b, off, none⟩) ps.length cap] 44)).alloc (.cells #[.int .i64 0, .slice none 0 0] 44)) := balloc (balloc (Below.refl _ _) _) _
  have gA := old_alloc (o' := .cells #[.int .i64 0, .slice none 0 0] 44) (new_alloc w w.heap.size (.cells #[.int .i64 kd, .slice (some ⟨b, off, none⟩) ps.length cap] 44) rfl)
  have gB := new_alloc (w.alloc (.cells #[.int .i64 kd, .slice (some ⟨b, off, none⟩) ps.length cap] 44)) (w.heap.size + 1) (.cells #[.int .i64 0, .slice none 0 0] 44) (by simp)
  have hsz : ((w.alloc (.cells #[.int .i64 kd, .slice (some ⟨b, off, none⟩) ps.length cap] 44)).alloc (.cells #[.int .i64 0, .slice none 0 0] 44)).heap.size = w.heap.size + 2 := by simp
  generalize ((w.alloc (.cells #[.int .i64 kd, .slice (some ⟨b, off, none⟩) ps.length cap] 44)).alloc (.cells #[.int .i64 0, .slice none 0 0] 44)) = W at *
  have HNW := hid (fl2_news (HP.out.below hbs (balloc hB (.cells #[] 96))))
  have HOW := hid (own_new (w := W) (B := w.heap.size + 2) (by omega))
  rw [hsz] at HOW
  have HGB := hid (old_alloc (o' := .cells #[] 96) gB)
  have hs3 : (W.alloc (.cells #[] 96)).heap.size = w.heap.size + 3 := by simp [hsz]
  have HB3 := hid (balloc hB (.cells #[] 96))
  obtain ⟨a0, a1, f0, f1⟩ := cell2r gA
  obtain ⟨b0, b1, e0, e1⟩ := cell2r gB
  clear gA gB hB
  go_region_held3 (fun w' => w'.cell? ⟨w.heap.size, 0, none⟩ = some (.int .i64 kd) ∧ w'.cell? ⟨w.heap.size, 1, none⟩ = some (.slice (some ⟨b, off, none⟩) ps.length cap)) ((go_split_ands; (repeat' apply And.intro) <;> (repeat (first | with_reducible assumption | with_reducible refine keepset3 ?_ (by dsimp only; omega) | with_reducible refine keepdrew ?_ | with_reducible refine keepalloc ?_ _ | (refine hgrow.cell ?_ (by simp [Value.ownBlock]; try omega))))))
    ((refine step_append_lies _ (by rfl) _ _ _ (by rfl) (w.heap.size + 2) 96 i0 _ 2 16 Tryz.underlying42 hi0 hz0 hz1 hz2 rfl (by omega) _ 0 [] (by rw [← hsz]; rfl) (HOW.out.drew) ⟨b, off, none⟩ ps.length cap (fl2 ps) (by rfl) hN HNW.out HF1.out h0 (by unfold maxLen; omega) (by omega) (by show _ ≤ (W.alloc (.cells #[] 96)).heap.size; omega) (w.heap.size + 3) hs3 ?_; intro gg cp w2 hown1 hgrow hat hlt; have gB := grown_blk (p := w.heap.size + 2) hgrow HGB.out (by omega); obtain ⟨y0, y1, x0, x1⟩ := cell2r gB))
  have HO1 := hid (own_pts (ps := ps) (by simpa using hown1) (by omega))
  have HB4 := hid (bgrown (p := w.heap.size + 2) (bdrew HB3.out) hgrow (by omega))
  clear hown1 hgrow
  go_wp2_with fail
  obtain ⟨h1, h2, h3⟩ := HO1.out
  have gF := set2r gB (.int .i64 kd) (.slice (some ⟨gg, 0, none⟩) ps.length cp)
  have bF := bset (bset HB4.out (q := w.heap.size + 1) (k := 0) (by omega) (.int .i64 kd)) (q := w.heap.size + 1) (k := 1) (by omega) (.slice (some ⟨gg, 0, none⟩) ps.length cp)
  have oF : PtsOwn ((w2.setCell ⟨w.heap.size + 1, 0, none⟩ (.int .i64 kd)).setCell ⟨w.heap.size + 1, 1, none⟩ (.slice (some ⟨gg, 0, none⟩) ps.length cp)) gg ps := by
    refine own_blk h3 ?_ (by simp; exact h3.1)
    rw [Below.heap_setCell _ _ _ _ (by dsimp only; omega), Below.heap_setCell _ _ _ _ (by dsimp only; omega)]
  generalize (w2.setCell ⟨w.heap.size + 1, 0, none⟩ (.int .i64 kd)).setCell ⟨w.heap.size + 1, 1, none⟩ (.slice (some ⟨gg, 0, none⟩) ps.length cp) = wf at *
  obtain ⟨z0, z1, _, _⟩ := cell2r gF
  exact bodyPost_ret (v := .agg #[.int .i64 kd, .slice (some ⟨gg, 0, none⟩) ps.length cp]) (by simp [results, Tryz.results64, go_sem, z0, z1]) rfl ⟨gg, cp, rfl, by omega, by omega, oF, bF⟩
end Go.Proofs.YtnajddjalagmoaaGreatDoor
namespace Go.Proofs.YtnajddjalagmoaaGreatDoor
open Go.RowKit
set_option linter.unusedSimpArgs false
set_option linter.unusedVariables false
theorem keepheapA {w w' : World} (hb : Below w.heap.size w w') {b : Nat} {o : Obj} (h : w.heap[b]? = some o) : w'.heap[b]? = some o := by
  rw [hb.block b (lt_of_block h)]; exact h
end Go.Proofs.YtnajddjalagmoaaGreatDoor
namespace Go.Proofs.YtnajddjalagmoaaGreatDoor
open Go.RowKit
set_option linter.unusedSimpArgs false
set_option linter.unusedVariables false
def txn (ts : List Tx) (n : Int) : Tx := ts.getD n.toNat (0, false, [])
theorem txn_at {ts : List Tx} {m : Nat} (h : m < ts.length) : txn ts (m : Int) = ts[m] := by
  unfold txn
  rw [show ((m : Int)).toNat = m by omega, List.getD_eq_getElem?_getD, List.getElem?_eq_getElem h]; rfl
def opn (now : Int) (rs : List Rw) (ts : List Tx) (n : Int) : Bool := storeb now rs ts && ((decide (0 ≤ n) && decide (n ≤ (ts.length : Int) - 1)) && (txn ts n).2.1)
set_option maxRecDepth 100000 in
set_option maxHeartbeats 2000000 in
theorem spec_open {N1 N2 : Nat → Prop} (now : Int) (a ta : Option Addr) (cap tcap : Nat) (rs : List Rw) (ts : List Tx) (n : Int) (w : World) (hm : rs.length ≤ 1099511627776) (htm : ts.length ≤ 1099511627776) (hr : Rws N1 w a rs) (ht : Txs N2 1099511627776 w ta ts) : Calls Tryz.prog 22 #[.agg #[.int .i64 now, .slice a rs.length cap, .slice ta ts.length tcap], .int .i64 n] w fun e w' => e = .returned (.bool (opn now rs ts n)) ∧ Below w.heap.size w w' := by
  have HOK := hid (fun (W : World) (hb : Below w.heap.size w W) => spec_StoreOk now a ta cap tcap rs ts W hm htm (hr.below hb) (ht.below hb))
  have HTX := hid ht
  have HOP := hid (show opn now rs ts n = (storeb now rs ts && ((decide (0 ≤ n) && decide (n ≤ (ts.length : Int) - 1)) && (txn ts n).2.1)) from rfl)
  clear hr ht
  generalize opn now rs ts n = q at *
  generalize storeb now rs ts = ob at *
  obtain ⟨tn, hn⟩ : ∃ tn, tn = ts.length := ⟨_, rfl⟩
  have HN := hid hn.symm
  rw [← hn] at htm HOK HOP ⊢
  clear hn
  generalize rs.length = rn at *
  have hB0 : Below w.heap.size w (w.alloc (.cells #[.int .i64 now, .slice a rn cap, .slice ta tn tcap] 38)) := balloc (Below.refl _ _) _
  have g0 := new_alloc w w.heap.size (.cells #[.int .i64 now, .slice a rn cap, .slice ta tn tcap] 38) rfl
  go_enter Tryz.func22, Tryz.ntmps22
  go_upto_region 1 with fail
  generalize w.alloc (.cells #[.int .i64 now, .slice a rn cap, .slice ta tn tcap] 38) = W0 at *
  obtain ⟨⟨d0, d1, d2⟩, _⟩ := cellk3 g0
  go_wp2_with fail
  refine (HOK.out _ hB0).mono ?_
  rintro e z ⟨rfl, hz⟩
  replace g0 := keepheapA hz g0
  have HB := hid (btrans hB0 hz)
  clear hB0 hz HOK d0 d1 d2
  obtain ⟨⟨d0, d1, d2⟩, _⟩ := cellk3 g0
  clear g0
  cases ob
  · go_wp2_with fail
    go_ret
    exact ⟨by rw [HOP.out]; rfl, HB.out⟩
  · have HI := hid (fun W => in_r n 0 ((tn : Int) - 1) W)
    by_cases hin : 0 ≤ n ∧ n ≤ (tn : Int) - 1
    · have hq : (decide (0 ≤ n) && decide (n ≤ (tn : Int) - 1)) = true := by simp [hin.1, hin.2]
      have HQ := hid (show q = (txn ts n).2.1 by rw [HOP.out, hq]; simp)
      rw [hq] at HI
      obtain ⟨m, rfl⟩ : ∃ m : Nat, n = (m : Int) := ⟨n.toNat, by omega⟩
      have hmn : m < tn := by omega
      have hmr : m < ts.length := by rw [HN.out]; exact hmn
      obtain ⟨b, o, rfl, hbs, a', cap', k0, k1, k2, _, _, _, _⟩ := (HTX.out.below HB.out).at m hmr
      have HQ2 := hid (show ts[m].2.1 = q by rw [HQ.out, txn_at hmr])
      generalize ts[m].2.1 = q2 at *
      clear HQ hq hin HOP
      go_wp2_with fail
      refine (HI.out _).mono ?_
      rintro e z2 ⟨rfl, hz2⟩
      replace hz2 := hz2.symm
      subst hz2
      go_wp2_with fail
      go_ret
      exact ⟨by rw [HQ2.out]; rfl, HB.out⟩
    · have hq : (decide (0 ≤ n) && decide (n ≤ (tn : Int) - 1)) = false := by
        by_cases h1 : 0 ≤ n
        · have : ¬ n ≤ (tn : Int) - 1 := fun h => hin ⟨h1, h⟩
          simp [this]
        · simp [h1]
      have HQ := hid (show q = false by rw [HOP.out, hq]; simp)
      rw [hq] at HI
      go_wp2_with fail
      refine (HI.out _).mono ?_
      rintro e z2 ⟨rfl, hz2⟩
      replace hz2 := hz2.symm
      subst hz2
      go_wp2_with fail
      go_ret
      exact ⟨by rw [HQ.out]; rfl, HB.out⟩
/-- What an open transaction has. -/
theorem opn_yes {now : Int} {rs : List Rw} {ts : List Tx} {n : Int} (h : opn now rs ts n = true) : ∃ m : Nat, n = (m : Int) ∧ ∃ hm : m < ts.length, rowsb now rs = true ∧ txn ts n = ts[m] ∧ edb ts[m].2.2 = true ∧ ts[m].2.1 = true := by
  unfold opn storeb at h
  simp only [Bool.and_eq_true, decide_eq_true_eq, List.all_eq_true] at h
  obtain ⟨⟨h1, _, h2⟩, ⟨h3, h4⟩, h5⟩ := h
  obtain ⟨m, rfl⟩ : ∃ m : Nat, n = (m : Int) := ⟨n.toNat, by omega⟩
  have hm : m < ts.length := by omega
  have hx := h2 ts[m] (List.getElem_mem hm)
  unfold txb at hx
  simp only [Bool.and_eq_true] at hx
  refine ⟨m, rfl, hm, h1, txn_at hm, hx.2, ?_⟩
  rw [txn_at hm] at h5; exact h5
end Go.Proofs.YtnajddjalagmoaaGreatDoor
namespace Go.Proofs.YtnajddjalagmoaaGreatDoor
open Go.RowKit
set_option linter.unusedSimpArgs false
set_option linter.unusedVariables false
theorem keepheapW {w w' : World} (hb : Below w.heap.size w w') {b : Nat} {o : Obj} (h : w.heap[b]? = some o) : w'.heap[b]? = some o := (hb.block b (by by_cases q : b < w.heap.size; exact q; rw [Array.getElem?_eq_none (by omega)] at h; cases h)).trans h
/-- There is a transaction of the number, and it is open. -/
def gob (ts : List Tx) (n : Int) : Bool := decide (0 ≤ n) && (decide (n < (ts.length : Int)) && (txn ts n).2.1)
theorem gob_opn {now : Int} {rs : List Rw} {ts : List Tx} {n : Int} : opn now rs ts n = (storeb now rs ts && gob ts n) := by
  unfold opn gob
  have : decide (n ≤ (ts.length : Int) - 1) = decide (n < (ts.length : Int)) := by
    by_cases h : n < (ts.length : Int)
    · rw [decide_eq_true h, decide_eq_true (by omega)]
    · rw [decide_eq_false h, decide_eq_false (by omega)]
  rw [this, Bool.and_assoc]
set_option maxRecDepth 100000 in
set_option maxHeartbeats 2000000 in
theorem goes_c {N : Nat → Prop} (now : Int) (a ta : Option Addr) (rn cap tcap : Nat) (ts : List Tx) (n : Int) (w : World) (htm : ts.length ≤ 1099511627776) (ht : Txs N 1099511627776 w ta ts) : Calls Tryz.prog 88 #[.agg #[.int .i64 now, .slice a rn cap, .slice ta ts.length tcap], .int .i64 n] w fun e w' => e = .returned (.bool (gob ts n)) ∧ Below w.heap.size w w' := by
  have HTX := hid ht
  have HG := hid (show gob ts n = (decide (0 ≤ n) && (decide (n < (ts.length : Int)) && (txn ts n).2.1)) from rfl)
  clear ht
  generalize gob ts n = gb at *
  obtain ⟨tn, hn⟩ : ∃ tn, tn = ts.length := ⟨_, rfl⟩
  have HN := hid hn.symm
  rw [← hn] at htm HG ⊢
  clear hn
  have hB : Below w.heap.size w (w.alloc (.cells #[.int .i64 now, .slice a rn cap, .slice ta tn tcap] 38)) := balloc (Below.refl _ _) _
  have g0 := new_alloc w w.heap.size (.cells #[.int .i64 now, .slice a rn cap, .slice ta tn tcap] 38) rfl
  go_enter Tryz.func88, Tryz.ntmps88
  go_upto_region 1 with fail
  generalize w.alloc (.cells #[.int .i64 now, .slice a rn cap, .slice ta tn tcap] 38) = W at *
  obtain ⟨⟨d0, d1, d2⟩, _⟩ := cellk3 g0
  by_cases h1 : 0 ≤ n
  · by_cases h2 : n < (tn : Int)
    · obtain ⟨m, rfl⟩ : ∃ m : Nat, n = (m : Int) := ⟨n.toNat, by omega⟩
      have hmr : m < ts.length := by rw [HN.out]; omega
      obtain ⟨b, o, rfl, hbs, a', cap', k0, k1, k2, _, _, _, _⟩ := (HTX.out.below hB).at m hmr
      have HQ : Hid (gb = ts[m].2.1) := hid (by rw [HG.out, txn_at hmr]; simp [h1, h2])
      clear HG k0 k2
      generalize ts[m].2.1 = op at *
      go_wp2_with fail
      go_ret
      exact ⟨by rw [HQ.out]; rfl, hB⟩
    · have HQ : Hid (gb = false) := hid (by rw [HG.out]; simp [h2])
      have h2' : (tn : Int) ≤ n := by omega
      clear HG
      go_wp2_with fail
      go_ret
      exact ⟨by rw [HQ.out]; rfl, hB⟩
  · have HQ : Hid (gb = false) := hid (by rw [HG.out]; simp [h1])
    clear HG
    go_wp2_with fail
    go_ret
    exact ⟨by rw [HQ.out]; rfl, hB⟩
set_option maxRecDepth 100000 in
set_option maxHeartbeats 4000000 in
theorem atwork_c (now : Int) (a ca : Option Addr) (rn cap b o tn tcap m n ccap : Nat) (st : Int) (op : Bool) (w : World) (hmt : m < tn) (htm : tn ≤ 1099511627776) (k0 : w.cell? ⟨b, o + m * 3, none⟩ = some (.int .i64 st)) (k1 : w.cell? ⟨b, o + m * 3 + 1, none⟩ = some (.bool op)) (k2 : w.cell? ⟨b, o + m * 3 + 2, none⟩ = some (.slice ca n ccap)) : Calls Tryz.prog 90 #[.agg #[.int .i64 now, .slice a rn cap, .slice (some ⟨b, o, none⟩) tn tcap], .int .i64 m] w fun e w' => e = .returned (.agg #[.slice ca n ccap, .int .i64 st, .bool op, .int .i64 now, .slice a rn cap]) ∧ Below w.heap.size w w' := by
  have c0 : (m : Int) < (tn : Int) := by omega
  have c0'' : (0 : Int) ≤ (m : Int) := by omega
  have hB0 : Below w.heap.size w ((w.alloc (.cells #[.int .i64 now, .slice a rn cap, .slice (some ⟨b, o, none⟩) tn tcap] 38)).alloc (.cells #[.slice none 0 0, .int .i64 0, .bool false, .int .i64 0, .slice none 0 0] 104)) := balloc (balloc (Below.refl _ _) _) _
  have g0 := old_alloc (o' := (.cells #[.slice none 0 0, .int .i64 0, .bool false, .int .i64 0, .slice none 0 0] 104)) (new_alloc w w.heap.size (.cells #[.int .i64 now, .slice a rn cap, .slice (some ⟨b, o, none⟩) tn tcap] 38) rfl)
  have g1 := new_alloc (w.alloc (.cells #[.int .i64 now, .slice a rn cap, .slice (some ⟨b, o, none⟩) tn tcap] 38)) (w.heap.size + 1) (.cells #[.slice none 0 0, .int .i64 0, .bool false, .int .i64 0, .slice none 0 0] 104) (by simp)
  replace k0 := keepcell hB0 k0
  replace k1 := keepcell hB0 k1
  replace k2 := keepcell hB0 k2
  go_enter Tryz.func90, Tryz.ntmps90
  go_upto_region 1 with fail
  generalize (w.alloc (.cells #[.int .i64 now, .slice a rn cap, .slice (some ⟨b, o, none⟩) tn tcap] 38)).alloc (.cells #[.slice none 0 0, .int .i64 0, .bool false, .int .i64 0, .slice none 0 0] 104) = z at *
  obtain ⟨⟨d0, d1, d2⟩, _⟩ := cellk3 g0
  go_upto_region 2 with fail
  have hBt : Below z.heap.size z (z.alloc (.cells #[.int .i64 st, .bool op, .slice ca n ccap] 63)) := balloc (Below.refl _ _) _
  have g2 := new_alloc z z.heap.size (.cells #[.int .i64 st, .bool op, .slice ca n ccap] 63) rfl
  replace g0 := keepheapW hBt g0
  replace g1 := keepheapW hBt g1
  have HB2 := hid (btrans hB0 hBt)
  clear hBt d0 d1 d2 k0 k1 k2 hB0
  generalize z.alloc (.cells #[.int .i64 st, .bool op, .slice ca n ccap] 63) = Y at *
  generalize z.heap.size = Z at *
  obtain ⟨⟨d0, d1, d2⟩, _⟩ := cellk3 g0
  obtain ⟨⟨t0, t1, t2⟩, _⟩ := cellk3 g2
  obtain ⟨⟨f0, f1, f2, f3, f4⟩, p0, p1, p2, p3, p4⟩ := cell5g g1
  go_wp2_with fail
  have gF := set5 g1 (.slice ca n ccap) (.int .i64 st) (.bool op) (.int .i64 now) (.slice a rn cap)
  have bF := bset (bset (bset (bset (bset HB2.out (q := w.heap.size + 1) (k := 0) (by omega) (.slice ca n ccap)) (q := w.heap.size + 1) (k := 1) (by omega) (.int .i64 st)) (q := w.heap.size + 1) (k := 2) (by omega) (.bool op)) (q := w.heap.size + 1) (k := 3) (by omega) (.int .i64 now)) (q := w.heap.size + 1) (k := 4) (by omega) (.slice a rn cap)
  generalize (((((Y.setCell ⟨w.heap.size + 1, 0, none⟩ (.slice ca n ccap)).setCell ⟨w.heap.size + 1, 1, none⟩ (.int .i64 st)).setCell ⟨w.heap.size + 1, 2, none⟩ (.bool op)).setCell ⟨w.heap.size + 1, 3, none⟩ (.int .i64 now)).setCell ⟨w.heap.size + 1, 4, none⟩ (.slice a rn cap)) = wf at *
  obtain ⟨⟨z0, z1, z2, z3, z4⟩, _⟩ := cell5g gF
  exact bodyPost_ret (v := .agg #[.slice ca n ccap, .int .i64 st, .bool op, .int .i64 now, .slice a rn cap]) (by simp [results, Tryz.results90, go_sem, z0, z1, z2, z3, z4]) rfl ⟨rfl, bF⟩
end Go.Proofs.YtnajddjalagmoaaGreatDoor
namespace Go.Proofs.YtnajddjalagmoaaGreatDoor
open Go.RowKit
set_option linter.unusedSimpArgs false
set_option linter.unusedVariables false
def zrun : Value := .agg #[.slice none 0 0, .int .i64 0, .bool false, .int .i64 0, .slice none 0 0]
set_option maxRecDepth 100000 in
set_option maxHeartbeats 4000000 in
theorem run_no {N1 N2 : Nat → Prop} (now : Int) (a ta : Option Addr) (cap tcap : Nat) (rs : List Rw) (ts : List Tx) (n : Int) (w : World) (hm : rs.length ≤ 1099511627776) (htm : ts.length ≤ 1099511627776) (hr : Rws N1 w a rs) (ht : Txs N2 1099511627776 w ta ts) (et : TypeId) (ev : Value) (hg : w.cell? ⟨0, 0, none⟩ = some (.iface et ev)) (h : opn now rs ts n = false) : Calls Tryz.prog 57 #[.agg #[.int .i64 now, .slice a rs.length cap, .slice ta ts.length tcap], .int .i64 n] w fun e w' => e = .returned (.tuple #[zrun, .iface 111 (.agg #[.int .i64 1, .iface et ev])]) ∧ Below w.heap.size w w' := by
  have HOK := hid (fun (W : World) (hb : Below w.heap.size w W) => impl_StoreOk now a ta cap tcap rs ts W hm htm (hr.below hb) (ht.below hb))
  have HGO := hid (fun (W : World) (hb : Below w.heap.size w W) => goes_c now a ta rs.length cap tcap ts n W htm (ht.below hb))
  rw [gob_opn] at h
  clear hr ht
  generalize storeb now rs ts = ob at *
  generalize gob ts n = gb at *
  generalize ts.length = tn at *
  generalize rs.length = rn at *
  have hB0 : Below w.heap.size w ((w.alloc (.cells #[.int .i64 now, .slice a rn cap, .slice ta tn tcap] 38)).alloc (.cells #[.slice none 0 0, .int .i64 0, .bool false, .int .i64 0, .slice none 0 0] 104)) := balloc (balloc (Below.refl _ _) _) _
  have g0 := old_alloc (o' := (.cells #[.slice none 0 0, .int .i64 0, .bool false, .int .i64 0, .slice none 0 0] 104)) (new_alloc w w.heap.size (.cells #[.int .i64 now, .slice a rn cap, .slice ta tn tcap] 38) rfl)
  have g1 := new_alloc (w.alloc (.cells #[.int .i64 now, .slice a rn cap, .slice ta tn tcap] 38)) (w.heap.size + 1) (.cells #[.slice none 0 0, .int .i64 0, .bool false, .int .i64 0, .slice none 0 0] 104) (by simp)
  go_enter Tryz.func57, Tryz.ntmps57
  go_upto_region 1 with fail
  generalize (w.alloc (.cells #[.int .i64 now, .slice a rn cap, .slice ta tn tcap] 38)).alloc (.cells #[.slice none 0 0, .int .i64 0, .bool false, .int .i64 0, .slice none 0 0] 104) = W0 at *
  obtain ⟨⟨d0, d1, d2⟩, _⟩ := cellk3 g0
  go_wp2_with fail
  refine (HGO.out _ hB0).mono ?_
  rintro e z0 ⟨rfl, hz⟩
  replace g0 := keepheapA hz g0
  replace g1 := keepheapA hz g1
  have hB1 := btrans hB0 hz
  clear hB0 hz HGO d0 d1 d2
  cases gb
  · obtain ⟨z, hz⟩ : ∃ z, z = z0 := ⟨_, rfl⟩
    rw [← hz] at g0 g1 hB1 ⊢
    clear hz
    have HB := hid hB1
    clear hB1
    have hgz := keepcell HB.out hg
    have hgl := World.block_lt_of_cell? w ⟨0, 0, none⟩ hg
    simp only at hgl
    clear hg
    obtain ⟨⟨d0, d1, d2⟩, _⟩ := cellk3 g0
    obtain ⟨⟨f0, f1, f2, f3, f4⟩, p0, p1, p2, p3, p4⟩ := cell5g g1
    clear g0
    go_wp2_with fail
    go_region
    go_wp2_with fail
    have gF := set5 g1 (.slice none 0 0) (.int .i64 0) (.bool false) (.int .i64 0) (.slice none 0 0)
    have bF := bset (bset (bset (bset (bset HB.out (q := w.heap.size + 1) (k := 0) (by omega) (.slice none 0 0)) (q := w.heap.size + 1) (k := 1) (by omega) (.int .i64 0)) (q := w.heap.size + 1) (k := 2) (by omega) (.bool false)) (q := w.heap.size + 1) (k := 3) (by omega) (.int .i64 0)) (q := w.heap.size + 1) (k := 4) (by omega) (.slice none 0 0)
    generalize (((((z.setCell ⟨w.heap.size + 1, 0, none⟩ (.slice none 0 0)).setCell ⟨w.heap.size + 1, 1, none⟩ (.int .i64 0)).setCell ⟨w.heap.size + 1, 2, none⟩ (.bool false)).setCell ⟨w.heap.size + 1, 3, none⟩ (.int .i64 0)).setCell ⟨w.heap.size + 1, 4, none⟩ (.slice none 0 0)) = wf at *
    obtain ⟨⟨z0, z1, z2, z3, z4⟩, _⟩ := cell5g gF
    replace z0 : wf.drew.cell? ⟨w.heap.size + 1, 0, none⟩ = some (.slice none 0 0) := z0
    replace z1 : wf.drew.cell? ⟨w.heap.size + 1, 1, none⟩ = some (.int .i64 0) := z1
    replace z2 : wf.drew.cell? ⟨w.heap.size + 1, 2, none⟩ = some (.bool false) := z2
    replace z3 : wf.drew.cell? ⟨w.heap.size + 1, 3, none⟩ = some (.int .i64 0) := z3
    replace z4 : wf.drew.cell? ⟨w.heap.size + 1, 4, none⟩ = some (.slice none 0 0) := z4
    exact bodyPost_ret (v := .tuple #[zrun, .iface 111 (.agg #[.int .i64 1, .iface et ev])]) (by simp [results, Tryz.results57, go_sem, z0, z1, z2, z3, z4, zrun]) rfl ⟨rfl, bdrew bF⟩
  · have hob : ob = false := by simpa using h
    subst hob
    obtain ⟨⟨d0, d1, d2⟩, _⟩ := cellk3 g0
    go_wp2_with fail
    refine (HOK.out _ hB1).mono ?_
    rintro e z ⟨rfl, hz⟩
    replace g0 := keepheapA hz g0
    replace g1 := keepheapA hz g1
    have HB := hid (btrans hB1 hz)
    have hgz := keepcell HB.out hg
    have hgl := World.block_lt_of_cell? w ⟨0, 0, none⟩ hg
    simp only at hgl
    clear hg hB1 hz HOK d0 d1 d2
    obtain ⟨⟨d0, d1, d2⟩, _⟩ := cellk3 g0
    obtain ⟨⟨f0, f1, f2, f3, f4⟩, p0, p1, p2, p3, p4⟩ := cell5g g1
    clear g0
    go_wp2_with fail
    go_region
    go_wp2_with fail
    have gF := set5 g1 (.slice none 0 0) (.int .i64 0) (.bool false) (.int .i64 0) (.slice none 0 0)
    have bF := bset (bset (bset (bset (bset HB.out (q := w.heap.size + 1) (k := 0) (by omega) (.slice none 0 0)) (q := w.heap.size + 1) (k := 1) (by omega) (.int .i64 0)) (q := w.heap.size + 1) (k := 2) (by omega) (.bool false)) (q := w.heap.size + 1) (k := 3) (by omega) (.int .i64 0)) (q := w.heap.size + 1) (k := 4) (by omega) (.slice none 0 0)
    generalize (((((z.setCell ⟨w.heap.size + 1, 0, none⟩ (.slice none 0 0)).setCell ⟨w.heap.size + 1, 1, none⟩ (.int .i64 0)).setCell ⟨w.heap.size + 1, 2, none⟩ (.bool false)).setCell ⟨w.heap.size + 1, 3, none⟩ (.int .i64 0)).setCell ⟨w.heap.size + 1, 4, none⟩ (.slice none 0 0)) = wf at *
    obtain ⟨⟨z0, z1, z2, z3, z4⟩, _⟩ := cell5g gF
    replace z0 : wf.drew.cell? ⟨w.heap.size + 1, 0, none⟩ = some (.slice none 0 0) := z0
    replace z1 : wf.drew.cell? ⟨w.heap.size + 1, 1, none⟩ = some (.int .i64 0) := z1
    replace z2 : wf.drew.cell? ⟨w.heap.size + 1, 2, none⟩ = some (.bool false) := z2
    replace z3 : wf.drew.cell? ⟨w.heap.size + 1, 3, none⟩ = some (.int .i64 0) := z3
    replace z4 : wf.drew.cell? ⟨w.heap.size + 1, 4, none⟩ = some (.slice none 0 0) := z4
    exact bodyPost_ret (v := .tuple #[zrun, .iface 111 (.agg #[.int .i64 1, .iface et ev])]) (by simp [results, Tryz.results57, go_sem, z0, z1, z2, z3, z4, zrun]) rfl ⟨rfl, bdrew bF⟩
set_option maxRecDepth 100000 in
set_option maxHeartbeats 4000000 in
theorem run_yes {N1 N2 : Nat → Prop} (now : Int) (a ta : Option Addr) (cap tcap : Nat) (rs : List Rw) (ts : List Tx) (m : Nat) (w : World) (hm : rs.length ≤ 1099511627776) (htm : ts.length ≤ 1099511627776) (hr : Rws N1 w a rs) (ht : Txs N2 1099511627776 w ta ts) (hmr : m < ts.length) (hst : storeb now rs ts = true) (hop : ts[m].2.1 = true) : Calls Tryz.prog 57 #[.agg #[.int .i64 now, .slice a rs.length cap, .slice ta ts.length tcap], .int .i64 m] w fun e w' => ∃ ca ccap, e = .returned (.tuple #[.agg #[.slice ca ts[m].2.2.length ccap, .int .i64 ts[m].1, .bool true, .int .i64 now, .slice a rs.length cap], .nilIface]) ∧ ts[m].2.2.length ≤ 1099511627776 ∧ Chs N2 1099511627776 w' ca ts[m].2.2 ∧ Below w.heap.size w w' := by
  have HOK := hid (fun (W : World) (hb : Below w.heap.size w W) => impl_StoreOk now a ta cap tcap rs ts W hm htm (hr.below hb) (ht.below hb))
  rw [hst] at HOK
  have HGO := hid (fun (W : World) (hb : Below w.heap.size w W) => goes_c now a ta rs.length cap tcap ts (m : Int) W htm (ht.below hb))
  have hgb : gob ts (m : Int) = true := by unfold gob; rw [txn_at hmr, hop]; simp; omega
  rw [hgb] at HGO
  obtain ⟨b, o, rfl, hbs, ca, ccap, k0, k1, k2, _, hcm, hcs, _⟩ := ht.at m hmr
  rw [hop] at k1
  have HCS := hid hcs
  clear hr ht hcs hst hop hgb
  generalize ts[m].1 = st at *
  generalize ts[m].2.2 = cs at *
  generalize ts.length = tn at *
  generalize rs.length = rn at *
  obtain ⟨n, hn⟩ : ∃ n, n = cs.length := ⟨_, rfl⟩
  rw [← hn] at hcm k2 ⊢
  clear hn
  have HAW := hid (fun (W : World) (hb : Below w.heap.size w W) => atwork_c now a ca rn cap b o tn tcap m n ccap st true W hmr htm (keepcell hb k0) (keepcell hb k1) (keepcell hb k2))
  clear k0 k1 k2
  have hB0 : Below w.heap.size w ((w.alloc (.cells #[.int .i64 now, .slice a rn cap, .slice (some ⟨b, o, none⟩) tn tcap] 38)).alloc (.cells #[.slice none 0 0, .int .i64 0, .bool false, .int .i64 0, .slice none 0 0] 104)) := balloc (balloc (Below.refl _ _) _) _
  have g0 := old_alloc (o' := (.cells #[.slice none 0 0, .int .i64 0, .bool false, .int .i64 0, .slice none 0 0] 104)) (new_alloc w w.heap.size (.cells #[.int .i64 now, .slice a rn cap, .slice (some ⟨b, o, none⟩) tn tcap] 38) rfl)
  have g1 := new_alloc (w.alloc (.cells #[.int .i64 now, .slice a rn cap, .slice (some ⟨b, o, none⟩) tn tcap] 38)) (w.heap.size + 1) (.cells #[.slice none 0 0, .int .i64 0, .bool false, .int .i64 0, .slice none 0 0] 104) (by simp)
  go_enter Tryz.func57, Tryz.ntmps57
  go_upto_region 1 with fail
  generalize (w.alloc (.cells #[.int .i64 now, .slice a rn cap, .slice (some ⟨b, o, none⟩) tn tcap] 38)).alloc (.cells #[.slice none 0 0, .int .i64 0, .bool false, .int .i64 0, .slice none 0 0] 104) = W0 at *
  obtain ⟨⟨d0, d1, d2⟩, _⟩ := cellk3 g0
  go_wp2_with fail
  refine (HGO.out _ hB0).mono ?_
  rintro e z0 ⟨rfl, hz⟩
  replace g0 := keepheapA hz g0
  replace g1 := keepheapA hz g1
  replace hB0 := btrans hB0 hz
  clear hz d0 d1 d2
  obtain ⟨⟨d0, d1, d2⟩, _⟩ := cellk3 g0
  go_wp2_with fail
  refine (HOK.out _ hB0).mono ?_
  rintro e z1 ⟨rfl, hz⟩
  replace g0 := keepheapA hz g0
  replace g1 := keepheapA hz g1
  replace hB0 := btrans hB0 hz
  clear hz d0 d1 d2
  obtain ⟨⟨d0, d1, d2⟩, _⟩ := cellk3 g0
  go_wp2_with fail
  refine (HAW.out _ hB0).mono ?_
  rintro e Y ⟨rfl, hz⟩
  replace g1 := keepheapA hz g1
  have HB2 := hid (btrans hB0 hz)
  clear hz d0 d1 d2 hB0 HOK HGO HAW g0
  obtain ⟨⟨f0, f1, f2, f3, f4⟩, p0, p1, p2, p3, p4⟩ := cell5g g1
  go_wp2_with fail
  have gF := set5 g1 (.slice ca n ccap) (.int .i64 st) (.bool true) (.int .i64 now) (.slice a rn cap)
  have bF := bset (bset (bset (bset (bset HB2.out (q := w.heap.size + 1) (k := 0) (by omega) (.slice ca n ccap)) (q := w.heap.size + 1) (k := 1) (by omega) (.int .i64 st)) (q := w.heap.size + 1) (k := 2) (by omega) (.bool true)) (q := w.heap.size + 1) (k := 3) (by omega) (.int .i64 now)) (q := w.heap.size + 1) (k := 4) (by omega) (.slice a rn cap)
  generalize (((((Y.setCell ⟨w.heap.size + 1, 0, none⟩ (.slice ca n ccap)).setCell ⟨w.heap.size + 1, 1, none⟩ (.int .i64 st)).setCell ⟨w.heap.size + 1, 2, none⟩ (.bool true)).setCell ⟨w.heap.size + 1, 3, none⟩ (.int .i64 now)).setCell ⟨w.heap.size + 1, 4, none⟩ (.slice a rn cap)) = wf at *
  obtain ⟨⟨z0', z1', z2, z3, z4⟩, _⟩ := cell5g gF
  exact bodyPost_ret (v := .tuple #[.agg #[.slice ca n ccap, .int .i64 st, .bool true, .int .i64 now, .slice a rn cap], .nilIface]) (by simp [results, Tryz.results57, go_sem, z0', z1', z2, z3, z4]) rfl ⟨ca, ccap, rfl, hcm, HCS.out.below bF, bF⟩
theorem edb_asc {cs : List Ch} (h : edb cs = true) : ∀ i j, i < j → j < cs.length → idc cs i < idc cs j := by
  have h1 : ∀ j, 0 < j → j < cs.length → idc cs (j - 1) < idc cs j := by
    intro j h0 hj
    unfold edb at h
    rw [List.all_eq_true] at h
    have := h j (List.mem_range.2 hj)
    unfold edi asc at this
    simp only [Bool.and_eq_true, Bool.or_eq_true, decide_eq_true_eq] at this
    rcases this.2 with h2 | h2
    · omega
    · exact h2
  intro i j hij
  induction j with
  | zero => omega
  | succ j ih =>
    intro hj
    have h2 := h1 (j + 1) (by omega) hj
    rw [show j + 1 - 1 = j by omega] at h2
    by_cases e : i = j
    · subst e; exact h2
    · have := ih (by omega) (by omega); omega
end Go.Proofs.YtnajddjalagmoaaGreatDoor
namespace Go.Proofs.YtnajddjalagmoaaGreatDoor
open Go.RowKit Go.Extern.Stop Go.Stop Go.Extern
theorem ar_valueOfP (t : Addr) (w : World) : (ReflectliteValue.unpack (.iface 146 (.pointer (some t)))).run Tryz.prog w
    = .ok (.agg #[.pointer (some ⟨4, 146, none⟩), .pointer (some ⟨w.heap.size, 0, none⟩), .int .u64 150]) (w.alloc (.cells #[.pointer (some t)] 146)) := by kernel_rfl
theorem ar_typeP (a : Addr) (w : World) : (ReflectliteValue.methodAny (ReflectliteValue.valueError "reflectlite.Value.Type" 0) (fun t _ _ _ => ReflectliteType.toType t) #[.agg #[.pointer (some ⟨4, 146, none⟩), .pointer (some a), .int .u64 150]]).run Tryz.prog w
    = .ok (.iface 173 (.agg #[.pointer (some ⟨4, 146, none⟩)])) w := by kernel_rfl
theorem ar_methodKind (n : Nat) (h : Value) (w : World) : (Go.method (n + 4) 173 (.agg #[h]) "Kind").run Tryz.prog w = .ok (179, h) w := by kernel_rfl
theorem ar_kindP (w : World) : ((ReflectliteType.abiMethod fun t => (fun a : Nat => Value.int IntKind.u8 (a : Int)) <$> Rtype.kind t) #[.pointer (some ⟨4, 146, none⟩)]).run Tryz.prog w = .ok (.int .u8 22) w := by kernel_rfl
theorem ar_kindS (w : World) : ((ReflectliteType.abiMethod fun t => (fun a : Nat => Value.int IntKind.u8 (a : Int)) <$> Rtype.kind t) #[.pointer (some ⟨4, 111, none⟩)]).run Tryz.prog w = .ok (.int .u8 25) w := by kernel_rfl
theorem ar_rlm (z : Sem Value) (f : TypeId → Addr → Nat → Nat → Sem Value) (v : Value) :
    ReflectliteValue.method z f #[v] = (do match ← ReflectliteValue.parts v with | none => z | some (t, a, fl) => f t a fl (fl % 32)) := rfl
theorem ar_partsP (a : Addr) (w : World) : (ReflectliteValue.parts (.agg #[.pointer (some ⟨4, 146, none⟩), .pointer (some a), .int .u64 150])).run Tryz.prog w = .ok (some (146, a, 150)) w := by kernel_rfl
theorem ar_isNilP (a p : Addr) (W : World) (ha : W.cell? a = some (.pointer (some p))) :
    (ReflectliteValue.method (ReflectliteValue.valueError "reflectlite.Value.IsNil" 0) ReflectliteValue.isNil #[.agg #[.pointer (some ⟨4, 146, none⟩), .pointer (some a), .int .u64 150]]).run Tryz.prog W = .ok (.bool false) W := by
  rw [ar_rlm]
  simp only [Sem.run_bind, ar_partsP, Result.andThen]
  simp [ReflectliteValue.isNil, loadVar, isAgg, underlying, Tryz.underlying146, ha, Result.andThen]
theorem ar_methodElem (n : Nat) (h : Value) (w : World) : (Go.method (n + 4) 173 (.agg #[h]) "Elem").run Tryz.prog w = .ok (194, .agg #[h]) w := by kernel_rfl
theorem ar_methodImplements (n : Nat) (h : Value) (w : World) : (Go.method (n + 4) 173 (.agg #[h]) "Implements").run Tryz.prog w = .ok (195, .agg #[h]) w := by kernel_rfl
theorem ar_methodAssignableTo (n : Nat) (h : Value) (w : World) : (Go.method (n + 4) 173 (.agg #[h]) "AssignableTo").run Tryz.prog w = .ok (192, .agg #[h]) w := by kernel_rfl
theorem ar_elemP (w : World) : (ReflectliteType.method ReflectliteType.elem #[.agg #[.pointer (some ⟨4, 146, none⟩)]]).run Tryz.prog w = .ok (.iface 173 (.agg #[.pointer (some ⟨4, 111, none⟩)])) w := by kernel_rfl
theorem ar_implementsS (w : World) : (ReflectliteType.relation "Implements" ReflectliteType.implements_ #[.agg #[.pointer (some ⟨4, 111, none⟩)], .iface 173 (.agg #[.pointer (some ⟨4, 73, none⟩)])]).run Tryz.prog w = .ok (.bool true) w := by kernel_rfl
theorem ar_typeOfS (v : Value) (w : World) : (ReflectliteType.typeOf #[.iface 111 v]).run Tryz.prog w = .ok (.iface 173 (.agg #[.pointer (some ⟨4, 111, none⟩)])) w := by kernel_rfl
theorem ar_assignableS (w : World) : (ReflectliteType.relation "AssignableTo" ReflectliteType.assignableTo #[.agg #[.pointer (some ⟨4, 111, none⟩)], .iface 173 (.agg #[.pointer (some ⟨4, 111, none⟩)])]).run Tryz.prog w = .ok (.bool true) w := by kernel_rfl
theorem ar_valueOfS (c : Int) (u : Value) (w : World) : (ReflectliteValue.unpack (.iface 111 (.agg #[.int .i64 c, u]))).run Tryz.prog w
    = .ok (.agg #[.pointer (some ⟨4, 111, none⟩), .pointer (some ⟨w.heap.size, 0, none⟩), .int .u64 153]) (w.alloc (.cells #[.int .i64 c, u] 111)) := by kernel_rfl
theorem ar_elemOfP (w : World) : (Rtype.elem? 146).run Tryz.prog w = .ok (some 111) w := by kernel_rfl
theorem ar_mkS (p : Addr) (w : World) : (ReflectliteValue.mk 111 p ReflectliteValue.flagAddr).run Tryz.prog w = .ok (.agg #[.pointer (some ⟨4, 111, none⟩), .pointer (some p), .int .u64 409]) w := by kernel_rfl
theorem ar_elemVP (a p : Addr) (W : World) (ha : W.cell? a = some (.pointer (some p))) :
    (ReflectliteValue.method (ReflectliteValue.valueError "reflectlite.Value.Elem" 0) ReflectliteValue.elem #[.agg #[.pointer (some ⟨4, 146, none⟩), .pointer (some a), .int .u64 150]]).run Tryz.prog W
      = .ok (.agg #[.pointer (some ⟨4, 111, none⟩), .pointer (some p), .int .u64 409]) W := by
  rw [ar_rlm]
  simp only [Sem.run_bind, ar_partsP, Result.andThen]
  simp [ReflectliteValue.elem, loadVar, isAgg, underlying, Tryz.underlying146, ha, Result.andThen, ar_elemOfP, ar_mkS]
theorem ar_rls (v x : Value) : ReflectliteValue.set #[v, x] = (do
    let (some (dst, a, fl), some (src, b, _)) := (← ReflectliteValue.parts v, ← ReflectliteValue.parts x)
      | unsupported (.noEntry "extern/(internal/reflectlite.Value).Set.zeroValue")
    if fl / ReflectliteValue.flagAddr % 2 == 0 then unsupported (.noEntry "extern/(internal/reflectlite.Value).Set.unaddressable")
    let val ← loadVar src b
    if ← Rtype.directlyAssignable dst src then storeVar dst a val
    else if ← Rtype.implements dst src then
      if (← Rtype.kind src) == 20 then
        match val with
        | .nilIface => unsupported (.noEntry "extern/reflectlite: a nil value of one interface type handed on as a value of another")
        | _ => storeVar dst a val
      else storeVar dst a (.iface src val)
    else panicString ("reflectlite.Set: value of type " ++ (← Rtype.spelt src) ++ " is not assignable to type " ++ (← Rtype.spelt dst))
    pure (.tuple #[])) := rfl
theorem ar_partsSa (a : Addr) (w : World) : (ReflectliteValue.parts (.agg #[.pointer (some ⟨4, 111, none⟩), .pointer (some a), .int .u64 409])).run Tryz.prog w = .ok (some (111, a, 409)) w := by kernel_rfl
theorem ar_partsS (a : Addr) (w : World) : (ReflectliteValue.parts (.agg #[.pointer (some ⟨4, 111, none⟩), .pointer (some a), .int .u64 153])).run Tryz.prog w = .ok (some (111, a, 153)) w := by kernel_rfl
theorem ar_directS (w : World) : (Rtype.directlyAssignable 111 111).run Tryz.prog w = .ok true w := by kernel_rfl
theorem ar_setS (ta b : Nat) (c : Int) (u old0 old1 : Value) (W : World) (hu : u.oneCell' = true) (hb0 : W.cell? ⟨b, 0, none⟩ = some (.int .i64 c)) (hb1 : W.cell? ⟨b, 1, none⟩ = some u) (ht0 : W.cell? ⟨ta, 0, none⟩ = some old0) (hf0 : W.frozen? ⟨ta, 0, none⟩ = false) (ht1 : W.cell? ⟨ta, 1, none⟩ = some old1) (hf1 : W.frozen? ⟨ta, 1, none⟩ = false) :
    (ReflectliteValue.set #[.agg #[.pointer (some ⟨4, 111, none⟩), .pointer (some ⟨ta, 0, none⟩), .int .u64 409], .agg #[.pointer (some ⟨4, 111, none⟩), .pointer (some ⟨b, 0, none⟩), .int .u64 153]]).run Tryz.prog W
      = .ok (.tuple #[]) ((W.setCell ⟨ta, 0, none⟩ (.int .i64 c)).setCell ⟨ta, 1, none⟩ u) := by
  rw [ar_rls]
  simp only [Sem.run_bind, ar_partsSa, ar_partsS, Result.andThen]
  simp [ReflectliteValue.flagAddr, loadVar, isAgg, underlying, Tryz.underlying111, hb0, hb1, Result.andThen, ar_directS, loadCells, loadCellsFrom, storeVar, Value.cells, storeCells, Addr.add]
  rw [run_store Tryz.prog W ⟨ta, 0, none⟩ _ _ (by rfl)]
  simp [ht0, hf0]
  rw [run_store Tryz.prog _ ⟨ta, 1, none⟩ _ _ hu]
  simp [ht1, hf1, World.cell?_setCell_other, World.frozen?_setCell]
end Go.Proofs.YtnajddjalagmoaaGreatDoor
namespace Go.Proofs.YtnajddjalagmoaaGreatDoor
open Go.RowKit Go.Extern.Stop Go.Stop Go.Extern
set_option maxHeartbeats 4000000 in
theorem ar_hit (c : Int) (u : Value) (tb : Nat) (old0 old1 : Value) (w : World) (hu : u.oneCell' = true) (hg : w.cell? ⟨3, 0, none⟩ = some (.iface 173 (.agg #[.pointer (some ⟨4, 73, none⟩)]))) (ht0 : w.cell? ⟨tb, 0, none⟩ = some old0) (hf0 : w.frozen? ⟨tb, 0, none⟩ = false) (ht1 : w.cell? ⟨tb, 1, none⟩ = some old1) (hf1 : w.frozen? ⟨tb, 1, none⟩ = false) :
    Calls Tryz.prog 93 #[.iface 111 (.agg #[.int .i64 c, u]), .iface 146 (.pointer (some ⟨tb, 0, none⟩))] w fun ev w' => ev = .returned (.bool true) ∧ w' = (((((w.alloc (.cells #[.pointer (some ⟨tb, 0, none⟩)] 146)).alloc (.cells #[.pointer (some ⟨4, 146, none⟩), .pointer (some ⟨w.heap.size, 0, none⟩), .int .u64 150] 186)).alloc (.cells #[.pointer (some ⟨4, 146, none⟩), .pointer (some ⟨w.heap.size, 0, none⟩), .int .u64 150] 186)).alloc (.cells #[.int .i64 c, u] 111)).setCell ⟨tb, 0, none⟩ (.int .i64 c)).setCell ⟨tb, 1, none⟩ u := by
  have x1 := @run_callFunc_extern Tryz.prog 118 _ (fun args => ReflectliteValue.unpack (args.getD 0 (.tuple #[]))) Tryz.func118 (by kernel_rfl) (by kernel_rfl) (by kernel_rfl) (by kernel_rfl)
  have x2 := @run_callFunc_extern Tryz.prog 119 _ (ReflectliteValue.methodAny (ReflectliteValue.valueError "reflectlite.Value.Type" 0) (fun t _ _ _ => ReflectliteType.toType t)) Tryz.func119 (by kernel_rfl) (by kernel_rfl) (by kernel_rfl) (by kernel_rfl)
  have x3 := @run_callFunc_extern Tryz.prog 120 _ (ReflectliteValue.method (ReflectliteValue.valueError "reflectlite.Value.IsNil" 0) ReflectliteValue.isNil) Tryz.func120 (by kernel_rfl) (by kernel_rfl) (by kernel_rfl) (by kernel_rfl)
  have x4 := @run_callFunc_extern Tryz.prog 179 _ (ReflectliteType.abiMethod fun t => do pure (.int .u8 (← Rtype.kind t))) Tryz.func179 (by kernel_rfl) (by kernel_rfl) (by kernel_rfl) (by kernel_rfl)
  have x5 := @run_callFunc_extern Tryz.prog 194 _ (ReflectliteType.method ReflectliteType.elem) Tryz.func194 (by kernel_rfl) (by kernel_rfl) (by kernel_rfl) (by kernel_rfl)
  have x6 := @run_callFunc_extern Tryz.prog 195 _ (ReflectliteType.relation "Implements" ReflectliteType.implements_) Tryz.func195 (by kernel_rfl) (by kernel_rfl) (by kernel_rfl) (by kernel_rfl)
  have x7 := @run_callFunc_extern Tryz.prog 91 _ ReflectliteType.typeOf Tryz.func91 (by kernel_rfl) (by kernel_rfl) (by kernel_rfl) (by kernel_rfl)
  have x8 := @run_callFunc_extern Tryz.prog 192 _ (ReflectliteType.relation "AssignableTo" ReflectliteType.assignableTo) Tryz.func192 (by kernel_rfl) (by kernel_rfl) (by kernel_rfl) (by kernel_rfl)
  have x9 := @run_callFunc_extern Tryz.prog 133 _ (ReflectliteValue.method (ReflectliteValue.valueError "reflectlite.Value.Elem" 0) ReflectliteValue.elem) Tryz.func133 (by kernel_rfl) (by kernel_rfl) (by kernel_rfl) (by kernel_rfl)
  have x10 := @run_callFunc_extern Tryz.prog 134 _ ReflectliteValue.set Tryz.func134 (by kernel_rfl) (by kernel_rfl) (by kernel_rfl) (by kernel_rfl)
  have tO := ar_typeOfS
  have mA := ar_methodAssignableTo
  have a25 := ar_assignableS
  have v25 := ar_valueOfS
  have f6 := ar_valueOfP
  have f7 := ar_typeP
  have mK := ar_methodKind
  have mE := ar_methodElem
  have mI := ar_methodImplements
  have k27 := ar_kindP
  have k25 := ar_kindS
  have e27 := ar_elemP
  have i25 := ar_implementsS
  have n8 := ar_isNilP ⟨w.heap.size, 0, none⟩ ⟨tb, 0, none⟩ ((w.alloc (.cells #[.pointer (some ⟨tb, 0, none⟩)] 146)).alloc (.cells #[.pointer (some ⟨4, 146, none⟩), .pointer (some ⟨w.heap.size, 0, none⟩), .int .u64 150] 186)) (by simp)
  have hlt : 3 < w.heap.size := World.block_lt_of_cell? w ⟨3, 0, none⟩ hg
  have hg2 : ((w.alloc (.cells #[.pointer (some ⟨tb, 0, none⟩)] 146)).alloc (.cells #[.pointer (some ⟨4, 146, none⟩), .pointer (some ⟨w.heap.size, 0, none⟩), .int .u64 150] 186)).cell? ⟨3, 0, none⟩ = some (.iface 173 (.agg #[.pointer (some ⟨4, 73, none⟩)])) := by
    rw [World.cell?_alloc_lt _ _ ⟨3, 0, none⟩ (by simp <;> omega), World.cell?_alloc_lt _ _ ⟨3, 0, none⟩ hlt]; exact hg
  have htl : tb < w.heap.size := World.block_lt_of_cell? w ⟨tb, 0, none⟩ ht0
  have el := ar_elemVP ⟨w.heap.size, 0, none⟩ ⟨tb, 0, none⟩ (((w.alloc (.cells #[.pointer (some ⟨tb, 0, none⟩)] 146)).alloc (.cells #[.pointer (some ⟨4, 146, none⟩), .pointer (some ⟨w.heap.size, 0, none⟩), .int .u64 150] 186)).alloc (.cells #[.pointer (some ⟨4, 146, none⟩), .pointer (some ⟨w.heap.size, 0, none⟩), .int .u64 150] 186)) (by rw [World.cell?_alloc_lt _ _ ⟨w.heap.size, 0, none⟩ (by simp <;> omega)]; simp)
  have st := ar_setS tb (w.heap.size + 1 + 1 + 1) c u old0 old1 ((((w.alloc (.cells #[.pointer (some ⟨tb, 0, none⟩)] 146)).alloc (.cells #[.pointer (some ⟨4, 146, none⟩), .pointer (some ⟨w.heap.size, 0, none⟩), .int .u64 150] 186)).alloc (.cells #[.pointer (some ⟨4, 146, none⟩), .pointer (some ⟨w.heap.size, 0, none⟩), .int .u64 150] 186)).alloc (.cells #[.int .i64 c, u] 111)) hu
    (by rw [World.cell?_alloc_at _ _ _ _ (by simp)]; rfl)
    (by rw [World.cell?_alloc_at _ _ _ _ (by simp)]; rfl)
    (by rw [World.cell?_alloc_lt _ _ ⟨tb, 0, none⟩ (by simp <;> omega), World.cell?_alloc_lt _ _ ⟨tb, 0, none⟩ (by simp <;> omega), World.cell?_alloc_lt _ _ ⟨tb, 0, none⟩ (by simp <;> omega), World.cell?_alloc_lt _ _ ⟨tb, 0, none⟩ htl]; exact ht0)
    (by rw [World.frozen?_alloc_old _ _ ⟨tb, 0, none⟩ (by simp <;> omega), World.frozen?_alloc_old _ _ ⟨tb, 0, none⟩ (by simp <;> omega), World.frozen?_alloc_old _ _ ⟨tb, 0, none⟩ (by simp <;> omega), World.frozen?_alloc_old _ _ ⟨tb, 0, none⟩ (Nat.ne_of_lt htl)]; exact hf0)
    (by rw [World.cell?_alloc_lt _ _ ⟨tb, 1, none⟩ (by simp <;> omega), World.cell?_alloc_lt _ _ ⟨tb, 1, none⟩ (by simp <;> omega), World.cell?_alloc_lt _ _ ⟨tb, 1, none⟩ (by simp <;> omega), World.cell?_alloc_lt _ _ ⟨tb, 1, none⟩ htl]; exact ht1)
    (by rw [World.frozen?_alloc_old _ _ ⟨tb, 1, none⟩ (by simp <;> omega), World.frozen?_alloc_old _ _ ⟨tb, 1, none⟩ (by simp <;> omega), World.frozen?_alloc_old _ _ ⟨tb, 1, none⟩ (by simp <;> omega), World.frozen?_alloc_old _ _ ⟨tb, 1, none⟩ (Nat.ne_of_lt htl)]; exact hf1)
  go_enter Tryz.func93, Tryz.ntmps93
  go_wp2
  refine wp_loop_rounds 1 ?_
  rw [rounds_succ]
  go_wp2
  go_ret
  exact ⟨rfl, rfl⟩
set_option maxHeartbeats 1000000 in
theorem ar_nil (v : Value) (w : World) : Calls Tryz.prog 93 #[.nilIface, v] w fun e w' => e = .returned (.bool false) ∧ w' = w := by
  go_enter Tryz.func93, Tryz.ntmps93
  go_wp2
  go_ret
  exact ⟨rfl, rfl⟩
end Go.Proofs.YtnajddjalagmoaaGreatDoor
namespace Go.Proofs.YtnajddjalagmoaaGreatDoor
open Go.RowKit Go.Extern.Stop Go.Stop Go.Extern
set_option linter.unusedSimpArgs false
set_option linter.unusedVariables false
theorem is_typeOf (v : Value) (w : World) : (Extern.ReflectliteType.typeOf #[.iface 247 v]).run Tryz.prog w = .ok (.iface 173 (.agg #[.pointer (some ⟨4, 247, none⟩)])) w := by kernel_rfl
theorem is_comparable (w : World) : ((Extern.ReflectliteType.method fun t => do Go.Extern.Rtype.noPackHeld "Comparable" t; pure (.bool (← typeInfo t).comparable)) #[.agg #[.pointer (some ⟨4, 247, none⟩)]]).run Tryz.prog w = .ok (.bool true) w := by kernel_rfl
theorem is_callComparable (w : World) : (callFunc 193 #[.agg #[.pointer (some ⟨4, 247, none⟩)]]).run Tryz.prog w = .ok (.value (.bool true)) w := by
  rw [@run_callFunc_extern Tryz.prog 193 _ (Extern.ReflectliteType.method fun t => do Go.Extern.Rtype.noPackHeld "Comparable" t; pure (.bool (← typeInfo t).comparable)) Tryz.func193 (by kernel_rfl) (by kernel_rfl) (by kernel_rfl) (by kernel_rfl), is_comparable]
  rfl
theorem is_methodComparable (n : Nat) (v : Value) (w : World) : (Go.method (n + 4) 173 v "Comparable").run Tryz.prog w = .ok (193, v) w := by kernel_rfl
theorem is_comp : (Tryz.prog.info? 247).map (·.comparable) = some true := by kernel_rfl
theorem is_size : (Tryz.prog.info? 286).map (·.size) = some 1 := by kernel_rfl
theorem is_noIsR (v : Value) (xT : TypeId) (w : World) : (Instr.typeAssert (.iface 111 v) xT 175 true).run Tryz.prog w = .ok (.tuple #[.nilIface, .bool false]) w := run_typeAssert_lacksB Tryz.underlying175 (by kernel_rfl) (by kernel_rfl) v xT w
theorem is_hasUnR (v : Value) (xT : TypeId) (w : World) : (Instr.typeAssert (.iface 111 v) xT 178 true).run Tryz.prog w = .ok (.tuple #[.iface 111 v, .bool true]) w := run_typeAssert_hasB Tryz.underlying178 (by kernel_rfl) v xT w
theorem is_methodUn (n : Nat) (v : Value) (w : World) : (Go.method (n + 4) 111 v "Unwrap").run Tryz.prog w = .ok (189, v) w := by kernel_rfl
set_option maxHeartbeats 4000000 in
/-- errors.Is of a refusal that wraps the sentinel. -/
theorem is_hit (c : Int) (b : Addr) (w : World) : Calls Tryz.prog 58 #[.iface 111 (.agg #[.int .i64 c, .iface 247 (.pointer (some b))]), .iface 247 (.pointer (some b))] w fun e w' => e = .returned (.bool true) ∧ Below w.heap.size w w' := by
  obtain ⟨i, hi, hcmp⟩ := Option.map_eq_some_iff.1 is_comp
  obtain ⟨j, hj, hjs⟩ := Option.map_eq_some_iff.1 is_size
  have x1 := @run_callFunc_extern Tryz.prog 91 _ ReflectliteType.typeOf Tryz.func91 (by kernel_rfl) (by kernel_rfl) (by kernel_rfl) (by kernel_rfl)
  have x2 := is_callComparable
  have tT := is_typeOf
  have mR := is_methodComparable
  have nR := is_noIsR
  have uR := is_hasUnR
  have mU := is_methodUn
  have heq := run_eql_iface_ptr_same (P := Tryz.prog) (w.alloc (.cells #[.int .i64 c, .iface 247 (.pointer (some b))] 111)) b Tryz.underlying73 Tryz.underlying247 hi hcmp hj
  have hty := run_eql_iface_types (P := Tryz.prog) 111 247 (.agg #[.int .i64 c, .iface 247 (.pointer (some b))]) (.pointer (some b)) Tryz.underlying73 (by decide) w
  go_enter Tryz.func58, Tryz.ntmps58
  go_wp2
  refine wp_loop_rounds 2 ?_
  rw [rounds_succ]
  go_wp2
  rw [rounds_succ]
  go_wp2
  go_ret
  exact ⟨rfl, balloc (Below.refl _ _) _⟩
theorem is_none (b : Addr) (w : World) : Calls Tryz.prog 58 #[.nilIface, .iface 247 (.pointer (some b))] w fun e w' => e = .returned (.bool false) ∧ w' = w := by
  have hn := run_eql_iface_nil_left (P := Tryz.prog) w 247 (.pointer (some b)) Tryz.underlying73
  go_enter Tryz.func58, Tryz.ntmps58
  go_wp2
  go_ret
  exact ⟨rfl, rfl⟩
end Go.Proofs.YtnajddjalagmoaaGreatDoor
namespace Go.Proofs.YtnajddjalagmoaaGreatDoor
open Go.RowKit
set_option linter.unusedSimpArgs false
set_option linter.unusedVariables false
set_option maxHeartbeats 2000000 in
theorem code_ref (c : Int) (u : Value) (w : World) (hu : u.oneCell' = true) (hg : w.cell? ⟨3, 0, none⟩ = some (.iface 173 (.agg #[.pointer (some ⟨4, 73, none⟩)]))) : Calls Tryz.prog 59 #[.iface 111 (.agg #[.int .i64 c, u])] w fun e w' => e = .returned (.int .i64 c) ∧ Below w.heap.size w w' := by
  have g0 := new_alloc w w.heap.size (.cells #[.int .i64 0, .nilIface] 111) rfl
  have hB : Below w.heap.size w (w.alloc (.cells #[.int .i64 0, .nilIface] 111)) := balloc (Below.refl _ _) _
  have hg' := keepcell hB hg
  have hl : w.heap.size < (w.alloc (.cells #[.int .i64 0, .nilIface] 111)).heap.size := by simp
  go_enter Tryz.func59, Tryz.ntmps59
  go_upto_region 2 with fail
  generalize w.alloc (.cells #[.int .i64 0, .nilIface] 111) = W at *
  have q0 : W.cell? ⟨w.heap.size, 0, none⟩ = some (.int .i64 0) := by simp only [World.cell?, g0]; rfl
  have q1 : W.cell? ⟨w.heap.size, 1, none⟩ = some .nilIface := by simp only [World.cell?, g0]; rfl
  have q2 : W.frozen? ⟨w.heap.size, 0, none⟩ = false := by simp only [World.frozen?, g0]; rfl
  have q3 : W.frozen? ⟨w.heap.size, 1, none⟩ = false := by simp only [World.frozen?, g0]; rfl
  have HA := hid (ar_hit c u w.heap.size _ _ W hu hg' q0 q2 q1 q3)
  go_wp2_with fail
  refine HA.out.mono ?_
  rintro e z ⟨rfl, hz⟩
  have hb : Below w.heap.size w z := by
    subst hz
    exact bset (bset (balloc (balloc (balloc (balloc hB _) _) _) _) (q := w.heap.size) (k := 0) (Nat.le_refl _) _) (q := w.heap.size) (k := 1) (Nat.le_refl _) _
  have hc : z.cell? ⟨w.heap.size, 0, none⟩ = some (.int .i64 c) := by
    subst hz
    rw [World.cell?_setCell_other _ _ _ _ (by intro q; injection q; omega)]
    refine World.cell?_setCell_same (u := .int .i64 0) _ _ _ ?_
    exact keepalloc (keepalloc (keepalloc (keepalloc q0 _) _) _) _
  clear hz q0 q1 q2 q3 HA hg' g0
  go_wp2_with fail
  go_ret
  exact ⟨rfl, hb⟩
set_option maxHeartbeats 1000000 in
theorem code_nil (w : World) : Calls Tryz.prog 59 #[.nilIface] w fun e w' => e = .returned (.int .i64 0) ∧ Below w.heap.size w w' := by
  go_enter Tryz.func59, Tryz.ntmps59
  go_wp2_with fail
  refine (ar_nil _ _).mono ?_
  rintro e z ⟨rfl, hz⟩
  replace hz := hz.symm
  subst hz
  go_wp2_with fail
  go_ret
  exact ⟨rfl, balloc (Below.refl _ _) _⟩
end Go.Proofs.YtnajddjalagmoaaGreatDoor
namespace Go.Proofs.YtnajddjalagmoaaGreatDoor
open Go.RowKit
set_option linter.unusedSimpArgs false
set_option linter.unusedVariables false
def elR (r : Rw) (c cap : Nat) : El := (r.1, r.2.1, r.2.2.1, r.2.2.2.1, some ⟨c, 0, none⟩, r.2.2.2.2.length, cap)
/-- Rows that the call has made: the list's block and the points' blocks lie from base on, below hi, each another one. -/
def RowsX (base hi : Nat) (w : World) (v : Value) (rs : List Rw) (xs : List El) : Prop :=
  xs.length = rs.length ∧ w.ownsRow base 126 5 v rs.length (flat5 xs) ∧ (∀ g, v.ownBlock = some g → g < hi) ∧ hi ≤ w.heap.size ∧
  ∃ c cp : Nat → Nat, (∀ j (h : j < rs.length), xs[j]? = some (elR rs[j] (c j) (cp j)) ∧ rs[j].2.2.2.2.length ≤ cp j ∧ rs[j].2.2.2.2.length ≤ 1099511627776 ∧ base ≤ c j ∧ c j < hi ∧ v.ownBlock ≠ some (c j) ∧ PtsOwn w (c j) rs[j].2.2.2.2) ∧ (∀ i j, i < j → j < rs.length → c i ≠ c j)
theorem own_frame {w w' : World} {B : Nat} {e : TypeId} {sz : Nat} {v : Value} {n : Nat} {xs : List Value} (h : w.ownsRow B e sz v n xs) (hb : ∀ g, v.ownBlock = some g → w'.heap[g]? = w.heap[g]?) : w'.ownsRow B e sz v n xs := by
  refine ⟨h.1, ?_⟩
  rcases h.2 with q | ⟨g, c, cur, e1, q1, q2, q3⟩
  · exact .inl q
  · refine .inr ⟨g, c, cur, e1, q1, ?_, q3⟩
    rw [hb g (by rw [e1]; rfl)]; exact q2
theorem RowsX.frame {base hi : Nat} {w w' : World} {v : Value} {rs : List Rw} {xs : List El} (h : RowsX base hi w v rs xs) (hb : ∀ c, base ≤ c → c < hi → w'.heap[c]? = w.heap[c]?) (hs : w.heap.size ≤ w'.heap.size) : RowsX base hi w' v rs xs := by
  obtain ⟨h1, h2, h3, h4, c, cp, h5, h6⟩ := h
  refine ⟨h1, own_frame h2 (fun g e => hb g (h2.lt g e).1 (h3 g e)), h3, by omega, c, cp, fun j hj => ?_, h6⟩
  obtain ⟨a1, a2, a3, a4, a5, a6, a7⟩ := h5 j hj
  exact ⟨a1, a2, a3, a4, a5, a6, own_blk a7 (hb _ a4 a5) (by omega)⟩
theorem RowsX.below {base hi : Nat} {w w' : World} {v : Value} {rs : List Rw} {xs : List El} (h : RowsX base hi w v rs xs) (H : Below w.heap.size w w') : RowsX base hi w' v rs xs :=
  h.frame (fun c _ h2 => H.block c (by have := h.2.2.2.1; omega)) H.size
theorem RowsX.mono {base base' hi hi' : Nat} {w : World} {v : Value} {rs : List Rw} {xs : List El} (h : RowsX base hi w v rs xs) (hb : base' ≤ base) (hh : hi ≤ hi') (hs : hi' ≤ w.heap.size) : RowsX base' hi' w v rs xs := by
  obtain ⟨h1, h2, h3, h4, c, cp, h5, h6⟩ := h
  refine ⟨h1, ⟨h2.1, ?_⟩, fun g e => by have := h3 g e; omega, hs, c, cp, fun j hj => ?_, h6⟩
  · rcases h2.2 with q | ⟨g, cc, cur, e1, q1, q2, q3⟩
    · exact .inl q
    · exact .inr ⟨g, cc, cur, e1, by omega, q2, q3⟩
  · obtain ⟨a1, a2, a3, a4, a5, a6, a7⟩ := h5 j hj
    exact ⟨a1, a2, a3, by omega, by omega, a6, a7⟩
theorem RowsX.nil {base hi : Nat} {w : World} {v : Value} (h : w.ownsRow base 126 5 v 0 []) (h3 : ∀ g, v.ownBlock = some g → g < hi) (h4 : hi ≤ w.heap.size) : RowsX base hi w v [] [] :=
  ⟨rfl, by simpa [flat5] using h, h3, h4, fun _ => 0, fun _ => 0, fun j hj => absurd hj (by simp), fun i j _ hj => absurd hj (by simp)⟩
theorem RowsX.snoc {base hi : Nat} {W w' : World} {v : Value} {rs : List Rw} {xs : List El} {r : Rw} {c cp g cap : Nat} (h : RowsX base hi W v rs xs) (hcb : base ≤ c) (hc1 : hi ≤ c) (hc2 : c < W.heap.size) (hcp : r.2.2.2.2.length ≤ cp) (hl : r.2.2.2.2.length ≤ 1099511627776) (hp : PtsOwn W c r.2.2.2.2)
    (hown : w'.ownsRow base 126 5 (.slice (some ⟨g, 0, none⟩) (rs.length + 1) cap) (rs.length + 1) (flat5 xs ++ ev (elR r c cp))) (hg : W.grownBy w' v.ownBlock) (hat : v.ownBlock = some g ∨ g = W.heap.size) (hlt : g < w'.heap.size) :
    RowsX base w'.heap.size w' (.slice (some ⟨g, 0, none⟩) (rs.length + 1) cap) (rs ++ [r]) (xs ++ [elR r c cp]) := by
  obtain ⟨h1, h2, h3, h4, cf, cpf, h5, h6⟩ := h
  have hgc : ∀ d, d < W.heap.size → v.ownBlock ≠ some d → g ≠ d := by
    intro d hd hne e
    subst e
    rcases hat with q | q
    · exact hne q
    · omega
  have hvc : v.ownBlock ≠ some c := fun e => by have := h3 c e; omega
  have hlr : (rs ++ [r]).length = rs.length + 1 := by simp
  refine ⟨by simp [h1], by rw [flat5_snoc, hlr]; exact hown, fun g' e => by simp [Value.ownBlock] at e; omega, Nat.le_refl _, fun j => if j = rs.length then c else cf j, fun j => if j = rs.length then cp else cpf j, fun j hj => ?_, fun i j hij hj => ?_⟩
  · by_cases e : j = rs.length
    · subst e
      simp only [if_true]
      have er : (rs ++ [r])[rs.length]'(by simp) = r := by simp
      rw [er]
      refine ⟨by rw [← h1]; simp, hcp, hl, hcb, by have := hg.size; omega, by simp only [Value.ownBlock, ne_eq, Option.some.injEq]; exact hgc c hc2 hvc, own_blk hp (hg.block c hc2 (fun e => hvc e.symm)) (by have := hg.size; omega)⟩
    · have hjl : j < rs.length := by simp at hj; omega
      simp only [if_neg e]
      have er : (rs ++ [r])[j]'(by simpa using hj) = rs[j] := by rw [List.getElem_append_left hjl]
      rw [er]
      obtain ⟨a1, a2, a3, a4, a5, a6, a7⟩ := h5 j hjl
      refine ⟨by rw [List.getElem?_append_left (by omega)]; exact a1, a2, a3, a4, by have := hg.size; omega, by simp only [Value.ownBlock, ne_eq, Option.some.injEq]; exact hgc _ (by omega) a6, own_blk a7 (hg.block _ (by omega) (fun e => a6 e.symm)) (by have := hg.size; omega)⟩
  · have hil : i < rs.length := by simp at hj; omega
    simp only [if_neg (show i ≠ rs.length by omega)]
    by_cases e : j = rs.length
    · simp only [if_pos e]
      obtain ⟨_, _, _, _, a5, _⟩ := h5 i hil
      omega
    · simp only [if_neg e]
      exact h6 i j hij (by simp at hj; omega)
/-- A row at a place, with its points' block. -/
def RowC (w : World) (g o : Nat) (r : Rw) (c cp : Nat) : Prop := w.cell? ⟨g, o, none⟩ = some (.int .i64 r.1) ∧ w.cell? ⟨g, o + 1, none⟩ = some (.int .i64 r.2.1) ∧ w.cell? ⟨g, o + 2, none⟩ = some (.int .i64 r.2.2.1) ∧ w.cell? ⟨g, o + 3, none⟩ = some (.int .i64 r.2.2.2.1) ∧ w.cell? ⟨g, o + 4, none⟩ = some (.slice (some ⟨c, 0, none⟩) r.2.2.2.2.length cp) ∧ PtsOwn w c r.2.2.2.2
theorem RowC.at {w : World} {g o : Nat} {r : Rw} {c cp : Nat} (h : RowC w g o r c cp) (h1 : r.2.2.2.2.length ≤ cp) (h2 : r.2.2.2.2.length ≤ 1099511627776) : RwAt (fun _ => True) w g o r := by
  obtain ⟨a0, a1, a2, a3, a4, a5⟩ := h
  exact ⟨_, _, a0, a1, a2, a3, a4, h1, h2, a5.pts, fun _ _ _ => trivial⟩
theorem RowsX.rows {base hi : Nat} {w : World} {v : Value} {rs : List Rw} {xs : List El} (h : RowsX base hi w v rs xs) : (rs = [] ∧ v.ownBlock = none ∧ v = .slice none 0 0) ∨ ∃ g cap, v = .slice (some ⟨g, 0, none⟩) rs.length cap ∧ base ≤ g ∧ g < hi ∧ hi ≤ w.heap.size ∧ rs.length ≤ cap ∧ w.there g 0 (rs.length * 5) ∧ ∃ c cp : Nat → Nat, (∀ j (h : j < rs.length), RowC w g (j * 5) rs[j] (c j) (cp j) ∧ rs[j].2.2.2.2.length ≤ cp j ∧ rs[j].2.2.2.2.length ≤ 1099511627776 ∧ base ≤ c j ∧ c j < hi ∧ c j ≠ g) ∧ (∀ i j, i < j → j < rs.length → c i ≠ c j) := by
  obtain ⟨h1, h2, h3, h4, c, cp, h5, h6⟩ := h
  have h2' := h2
  rcases h2.2 with ⟨q, hn⟩ | ⟨g, cap, cur, rfl, hb, hg, hc, _⟩
  · left
    subst q
    exact ⟨List.length_eq_zero_iff.1 hn, rfl, rfl⟩
  · right
    refine ⟨g, cap, rfl, hb, h3 g rfl, h4, hc, fun j hj => ?_, c, cp, fun j hj => ?_, h6⟩
    · simp only [Nat.zero_add]
      refine ⟨?_, World.ownsRow.frozenAt h2' j⟩
      rw [World.ownsRow.cellAt h2' j hj, List.getElem?_eq_getElem (by rw [flat5_len, h1]; exact hj)]
      rfl
    · obtain ⟨a1, a2, a3, a4, a5, a6, a7⟩ := h5 j hj
      have hjx : j < xs.length := by omega
      have ex : xs[j] = elR rs[j] (c j) (cp j) := by
        rw [List.getElem?_eq_getElem hjx] at a1
        exact Option.some.inj a1
      obtain ⟨f0, f1, f2, f3, f4⟩ := flat5_at xs j hjx
      rw [ex] at f0 f1 f2 f3 f4
      refine ⟨⟨?_, ?_, ?_, ?_, ?_, a7⟩, a2, a3, a4, a5, fun e => a6 (by rw [e]; rfl)⟩
      · rw [World.ownsRow.cellAt h2' _ (by omega)]; exact f0
      · rw [World.ownsRow.cellAt h2' _ (by omega)]; exact f1
      · rw [World.ownsRow.cellAt h2' _ (by omega)]; exact f2
      · rw [World.ownsRow.cellAt h2' _ (by omega)]; exact f3
      · rw [World.ownsRow.cellAt h2' _ (by omega)]; exact f4
theorem RowsX.rws {base hi : Nat} {w : World} {a : Option Addr} {n cap : Nat} {rs : List Rw} {xs : List El} (h : RowsX base hi w (.slice a n cap) rs xs) : Rws (fun _ => True) w a rs := by
  rcases h.rows with ⟨rfl, _⟩ | ⟨g, cp, e, h1, h2, h3, h4, h5, c, cpf, h6, h7⟩
  · exact .inl rfl
  · cases e
    exact .inr ⟨g, 0, rfl, by omega, fun j hj => by
      obtain ⟨a1, a2, a3, _⟩ := h6 j hj
      rw [Nat.zero_add]; exact a1.at a2 a3⟩
theorem RowC.grown {w w' : World} {g o : Nat} {r : Rw} {c cp d : Nat} (h : RowC w g o r c cp) (hg : w.grownBy w' (some d)) (h1 : d ≠ g) (h2 : d ≠ c) : RowC w' g o r c cp := by
  obtain ⟨a0, a1, a2, a3, a4, a5⟩ := h
  have hne : some g ≠ some d := fun e => h1 (by cases e; rfl)
  exact ⟨hg.cell a0 hne, hg.cell a1 hne, hg.cell a2 hne, hg.cell a3 hne, hg.cell a4 hne, own_blk a5 (hg.block c a5.1 (fun e => h2 (by cases e; rfl))) (Nat.lt_of_lt_of_le a5.1 hg.size)⟩
def tkk (k : Int) (n : Nat) : List (Int × Int) := tk (fun i => (k + 2 * (i : Int), k + 2 * (i : Int) + 1)) n
theorem tkk_len (k : Int) (n : Nat) : (tkk k n).length = n := tk_len _ _
set_option maxRecDepth 100000 in
set_option maxHeartbeats 1000000 in
theorem mark_ptsK (w : World) (c n cap : Nat) (ps : List (Int × Int)) (k0 : Int) (h0 : 0 ≤ k0) (h1 : k0 ≤ 4611686018427387904) (hn : n ≤ 1048576) (hp : ps.length = n) (ho : PtsOwn w c ps) : Calls Tryz.prog 38 #[.slice (some ⟨c, 0, none⟩) n cap, .int .i64 k0] w fun e w' => e = .returned (.int .i64 (k0 + 2 * (n : Int))) ∧ PtsOwn w' c (tkk k0 n) ∧ w.grownBy w' (some c) := by
  obtain ⟨hb, _, ht⟩ := ho
  rw [hp] at ht
  go_enter Tryz.func38, Tryz.ntmps38
  go_wp2_with fail
  go_loopw [1, 5] (fun tk' ti wr => ∃ k : Nat, ti = .int .i64 k ∧ tk' = .int .i64 (k0 + 2 * (k : Int)) ∧ k ≤ n ∧ Hid (c < wr.heap.size ∧ PtsAt wr c 0 (tkk k0 k) ∧ wr.there c 0 (n * 2) ∧ w.grownBy wr (some c))) (fun _ ti _ => n - (intOf ti).toNat)
  case atStart => exact ⟨0, rfl, by simp, Nat.zero_le _, hid ⟨hb, fun j hj => by rw [tkk_len] at hj; omega, ht, grown_same _ _⟩⟩
  case round =>
    obtain ⟨k, rfl, rfl, hk, HH⟩ := hrel
    by_cases hlt : k < n
    · have c1 : (k : Int) < (n : Int) := by omega
      obtain ⟨u0, hu0, g0'⟩ := there_at HH.out.2.2.1 (show k * 2 < n * 2 by omega)
      obtain ⟨u1, hu1, g1'⟩ := there_at HH.out.2.2.1 (show k * 2 + 1 < n * 2 by omega)
      have hu1' : (wr.setCell ⟨c, k * 2, none⟩ (.int .i64 (k0 + 2 * (k : Int)))).cell? ⟨c, k * 2 + 1, none⟩ = some u1 := by
        rw [World.cell?_setCell_other _ _ _ _ (by simp)]; exact hu1
      have g1'' : (wr.setCell ⟨c, k * 2, none⟩ (.int .i64 (k0 + 2 * (k : Int)))).frozen? ⟨c, k * 2 + 1, none⟩ = false := by rw [World.frozen?_setCell]; exact g1'
      go_wp2_with fail
      go_roundw
      case rel =>
        have hq : PtsAt wr c 0 ((tkk k0 n).take k) := by unfold tkk; rw [take_of _ _ _ (by omega)]; exact HH.out.2.1
        obtain ⟨r1, r2⟩ := put_point (ps := tkk k0 n) (n := n * 2) HH.out.1 (by rw [tkk_len]; exact hlt) (by rw [tkk_len]) hq HH.out.2.2.1 (k0 + 2 * (k : Int)) (k0 + 2 * (k : Int) + 1) (by unfold tkk; rw [tk_getD _ _ _ hlt]) (by unfold tkk; rw [tk_getD _ _ _ hlt])
        have hq2 : (tkk k0 n).take (k + 1) = tkk k0 (k + 1) := by unfold tkk; rw [take_of _ _ _ (by omega)]
        rw [hq2] at r1
        exact ⟨k + 1, by go_num, by go_num, by omega, hid ⟨by simpa using HH.out.1, r1, r2, grown_setb (grown_setb HH.out.2.2.2 _) _⟩⟩
      case measure => simp [intOf]; omega
    · obtain rfl : k = n := by omega
      go_wp2_with fail
      go_ret
      exact ⟨rfl, ⟨HH.out.1, HH.out.2.1, by rw [tkk_len]; exact HH.out.2.2.1⟩, HH.out.2.2.2⟩
set_option maxRecDepth 100000 in
set_option maxHeartbeats 1000000 in
theorem held_ptsK (w : World) (a : Option Addr) (cap n : Nat) (k0 : Int) (h0 : 0 ≤ k0) (h1 : k0 ≤ 4611686018427387904) (hm : n ≤ 1048576) (h : Pts w a (tkk k0 n)) : Calls Tryz.prog 99 #[.slice a n cap, .int .i64 k0] w fun e w' => e = .returned (.int .i64 (k0 + 2 * (n : Int))) ∧ w' = w := by
  have HP := hid h
  clear h
  go_enter Tryz.func99, Tryz.ntmps99
  go_wp2_with fail
  go_loopw [1, 5] (fun tk' ti wr => ∃ k : Nat, ti = .int .i64 k ∧ tk' = .int .i64 (k0 + 2 * (k : Int)) ∧ k ≤ n ∧ wr = w) (fun _ ti _ => n - (intOf ti).toNat)
  case atStart => exact ⟨0, rfl, by simp, Nat.zero_le _, rfl⟩
  case round =>
    obtain ⟨k, rfl, rfl, hk, hw⟩ := hrel
    subst hw
    by_cases hlt : k < n
    · have c1 : (k : Int) < (n : Int) := by omega
      obtain ⟨b, off, rfl, hbs, hp⟩ : ∃ b off, a = some ⟨b, off, none⟩ ∧ b < wr.heap.size ∧ PtsAt wr b off (tkk k0 n) := by
        rcases HP.out with h | h
        · have := congrArg List.length h; rw [tkk_len] at this; simp at this; omega
        · exact h
      obtain ⟨d0, d1⟩ := hp k (by rw [tkk_len]; exact hlt)
      unfold tkk at d0 d1
      rw [tk_getD _ _ _ hlt] at d0 d1
      simp only at d0 d1
      clear hp
      go_wp2_with fail
      go_roundw
      case rel => exact ⟨k + 1, by go_num, by go_num, by omega, by first | rfl | trivial⟩
      case measure => simp [intOf]; omega
    · obtain rfl : k = n := by omega
      go_wp2_with fail
      go_ret
      exact ⟨rfl, rfl⟩
end Go.Proofs.YtnajddjalagmoaaGreatDoor
namespace Go.Proofs.YtnajddjalagmoaaGreatDoor
open Go.RowKit
set_option linter.unusedSimpArgs false
set_option linter.unusedVariables false
def ChO (hi : Nat) (w : World) (B o : Nat) (x : Ch) : Prop := ∃ c, w.cell? ⟨B, o + 3, none⟩ = some (.slice (some ⟨c, 0, none⟩) x.2.2.2.length x.2.2.2.length) ∧ B < c ∧ c < hi ∧ w.there c 0 (x.2.2.2.length * 2)
def ChsO (hi : Nat) (w : World) (B : Nat) (xs : List Ch) : Prop := w.there B 0 (xs.length * 4) ∧ ∀ j (h : j < xs.length), ChO hi w B (j * 4) xs[j]
def TxO (hi : Nat) (w : World) (B o : Nat) (x : Tx) (c : Nat) : Prop := w.cell? ⟨B, o + 2, none⟩ = some (.slice (some ⟨c, 0, none⟩) x.2.2.length x.2.2.length) ∧ B < c ∧ c < hi ∧ ChsO hi w c x.2.2
/-- Transactions whose lists may be written into: those of each lie from its block on, below its bound, one behind the other. -/
def TxsO (hi : Nat) (w : World) (B : Nat) (xs : List Tx) : Prop := w.there B 0 (xs.length * 3) ∧ ∃ c h : Nat → Nat, (∀ j (hj : j < xs.length), TxO (h j) w B (j * 3) xs[j] (c j) ∧ h j ≤ hi) ∧ ∀ i j, i < j → j < xs.length → h i ≤ c j
theorem ChO.below {hi : Nat} {w w' : World} {B o : Nat} {x : Ch} (h : ChO hi w B o x) (hh : hi ≤ w.heap.size) (H : Below w.heap.size w w') : ChO hi w' B o x := by
  obtain ⟨c, h0, h1, h2, h3⟩ := h
  exact ⟨c, keepcell H h0, h1, h2, there_below h3 (by omega) H⟩
theorem ChO.mono {hi hi' : Nat} {w : World} {B o : Nat} {x : Ch} (h : ChO hi w B o x) (hh : hi ≤ hi') : ChO hi' w B o x := by
  obtain ⟨c, h0, h1, h2, h3⟩ := h
  exact ⟨c, h0, h1, by omega, h3⟩
theorem ChO.set {hi : Nat} {w : World} {B o q k : Nat} {x : Ch} (h : ChO hi w B o x) (hq : q ≠ B ∨ k ≠ o + 3) (u : Value) : ChO hi (w.setCell ⟨q, k, none⟩ u) B o x := by
  obtain ⟨c, h0, h1, h2, h3⟩ := h
  refine ⟨c, ?_, h1, h2, there_set h3 _⟩
  rw [World.cell?_setCell_other _ _ _ _ (by intro e; injection e; omega)]
  exact h0
theorem ChsO.below {hi : Nat} {w w' : World} {B : Nat} {xs : List Ch} (h : ChsO hi w B xs) (hb : B < w.heap.size) (hh : hi ≤ w.heap.size) (H : Below w.heap.size w w') : ChsO hi w' B xs := ⟨there_below h.1 hb H, fun j hj => (h.2 j hj).below hh H⟩
theorem ChsO.mono {hi hi' : Nat} {w : World} {B : Nat} {xs : List Ch} (h : ChsO hi w B xs) (hh : hi ≤ hi') : ChsO hi' w B xs := ⟨h.1, fun j hj => (h.2 j hj).mono hh⟩
theorem ChsO.set {hi : Nat} {w : World} {B q k : Nat} {xs : List Ch} (h : ChsO hi w B xs) (hq : q ≠ B) (u : Value) : ChsO hi (w.setCell ⟨q, k, none⟩ u) B xs := ⟨there_set h.1 _, fun j hj => (h.2 j hj).set (.inl hq) u⟩
theorem TxO.below {hi : Nat} {w w' : World} {B o c : Nat} {x : Tx} (h : TxO hi w B o x c) (hh : hi ≤ w.heap.size) (H : Below w.heap.size w w') : TxO hi w' B o x c := by
  obtain ⟨h0, h1, h2, h3⟩ := h
  exact ⟨keepcell H h0, h1, h2, h3.below (by omega) hh H⟩
theorem TxO.set {hi : Nat} {w : World} {B o q k c : Nat} {x : Tx} (h : TxO hi w B o x c) (hq : q < B ∨ (q = B ∧ k ≠ o + 2)) (u : Value) : TxO hi (w.setCell ⟨q, k, none⟩ u) B o x c := by
  obtain ⟨h0, h1, h2, h3⟩ := h
  refine ⟨?_, h1, h2, h3.set (by omega) _⟩
  rw [World.cell?_setCell_other _ _ _ _ (by intro e; injection e; omega)]
  exact h0
theorem TxsO.below {hi : Nat} {w w' : World} {B : Nat} {xs : List Tx} (h : TxsO hi w B xs) (hb : B < w.heap.size) (hh : hi ≤ w.heap.size) (H : Below w.heap.size w w') : TxsO hi w' B xs := by
  obtain ⟨h1, c, f, h2, h3⟩ := h
  exact ⟨there_below h1 hb H, c, f, fun j hj => ⟨(h2 j hj).1.below (by have := (h2 j hj).2; omega) H, (h2 j hj).2⟩, h3⟩
theorem TxsO.set {hi : Nat} {w : World} {B q k : Nat} {xs : List Tx} (h : TxsO hi w B xs) (hq : q < B) (u : Value) : TxsO hi (w.setCell ⟨q, k, none⟩ u) B xs := by
  obtain ⟨h1, c, f, h2, h3⟩ := h
  exact ⟨there_set h1 _, c, f, fun j hj => ⟨(h2 j hj).1.set (.inl hq) u, (h2 j hj).2⟩, h3⟩
theorem TxsO.mono {hi hi' : Nat} {w : World} {B : Nat} {xs : List Tx} (h : TxsO hi w B xs) (hh : hi ≤ hi') : TxsO hi' w B xs := by
  obtain ⟨h1, c, f, h2, h3⟩ := h
  exact ⟨h1, c, f, fun j hj => ⟨(h2 j hj).1, by have := (h2 j hj).2; omega⟩, h3⟩
end Go.Proofs.YtnajddjalagmoaaGreatDoor
namespace Go.Proofs.YtnajddjalagmoaaGreatDoor
open Go.RowKit
set_option linter.unusedSimpArgs false
set_option linter.unusedVariables false
theorem grown_cell {w w' : World} {c B k : Nat} (g : w.grownBy w' (some c)) (hB : B < w.heap.size) (h : c ≠ B) : w'.cell? ⟨B, k, none⟩ = w.cell? ⟨B, k, none⟩ := by
  have := g.block B hB (by intro e; injection e; omega)
  simp only [World.cell?, this]
theorem mid_wide {lo hi lo' hi' : Nat} {w w' : World} (h : Mid lo' hi' w w') (h1 : lo ≤ lo') (h2 : hi' ≤ hi) : Mid lo hi w w' := ⟨h.1, h.2.1, h.2.2.1, h.2.2.2.1, fun k hk h3 => h.2.2.2.2 k hk (by omega)⟩
theorem ChO.mid {lo' hi' hi : Nat} {w w' : World} {B o : Nat} {x : Ch} (h : ChO hi w B o x) (k : Mid lo' hi' w w') (ht : ∀ d m, d < w.heap.size → w.there d 0 m → w'.there d 0 m) (hh : hi ≤ w.heap.size) (hB : hi' ≤ B) : ChO hi w' B o x := by
  obtain ⟨c, h0, h1, h2, h3⟩ := h
  exact ⟨c, mid_cell k h0 (.inr hB), h1, h2, ht _ _ (by omega) h3⟩
theorem ChsO.mid {lo' hi' hi : Nat} {w w' : World} {B : Nat} {xs : List Ch} (h : ChsO hi w B xs) (k : Mid lo' hi' w w') (ht : ∀ d m, d < w.heap.size → w.there d 0 m → w'.there d 0 m) (hb : B < w.heap.size) (hh : hi ≤ w.heap.size) (hB : hi' ≤ B) : ChsO hi w' B xs := ⟨ht _ _ hb h.1, fun j hj => (h.2 j hj).mid k ht hh hB⟩
theorem TxO.mid {lo' hi' hi : Nat} {w w' : World} {B o c : Nat} {x : Tx} (h : TxO hi w B o x c) (k : Mid lo' hi' w w') (ht : ∀ d m, d < w.heap.size → w.there d 0 m → w'.there d 0 m) (hh : hi ≤ w.heap.size) (hB : B < lo' ∨ hi' ≤ B) (hc : hi' ≤ c) : TxO hi w' B o x c := by
  obtain ⟨h0, h1, h2, h3⟩ := h
  exact ⟨mid_cell k h0 hB, h1, h2, h3.mid k ht (by omega) hh hc⟩
theorem TxsO.mid {lo' hi' hi : Nat} {w w' : World} {B : Nat} {xs : List Tx} (h : TxsO hi w B xs) (k : Mid lo' hi' w w') (ht : ∀ d m, d < w.heap.size → w.there d 0 m → w'.there d 0 m) (hb : B < w.heap.size) (hh : hi ≤ w.heap.size) (hB : hi' ≤ B) : TxsO hi w' B xs := by
  obtain ⟨h1, c, f, h2, h3⟩ := h
  exact ⟨ht _ _ hb h1, c, f, fun j hj => ⟨(h2 j hj).1.mid k ht (by have := (h2 j hj).2; omega) (.inr hB) (by have := (h2 j hj).1.2.1; omega), (h2 j hj).2⟩, h3⟩
set_option maxRecDepth 100000 in
set_option maxHeartbeats 2000000 in
theorem mark_chs (lo hi B : Nat) (xs : List Ch) (k0 : Int) (w : World) (hlo : lo ≤ B) (hBh : B < hi) (hih : hi ≤ w.heap.size) (hs : chS xs) (h0 : 0 ≤ k0) (h1 : k0 ≤ 4000000000000000000) (ho : ChsO hi w B xs) : Calls Tryz.prog 69 #[.slice (some ⟨B, 0, none⟩) xs.length xs.length, .int .i64 k0] w fun e w' => (∃ v : Int, e = .returned (.int .i64 v) ∧ 0 ≤ v ∧ v ≤ k0 + 2199026401280) ∧ Mid lo hi w w' ∧ (∀ d m, d < w.heap.size → w.there d 0 m → w'.there d 0 m) := by
  have HL := hid hs.2
  have HO := hid ho.2
  have hm := hs.1
  have HTT := hid ho.1
  clear hs ho
  obtain ⟨n, hn⟩ : ∃ n, n = xs.length := ⟨_, rfl⟩
  have HN := hid hn.symm
  rw [← hn] at hm HTT ⊢
  clear hn
  go_enter Tryz.func69, Tryz.ntmps69
  go_wp2_with fail
  go_loopw [1, 5] (fun tk' ti wr => ∃ j : Nat, ∃ k : Int, ti = .int .i64 j ∧ tk' = .int .i64 k ∧ j ≤ n ∧ 0 ≤ k ∧ k ≤ k0 + (j : Int) * 2097155 ∧ Hid (Mid lo hi w wr) ∧ Hid (∀ d m, w.there d 0 m → wr.there d 0 m) ∧ Hid (∀ i, j ≤ i → i < n → wr.cell? ⟨B, i * 4 + 3, none⟩ = w.cell? ⟨B, i * 4 + 3, none⟩)) (fun _ ti _ => n - (intOf ti).toNat)
  case atStart => exact ⟨0, k0, rfl, rfl, Nat.zero_le _, by omega, by omega, hid (mid_refl _ _ _), hid (fun _ _ h => h), hid (fun _ _ _ => rfl)⟩
  case round =>
    obtain ⟨j, k, rfl, rfl, hj, hk0, hk1, HM, HT, HC⟩ := hrel
    by_cases hlt : j < n
    · have c1 : (j : Int) < (n : Int) := by omega
      have hjr : j < xs.length := by rw [HN.out]; exact hlt
      obtain ⟨c, q0, q1, q2, q3⟩ := HO.out j hjr
      have hnp := HL.out j hjr
      generalize xs[j].2.2.2.length = np at *
      have hk2 : k ≤ 4000002199026401280 := by omega
      have hT := HT.out _ _ HTT.out
      rw [← HC.out j (Nat.le_refl _) hlt] at q0
      obtain ⟨u0, z0, y0⟩ := there_at hT (show j * 4 < n * 4 by omega)
      obtain ⟨u1, z1, y1⟩ := there_at hT (show j * 4 + 1 < n * 4 by omega)
      obtain ⟨u2, z2, y2⟩ := there_at hT (show j * 4 + 2 < n * 4 by omega)
      have z1' : ∀ a0, (wr.setCell ⟨B, j * 4, none⟩ a0).cell? ⟨B, j * 4 + 1, none⟩ = some u1 := fun a0 => by rw [World.cell?_setCell_other _ _ _ _ (by simp)]; exact z1
      have z2' : ∀ a0 a1, ((wr.setCell ⟨B, j * 4, none⟩ a0).setCell ⟨B, j * 4 + 1, none⟩ a1).cell? ⟨B, j * 4 + 2, none⟩ = some u2 := fun a0 a1 => by rw [World.cell?_setCell_other _ _ _ _ (by simp), World.cell?_setCell_other _ _ _ _ (by simp)]; exact z2
      have z3' : ∀ a0 a1 a2, (((wr.setCell ⟨B, j * 4, none⟩ a0).setCell ⟨B, j * 4 + 1, none⟩ a1).setCell ⟨B, j * 4 + 2, none⟩ a2).cell? ⟨B, j * 4 + 3, none⟩ = some (.slice (some ⟨c, 0, none⟩) np np) := fun a0 a1 a2 => by rw [World.cell?_setCell_other _ _ _ _ (by simp), World.cell?_setCell_other _ _ _ _ (by simp), World.cell?_setCell_other _ _ _ _ (by simp)]; exact q0
      have y1' : ∀ a0, (wr.setCell ⟨B, j * 4, none⟩ a0).frozen? ⟨B, j * 4 + 1, none⟩ = false := fun a0 => by rw [World.frozen?_setCell]; exact y1
      have y2' : ∀ a0 a1, ((wr.setCell ⟨B, j * 4, none⟩ a0).setCell ⟨B, j * 4 + 1, none⟩ a1).frozen? ⟨B, j * 4 + 2, none⟩ = false := fun a0 a1 => by rw [World.frozen?_setCell, World.frozen?_setCell]; exact y2
      have HM3 := hid (fun a0 a1 a2 => (mid_set (mid_set (mid_set HM.out hlo hBh a0) hlo hBh a1) hlo hBh a2 : Mid lo hi w (((wr.setCell ⟨B, j * 4, none⟩ a0).setCell ⟨B, j * 4 + 1, none⟩ a1).setCell ⟨B, j * 4 + 2, none⟩ a2)))
      have HT3 := hid (fun a0 a1 a2 d m (h : w.there d 0 m) => (there_set (there_set (there_set (HT.out d m h) a0) a1) a2 : (((wr.setCell ⟨B, j * 4, none⟩ a0).setCell ⟨B, j * 4 + 1, none⟩ a1).setCell ⟨B, j * 4 + 2, none⟩ a2).there d 0 m))
      have HC3 := hid (fun a0 a1 a2 i (h1 : j + 1 ≤ i) (h2 : i < n) => (by
        rw [World.cell?_setCell_other _ _ _ _ (by intro e; injection e; omega), World.cell?_setCell_other _ _ _ _ (by intro e; injection e; omega), World.cell?_setCell_other _ _ _ _ (by intro e; injection e; omega)]
        exact HC.out i (by omega) h2 : (((wr.setCell ⟨B, j * 4, none⟩ a0).setCell ⟨B, j * 4 + 1, none⟩ a1).setCell ⟨B, j * 4 + 2, none⟩ a2).cell? ⟨B, i * 4 + 3, none⟩ = w.cell? ⟨B, i * 4 + 3, none⟩))
      have HQ3 := hid q3
      have hws := HM.out.2.2.2.1
      clear hT z1 z2 y1 y2 HM HT HC q3 q0
      go_wp2_with fail
      refine (mark_ptsN _ c np (k + 1 + 1 + 1) (by omega) (by omega) hnp (by simp only [World.size_setCell]; omega) (HT3.out _ _ _ _ _ HQ3.out)).mono ?_
      rintro e w1 ⟨rfl, hg, hth⟩
      have HM5 := hid (mid_grown (HM3.out _ _ _) hg (by omega) q2)
      have HT5 := hid (fun d m (h : w.there d 0 m) => hth d m (HT3.out _ _ _ d m h))
      have HC5 : Hid (∀ i, j + 1 ≤ i → i < n → w1.cell? ⟨B, i * 4 + 3, none⟩ = w.cell? ⟨B, i * 4 + 3, none⟩) := hid (fun i h1 h2 => (grown_cell hg (by simp only [World.size_setCell]; omega) (by omega)).trans (HC3.out _ _ _ i h1 h2))
      clear hg hth HM3 HT3 HC3 z0 z1' z2' z3' y0 y1' y2'
      go_wp2_with fail
      go_roundw
      case rel => exact ⟨j + 1, _, by go_num, rfl, by omega, by omega, by omega, HM5, HT5, HC5⟩
      case measure => simp [intOf]; omega
    · have c1 : (n : Int) ≤ (j : Int) := by omega
      go_wp2_with fail
      go_ret
      exact ⟨⟨_, rfl, hk0, by omega⟩, HM.out, fun d m _ h => HT.out d m h⟩
set_option maxRecDepth 100000 in
set_option maxHeartbeats 2000000 in
theorem mark_rowSB (lo hi B : Nat) (rs : List Rw) (w : World) (hlo : lo ≤ B) (hBh : B < hi) (hih : hi ≤ w.heap.size) (hm : rs.length ≤ 1048576) (hl : ∀ m (h : m < rs.length), rs[m].2.2.2.2.length ≤ 1048576) (ht : w.there B 0 (rs.length * 5)) (ho : RwsO hi w B rs) : Calls Tryz.prog 68 #[.slice (some ⟨B, 0, none⟩) rs.length rs.length, .int .i64 1] w fun e w' => (∃ v : Int, e = .returned (.int .i64 v) ∧ 0 ≤ v ∧ v ≤ 2199027449858) ∧ Mid lo hi w w' ∧ (∀ d m, d < w.heap.size → w.there d 0 m → w'.there d 0 m) := by
  have HL := hid hl
  have HO := hid ho
  clear hl ho
  obtain ⟨n, hn⟩ : ∃ n, n = rs.length := ⟨_, rfl⟩
  have HN := hid hn.symm
  rw [← hn] at hm ht ⊢
  clear hn
  have HTT := hid ht
  clear ht
  go_enter Tryz.func68, Tryz.ntmps68
  go_wp2_with fail
  go_loopw [1, 5] (fun tk' ti wr => ∃ j : Nat, ∃ k : Int, ti = .int .i64 j ∧ tk' = .int .i64 k ∧ j ≤ n ∧ 0 ≤ k ∧ k ≤ 1 + (j : Int) * 2097156 ∧ Hid (Mid lo hi w wr) ∧ Hid (∀ d m, w.there d 0 m → wr.there d 0 m) ∧ Hid (∀ i, j ≤ i → i < n → wr.cell? ⟨B, i * 5 + 4, none⟩ = w.cell? ⟨B, i * 5 + 4, none⟩)) (fun _ ti _ => n - (intOf ti).toNat)
  case atStart => exact ⟨0, 1, rfl, rfl, Nat.zero_le _, by omega, by omega, hid (mid_refl _ _ _), hid (fun _ _ h => h), hid (fun _ _ _ => rfl)⟩
  case round =>
    obtain ⟨j, k, rfl, rfl, hj, hk0, hk1, HM, HT, HC⟩ := hrel
    by_cases hlt : j < n
    · have c1 : (j : Int) < (n : Int) := by omega
      have hjr : j < rs.length := by rw [HN.out]; exact hlt
      obtain ⟨c, q0, q1, q2, q3⟩ := HO.out j hjr
      have hnp := HL.out j hjr
      generalize rs[j].2.2.2.2.length = np at *
      have hk2 : k ≤ 2199027449858 := by omega
      have hT := HT.out _ _ HTT.out
      rw [← HC.out j (Nat.le_refl _) hlt] at q0
      obtain ⟨u0, z0, y0⟩ := there_at hT (show j * 5 < n * 5 by omega)
      obtain ⟨u1, z1, y1⟩ := there_at hT (show j * 5 + 1 < n * 5 by omega)
      obtain ⟨u2, z2, y2⟩ := there_at hT (show j * 5 + 2 < n * 5 by omega)
      obtain ⟨u3, z3, y3⟩ := there_at hT (show j * 5 + 3 < n * 5 by omega)
      have z1' : (wr.setCell ⟨B, j * 5, none⟩ (.int .i64 k)).cell? ⟨B, j * 5 + 1, none⟩ = some u1 := by
        rw [World.cell?_setCell_other _ _ _ _ (by simp)]; exact z1
      have z2' : ((wr.setCell ⟨B, j * 5, none⟩ (.int .i64 k)).setCell ⟨B, j * 5 + 1, none⟩ (.int .i64 (k + 1))).cell? ⟨B, j * 5 + 2, none⟩ = some u2 := by
        rw [World.cell?_setCell_other _ _ _ _ (by simp), World.cell?_setCell_other _ _ _ _ (by simp)]; exact z2
      have z3' : (((wr.setCell ⟨B, j * 5, none⟩ (.int .i64 k)).setCell ⟨B, j * 5 + 1, none⟩ (.int .i64 (k + 1))).setCell ⟨B, j * 5 + 2, none⟩ (.int .i64 (k + 1 + 1))).cell? ⟨B, j * 5 + 3, none⟩ = some u3 := by
        rw [World.cell?_setCell_other _ _ _ _ (by simp), World.cell?_setCell_other _ _ _ _ (by simp), World.cell?_setCell_other _ _ _ _ (by simp)]; exact z3
      have z4' : ((((wr.setCell ⟨B, j * 5, none⟩ (.int .i64 k)).setCell ⟨B, j * 5 + 1, none⟩ (.int .i64 (k + 1))).setCell ⟨B, j * 5 + 2, none⟩ (.int .i64 (k + 1 + 1))).setCell ⟨B, j * 5 + 3, none⟩ (.int .i64 (k + 1 + 1 + 1))).cell? ⟨B, j * 5 + 4, none⟩ = some (.slice (some ⟨c, 0, none⟩) np np) := by
        rw [World.cell?_setCell_other _ _ _ _ (by simp), World.cell?_setCell_other _ _ _ _ (by simp), World.cell?_setCell_other _ _ _ _ (by simp), World.cell?_setCell_other _ _ _ _ (by simp)]; exact q0
      have y1' : (wr.setCell ⟨B, j * 5, none⟩ (.int .i64 k)).frozen? ⟨B, j * 5 + 1, none⟩ = false := by rw [World.frozen?_setCell]; exact y1
      have y2' : ((wr.setCell ⟨B, j * 5, none⟩ (.int .i64 k)).setCell ⟨B, j * 5 + 1, none⟩ (.int .i64 (k + 1))).frozen? ⟨B, j * 5 + 2, none⟩ = false := by rw [World.frozen?_setCell, World.frozen?_setCell]; exact y2
      have y3' : (((wr.setCell ⟨B, j * 5, none⟩ (.int .i64 k)).setCell ⟨B, j * 5 + 1, none⟩ (.int .i64 (k + 1))).setCell ⟨B, j * 5 + 2, none⟩ (.int .i64 (k + 1 + 1))).frozen? ⟨B, j * 5 + 3, none⟩ = false := by rw [World.frozen?_setCell, World.frozen?_setCell, World.frozen?_setCell]; exact y3
      have hsz : c < ((((wr.setCell ⟨B, j * 5, none⟩ (.int .i64 k)).setCell ⟨B, j * 5 + 1, none⟩ (.int .i64 (k + 1))).setCell ⟨B, j * 5 + 2, none⟩ (.int .i64 (k + 1 + 1))).setCell ⟨B, j * 5 + 3, none⟩ (.int .i64 (k + 1 + 1 + 1))).heap.size := by
        have := HM.out.2.2.2.1
        simp only [World.size_setCell]; omega
      have hM4 : Mid lo hi w ((((wr.setCell ⟨B, j * 5, none⟩ (.int .i64 k)).setCell ⟨B, j * 5 + 1, none⟩ (.int .i64 (k + 1))).setCell ⟨B, j * 5 + 2, none⟩ (.int .i64 (k + 1 + 1))).setCell ⟨B, j * 5 + 3, none⟩ (.int .i64 (k + 1 + 1 + 1))) := mid_set (mid_set (mid_set (mid_set HM.out hlo hBh _) hlo hBh _) hlo hBh _) hlo hBh _
      have hT4 : ∀ d m, w.there d 0 m → ((((wr.setCell ⟨B, j * 5, none⟩ (.int .i64 k)).setCell ⟨B, j * 5 + 1, none⟩ (.int .i64 (k + 1))).setCell ⟨B, j * 5 + 2, none⟩ (.int .i64 (k + 1 + 1))).setCell ⟨B, j * 5 + 3, none⟩ (.int .i64 (k + 1 + 1 + 1))).there d 0 m := fun d m h => there_set (there_set (there_set (there_set (HT.out d m h) _) _) _) _
      have hC4 : ∀ i, j + 1 ≤ i → i < n → ((((wr.setCell ⟨B, j * 5, none⟩ (.int .i64 k)).setCell ⟨B, j * 5 + 1, none⟩ (.int .i64 (k + 1))).setCell ⟨B, j * 5 + 2, none⟩ (.int .i64 (k + 1 + 1))).setCell ⟨B, j * 5 + 3, none⟩ (.int .i64 (k + 1 + 1 + 1))).cell? ⟨B, i * 5 + 4, none⟩ = w.cell? ⟨B, i * 5 + 4, none⟩ := fun i h1 h2 => by
        rw [World.cell?_setCell_other _ _ _ _ (by intro e; injection e; omega), World.cell?_setCell_other _ _ _ _ (by intro e; injection e; omega), World.cell?_setCell_other _ _ _ _ (by intro e; injection e; omega), World.cell?_setCell_other _ _ _ _ (by intro e; injection e; omega)]
        exact HC.out i (by omega) h2
      have HM4 := hid hM4
      have HT4 := hid hT4
      have HC4 := hid hC4
      have MP := hid (mark_ptsN _ c np (k + 1 + 1 + 1 + 1) (by omega) (by omega) hnp hsz (hT4 _ _ q3))
      clear hM4 hT4 hC4 q0 q3 hT z1 z2 z3 y1 y2 y3 HM HT HC
      go_wp2_with fail
      refine MP.out.mono ?_
      rintro e w1 ⟨rfl, hg, hth⟩
      have HM5 := hid (mid_grown HM4.out hg (by omega) q2)
      have HT5 := hid (fun d m (h : w.there d 0 m) => hth d m (HT4.out d m h))
      have HC5 : Hid (∀ i, j + 1 ≤ i → i < n → w1.cell? ⟨B, i * 5 + 4, none⟩ = w.cell? ⟨B, i * 5 + 4, none⟩) := hid (fun i h1 h2 => by
        rw [← HC4.out i h1 h2]
        have hBs : B < ((((wr.setCell ⟨B, j * 5, none⟩ (.int .i64 k)).setCell ⟨B, j * 5 + 1, none⟩ (.int .i64 (k + 1))).setCell ⟨B, j * 5 + 2, none⟩ (.int .i64 (k + 1 + 1))).setCell ⟨B, j * 5 + 3, none⟩ (.int .i64 (k + 1 + 1 + 1))).heap.size := by omega
        have := hg.block B hBs (by intro e; injection e; omega)
        simp only [World.cell?, this])
      clear hg hth MP HM4 HT4 HC4 hsz
      go_wp2_with fail
      go_roundw
      case rel => exact ⟨j + 1, _, by go_num, rfl, by omega, by omega, by omega, HM5, HT5, HC5⟩
      case measure => simp [intOf]; omega
    · have c1 : (n : Int) ≤ (j : Int) := by omega
      go_wp2_with fail
      go_ret
      exact ⟨⟨_, rfl, hk0, by omega⟩, HM.out, fun d m _ h => HT.out d m h⟩
set_option maxHeartbeats 400000 in
theorem mark_rowsB (lo hi B : Nat) (now : Int) (rs : List Rw) (w : World) (hlo : lo ≤ B) (hBh : B < hi) (hih : hi ≤ w.heap.size) (hm : rs.length ≤ 1048576) (hl : ∀ m (h : m < rs.length), rs[m].2.2.2.2.length ≤ 1048576) (ht : w.there B 0 (rs.length * 5)) (ho : RwsO hi w B rs) : Calls Tryz.prog 36 #[.agg #[.int .i64 now, .slice (some ⟨B, 0, none⟩) rs.length rs.length], .int .i64 1] w fun e w' => (∃ v : Int, e = .returned (.int .i64 v) ∧ 0 ≤ v ∧ v ≤ 2199027449858) ∧ Mid lo hi w w' ∧ (∀ d m, d < w.heap.size → w.there d 0 m → w'.there d 0 m) := by
  have hB : Below w.heap.size w (w.alloc (.cells #[.int .i64 now, .slice (some ⟨B, 0, none⟩) rs.length rs.length] 35)) := balloc (Below.refl _ _) _
  have HM := hid (mark_rowSB lo hi B rs _ hlo hBh (Nat.le_trans hih hB.size) hm hl (there_below ht (by omega) hB) (ho.below hih hB))
  clear ht ho hl
  go_enter Tryz.func36, Tryz.ntmps36
  go_wp2_with fail
  refine HM.out.mono ?_
  rintro e w1 ⟨⟨v, rfl, hv, hv'⟩, hmid, hth⟩
  have HTH := hid (fun d m (h' : d < w.heap.size) (h : w.there d 0 m) => hth d m (Nat.lt_of_lt_of_le h' hB.size) (there_below h h' hB))
  have HMM := hid (mid_trans (mid_below hB) hmid)
  clear hmid hth
  go_wp2_with fail
  go_ret
  exact ⟨⟨_, rfl, hv, hv'⟩, HMM.out, HTH.out⟩
end Go.Proofs.YtnajddjalagmoaaGreatDoor
