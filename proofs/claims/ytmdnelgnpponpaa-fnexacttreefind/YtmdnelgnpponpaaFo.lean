/- The specification's height of a knot, TreeOk, TreeDepth. -/
import Derived.Test.YtmdnelgnpponpaaFk
import Derived.Test.YtmdnelgnpponpaaFn
namespace Go.Proofs.Ytmdnelgnpponpaa
open Go.RowKit
set_option linter.unusedSimpArgs false
set_option linter.unusedVariables false
theorem kbad_kbd (top : Bool) (t : KT) : kbad top t = kbd top t.fan t.its.length t.kids.length t.lf (decide (t.box.1 = (arS t).1 ∧ t.box.2.1 = (arS t).2.1 ∧ t.box.2.2.1 = (arS t).2.2.1 ∧ t.box.2.2.2 = (arS t).2.2.2)) := by
  unfold kbad kbd
  congr 1
  rw [← decide_not]
  apply decide_eq_decide.2
  apply not_congr
  constructor
  · intro h; rw [h]; exact ⟨rfl, rfl, rfl, rfl⟩
  · rintro ⟨h1, h2, h3, h4⟩
    exact Prod.ext h1 (Prod.ext h2 (Prod.ext h3 h4))
theorem knh_le (n : Nat) (top : Bool) (t : KT) : -1 ≤ knh n top t ∧ knh n top t ≤ n := by
  rcases knh_inv n top t with h | ⟨d, h, _, hd⟩ <;> omega
theorem spec_knot (n : Nat) : n ≤ 20 → ∀ (m lo : Nat) (t : KT) (ia ka : Option Addr) (top : Bool) (w : World), Kn lo m w ia ka t → ksz m t ≤ 1048576 → Calls Try.prog 31 #[kvo t ia ka, .bool top, .int .i64 n] w fun e w' => e = .returned (.int .i64 (knh n top t)) ∧ Below w.heap.size w w' := by
  induction n with
  | zero =>
    intro h20 m lo t ia ka top w h hz
    cases m with
    | zero => exact h.elim
    | succ m =>
    obtain ⟨bi, bk, rfl, rfl, h3, h4, h5, h6, h7, h8⟩ := h
    have hz2 : t.its.length ≤ 1048576 ∧ t.kids.length ≤ 1048576 := by unfold ksz at hz; omega
    exact knot_step t.box.1 t.box.2.1 t.box.2.2.1 t.box.2.2.2 (arS t).1 (arS t).2.1 (arS t).2.2.1 (arS t).2.2.2 t.lf top bi bk t.its.length t.kids.length t.fan 0 (-1) w t.ibs (t.kids.map fun _ => 0) hz2.1 hz2.2 (by omega) (List.length_map _) (List.length_map _) (hid h5.r.bxs) (hid (fun k hk => by rw [List.getElem_map]; omega))
      (hid (fun k hk => by
        have hk' : k < t.kids.length := by simpa using hk
        obtain ⟨ja, jk, q1, q2⟩ := h8 k hk'
        obtain ⟨c0, c1, c2, c3, c4, mi, mk, hf⟩ := kf t.kids[k]
        exact ⟨c0, c1, c2, c3, c4, mi, mk, ja, jk, fun W hb => Cs.kf hf (q1.below h6 hb), fun e => absurd rfl e⟩))
      (hid ⟨fun _ => rfl, fun h => by simp at h⟩) (hid (fun W => spec_fan t _ _ _ _ W)) (hid (fun W hb => spec_around _ _ _ _ _ _ _ _ _ _ _ t.ibs t.kbs W (List.length_map _) (List.length_map _) hz2.1 hz2.2 (h5.r.bxs.below hb) ((KdO.bxs h6 h8).below hb) (arS t) (by unfold arS KT.kbs; simp)))
  | succ n ih =>
    intro h20 m lo t ia ka top w h hz
    cases m with
    | zero => exact h.elim
    | succ m =>
    obtain ⟨bi, bk, rfl, rfl, h3, h4, h5, h6, h7, h8⟩ := h
    have hz2 : t.its.length ≤ 1048576 ∧ t.kids.length ≤ 1048576 := by unfold ksz at hz; omega
    have hkk := kbad_kbd top t
    exact knot_step t.box.1 t.box.2.1 t.box.2.2.1 t.box.2.2.2 (arS t).1 (arS t).2.1 (arS t).2.2.1 (arS t).2.2.2 t.lf top bi bk t.its.length t.kids.length t.fan ((n + 1 : Nat) : Int) (knh (n + 1) top t) w t.ibs (t.kids.map (knh n false)) hz2.1 hz2.2 (by omega) (List.length_map _) (List.length_map _) (hid h5.r.bxs) (hid (fun k hk => by rw [List.getElem_map]; have := knh_le n false (t.kids[k]'(by simpa using hk)); omega))
      (hid (fun k hk => by
        have hk' : k < t.kids.length := by simpa using hk
        obtain ⟨ja, jk, q1, q2⟩ := h8 k hk'
        obtain ⟨c0, c1, c2, c3, c4, mi, mk, hf⟩ := kf t.kids[k]
        refine ⟨c0, c1, c2, c3, c4, mi, mk, ja, jk, fun W hb => Cs.kf hf (q1.below h6 hb), fun _ W hb => ?_⟩
        have := ih (by omega) m lo t.kids[k] ja jk false W (q2.below hb) (Nat.le_trans (ksz_kid (List.getElem_mem hk')) hz)
        rw [kvo_of hf] at this
        rw [List.getElem_map, show ((n + 1 : Nat) : Int) - 1 = (n : Int) by omega]
        exact this))
      (hid ⟨fun h => by
          have h0 : ¬ ((n + 1 : Nat) : Int) = 0 := by omega
          rw [decide_eq_false h0, Bool.false_or, ← hkk] at h
          unfold knh; rw [if_pos h], fun h => by
          have h0 : ¬ ((n + 1 : Nat) : Int) = 0 := by omega
          rw [decide_eq_false h0, Bool.false_or, ← hkk] at h
          refine ⟨fun ha => ?_, fun ha => ?_⟩
          · unfold knh; rw [h, if_neg Bool.false_ne_true, ha, if_neg Bool.false_ne_true]
          · unfold knh; rw [h, if_neg Bool.false_ne_true, if_pos ha]⟩) (hid (fun W => spec_fan t _ _ _ _ W)) (hid (fun W hb => spec_around _ _ _ _ _ _ _ _ _ _ _ t.ibs t.kbs W (List.length_map _) (List.length_map _) hz2.1 hz2.2 (h5.r.bxs.below hb) ((KdO.bxs h6 h8).below hb) (arS t) (by unfold arS KT.kbs; simp)))
theorem spec_TreeOk (m lo : Nat) (t : KT) (ia ka : Option Addr) (w : World) (h : Kn lo m w ia ka t) (hz : ksz m t ≤ 1048576) : Calls Try.prog 9 #[kvo t ia ka] w fun e w' => e = .returned (.bool (tokS t)) ∧ Below w.heap.size w w' :=
  spec_TreeOk_of m lo t ia ka w h hz (knh 20 true t) (hid (fun W hb => spec_knot 20 (by omega) m lo t ia ka true W (h.below hb) hz))
set_option maxRecDepth 100000 in
set_option maxHeartbeats 2000000 in
theorem spec_TreeDepth (m lo : Nat) (t : KT) (ia ka : Option Addr) (w : World) (h : Kn lo m w ia ka t) (hz : ksz m t ≤ 1048576) : Calls Try.prog 27 #[kvo t ia ka] w fun e w' => e = .returned (.int .i64 (if tokS t = true then knh 20 true t else 0)) ∧ Below w.heap.size w w' := by
  have C1 := hid (fun (W : World) (hb : Below w.heap.size w W) => spec_TreeOk m lo t ia ka W (h.below hb) hz)
  have C2 := hid (fun (W : World) (hb : Below w.heap.size w W) => spec_knot 20 (by omega) m lo t ia ka true W (h.below hb) hz)
  obtain ⟨b0, b1, b2, b3, b4, ni, nk, hf⟩ := kf t
  rw [kvo_of hf] at C1 C2 ⊢
  have gT := hid (new_alloc w w.heap.size (.cells #[.int .i64 b0, .int .i64 b1, .int .i64 b2, .int .i64 b3, .bool b4, .slice ia ni ni, .slice ka nk nk] 34) rfl)
  have B0 := hid (balloc (Below.refl w.heap.size w) (.cells #[.int .i64 b0, .int .i64 b1, .int .i64 b2, .int .i64 b3, .bool b4, .slice ia ni ni, .slice ka nk nk] 34))
  clear h hf hz
  generalize tokS t = ok at *
  generalize knh 20 true t = kh at *
  go_enter Try.func27, Try.ntmps27
  go_wp2_with fail
  generalize w.alloc (.cells #[.int .i64 b0, .int .i64 b1, .int .i64 b2, .int .i64 b3, .bool b4, .slice ia ni ni, .slice ka nk nk] 34) = v0 at *
  refine (C1.out _ B0.out).mono ?_
  rintro e v1 ⟨rfl, hb⟩
  replace gT := hid (keepheap hb gT.out)
  replace B0 := hid (btrans B0.out hb)
  clear hb C1
  obtain ⟨a0, a1, a2, a3, a4, a5, a6, _, _, _, _, _, _, _⟩ := cell7k gT.out
  cases ok
  · go_wp2_with fail
    go_ret
    exact ⟨rfl, B0.out⟩
  · go_wp2_with fail
    refine (C2.out _ B0.out).mono ?_
    rintro e v2 ⟨rfl, hb⟩
    replace B0 := hid (btrans B0.out hb)
    clear hb
    go_wp2_with fail
    go_ret
    exact ⟨rfl, B0.out⟩
end Go.Proofs.Ytmdnelgnpponpaa
