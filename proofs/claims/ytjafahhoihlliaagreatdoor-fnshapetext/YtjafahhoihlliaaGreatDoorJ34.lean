/- Texts of stores, joined: Bld. -/
import Derived.Test.YtjafahhoihlliaaGreatDoorShelf
import Derived.Test.YtjafahhoihlliaaGreatDoorJ11
namespace Go.Proofs.YtjafahhoihlliaaGreatDoor
open Go.RowKit
set_option linter.unusedVariables false
set_option linter.unusedSimpArgs false
set_option maxRecDepth 100000 in
set_option maxHeartbeats 1000000 in
theorem check_used (b : Nat) (w : World) (h0 : w.cell? ⟨b, 0, none⟩ = some (.pointer (some ⟨b, 0, none⟩))) : Calls Tryz.prog 56 #[.pointer (some ⟨b, 0, none⟩)] w fun e w' => e = .returned (.tuple #[]) ∧ w' = w := by
  obtain ⟨j, hj, _⟩ := Option.map_eq_some_iff.1 Tryz.Builder_Extra_169.sizeBuilder
  have hj' : Tryz.prog.info? 49 = some j := hj
  have k := Lib.run_neq_ptr_same w ⟨b, 0, none⟩ Tryz.underlying47 hj'
  go_enter Tryz.func56, Tryz.ntmps56
  go_wp2
  go_end0
  exact ⟨rfl, rfl⟩
set_option maxRecDepth 100000 in
set_option maxHeartbeats 1000000 in
theorem check_fresh (b : Nat) (w : World) (v : Value) (hb : w.heap[b]? = some (.cells #[.pointer none, v] 49 (0, 0))) : Calls Tryz.prog 56 #[.pointer (some ⟨b, 0, none⟩)] w fun e w' => e = .returned (.tuple #[]) ∧ w' = w.setCell ⟨b, 0, none⟩ (.pointer (some ⟨b, 0, none⟩)) := by
  obtain ⟨j, hj, hjs⟩ := Option.map_eq_some_iff.1 Tryz.Builder_Extra_169.sizeBuilder
  have hj' : Tryz.prog.info? 49 = some j := hj
  have hsh : w.shape? b = some (49, 2) := by simp [World.shape?, hb]
  obtain ⟨c0, c1, f0, f1⟩ := cell2g hb
  have k1 := Lib.run_to_unsafe w ⟨b, 0, none⟩ Tryz.underlying47 Tryz.underlying110 hj' (by rw [hjs]; decide) hsh (Nat.zero_lt_succ 1)
  have k2 := Lib.run_from_unsafe w ⟨b, 0, none⟩ Tryz.underlying110 Tryz.underlying47 hj' hsh Tryz.Builder_Extra_169.liesBuilder
  go_enter Tryz.func56, Tryz.ntmps56
  go_wp2
  rw [run_callFunc_extern Tryz.func76 (by kernel_rfl) (by kernel_rfl) (by kernel_rfl) (e := Extern.AbiNoEscape.same) (by kernel_rfl), Lib.run_noEscape]
  simp only [Result.andThen]
  rw [Oper.upon_value]
  go_wp2
  go_end0
  exact ⟨rfl, rfl⟩
/-- A builder that was written: its address is its own. -/
def Bw (B b : Nat) (l : List UInt8) (w : World) : Prop := Lib.BuilderAt 49 5 B b (.pointer (some ⟨b, 0, none⟩)) (Lib.byteCells l) w
theorem bne : (49 : TypeId) ≠ 5 := by decide
theorem bw_set {B b : Nat} {bs : List Value} {w : World} {p q : Value} (h : Lib.BuilderAt 49 5 B b p bs w) : Lib.BuilderAt 49 5 B b q bs (w.setCell ⟨b, 0, none⟩ q) := by
  obtain ⟨hB, v, hb, hown, hne⟩ := h
  exact ⟨hB, v, set_at hb, World.ownsRow.kept hown (grown_set _ _ _ _) (Or.inr hne), hne⟩
/-- Every block of cells of another kind than a byte, but the builder's own, is as it was. -/
def Kb (b : Nat) (w w' : World) : Prop := ∀ (c : Nat) (cs : Array Value) (T : TypeId) (fr : Nat × Nat), c ≠ b → T ≠ 5 → w.heap[c]? = some (.cells cs T fr) → w'.heap[c]? = some (.cells cs T fr)
theorem Kb.refl (b : Nat) (w : World) : Kb b w w := fun _ _ _ _ _ _ h => h
theorem Kb.trans {b : Nat} {w w1 w2 : World} (h : Kb b w w1) (k : Kb b w1 w2) : Kb b w w2 := fun c cs T fr h1 h2 h3 => k c cs T fr h1 h2 (h c cs T fr h1 h2 h3)
theorem Kb.set (b k : Nat) (w : World) (u : Value) : Kb b w (w.setCell ⟨b, k, none⟩ u) := fun c cs T fr h1 h2 h3 => set_far h3 h1
theorem Kb.alloc (b : Nat) (w : World) (o : Obj) : Kb b w (w.alloc o) := fun c cs T fr h1 h2 h3 => old_alloc h3
theorem Kb.grown {b B n : Nat} {w w' : World} {v : Value} {xs : List Value} (hown : w.ownsRow B 5 1 v n xs) (hg : w.grownBy w' v.ownBlock) : Kb b w w' := by
  intro c cs T fr h1 h2 h3
  refine (hg.block c (lt_of_block h3) (fun e => ?_)).trans h3
  rcases hown.2 with ⟨rfl, hn⟩ | ⟨g, cap, cur, rfl, hb, hgk, hc, _⟩
  · simp [Value.ownBlock] at e
  · simp [Value.ownBlock] at e
    subst e
    rw [hgk] at h3
    cases h3
    exact h2 rfl
theorem check_any (B b : Nat) (bs : List Value) (w : World) (h : Lib.IsBuilder 49 5 B b bs w) : Calls Tryz.prog 56 #[.pointer (some ⟨b, 0, none⟩)] w fun e w' => e = .returned (.tuple #[]) ∧ Lib.BuilderAt 49 5 B b (.pointer (some ⟨b, 0, none⟩)) bs w' ∧ Below B w w' ∧ Kb b w w' := by
  rcases h with h | h
  · obtain ⟨hB, v, hb, hown, hne⟩ := h
    refine (check_fresh b w v hb).mono ?_
    rintro e w1 ⟨rfl, rfl⟩
    exact ⟨rfl, bw_set ⟨hB, v, hb, hown, hne⟩, (Below.refl _ _).setCell hB _, Kb.set _ _ _ _⟩
  · refine (check_used b w h.cell0).mono ?_
    rintro e w1 ⟨rfl, rfl⟩
    exact ⟨rfl, h, Below.refl _ _, Kb.refl _ _⟩
set_option maxRecDepth 100000 in
set_option maxHeartbeats 1000000 in
theorem write_byte (B b : Nat) (bs : List Value) (c : Int) (w : World) (h : Lib.IsBuilder 49 5 B b bs w) (hl : bs.length ≤ 1000000000) (hBw : B ≤ w.heap.size) : Calls Tryz.prog 23 #[.pointer (some ⟨b, 0, none⟩), .int .u8 c] w fun e w' => e = .returned .nilIface ∧ Lib.BuilderAt 49 5 B b (.pointer (some ⟨b, 0, none⟩)) (bs ++ [.int .u8 c]) w' ∧ Below B w w' ∧ Kb b w w' := by
  obtain ⟨i0, hi, hz0, hz1, hz2⟩ := info_parts Tryz.info5
  have HC := hid (check_any B b bs w h)
  clear h
  go_enter Tryz.func23, Tryz.ntmps23
  go_wp2_with fail
  refine HC.out.mono ?_
  rintro e w1 ⟨rfl, ⟨hB, v, hbk, hown, hne⟩, hb1, hkb⟩
  obtain ⟨c0, c1, f0, f1⟩ := cell2g hbk
  have hs1 := hb1.size
  have Hbk := hid hbk
  clear hbk
  go_wp2_with (at_builtin; refine wpList_append_own _ rfl (.tmp 11) (.tmp 13) 22 rfl B 5 i0 (.int .u8 0) 1 1 Tryz.underlying22 hi hz0 hz1 hz2 rfl (by decide) _ _ _ rfl (hown.alloc _) ⟨w1.heap.size, 0, none⟩ 1 1 [.int .u8 c] rfl rfl (cell_one_new _ _ _) (by simp [Value.oneCell']) (by unfold maxLen; omega) (by omega) (by simp; omega) ?_)
  intro v' w2 hown' hgrow _
  have hb2 : w2.heap[b]? = some (.cells #[.pointer (some ⟨b, 0, none⟩), v] 49 (0, 0)) := (hgrow.block b (by have := lt_of_block Hbk.out; simp; omega) (fun e => hne e.symm)).trans (old_alloc Hbk.out)
  obtain ⟨d0, d1, e0, e1⟩ := cell2g hb2
  have Hb2 := hid hb2
  have hk2 := hid ((hkb.trans (Kb.alloc b _ _)).trans (Kb.grown (hown.alloc _) hgrow))
  have hB2 : Below B w w2 := (hb1.alloc (by omega) _).grown hgrow (by simp; omega) (fun k hk => (hown.lt k hk).1)
  obtain ⟨g, cap, rfl⟩ : ∃ g cap, v' = .slice (some ⟨g, 0, none⟩) (bs.length + 1) cap := by
    rcases hown'.2 with ⟨_, h0⟩ | ⟨g, cap, cur, hv, _⟩
    · omega
    · exact ⟨g, cap, hv⟩
  have HO := hid hown'
  clear hb2 hown' hgrow hown
  go_wp2_with fail
  go_ret
  exact ⟨rfl, Lib.BuilderAt.put hB Hb2.out (by simpa using HO.out) bne, hB2.setCell hB _, hk2.out.trans (Kb.set _ _ _ _)⟩
set_option maxRecDepth 100000 in
set_option maxHeartbeats 1000000 in
theorem write_string (B b : Nat) (bs : List Value) (s : ByteArray) (w : World) (h : Lib.IsBuilder 49 5 B b bs w) (hl : bs.length ≤ 1000000000) (hs0 : 0 < s.size) (hs : s.size ≤ 1000) (hBw : B ≤ w.heap.size) : Calls Tryz.prog 24 #[.pointer (some ⟨b, 0, none⟩), .string s] w fun e w' => e = .returned (.tuple #[.int .i64 s.size, .nilIface]) ∧ Lib.BuilderAt 49 5 B b (.pointer (some ⟨b, 0, none⟩)) (bs ++ Lib.strCells s) w' ∧ Below B w w' ∧ Kb b w w' := by
  obtain ⟨i0, hi, hz0, hz1, hz2⟩ := info_parts Tryz.info5
  have HC := hid (check_any B b bs w h)
  clear h
  go_enter Tryz.func24, Tryz.ntmps24
  go_wp2_with fail
  refine HC.out.mono ?_
  rintro e w1 ⟨rfl, ⟨hB, v, hbk, hown, hne⟩, hb1, hkb⟩
  obtain ⟨c0, c1, f0, f1⟩ := cell2g hbk
  have hs1 := hb1.size
  have Hbk := hid hbk
  clear hbk
  go_wp2_with (at_builtin; refine Lib.wpList_append_own_string _ rfl (.tmp 12) (.tmp 13) 22 9 rfl B 5 i0 Tryz.underlying22 Tryz.underlying9 hi hz0 hz1 hz2 _ _ _ rfl hown s rfl (by unfold maxLen; omega) (by omega) (by omega) ?_)
  intro v' w2 hown' hgrow _
  have hb2 : w2.heap[b]? = some (.cells #[.pointer (some ⟨b, 0, none⟩), v] 49 (0, 0)) := (hgrow.block b (lt_of_block Hbk.out) (fun e => hne e.symm)).trans Hbk.out
  obtain ⟨d0, d1, e0, e1⟩ := cell2g hb2
  have Hb2 := hid hb2
  have hk2 := hid (hkb.trans (Kb.grown hown hgrow))
  have hB2 : Below B w w2 := hb1.grown hgrow (by omega) (fun k hk => (hown.lt k hk).1)
  obtain ⟨g, cap, rfl⟩ : ∃ g cap, v' = .slice (some ⟨g, 0, none⟩) (bs.length + s.size) cap := by
    rcases hown'.2 with ⟨_, h0⟩ | ⟨g, cap, cur, hv, _⟩
    · omega
    · exact ⟨g, cap, hv⟩
  have HO := hid hown'
  clear hb2 hown' hgrow hown
  go_wp2_with fail
  go_ret2
  exact ⟨rfl, Lib.BuilderAt.put hB Hb2.out (by simpa [Lib.strCells_length] using HO.out) bne, hB2.setCell hB _, hk2.out.trans (Kb.set _ _ _ _)⟩
end Go.Proofs.YtjafahhoihlliaaGreatDoor
