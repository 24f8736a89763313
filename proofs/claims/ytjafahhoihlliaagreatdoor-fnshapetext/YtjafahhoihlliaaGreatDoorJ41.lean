/- Texts of stores, joined: DrawS5. -/
import Derived.Test.YtjafahhoihlliaaGreatDoorJ39
import Derived.Test.YtjafahhoihlliaaGreatDoorJ40
namespace Go.Proofs.YtjafahhoihlliaaGreatDoor
open Go.RowKit
set_option linter.unusedVariables false
set_option linter.unusedSimpArgs false
set_option maxRecDepth 100000 in
set_option maxHeartbeats 1000000 in
theorem mostly_r (w : World) (p : Nat) (a : Option Addr) (len cap : Nat) (h : Ready w p a len cap) : Calls Tryz.prog 43 #[.pointer (some ⟨p, 0, none⟩)] w fun e w' => ∃ kd : Int, ∃ ps : List (Int × Int), ∃ ao cp, e = .returned (.agg #[.int .i64 kd, .slice ao ps.length cp]) ∧ ps.length ≤ 61 ∧ ps.length ≤ cp ∧ PtRow w' w.heap.size (.slice ao ps.length cp) ps ∧ Ready w' p a len cap ∧ w.grownBy w' (some p) := by
  have hp := h.lt
  go_enter Tryz.func43, Tryz.ntmps43
  go_wp2_with fail
  have gR := heap_alloc_new w (.cells #[.int .i64 0, .slice none 0 0] 26)
  have hr := h.alloc (.cells #[.int .i64 0, .slice none 0 0] 26)
  have hg := grown_alloc w (.cells #[.int .i64 0, .slice none 0 0] 26) (some p)
  have hz : (w.alloc (.cells #[.int .i64 0, .slice none 0 0] 26)).heap.size = w.heap.size + 1 := by simp
  generalize w.alloc (.cells #[.int .i64 0, .slice none 0 0] 26) = v0 at *
  clear h
  refine (once_r _ p a len cap 10 (by omega) (by omega) hr).mono ?_
  rintro e v1 ⟨b, rfl, hr2, hg2⟩
  replace gR := grown_blk hg2 gR (by omega)
  replace hg := grown_trans hg hg2
  have hz1 := hg2.size
  clear hr hg2
  cases b
  · go_wp2_with fail
    refine (right_r _ p a len cap hr2).mono ?_
    rintro e v2 ⟨kd, ps, vs, rfl, hl1, hl2, hrow, hr, hg2⟩
    replace gR := grown_blk hg2 gR (by omega)
    replace hg := grown_trans hg hg2
    clear hr2 hg2
    obtain ⟨e0, e1, ef0, ef1⟩ := cell2g gR
    have hzf : w.heap.size < v2.heap.size := lt_of_block gR
    have hne : vs.ownBlock ≠ some w.heap.size := fun e => by have := (World.ownsRow.lt hrow _ e).1; omega
    obtain ⟨ao, cp, rfl, hcp, hpt⟩ := hrow.pts
    clear hpt
    obtain ⟨v', ev, z0', z1', hrow', hr', hg'⟩ := fin_shape (k := kd) hp (Nat.le_refl _) gR hrow (by omega) hne hr hg
    have Hev := hid ev
    have Hrow := hid hrow'
    clear ev hrow' hrow
    go_wp2_with fail
    rw [← Hev.out]
    exact bodyPost_ret (v := .agg #[.int .i64 kd, .slice ao ps.length cp]) (by simp [results, Tryz.results43, go_sem, z0', z1']) rfl ⟨kd, ps, ao, cp, rfl, by omega, hcp, Hrow.out, hr', hg'⟩
  · go_wp2_with fail
    refine (any_r _ p a len cap hr2).mono ?_
    rintro e v2 ⟨kd, ps, vs, rfl, hl2, hrow, hr, hg2⟩
    replace gR := grown_blk hg2 gR (by omega)
    replace hg := grown_trans hg hg2
    clear hr2 hg2
    obtain ⟨e0, e1, ef0, ef1⟩ := cell2g gR
    have hzf : w.heap.size < v2.heap.size := lt_of_block gR
    have hne : vs.ownBlock ≠ some w.heap.size := fun e => by have := (World.ownsRow.lt hrow _ e).1; omega
    obtain ⟨ao, cp, rfl, hcp, hpt⟩ := hrow.pts
    clear hpt
    obtain ⟨v', ev, z0', z1', hrow', hr', hg'⟩ := fin_shape (k := kd) hp (Nat.le_refl _) gR hrow (by omega) hne hr hg
    have Hev := hid ev
    have Hrow := hid hrow'
    clear ev hrow' hrow
    go_wp2_with fail
    rw [← Hev.out]
    exact bodyPost_ret (v := .agg #[.int .i64 kd, .slice ao ps.length cp]) (by simp [results, Tryz.results43, go_sem, z0', z1']) rfl ⟨kd, ps, ao, cp, rfl, by omega, hcp, Hrow.out, hr', hg'⟩
end Go.Proofs.YtjafahhoihlliaaGreatDoor
