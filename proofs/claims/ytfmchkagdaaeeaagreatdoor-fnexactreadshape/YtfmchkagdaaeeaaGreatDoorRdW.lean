/- The law of ReadShape, walked. -/
import Derived.Test.YtfmchkagdaaeeaaGreatDoorRsF
import Derived.Test.YtfmchkagdaaeeaaGreatDoorShLaw
namespace Go.Proofs.YtfmchkagdaaeeaaGreatDoor
open Go.RowKit
set_option linter.unusedVariables false
theorem OwnP.grownx {w w' : World} {a : Option Addr} {ps : List (Int × Int)} {r : Option Nat} (h : OwnP w a ps) (hg : w.grownBy w' r) (hne : ∀ c off, a = some ⟨c, off, none⟩ → some c ≠ r) : OwnP w' a ps := by
  rcases h with ⟨rfl, rfl⟩ | ⟨b, rfl, h⟩
  · exact .inl ⟨rfl, rfl⟩
  · exact .inr ⟨b, rfl, PtsOwn.of_block h (hg.block b h.1 (hne b 0 rfl)) hg.size⟩
theorem OwnP.ltx {w : World} {a : Option Addr} {ps : List (Int × Int)} (h : OwnP w a ps) : ∀ c off, a = some ⟨c, off, none⟩ → c < w.heap.size := by
  intro c off e
  rcases h with ⟨rfl, rfl⟩ | ⟨b, rfl, h⟩
  · cases e
  · cases e; exact h.1
theorem bgrownx {w a b : World} {r : Option Nat} (h : Below w.heap.size w a) (hg : a.grownBy b r) (hp : ∀ c, r = some c → w.heap.size ≤ c) : Below w.heap.size w b :=
  h.grown hg h.size hp
theorem map_blkx {a : Option Addr} {c : Nat} {w : World} {ps : List (Int × Int)} (h : OwnP w a ps) (e : a.map (·.block) = some c) : a = some ⟨c, 0, none⟩ := by
  rcases h with ⟨rfl, rfl⟩ | ⟨b, rfl, h⟩
  · simp at e
  · simp at e; rw [e]
set_option maxRecDepth 100000 in
set_option maxHeartbeats 4000000 in
theorem read_w (s : ByteArray) (hm : s.size ≤ maxLen) (w : World) (hLb : LibsR w) (hKw : KWr w) (hg : w.cell? ⟨0, 0, none⟩ = some (.iface 77 (.agg #[.pointer (some ⟨10, 44, none⟩)]))) : Calls Tryz.prog 3 #[.string s] w fun e w' => e = .returned (.bool true) ∧ Below w.heap.size w w' := by
  unfold maxLen at hm
  by_cases hbig : 1048576 < s.size
  · have hd : 1048576 < (s.size : Int) := by omega
    clear hg hLb hKw
    go_enter Tryz.func3, Tryz.ntmps3
    go_wp2_with fail
    go_ret
    exact ⟨rfl, Below.refl _ _⟩
  have hd : (s.size : Int) ≤ 1048576 := by omega
  have hs : s.size ≤ 1048576 := by omega
  have CS := hid (fun w => spec_ReadShape s hs w)
  have CI := hid (fun (W : World) (hb : Below w.heap.size w W) => impl_ReadShape s hs W (hLb.below hb) (hKw.below hb) (keepcell hb hg))
  have hqm' := rso_len (rest s s.size 0 0)
  unfold RSA at CS CI
  generalize roP (rso (rest s s.size 0 0)) = qs at *
  generalize roK (rso (rest s s.size 0 0)) = kq at *
  generalize (rso (rest s s.size 0 0)).isSome = nq at *
  have hqm : qs.length ≤ 1099511627776 := by omega
  clear hg hbig hLb hKw
  go_enter Tryz.func3, Tryz.ntmps3
  go_wp2_with fail
  refine (CS.out _).mono ?_
  rintro e y1 ⟨sa, sc, rfl, hsc, hso, _, hB⟩
  have S0 := hid hso
  have hx0 := hB.size
  clear hso
  go_wp2_with fail
  have g5 := new_alloc y1 y1.heap.size (.cells #[.int .i64 kq, .slice sa qs.length sc] 24) rfl
  have hb1 : Below y1.heap.size y1 (y1.alloc (.cells #[.int .i64 kq, .slice sa qs.length sc] 24)) := balloc (Below.refl _ _) _
  replace S0 := hid (S0.out.below hb1)
  replace hB := btrans hB hb1
  clear hb1
  generalize y1.alloc (.cells #[.int .i64 kq, .slice sa qs.length sc] 24) = W1 at *
  generalize y1.heap.size = X1 at *
  have hx1 := lt_of_block g5
  have HSL := hid S0.out.ltx
  refine (CI.out _ hB).mono ?_
  rintro e y2 ⟨ga, gc, rfl, hgc, hgo, hgb, hb2⟩
  have G0 := hid hgo
  have HGB := hid hgb
  clear hgo hgb
  replace S0 := hid (S0.out.below hb2)
  replace g5 := keepheap hb2 g5
  have hsz2 := hb2.size
  replace hB := btrans hB hb2
  clear hb2
  generalize W1.heap.size = Z1 at *
  obtain ⟨a0, a1, _, _⟩ := cell2g (old_alloc (o' := (.cells #[.int .i64 kq, .slice ga qs.length gc] 24)) g5)
  go_wp2_with fail
  clear a0 a1
  have g7 := new_alloc y2 y2.heap.size (.cells #[.int .i64 kq, .slice ga qs.length gc] 24) rfl
  have hb3 : Below y2.heap.size y2 (y2.alloc (.cells #[.int .i64 kq, .slice ga qs.length gc] 24)) := balloc (Below.refl _ _) _
  have HGL := hid G0.out.ltx
  replace S0 := hid (S0.out.below hb3)
  replace G0 := hid (G0.out.below hb3)
  replace g5 := keepheap hb3 g5
  replace hB := btrans hB hb3
  clear hb3
  generalize y2.alloc (.cells #[.int .i64 kq, .slice ga qs.length gc] 24) = W2 at *
  generalize y2.heap.size = X2 at *
  obtain ⟨a0, a1, _, _⟩ := cell2g g5
  obtain ⟨b0, b1, _, _⟩ := cell2g g7
  refine (eq_shape kq ga sa gc sc qs _ hqm hgc hsc G0.out.pts S0.out.pts).mono ?_
  rintro e y3 ⟨rfl, hb4⟩
  replace S0 := hid (S0.out.below hb4)
  replace G0 := hid (G0.out.below hb4)
  replace g5 := keepheap hb4 g5
  replace g7 := keepheap hb4 g7
  replace hB := btrans hB hb4
  clear hb4 a0 a1 b0 b1
  obtain ⟨a0, a1, _, _⟩ := cell2g g5
  obtain ⟨b0, b1, _, _⟩ := cell2g g7
  go_wp2_with fail
  refine (mark_shape _ kq ga gc qs hqm hgc G0.out).mono ?_
  rintro e y4 ⟨rfl, hmo, hmg⟩
  have hw := hB.size
  replace S0 : Hid (OwnP y4 sa qs) := hid (S0.out.grownx hmg (fun c off e e2 => by have h1 := HGB.out _ _ (map_blkx G0.out e2.symm); have h2 := HSL.out c off e; omega))
  replace g5 := (hmg.block X1 (lt_of_block g5) (fun e2 => by have h1 := HGB.out _ _ (map_blkx G0.out e2.symm); omega)).trans g5
  replace g7 := (hmg.block X2 (lt_of_block g7) (fun e2 => by have h1 := HGL.out _ _ (map_blkx G0.out e2.symm); omega)).trans g7
  replace hB := bgrownx hB hmg (fun c e => by have h1 := HGB.out _ _ (map_blkx G0.out e); omega)
  replace G0 : Hid (OwnP y4 ga (tk mk qs.length)) := hid hmo
  clear hmo hmg a0 a1 b0 b1 hw
  obtain ⟨a0, a1, _, _⟩ := cell2g g5
  obtain ⟨b0, b1, _, _⟩ := cell2g g7
  have hk1 : ¬ ((1 : Int) + 2 * (qs.length : Int) < 0) := by omega
  go_wp2_with fail
  refine (held_shape _ kq ga gc qs.length hqm hgc G0.out.pts).mono ?_
  rintro e y5 ⟨rfl, hb5⟩
  replace S0 := hid (S0.out.below hb5)
  replace G0 := hid (G0.out.below hb5)
  replace g5 := keepheap hb5 g5
  replace g7 := keepheap hb5 g7
  replace hB := btrans hB hb5
  clear hb5 a0 a1 b0 b1
  obtain ⟨a0, a1, _, _⟩ := cell2g g5
  obtain ⟨b0, b1, _, _⟩ := cell2g g7
  go_wp2_with fail
  refine (CI.out _ hB).mono ?_
  rintro e y6 ⟨ha, hcp, rfl, hhc, hho, _, hb6⟩
  have H0 := hid hho
  replace S0 := hid (S0.out.below hb6)
  replace G0 := hid (G0.out.below hb6)
  replace g5 := keepheap hb6 g5
  replace g7 := keepheap hb6 g7
  replace hB := btrans hB hb6
  clear hb6 hho a0 a1 b0 b1
  obtain ⟨a0, a1, _, _⟩ := cell2g (old_alloc (o' := (.cells #[.int .i64 kq, .slice ha qs.length hcp] 24)) g5)
  go_wp2_with fail
  clear a0 a1
  have hb7 : Below y6.heap.size y6 (y6.alloc (.cells #[.int .i64 kq, .slice ha qs.length hcp] 24)) := balloc (Below.refl _ _) _
  have g11 := new_alloc y6 y6.heap.size (.cells #[.int .i64 kq, .slice ha qs.length hcp] 24) rfl
  replace S0 := hid (S0.out.below hb7)
  replace G0 := hid (G0.out.below hb7)
  replace H0 := hid (H0.out.below hb7)
  replace g5 := keepheap hb7 g5
  replace g7 := keepheap hb7 g7
  replace hB := btrans hB hb7
  clear hb7
  generalize y6.alloc (.cells #[.int .i64 kq, .slice ha qs.length hcp] 24) = W3 at *
  generalize y6.heap.size = X3 at *
  obtain ⟨a0, a1, _, _⟩ := cell2g g5
  obtain ⟨b0, b1, _, _⟩ := cell2g g7
  obtain ⟨d0, d1, _, _⟩ := cell2g g11
  refine (eq_shape kq ha sa hcp sc qs _ hqm hhc hsc H0.out.pts S0.out.pts).mono ?_
  rintro e y8 ⟨rfl, hb8⟩
  replace G0 := hid (G0.out.below hb8)
  replace g7 := keepheap hb8 g7
  replace hB := btrans hB hb8
  clear hb8 a0 a1 b0 b1 d0 d1
  obtain ⟨b0, b1, _, _⟩ := cell2g g7
  go_wp2_with fail
  refine (held_shape _ kq ga gc qs.length hqm hgc G0.out.pts).mono ?_
  rintro e y9 ⟨rfl, hb9⟩
  replace hB := btrans hB hb9
  clear hb9 b0 b1
  go_wp2_with fail
  go_ret
  exact ⟨rfl, hB⟩
end Go.Proofs.YtfmchkagdaaeeaaGreatDoor
