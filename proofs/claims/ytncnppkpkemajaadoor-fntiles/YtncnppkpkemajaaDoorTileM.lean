/- TileDown of the specification. -/
import Derived.Test.YtncnppkpkemajaaDoorTileL
import Derived.WalkSpells
import Derived.Deep.AppendLies
namespace Go.Proofs.YtncnppkpkemajaaDoor
open Go.RowKit
set_option linter.unusedSimpArgs false
set_option linter.unusedVariables false
/-- A list of tiles that grows, in a block from B on. -/
def FRow (w : World) (B : Nat) (v : Value) (n : Nat) (zs : List Int) : Prop := w.ownsRow B 25 3 v n (zs.map (Value.int .i64))
theorem frow_new {w : World} {B : Nat} (hB : B ≤ w.heap.size) : FRow (w.alloc (.cells #[] 25)) B (.slice (some ⟨w.heap.size, 0, none⟩) 0 0) 0 [] := by
  have := World.ownsRow_made (base := B) (e := 25) (size := 3) w #[] 0 hB (by decide) rfl
  simpa [FRow] using this
theorem frow_own {w : World} {B n : Nat} {v : Value} {zs : List Int} (h : FRow w B v n zs) : ∃ a cap, v = .slice a n cap ∧ n ≤ cap ∧ FlOwn w a zs ∧ ∀ p, a = some p → B ≤ p.block := by
  obtain ⟨hl, ⟨rfl, rfl⟩ | ⟨g, cap, cur, rfl, hB, hg, hn, hm, hs, ht⟩⟩ := h
  · refine ⟨none, 0, rfl, Nat.le_refl _, .inl (by simpa using hl), fun p hp => by cases hp⟩
  · refine ⟨_, cap, rfl, hn, .inr ⟨g, rfl, ?_, fun i hi => ?_, fun j hj => ?_⟩, fun p hp => by injection hp with hp; subst hp; exact hB⟩
    · rcases Nat.lt_or_ge g w.heap.size with h' | h'
      · exact h'
      · rw [Array.getElem?_eq_none h'] at hg; cases hg
    · have h1 : w.cell? ⟨g, 0 + i, none⟩ = cur[i]? := by simp [World.cell?, hg]
      rw [h1]
      have h2 : (cur.toList.take (n * 3))[i]? = cur[i]? := by
        rw [List.getElem?_take, if_pos (by simp at hl; omega)]; simp
      rw [← h2, ht]
      simp [List.getElem?_map, List.getD_eq_getElem?_getD, hi]
    · have h1 : w.cell? ⟨g, 0 + j, none⟩ = cur[j]? := by simp [World.cell?, hg]
      refine ⟨?_, by simp [World.frozen?, hg]⟩
      rw [h1]
      have : j < cur.size := by
        rw [hs]
        simp at hl
        have := Nat.mul_le_mul_right 3 hn
        omega
      simp [this]
theorem keepheapT {w w' : World} (hb : Below w.heap.size w w') {b : Nat} {o : Obj} (h : w.heap[b]? = some o) : w'.heap[b]? = some o := by
  rw [hb.block b (Array.getElem?_eq_some_iff.1 h).1]; exact h
theorem Tryd.infoTile : (Tryd.prog.info? 25).map (fun i => (i.zero, i.size, i.bytes)) = some (some (.agg #[.int .i64 0, .int .i64 0, .int .i64 0]), 3, 24) := by kernel_rfl
theorem dn_take (l c r : Int) (i j : Nat) (hi : i < 2) (hj : j < 2) : (dn4 l c r).take (6 * i + 3 * j) ++ [l + 1, 2 * c + j, 2 * r + i] = (dn4 l c r).take (6 * i + 3 * (j + 1)) := by
  rcases (show i = 0 ∨ i = 1 by omega) with rfl | rfl <;> rcases (show j = 0 ∨ j = 1 by omega) with rfl | rfl <;> simp [dn4]
set_option maxRecDepth 100000 in
set_option maxHeartbeats 1000000 in
theorem spec_tiledown (l c r : Int) (w : World) : Calls Tryd.prog 23 #[.agg #[.int .i64 l, .int .i64 c, .int .i64 r]] w fun e w' => ∃ v, e = .returned v ∧ TlNew w w' v (dnn l c r) (dn l c r) := by
  cases h : tok l c r
  · have hu : dnok l c r = false := by simp [dnok, h]
    rw [show dn l c r = [] by simp [dn, hu], show dnn l c r = 0 by simp [dnn, hu]]
    go_enter Tryd.func23, Tryd.ntmps23
    go_wp2_with fail
    refine (spec_tileok l c r _).mono ?_
    rw [h]
    rintro e w' ⟨rfl, rfl⟩
    go_wp2_with fail
    go_ret
    exact ⟨.slice (some ⟨w.heap.size + 1, 0, none⟩) 0 0, rfl, some ⟨w.heap.size + 1, 0, none⟩, 0, rfl, Nat.le_refl _, .inl rfl, by (repeat (first | with_reducible exact Below.refl _ _ | with_reducible assumption | (with_reducible refine btrans ?_ (by with_reducible assumption)) | with_reducible refine bdrew ?_ | with_reducible refine balloc ?_ _ | with_reducible refine bset ?_ (by simp; omega) _)), fun p hp => by injection hp with hp; subst hp; dsimp only; omega⟩
  have hok := h
  obtain ⟨k, rfl, hk, c0, c1, r0, r1⟩ := tok_parts h
  obtain ⟨_, _, _, q1, q2, _, _⟩ := sid_bounds k hk
  by_cases h8 : k = 8
  · subst h8
    have hu : dnok ((8 : Nat) : Int) c r = false := by simp [dnok]
    rw [show dn ((8 : Nat) : Int) c r = [] by unfold dn; rw [hu]; rfl, show dnn ((8 : Nat) : Int) c r = 0 by unfold dnn; rw [hu]; rfl]
    go_enter Tryd.func23, Tryd.ntmps23
    go_wp2_with fail
    refine (spec_tileok ((8 : Nat) : Int) c r _).mono ?_
    rw [hok]
    rintro e w' ⟨rfl, rfl⟩
    go_wp2_with fail
    go_ret
    exact ⟨.slice (some ⟨w.heap.size + 1, 0, none⟩) 0 0, rfl, some ⟨w.heap.size + 1, 0, none⟩, 0, rfl, Nat.le_refl _, .inl rfl, by (repeat (first | with_reducible exact Below.refl _ _ | with_reducible assumption | (with_reducible refine btrans ?_ (by with_reducible assumption)) | with_reducible refine bdrew ?_ | with_reducible refine balloc ?_ _ | with_reducible refine bset ?_ (by simp; omega) _)), fun p hp => by injection hp with hp; subst hp; dsimp only; omega⟩
  have hu : dnok (k : Int) c r = true := by simp [dnok, hok]; omega
  rw [show dn (k : Int) c r = dn4 k c r by simp [dn, hu], show dnn (k : Int) c r = 4 by simp [dnn, hu]]
  have hz : ¬ ((k : Int) = 8) := by omega
  have hk8 : ((k : Int) == 8) = false := by rw [beq_eq_false_iff_ne]; omega
  have hb0 : Below w.heap.size w (w.alloc (.cells #[.int .i64 k, .int .i64 c, .int .i64 r] 25)) := balloc (Below.refl _ _) _
  have hg0 : (w.alloc (.cells #[.int .i64 k, .int .i64 c, .int .i64 r] 25)).heap[w.heap.size]? = some (.cells #[.int .i64 k, .int .i64 c, .int .i64 r] 25 (0, 0)) := new_alloc _ _ _ rfl
  have hs0 : (w.alloc (.cells #[.int .i64 k, .int .i64 c, .int .i64 r] 25)).heap.size = w.heap.size + 1 := by simp
  obtain ⟨i0, hi0, hz0, hz1, hz2⟩ := info_parts Tryd.infoTile
  go_enter Tryd.func23, Tryd.ntmps23
  go_wp2_with fail
  refine (spec_tileok k c r _).mono ?_
  rw [hok]
  rintro e w' ⟨rfl, rfl⟩
  generalize hw0 : (w.alloc (.cells #[.int .i64 k, .int .i64 c, .int .i64 r] 25)) = w0 at *
  have HR := hid (frow_new (w := w0) (B := w0.heap.size) (Nat.le_refl _))
  have HB : Hid (Below w0.heap.size w0 ((w0.alloc (.cells #[] 25)).alloc (.cells #[.int .i64 k, .int .i64 c, .int .i64 r] 25))) := hid (by (repeat (first | with_reducible exact Below.refl _ _ | with_reducible assumption | (with_reducible refine btrans ?_ (by with_reducible assumption)) | with_reducible refine bdrew ?_ | with_reducible refine balloc ?_ _ | with_reducible refine bset ?_ (by simp; omega) _)))
  have HR1 := hid (World.ownsRow.alloc HR.out (.cells #[.int .i64 k, .int .i64 c, .int .i64 r] 25))
  rw [hs0] at HR1
  generalize hw1 : ((w0.alloc (.cells #[] 25)).alloc (.cells #[.int .i64 k, .int .i64 c, .int .i64 r] 25)) = w1 at *
  have HG0 := hid hg0
  have g1 := keepheapT HB.out hg0
  obtain ⟨p0, p1, p2, _, _, _⟩ := cellT g1
  clear hg0 hw0 hw1 HR g1
  go_wp2_with fail
  go_loopw [3, 4] (fun v ti wr => ∃ i : Nat, ti = .int .i64 i ∧ i ≤ 2 ∧ Hid (FRow wr (w.heap.size + 1) v (2 * i) ((dn4 k c r).take (6 * i))) ∧ Hid (Below w0.heap.size w0 wr)) (fun _ ti _ => 2 - (intOf ti).toNat)
  case atStart => exact ⟨0, rfl, by omega, HR1, HB⟩
  case round =>
    obtain ⟨i, rfl, hi2, HO, HBr⟩ := hrel
    clear HB HR1 p0 p1 p2
    generalize hwo : wr = wo at *
    clear hwo
    obtain ⟨p0, p1, p2, _, _, _⟩ := cellT (keepheapT HBr.out HG0.out)
    by_cases hlt : i < 2
    · have ci : (i : Int) < 2 := by omega
      go_wp2_with fail
      go_loopw [3, 5] (fun v tj wr => ∃ j : Nat, tj = .int .i64 j ∧ j ≤ 2 ∧ Hid (FRow wr (w.heap.size + 1) v (2 * i + j) ((dn4 k c r).take (6 * i + 3 * j))) ∧ Hid (Below w0.heap.size w0 wr)) (fun _ tj _ => 2 - (intOf tj).toNat)
      case atStart => exact ⟨0, rfl, by omega, HO, HBr⟩
      case round =>
        obtain ⟨j, rfl, hj2, HO1, HB1⟩ := hrel
        clear HO HBr p0 p1 p2
        obtain ⟨p0, p1, p2, _, _, _⟩ := cellT (keepheapT HB1.out HG0.out)
        have hsz : w.heap.size + 1 ≤ wr.heap.size := by have := HB1.out.size; omega
        by_cases hjl : j < 2
        · have cj : (j : Int) < 2 := by omega
          have hown := HO1.out
          unfold FRow at hown
          go_wp2_with (at_builtin; go_loud (refine wpList_append_own _ rfl (.tmp 24) (.tmp 39) 38 rfl (w.heap.size + 1) 25 i0 _ 3 24 Tryd.underlying38 hi0 hz0 hz1 hz2 rfl (by decide) _ _ _ rfl (hown.alloc _) ⟨wr.heap.size, 0, none⟩ 1 1 [.int .i64 (k + 1), .int .i64 (2 * c + j), .int .i64 (2 * r + i)] rfl rfl (World.news_of_block (cs := #[.int .i64 (k + 1), .int .i64 (2 * c + j), .int .i64 (2 * r + i)]) (t := 25) (fr := (0, 0)) (heap_alloc_new wr _)) (by simp [Value.oneCell']) (by unfold maxLen; omega) (by omega) (by simp; omega) ?_); intro v' w2 hown' hgrow _)
          go_roundw
          case rel =>
            refine ⟨j + 1, by go_num, by omega, ?_, ?_⟩
            · show FRow _ _ _ _ _
              unfold FRow
              rw [← dn_take k c r i j hlt hjl, List.map_append]
              exact hown'
            · show Below _ _ _
              rw [hs0]
              have hb1 := HB1.out
              rw [hs0] at hb1
              exact (hb1.alloc hsz _).grown hgrow (by simp; omega) (fun y hy => (hown.lt y hy).1)
          case measure => simp [intOf]; omega
        · obtain rfl : j = 2 := by omega
          go_wp2_with fail
          go_roundw
          case rel => exact ⟨i + 1, by go_num, by omega, HO1, HB1⟩
          case measure => simp [intOf]; omega
    · obtain rfl : i = 2 := by omega
      go_wp2_with fail
      go_ret
      obtain ⟨a, cap, hv, hcap, hfl, hbl⟩ := frow_own HO.out
      refine ⟨_, rfl, a, cap, hv, hcap, hfl, ?_, fun p hp => by have := hbl p hp; omega⟩
      have hb1 := HBr.out
      exact btrans hb0 hb1
end Go.Proofs.YtncnppkpkemajaaDoor
