/- The sides of a shape: the specification's, of rectangles. -/
import Derived.Test.YtmnnbifekbacnaaDoorSides4
namespace Go.Proofs.YtmnnbifekbacnaaDoor
open Go.RowKit
set_option linter.unusedSimpArgs false
set_option linter.unusedVariables false
def corners (x y u v : Int) : List (Int × Int) := [(x, y), (u, y), (u, v), (x, v)]
theorem PtsAt.grown {w w' : World} {b : Nat} {ps : List (Int × Int)} {row : Option Nat} (h : PtsAt w b 0 ps) (hg : w.grownBy w' row) (hne : some b ≠ row) : PtsAt w' b 0 ps := by
  intro k hk
  obtain ⟨h1, h2⟩ := h k hk
  exact ⟨hg.cell h1 hne, hg.cell h2 hne⟩
set_option maxRecDepth 100000 in
set_option maxHeartbeats 4000000 in
theorem spec_sides2 (x y u v : Int) (a : Option Addr) (cap : Nat) (w : World) (h : Pts w a [(x, y), (u, v)]) (hc : 2 ≤ cap) : Calls Tryd.prog 31 #[shv 2 a 2 cap] w fun e w' => ∃ g cp, e = .returned (.slice (some ⟨g, 0, none⟩) 4 cp) ∧ w.heap.size ≤ g ∧ g < w'.heap.size ∧ 4 ≤ cp ∧ SdAt w' g 0 (ringSides (corners x y u v)) ∧ Below w.heap.size w w' := by
  obtain ⟨i0, hi0, hz0, hz1, hz2⟩ := info_parts Tryd.info2P
  obtain ⟨b, off, rfl, hbs, hp⟩ : ∃ b off, a = some ⟨b, off, none⟩ ∧ b < w.heap.size ∧ PtsAt w b off [(x, y), (u, v)] := by
    rcases h with h | h
    · cases h
    · exact h
  obtain ⟨c0, c1⟩ := hp 0 (by simp)
  obtain ⟨d0, d1⟩ := hp 1 (by simp)
  simp only [Nat.zero_mul, Nat.add_zero, List.getD_cons_zero, List.getD_cons_succ, Nat.one_mul] at c0 c1 d0 d1
  have Hp := hid hp
  clear hp h
  obtain ⟨cs, hcs⟩ : ∃ cs, cs = corners x y u v := ⟨_, rfl⟩
  have hn : cs.length = 3 + 1 := by rw [hcs]; rfl
  have Hra := hid (ring_along cs 3 hn)
  have Hal : Hid ((alongSides cs).length = 3) := hid (by rw [along_len, hn])
  rw [← hcs]
  go_enter Tryd.func31, Tryd.ntmps31
  go_wp2_with fail
  have hown : ((w.alloc (.cells #[.int .i64 2, .slice (some ⟨b, off, none⟩) 2 cap] 33)).alloc (.cells #[] 63)).ownsRow (w.heap.size + 1) 63 4 (.slice (some ⟨w.heap.size + 1, 0, none⟩) 0 0) 0 [] := by
    have := World.ownsRow_made (base := w.heap.size + 1) (e := 63) (size := 4) (w.alloc (.cells #[.int .i64 2, .slice (some ⟨b, off, none⟩) 2 cap] 33)) #[] 0 (by simp) (by decide) rfl
    simpa using this
  have kd : ((w.alloc (.cells #[.int .i64 2, .slice (some ⟨b, off, none⟩) 2 cap] 33)).alloc (.cells #[] 63)).cell? ⟨w.heap.size, 0, none⟩ = some (.int .i64 2) := by (repeat (first | with_reducible assumption | (refine newcell _ _ _ _ _ _ ?_ rfl; simp; done) | refine keepcell (by with_reducible assumption) ?_ | refine keepdrew ?_ | refine keepalloc ?_ _))
  have hB0 : Below w.heap.size w ((w.alloc (.cells #[.int .i64 2, .slice (some ⟨b, off, none⟩) 2 cap] 33)).alloc (.cells #[] 63)) := by (repeat (first | with_reducible exact Below.refl _ _ | with_reducible assumption | (with_reducible refine btrans ?_ (by with_reducible assumption)) | with_reducible refine bdrew ?_ | with_reducible refine balloc ?_ _))
  have k0 : ((w.alloc (.cells #[.int .i64 2, .slice (some ⟨b, off, none⟩) 2 cap] 33)).alloc (.cells #[] 63)).cell? ⟨b, off, none⟩ = some (.int .i64 x) := by (repeat (first | with_reducible assumption | (refine newcell _ _ _ _ _ _ ?_ rfl; simp; done) | refine keepcell (by with_reducible assumption) ?_ | refine keepdrew ?_ | refine keepalloc ?_ _))
  have k1 : ((w.alloc (.cells #[.int .i64 2, .slice (some ⟨b, off, none⟩) 2 cap] 33)).alloc (.cells #[] 63)).cell? ⟨b, off + 1, none⟩ = some (.int .i64 y) := by (repeat (first | with_reducible assumption | (refine newcell _ _ _ _ _ _ ?_ rfl; simp; done) | refine keepcell (by with_reducible assumption) ?_ | refine keepdrew ?_ | refine keepalloc ?_ _))
  have k2 : ((w.alloc (.cells #[.int .i64 2, .slice (some ⟨b, off, none⟩) 2 cap] 33)).alloc (.cells #[] 63)).cell? ⟨b, off + 2, none⟩ = some (.int .i64 u) := by (repeat (first | with_reducible assumption | (refine newcell _ _ _ _ _ _ ?_ rfl; simp; done) | refine keepcell (by with_reducible assumption) ?_ | refine keepdrew ?_ | refine keepalloc ?_ _))
  have k3 : ((w.alloc (.cells #[.int .i64 2, .slice (some ⟨b, off, none⟩) 2 cap] 33)).alloc (.cells #[] 63)).cell? ⟨b, off + 2 + 1, none⟩ = some (.int .i64 v) := by (repeat (first | with_reducible assumption | (refine newcell _ _ _ _ _ _ ?_ rfl; simp; done) | refine keepcell (by with_reducible assumption) ?_ | refine keepdrew ?_ | refine keepalloc ?_ _))
  have hsz : w.heap.size + 2 ≤ ((w.alloc (.cells #[.int .i64 2, .slice (some ⟨b, off, none⟩) 2 cap] 33)).alloc (.cells #[] 63)).heap.size := by simp
  generalize ((w.alloc (.cells #[.int .i64 2, .slice (some ⟨b, off, none⟩) 2 cap] 33)).alloc (.cells #[] 63)) = W at *
  clear c0 c1 d0 d1
  go_cut [5, 6] (fun t5 t6 wx => ∃ ba bb : Nat, t5 = .pointer (some ⟨ba, 0, none⟩) ∧ t6 = .pointer (some ⟨bb, 0, none⟩) ∧ Below W.heap.size W wx ∧ wx.heap[ba]? = some (.cells #[.int .i64 x, .int .i64 y] 55 (0, 0)) ∧ wx.heap[bb]? = some (.cells #[.int .i64 u, .int .i64 v] 55 (0, 0)))
  case first =>
    go_region_held3 (fun w' => w'.cell? ⟨b, off, none⟩ = some (.int .i64 x) ∧ w'.cell? ⟨b, off + 1, none⟩ = some (.int .i64 y) ∧ w'.cell? ⟨b, off + 2, none⟩ = some (.int .i64 u) ∧ w'.cell? ⟨b, off + 2 + 1, none⟩ = some (.int .i64 v)) ((go_split_ands; (repeat' apply And.intro) <;> (repeat (first | with_reducible assumption | with_reducible refine keepset ?_ (by dsimp only; omega) | with_reducible refine keepdrew ?_ | with_reducible refine keepcell (by with_reducible assumption) ?_ | with_reducible refine keepalloc ?_ _))))
      (first
        | (fail))
    all_goals
      go_wp2_with fail
      go_meet
      first
        | exact ⟨_, _, rfl, rfl, by (repeat (first | with_reducible exact Below.refl _ _ | with_reducible assumption | (with_reducible refine btrans ?_ (by with_reducible assumption)) | with_reducible refine bdrew ?_ | with_reducible refine balloc ?_ _)), old_alloc (new_alloc _ _ _ (by simp)), new_alloc _ _ _ (by simp)⟩
        | exact ⟨_, _, rfl, rfl, by (repeat (first | with_reducible exact Below.refl _ _ | with_reducible assumption | (with_reducible refine btrans ?_ (by with_reducible assumption)) | with_reducible refine bdrew ?_ | with_reducible refine balloc ?_ _)), new_alloc _ _ _ (by simp), old_alloc (new_alloc _ _ _ (by simp))⟩
  case rest =>
    obtain ⟨ba, bb, rfl, rfl, hbx, ga, gb⟩ := hcut
    obtain ⟨r00, r01, _, _⟩ := cell2f ga
    obtain ⟨r10, r11, _, _⟩ := cell2f gb
    have kd' := keepcell hbx kd
    have hszc : w.heap.size + 2 ≤ wc.heap.size := Nat.le_trans hsz hbx.size
    have hownc : wc.ownsRow (w.heap.size + 1) 63 4 (.slice (some ⟨w.heap.size + 1, 0, none⟩) 0 0) 0 [] := by
      refine ⟨hown.1, ?_⟩
      rcases hown.2 with ⟨q, _⟩ | ⟨g, cp, cur, e, q1, q2, q3⟩
      · cases q
      · exact .inr ⟨g, cp, cur, e, q1, keepheap2 hbx q2, q3⟩
    have hB0c := btrans hB0 hbx
    have Hown := hid hownc
    clear ga gb hown hownc kd k0 k1 k2 k3 hB0 hbx hsz
    go_wp2_with fail
    have hptB : PtsAt (wc.alloc (.cells #[.int .i64 x, .int .i64 y, .int .i64 u, .int .i64 y, .int .i64 u, .int .i64 v, .int .i64 x, .int .i64 v] 55)) wc.heap.size 0 cs := by
      rw [hcs]
      intro k hk
      simp only [Nat.zero_add]
      match k, hk with
      | 0, _ => exact ⟨newcell _ _ _ _ _ _ rfl rfl, newcell _ _ _ _ _ _ rfl rfl⟩
      | 1, _ => exact ⟨newcell _ _ _ _ _ _ rfl rfl, newcell _ _ _ _ _ _ rfl rfl⟩
      | 2, _ => exact ⟨newcell _ _ _ _ _ _ rfl rfl, newcell _ _ _ _ _ _ rfl rfl⟩
      | 3, _ => exact ⟨newcell _ _ _ _ _ _ rfl rfl, newcell _ _ _ _ _ _ rfl rfl⟩
    have HptB := hid hptB
    have Hcs := hid hcs
    have Hn := hid hn
    clear hptB hcs hn
    go_loopw [3, 7] (fun tv ti wr => ∃ k : Nat, ti = .int .i64 ((k : Int) + 1) ∧ k ≤ 3 ∧ wr.ownsRow (w.heap.size + 1) 63 4 tv k (flat ((alongSides cs).take k)) ∧ Below w.heap.size w wr ∧ wr.cell? ⟨w.heap.size, 0, none⟩ = some (.int .i64 2) ∧ PtsAt wr wc.heap.size 0 cs ∧ wc.heap.size < wr.heap.size ∧ some wc.heap.size ≠ tv.ownBlock) (fun _ ti _ => 5 - (intOf ti).toNat)
    case atStart =>
      refine ⟨0, rfl, by omega, ?_, balloc hB0c _, keepalloc kd' _, HptB.out, by simp, by simp [Value.ownBlock]; omega⟩
      have := (Hown.out).alloc (.cells #[.int .i64 x, .int .i64 y, .int .i64 u, .int .i64 y, .int .i64 u, .int .i64 v, .int .i64 x, .int .i64 v] 55)
      simpa [flat] using this
    case round =>
      clear HptB Hown r00 r01 r10 r11 kd' hB0c
      generalize wc.heap.size = B at *
      obtain ⟨k, rfl, hk, hown, hb, kd, hpB, hBl, hvb⟩ := hrel
      have hw0 : w.heap.size < wr.heap.size := World.block_lt_of_cell? wr _ kd
      have hvc : some w.heap.size ≠ u3.ownBlock := fun e => absurd (hown.lt _ e.symm).1 (by omega)
      have HpB := hid hpB
      clear hpB
      by_cases hlt : k < 3
      · obtain ⟨c0, c1⟩ := HpB.out k (by have := Hn.out; omega)
        obtain ⟨d0, d1⟩ := HpB.out (k + 1) (by have := Hn.out; omega)
        simp only [Nat.zero_add] at c0 c1 d0 d1
        have hnx : flat ((alongSides cs).take (k + 1)) = flat ((alongSides cs).take k) ++ [.int .i64 (cs.getD k (0, 0)).1, .int .i64 (cs.getD k (0, 0)).2, .int .i64 (cs.getD (k + 1) (0, 0)).1, .int .i64 (cs.getD (k + 1) (0, 0)).2] := by
          have hk' : k < (alongSides cs).length := by have := Hal.out; omega
          rw [List.take_succ_eq_append_getElem hk', flat_snoc]
          have := along_at cs k (by have := Hn.out; omega)
          rw [List.getD_eq_getElem?_getD, List.getElem?_eq_getElem hk'] at this
          simp only [Option.getD_some] at this
          rw [this]
        generalize (cs.getD k (0, 0)).1 = p at *
        generalize (cs.getD k (0, 0)).2 = q at *
        generalize (cs.getD (k + 1) (0, 0)).1 = r at *
        generalize (cs.getD (k + 1) (0, 0)).2 = s at *
        have Hnx := hid hnx
        clear hnx
        have hk0 : (0 : Int) ≤ (k : Int) + 1 := by omega
        have hk1 : (k : Int) + 1 < 4 := by omega
        have hk2 : (k : Int) < 4 := by omega
        have hk3 : (0 : Int) ≤ (k : Int) := by omega
        have hw1 : IntKind.i64.wrap ((k : Int) + 1 - 1) = (k : Int) := by rw [IntKind.wrap_i64]; omega
        have hw2 : IntKind.i64.wrap (k : Int) = (k : Int) := by rw [IntKind.wrap_i64]; omega
        go_wp2_with fail
        go_region_held3 (fun w' => w'.cell? ⟨B, k * 2, none⟩ = some (.int .i64 p) ∧ w'.cell? ⟨B, k * 2 + 1, none⟩ = some (.int .i64 q) ∧ w'.cell? ⟨B, (k + 1) * 2, none⟩ = some (.int .i64 r) ∧ w'.cell? ⟨B, (k + 1) * 2 + 1, none⟩ = some (.int .i64 s)) ((go_split_ands; (repeat' apply And.intro) <;> (repeat (first | with_reducible assumption | with_reducible refine keepdrew ?_ | with_reducible refine keepalloc ?_ _ | (refine hgrow.cell ?_ hvb)))))
          ((refine step_append_lies _ (by rfl) _ _ _ (by rfl) (w.heap.size + 1) 63 i0 _ 4 32 Tryd.underlying60 hi0 hz0 hz1 hz2 rfl (by omega) _ k (flat ((alongSides cs).take k)) (by rfl) ((hown.alloc _).drew) ⟨wr.heap.size, 0, none⟩ 1 1 [.int .i64 p, .int .i64 q, .int .i64 r, .int .i64 s] (by rfl) (by rfl) (World.news_of_block (cs := #[.int .i64 p, .int .i64 q, .int .i64 r, .int .i64 s]) (t := 63) (fr := (0, 0)) (heap_alloc_new wr _)) (by simp [Value.oneCell']) (by omega) (by unfold maxLen; omega) (by omega) (by simp; omega) (wr.heap.size + 1) (by simp) ?_; intro gg cp v1 hown1 hgrow hat hlt))
        go_wp2_with fail
        go_roundw
        case rel =>
          refine ⟨k + 1, by go_num, by omega, by rw [Hnx.out]; exact hown1, own_below hown (by omega) hb (by omega) hgrow, hgrow.cell (keepdrew (keepalloc kd _)) hvc, ?_, ?_, ?_⟩
          · refine PtsAt.grown (w := (wr.alloc _).drew) ?_ hgrow hvb
            intro j hj
            obtain ⟨z1, z2⟩ := HpB.out j hj
            exact ⟨keepdrew (keepalloc z1 _), keepdrew (keepalloc z2 _)⟩
          · have := hgrow.size; simp at this; omega
          · intro e
            simp only [Value.ownBlock, Option.some.injEq] at e
            rcases hat with h | h
            · exact hvb (by rw [h, e])
            · omega
        case measure => simp [intOf]; omega
      · have hkn' : k = 3 := by omega
        have hown' : wr.ownsRow (w.heap.size + 1) 63 4 u3 3 (flat (alongSides cs)) := by
          rw [hkn', List.take_of_length_le (by rw [Hal.out]; exact Nat.le_refl _)] at hown; exact hown
        clear hown
        subst hkn'
        obtain ⟨c0, c1⟩ := HpB.out 3 (by have := Hn.out; omega)
        obtain ⟨d0, d1⟩ := HpB.out 0 (by have := Hn.out; omega)
        simp only [Nat.zero_add, Nat.zero_mul, Nat.reduceMul, Nat.reduceAdd] at c0 c1 d0 d1
        have hra : flat (ringSides cs) = flat (alongSides cs) ++ [.int .i64 (cs.getD 3 (0, 0)).1, .int .i64 (cs.getD 3 (0, 0)).2, .int .i64 (cs.getD 0 (0, 0)).1, .int .i64 (cs.getD 0 (0, 0)).2] := by rw [Hra.out, flat_snoc]
        generalize (cs.getD 3 (0, 0)).1 = p at *
        generalize (cs.getD 3 (0, 0)).2 = q at *
        generalize (cs.getD 0 (0, 0)).1 = r at *
        generalize (cs.getD 0 (0, 0)).2 = s at *
        have HRA := hid hra
        clear hra
        have hw3 : IntKind.i64.wrap ((4 : Int) - 1) = 3 := by decide
        have hw4 : IntKind.i64.wrap (3 : Int) = 3 := by decide
        go_wp2_with fail
        go_region_held3 (fun w' => w'.cell? ⟨B, 6, none⟩ = some (.int .i64 p) ∧ w'.cell? ⟨B, 7, none⟩ = some (.int .i64 q) ∧ w'.cell? ⟨B, 0, none⟩ = some (.int .i64 r) ∧ w'.cell? ⟨B, 1, none⟩ = some (.int .i64 s)) ((go_split_ands; (repeat' apply And.intro) <;> (repeat (first | with_reducible assumption | with_reducible refine keepdrew ?_ | with_reducible refine keepalloc ?_ _ | (refine hgrow.cell ?_ hvb)))))
          ((refine step_append_lies _ (by rfl) _ _ _ (by rfl) (w.heap.size + 1) 63 i0 _ 4 32 Tryd.underlying60 hi0 hz0 hz1 hz2 rfl (by omega) _ 3 (flat (alongSides cs)) (by rfl) ((hown'.alloc _).drew) ⟨wr.heap.size, 0, none⟩ 1 1 [.int .i64 p, .int .i64 q, .int .i64 r, .int .i64 s] (by rfl) (by rfl) (World.news_of_block (cs := #[.int .i64 p, .int .i64 q, .int .i64 r, .int .i64 s]) (t := 63) (fr := (0, 0)) (heap_alloc_new wr _)) (by simp [Value.oneCell']) (by omega) (by unfold maxLen; omega) (by omega) (by simp; omega) (wr.heap.size + 1) (by simp) ?_; intro gg cp v1 hown1 hgrow hat hlt))
        have hlr : (ringSides cs).length = 3 + 1 := by rw [ringSides_len]; exact Hn.out
        obtain ⟨g, cp', e, h1, h2', h3, h4⟩ := sides_of (v := .slice (some ⟨gg, 0, none⟩) (3 + 1) cp) (qs := ringSides cs) (by rw [hlr, HRA.out]; exact hown1) (by omega)
        rw [hlr] at e h3
        cases e
        have H4 := hid h4
        have HB := hid (own_below hown' (by omega) hb (by omega) hgrow)
        clear h4 hlr
        go_wp2_with fail
        go_ret
        exact ⟨gg, cp, rfl, by omega, h2', h3, H4.out, HB.out⟩
end Go.Proofs.YtmnnbifekbacnaaDoor
