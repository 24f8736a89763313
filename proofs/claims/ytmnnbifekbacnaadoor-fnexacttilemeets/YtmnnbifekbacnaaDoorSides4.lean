/- The sides of a shape: the specification's, of polygons. -/
import Derived.Test.YtmnnbifekbacnaaDoorSides3
namespace Go.Proofs.YtmnnbifekbacnaaDoor
open Go.RowKit
set_option linter.unusedSimpArgs false
set_option linter.unusedVariables false
theorem ring_along (ps : List (Int × Int)) (n1 : Nat) (hn : ps.length = n1 + 1) : ringSides ps = alongSides ps ++ [((ps.getD n1 (0, 0)).1, (ps.getD n1 (0, 0)).2, (ps.getD 0 (0, 0)).1, (ps.getD 0 (0, 0)).2)] := by
  unfold ringSides alongSides
  rw [hn, List.range_succ, List.map_append, Nat.add_sub_cancel]
  congr 1
  · apply List.map_congr_left
    intro k hk
    have hk' : k < n1 := by simpa using hk
    have : nxt ps k = (ps.getD (k + 1) (0, 0)) := by unfold nxt; rw [hn, Nat.mod_eq_of_lt (by omega)]
    rw [this]
  · have : nxt ps n1 = (ps.getD 0 (0, 0)) := by unfold nxt; rw [hn, Nat.mod_self]
    simp [this]
set_option maxRecDepth 100000 in
set_option maxHeartbeats 2000000 in
theorem spec_sides3 (a : Option Addr) (cap : Nat) (ps : List (Int × Int)) (w : World) (hm : ps.length ≤ 1099511627776) (hc : ps.length ≤ cap) (h : Pts w a ps) (n1 : Nat) (hn : ps.length = n1 + 1) (h2 : 3 ≤ ps.length) (h6 : ps.length ≤ 60) : Calls Tryd.prog 31 #[shv 3 a (n1 + 1) cap] w fun e w' => ∃ g cp, e = .returned (.slice (some ⟨g, 0, none⟩) (ringSides ps).length cp) ∧ w.heap.size ≤ g ∧ g < w'.heap.size ∧ (ringSides ps).length ≤ cp ∧ SdAt w' g 0 (ringSides ps) ∧ Below w.heap.size w w' := by
  obtain ⟨i0, hi0, hz0, hz1, hz2⟩ := info_parts Tryd.info2P
  obtain ⟨b, off, rfl, hbs, hp⟩ : ∃ b off, a = some ⟨b, off, none⟩ ∧ b < w.heap.size ∧ PtsAt w b off ps := by
    rcases h with h | h
    · rw [h] at h2; simp at h2
    · exact h
  have Hp := hid hp
  have Hal := hid (along_len ps)
  clear hp h
  have Hn := hid hn
  have Hra := hid (ring_along ps n1 hn)
  have h3n : 2 ≤ n1 := by omega
  have h6n : n1 ≤ 59 := by omega
  have hc1 : n1 + 1 ≤ cap := by omega
  clear hm hc h2 h6 hn
  go_enter Tryd.func31, Tryd.ntmps31
  go_wp2_with fail
  go_loopw [3, 7] (fun tv ti wr => ∃ k : Nat, ti = .int .i64 ((k : Int) + 1) ∧ k ≤ n1 ∧ wr.ownsRow (w.heap.size + 1) 63 4 tv k (flat ((alongSides ps).take k)) ∧ Below w.heap.size w wr ∧ wr.cell? ⟨w.heap.size, 0, none⟩ = some (.int .i64 3)) (fun _ ti _ => n1 + 2 - (intOf ti).toNat)
  case atStart =>
    refine ⟨0, rfl, by omega, ?_, ?_, ?_⟩
    · have := World.ownsRow_made (base := w.heap.size + 1) (e := 63) (size := 4) (w.alloc (.cells #[.int .i64 3, .slice (some ⟨b, off, none⟩) (n1 + 1) cap] 33)) #[] 0 (by simp) (by decide) rfl
      simpa [flat] using this
    · (repeat (first | with_reducible exact Below.refl _ _ | with_reducible assumption | (with_reducible refine btrans ?_ (by with_reducible assumption)) | with_reducible refine bdrew ?_ | with_reducible refine balloc ?_ _))
    · (repeat (first | with_reducible assumption | (refine newcell _ _ _ _ _ _ ?_ rfl; simp; done) | refine keepcell (by with_reducible assumption) ?_ | refine keepdrew ?_ | refine keepalloc ?_ _))
  case round =>
    obtain ⟨k, rfl, hk, hown, hb, kd⟩ := hrel
    have hw0 : w.heap.size < wr.heap.size := World.block_lt_of_cell? wr _ kd
    by_cases hlt : k < n1
    · obtain ⟨c0, c1⟩ := Hp.out.below hbs hb k (by have := Hn.out; omega)
      obtain ⟨d0, d1⟩ := Hp.out.below hbs hb (k + 1) (by have := Hn.out; omega)
      have hnx : flat ((alongSides ps).take (k + 1)) = flat ((alongSides ps).take k) ++ [.int .i64 (ps.getD k (0, 0)).1, .int .i64 (ps.getD k (0, 0)).2, .int .i64 (ps.getD (k + 1) (0, 0)).1, .int .i64 (ps.getD (k + 1) (0, 0)).2] := by
        have hk' : k < (alongSides ps).length := by rw [along_len]; have := Hn.out; omega
        rw [List.take_succ_eq_append_getElem hk', flat_snoc]
        have := along_at ps k (by have := Hn.out; omega)
        rw [List.getD_eq_getElem?_getD, List.getElem?_eq_getElem hk'] at this
        simp only [Option.getD_some] at this
        rw [this]
      generalize (ps.getD k (0, 0)).1 = x at *
      generalize (ps.getD k (0, 0)).2 = y at *
      generalize (ps.getD (k + 1) (0, 0)).1 = u at *
      generalize (ps.getD (k + 1) (0, 0)).2 = v at *
      have Hnx := hid hnx
      clear hnx
      have hvb : some b ≠ u3.ownBlock := fun e => absurd (hown.lt b e.symm).1 (by omega)
      have hvc : some w.heap.size ≠ u3.ownBlock := fun e => absurd (hown.lt _ e.symm).1 (by omega)
      have hk0 : (0 : Int) ≤ (k : Int) + 1 := by omega
      have hk1 : (k : Int) + 1 < (n1 : Int) + 1 := by omega
      have hk2 : (k : Int) < (n1 : Int) + 1 := by omega
      have hk3 : (0 : Int) ≤ (k : Int) := by omega
      have hw1 : IntKind.i64.wrap ((k : Int) + 1 - 1) = (k : Int) := by rw [IntKind.wrap_i64]; omega
      have hw2 : IntKind.i64.wrap (k : Int) = (k : Int) := by rw [IntKind.wrap_i64]; omega
      have hkl : k ≤ 60 := by omega
      go_wp2_with fail
      go_region_held3 (fun w' => w'.cell? ⟨b, off + k * 2, none⟩ = some (.int .i64 x) ∧ w'.cell? ⟨b, off + k * 2 + 1, none⟩ = some (.int .i64 y) ∧ w'.cell? ⟨b, off + (k + 1) * 2, none⟩ = some (.int .i64 u) ∧ w'.cell? ⟨b, off + (k + 1) * 2 + 1, none⟩ = some (.int .i64 v)) ((go_split_ands; (repeat' apply And.intro) <;> (repeat (first | with_reducible assumption | with_reducible refine keepdrew ?_ | with_reducible refine keepalloc ?_ _ | (refine hgrow.cell ?_ hvb)))))
        ((refine step_append_lies _ (by rfl) _ _ _ (by rfl) (w.heap.size + 1) 63 i0 _ 4 32 Tryd.underlying60 hi0 hz0 hz1 hz2 rfl (by omega) _ k (flat ((alongSides ps).take k)) (by rfl) ((hown.alloc _).drew) ⟨wr.heap.size, 0, none⟩ 1 1 [.int .i64 x, .int .i64 y, .int .i64 u, .int .i64 v] (by rfl) (by rfl) (World.news_of_block (cs := #[.int .i64 x, .int .i64 y, .int .i64 u, .int .i64 v]) (t := 63) (fr := (0, 0)) (heap_alloc_new wr _)) (by simp [Value.oneCell']) (by omega) (by unfold maxLen; omega) (by omega) (by simp; omega) (wr.heap.size + 1) (by simp) ?_; intro gg cp v1 hown1 hgrow hat hlt))
      go_wp2_with fail
      go_roundw
      case rel => exact ⟨k + 1, by go_num, by omega, by rw [Hnx.out]; exact hown1, own_below hown (by omega) hb (by omega) hgrow, hgrow.cell (keepdrew (keepalloc kd _)) hvc⟩
      case measure => simp [intOf]; omega
    · have hkn' : k = n1 := by omega
      have hkn : k = (alongSides ps).length := by have := Hal.out; have := Hn.out; omega
      have hown' : wr.ownsRow (w.heap.size + 1) 63 4 u3 n1 (flat (alongSides ps)) := by
        rw [hkn, List.take_of_length_le (Nat.le_refl _), ← hkn, hkn'] at hown; exact hown
      clear hown hkn
      subst hkn'
      have hlt' : ¬ ((k : Int) + 1 < (k : Int) + 1) := by omega
      obtain ⟨c0, c1⟩ := Hp.out.below hbs hb k (by have := Hn.out; omega)
      obtain ⟨d0, d1⟩ := Hp.out.below hbs hb 0 (by have := Hn.out; omega)
      simp only [Nat.zero_mul, Nat.add_zero] at d0 d1
      have hra : flat (ringSides ps) = flat (alongSides ps) ++ [.int .i64 (ps.getD k (0, 0)).1, .int .i64 (ps.getD k (0, 0)).2, .int .i64 (ps.getD 0 (0, 0)).1, .int .i64 (ps.getD 0 (0, 0)).2] := by rw [Hra.out, flat_snoc]
      generalize (ps.getD k (0, 0)).1 = x at *
      generalize (ps.getD k (0, 0)).2 = y at *
      generalize (ps.getD 0 (0, 0)).1 = u at *
      generalize (ps.getD 0 (0, 0)).2 = v at *
      have HRA := hid hra
      clear hra
      have hvb : some b ≠ u3.ownBlock := fun e => absurd (hown'.lt b e.symm).1 (by omega)
      have hk2 : (k : Int) < (k : Int) + 1 := by omega
      have hk3 : (0 : Int) ≤ (k : Int) := by omega
      have hk4 : (0 : Int) < (k : Int) + 1 := by omega
      have hw1 : IntKind.i64.wrap ((k : Int) + 1 - 1) = (k : Int) := by rw [IntKind.wrap_i64]; omega
      have hw2 : IntKind.i64.wrap (k : Int) = (k : Int) := by rw [IntKind.wrap_i64]; omega
      go_wp2_with fail
      go_region_held3 (fun w' => w'.cell? ⟨b, off + k * 2, none⟩ = some (.int .i64 x) ∧ w'.cell? ⟨b, off + k * 2 + 1, none⟩ = some (.int .i64 y) ∧ w'.cell? ⟨b, off, none⟩ = some (.int .i64 u) ∧ w'.cell? ⟨b, off + 1, none⟩ = some (.int .i64 v)) ((go_split_ands; (repeat' apply And.intro) <;> (repeat (first | with_reducible assumption | with_reducible refine keepdrew ?_ | with_reducible refine keepalloc ?_ _ | (refine hgrow.cell ?_ hvb)))))
        ((refine step_append_lies _ (by rfl) _ _ _ (by rfl) (w.heap.size + 1) 63 i0 _ 4 32 Tryd.underlying60 hi0 hz0 hz1 hz2 rfl (by omega) _ k (flat (alongSides ps)) (by rfl) ((hown'.alloc _).drew) ⟨wr.heap.size, 0, none⟩ 1 1 [.int .i64 x, .int .i64 y, .int .i64 u, .int .i64 v] (by rfl) (by rfl) (World.news_of_block (cs := #[.int .i64 x, .int .i64 y, .int .i64 u, .int .i64 v]) (t := 63) (fr := (0, 0)) (heap_alloc_new wr _)) (by simp [Value.oneCell']) (by omega) (by unfold maxLen; omega) (by omega) (by simp; omega) (wr.heap.size + 1) (by simp) ?_; intro gg cp v1 hown1 hgrow hat hlt))
      have hlr : (ringSides ps).length = k + 1 := by rw [ringSides_len]; exact Hn.out
      obtain ⟨g, cp', e, h1, h2', h3, h4⟩ := sides_of (v := .slice (some ⟨gg, 0, none⟩) (k + 1) cp) (qs := ringSides ps) (by rw [hlr, HRA.out]; exact hown1) (by omega)
      rw [hlr] at e
      cases e
      have H4 := hid h4
      have HB := hid (own_below hown' (by omega) hb (by omega) hgrow)
      have Hlr := hid hlr
      clear h4 hlr
      go_wp2_with fail
      go_ret
      exact ⟨gg, cp, by rw [Hlr.out]; rfl, by omega, h2', by rw [Hlr.out]; rw [Hlr.out] at h3; exact h3, H4.out, HB.out⟩
end Go.Proofs.YtmnnbifekbacnaaDoor
