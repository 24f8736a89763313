/- Texts of stores, joined: He2. -/
import Derived.Test.YtdaheepfmnjadaaGreatDoorJ22
import Derived.Deep.AppendLies
namespace Go.Proofs.YtdaheepfmnjadaaGreatDoor
open Go.RowKit
set_option linter.unusedSimpArgs false
set_option linter.unusedVariables false
theorem Ready.bel {w w' : World} {p : Nat} {a : Option Addr} {len cap : Nat} (h : Ready w p a len cap) (hb : Below w.heap.size w w') : Ready w' p a len cap := by
  obtain ⟨⟨i, x, hi, hh⟩, hc⟩ := h
  have hl := lt_of_block hh
  exact ⟨⟨i, x, hi, (hb.block p hl).trans hh⟩, hc.below (hb.mono (Nat.le_of_lt hl))⟩
theorem grown_bel {w w1 w2 : World} {r : Option Nat} (h : w.grownBy w1 r) (hb : Below w1.heap.size w1 w2) : w.grownBy w2 r := grown_trans h ⟨hb.os, hb.tape, hb.output, hb.size, fun k hk _ => hb.block k hk⟩
theorem LX.grown {α : Type} {K : Kd α} {t : TypeId} {base hi p : Nat} {w w' : World} {v : Value} {xs : List α} {ps : List (α × Value)} (h : LX K t base hi w v xs ps) (hg : w.grownBy w' (some p)) (hp : p < base) : LX K t base hi w' v xs ps :=
  h.frame (fun c h1 h2 => hg.block c (by have := h.2.2.2.1; omega) (fun e => by injection e with e; omega)) hg.size
theorem subN_of {w : World} {B : Nat} {v : Value} {x : Ch} (h : PtRow w B v x.2.2.2) (hl : x.2.2.2.length ≤ 61) : KN.sub B w.heap.size w v x := by
  obtain ⟨ao, cp, rfl, hcp, hpt⟩ := h.pts
  have h' := h
  rcases h.2 with ⟨e, hn⟩ | ⟨g, c, cur, e, hb, hg, hc, hx⟩
  · exact .inr ⟨Nat.le_refl _, e, List.length_eq_zero_iff.1 hn⟩
  · cases e
    refine .inl ⟨Nat.le_refl _, g, cp, rfl, hcp, by omega, hb, lt_of_block hg, lt_of_block hg, ?_, fun j hj => ?_⟩
    · rcases hpt with q | ⟨b, off, e, _, q⟩
      · rw [q]; exact fun j hj => absurd hj (by simp)
      · cases e; exact q
    · simp only [Nat.zero_add]
      have hfl : (flat2 x.2.2.2).length = x.2.2.2.length * 2 := by
        generalize x.2.2.2 = l
        induction l with
        | nil => rfl
        | cons y r ih => show (([Value.int .i64 y.1, Value.int .i64 y.2]) ++ flat2 r).length = _; rw [List.length_append, ih, List.length_cons]; simp; omega
      refine ⟨?_, World.ownsRow.frozenAt h' j⟩
      rw [World.ownsRow.cellAt h' j hj, List.getElem?_eq_getElem (by rw [hfl]; exact hj)]
      rfl
set_option maxRecDepth 100000 in
set_option maxHeartbeats 16000000 in
theorem changes_r (w : World) (p : Nat) (a : Option Addr) (len cap : Nat) (n : Nat) (hn : n ≤ 8) (h : Ready w p a len cap) : Calls Tryz.prog 20 #[.pointer (some ⟨p, 0, none⟩), .int .i64 n] w fun e w' => ∃ (cs : List Ch) (ao : Option Addr) (cp : Nat), e = .returned (.slice ao cs.length cp) ∧ cs.length ≤ n ∧ Chs (fun c => w.heap.size ≤ c ∧ c < w'.heap.size) 1099511627776 w' ao cs ∧ (∀ b off, ao = some ⟨b, off, none⟩ → w.heap.size ≤ b) ∧ Ready w' p a len cap ∧ w.grownBy w' (some p) := by
  obtain ⟨i0, hi0, hz0, hz1, hz2⟩ := info_parts Tryz.infoCh
  have hp := h.lt
  have HI : Hid (LX KN 63 w.heap.size (w.alloc (.cells #[] 63)).heap.size (w.alloc (.cells #[] 63)) (.slice (some ⟨w.heap.size, 0, none⟩) 0 0) [] []) := hid (by
    have := World.ownsRow_made (base := w.heap.size) (e := 63) (size := 4) w #[] 0 (Nat.le_refl _) (by unfold maxLen; omega) rfl
    exact LX.nil this (fun g e => by simp [Value.ownBlock] at e; subst e; simp) (Nat.le_refl _))
  have HR0 := hid (h.alloc (.cells #[] 63))
  have HG0 := hid (grown_alloc w (.cells #[] 63) (some p))
  clear h
  go_enter Tryz.func20, Tryz.ntmps20
  go_upto_region 2 with fail
  generalize w.alloc (.cells #[] 63) = W0 at *
  go_wp2_with fail
  go_loopw [5, 6] (fun tv ti wr => ∃ (i : Nat) (cs : List Ch) (us : List (Ch × Value)), ti = .int .i64 i ∧ i ≤ n ∧ cs.length ≤ i ∧ Hid (LX KN 63 w.heap.size wr.heap.size wr tv cs us) ∧ Hid (Ready wr p a len cap) ∧ Hid (w.grownBy wr (some p))) (fun _ ti _ => n - (intOf ti).toNat)
  case atStart => exact ⟨0, [], [], rfl, Nat.zero_le _, by simp, HI, HR0, HG0⟩
  case round =>
    clear HI HR0 HG0
    obtain ⟨i, cs, us, rfl, hi, hci, HV, HR, HG⟩ := hrel
    obtain ⟨av, cv, ev, hlv, hvr⟩ := HV.out.lc.form
    have HVR := hid hvr
    clear hvr
    subst ev
    have hwX := HG.out.size
    by_cases hlt : i < n
    · have c1 : (i : Int) < (n : Int) := by omega
      go_wp2_with fail
      refine (change_r _ p a len cap HR.out).mono ?_
      rintro e w1 ⟨id, gn, kd, ps, v, rfl, hl, hrow, hr, hg⟩
      obtain ⟨avv, cvv, rfl, _, _⟩ := hrow.pts
      have hw1 := hg.size
      have hsub := subN_of (x := (id, gn, kd, ps)) hrow hl
      go_upto_region 6 with fail
      have gQ := heap_alloc_new w1 (.cells #[.int .i64 id, .bool gn, .int .i64 kd, .slice avv ps.length cvv] 63)
      have hal : Below w1.heap.size w1 (w1.alloc (.cells #[.int .i64 id, .bool gn, .int .i64 kd, .slice avv ps.length cvv] 63)) := balloc (Below.refl _ _) _
      have HV1 := hid ((HV.out.grown hg hp).below hal)
      have HR1 := hid (hr.alloc (.cells #[.int .i64 id, .bool gn, .int .i64 kd, .slice avv ps.length cvv] 63))
      have HG1 := hid (grown_bel (grown_trans HG.out hg) hal)
      have HS1 := hid (KN.frame hsub (fun c _ hc => hal.block c hc) hal.size)
      have hw2 : w1.heap.size < (w1.alloc (.cells #[.int .i64 id, .bool gn, .int .i64 kd, .slice avv ps.length cvv] 63)).heap.size := by simp
      clear HV HR HG hr hg hrow hal hsub
      generalize w1.alloc (.cells #[.int .i64 id, .bool gn, .int .i64 kd, .slice avv ps.length cvv] 63) = W1 at *
      generalize w1.heap.size = Q at *
      generalize wr.heap.size = X at *
      obtain ⟨⟨x0, x1, x2, x3⟩, _⟩ := cell4c gQ
      have HQ := hid gQ
      clear gQ
      go_wp2_with fail
      go_loopw [8, 9] (fun th tk wq => ∃ (b : Bool) (k : Nat), th = .bool b ∧ tk = .int .i64 k ∧ k ≤ cs.length ∧ Hid (Below W1.heap.size W1 wq)) (fun _ tk _ => cs.length - (intOf tk).toNat)
      case atStart => exact ⟨false, 0, rfl, rfl, Nat.zero_le _, hid (Below.refl _ _)⟩
      case round =>
        clear x0 x1 x2 x3
        obtain ⟨b, k, rfl, rfl, hk, HB⟩ := hrel
        have gq := (HB.out.block Q (lt_of_block HQ.out)).trans HQ.out
        obtain ⟨⟨x0, x1, x2, x3⟩, _⟩ := cell4c gq
        by_cases hkl : k < cs.length
        · have c2 : (k : Int) < (cs.length : Int) := by omega
          obtain ⟨bb, oo, hav, _, hch⟩ : ∃ bb oo, av = some ⟨bb, oo, none⟩ ∧ bb < wr.heap.size ∧ ChsAt (fun c => w.heap.size ≤ c ∧ c < X) 1099511627776 wr bb oo cs := by
            rcases ((HV1.out.lc.below HB.out).chsN) with q | ⟨bb, oo, e1, e2, e3⟩
            · subst q; simp at hkl
            · exact ⟨bb, oo, e1, e2, e3⟩
          subst hav
          obtain ⟨ca, cc, k0, _⟩ := hch k hkl
          have HBd := hid (bdrew HB.out)
          clear hch
          generalize cs[k].1 = ck at *
          cases b
          · go_upto_region 10 with fail
            refine wp_region_held_drew (S := (fun w' => w'.cell? ⟨bb, (oo + k * 4), none⟩ = some (.int .i64 ck) ∧ w'.cell? ⟨Q, 0, none⟩ = some (.int .i64 id))) (by kernel_rfl) ?_ (fun hHeld => ?_)
            · (repeat' apply And.intro) <;> (repeat (first | with_reducible assumption | with_reducible refine keepdrew ?_))
            refine wpAnyH_take (i := 0) (v := ?_) rfl (by kernel_rfl) (by kernel_rfl) (by kernel_rfl) (fun _ _ _ h => h) (Or.inl ⟨by rfl, ?_⟩) hHeld ?_
            rotate_left
            · intro w hSw; (try dsimp only at hSw); go_simp; try (with_reducible rfl)
            try simp only [sq]
            refine wpAnyH_take (i := 1) (v := ?_) rfl (by kernel_rfl) (by kernel_rfl) (by kernel_rfl) (fun _ _ _ h => h) (Or.inl ⟨by rfl, ?_⟩) hHeld ?_
            rotate_left
            · intro w hSw; (try dsimp only at hSw); go_simp; try (with_reducible rfl)
            try simp only [sq]
            refine wpAnyH_take (i := 2) (v := ?_) rfl (by kernel_rfl) (by kernel_rfl) (by kernel_rfl) (fun _ _ _ h => h) (Or.inl ⟨by rfl, ?_⟩) hHeld ?_
            rotate_left
            · intro w hSw; (try dsimp only at hSw); go_simp; try (with_reducible rfl)
            try simp only [sq]
            refine wpAnyH_take (i := 3) (v := ?_) rfl (by kernel_rfl) (by kernel_rfl) (by kernel_rfl) (fun _ _ _ h => h) (Or.inl ⟨by rfl, ?_⟩) hHeld ?_
            rotate_left
            · intro w hSw; (try dsimp only at hSw); go_simp; try (with_reducible rfl)
            try simp only [sq]
            refine wpAnyH_take (i := 4) (v := ?_) rfl (by kernel_rfl) (by kernel_rfl) (by kernel_rfl) (fun _ _ _ h => h) (Or.inl ⟨by rfl, ?_⟩) hHeld ?_
            rotate_left
            · intro w hSw; (try dsimp only at hSw); go_simp; try (with_reducible rfl)
            try simp only [sq]
            refine wpAnyH_take (i := 5) (v := ?_) rfl (by kernel_rfl) (by kernel_rfl) (by kernel_rfl) (fun _ _ _ h => h) (Or.inl ⟨by rfl, ?_⟩) hHeld ?_
            rotate_left
            · intro w hSw; (try dsimp only at hSw); go_simp; try (with_reducible rfl)
            try simp only [sq]
            refine wpAnyH_take (i := 6) (v := ?_) rfl (by kernel_rfl) (by kernel_rfl) (by kernel_rfl) (fun _ _ _ h => h) (Or.inl ⟨by rfl, ?_⟩) hHeld ?_
            rotate_left
            · intro w hSw; (try dsimp only at hSw); go_simp; try (with_reducible rfl)
            try simp only [sq]
            refine wpAnyH_take (i := 7) (v := ?_) rfl (by kernel_rfl) (by kernel_rfl) (by kernel_rfl) (fun _ _ _ h => h) (Or.inl ⟨by rfl, ?_⟩) hHeld ?_
            rotate_left
            · intro w hSw; (try dsimp only at hSw); go_simp; try (with_reducible rfl)
            try simp only [sq]
            refine wpAnyH_take (i := 8) (v := ?_) rfl (by kernel_rfl) (by kernel_rfl) (by kernel_rfl) (fun _ _ _ h => h) (Or.inl ⟨by rfl, ?_⟩) hHeld ?_
            rotate_left
            · intro w hSw; (try dsimp only at hSw); go_simp; try (with_reducible rfl)
            try simp only [sq]
            refine wpAnyH_take (i := 9) (v := ?_) rfl (by kernel_rfl) (by kernel_rfl) (by kernel_rfl) (fun _ _ _ h => h) (Or.inl ⟨by rfl, ?_⟩) hHeld ?_
            rotate_left
            · intro w hSw; (try dsimp only at hSw); go_simp; try (with_reducible rfl)
            try simp only [sq]
            refine wpAnyH_take (i := 10) (v := ?_) rfl (by kernel_rfl) (by kernel_rfl) (by kernel_rfl) (fun _ _ _ h => h) (Or.inl ⟨by rfl, ?_⟩) hHeld ?_
            rotate_left
            · intro w hSw; (try dsimp only at hSw); go_simp; try (with_reducible rfl)
            try simp only [sq]
            refine wpAnyH_take (i := 11) (v := ?_) rfl (by kernel_rfl) (by kernel_rfl) (by kernel_rfl) (fun _ _ _ h => h) (Or.inl ⟨by rfl, ?_⟩) hHeld ?_
            rotate_left
            · intro w hSw; (try dsimp only at hSw); go_simp; try (with_reducible rfl)
            try simp only [sq]
            refine wpAnyH_done (by kernel_rfl) ?_ _
            go_wp2_with fail
            go_roundw
            case rel => exact ⟨_, k + 1, rfl, by go_num, by omega, HBd⟩
            case measure => simp [intOf]; omega
          · go_upto_region 10 with fail
            refine wp_region_held_drew (S := (fun w' => w'.cell? ⟨Q, 0, none⟩ = some (.int .i64 id))) (by kernel_rfl) ?_ (fun hHeld => ?_)
            · (repeat' apply And.intro) <;> (repeat (first | with_reducible assumption | with_reducible refine keepdrew ?_))
            refine wpAnyH_take (i := 0) (v := ?_) rfl (by kernel_rfl) (by kernel_rfl) (by kernel_rfl) (fun _ _ _ h => h) (Or.inl ⟨by rfl, ?_⟩) hHeld ?_
            rotate_left
            · intro w hSw; (try dsimp only at hSw); go_simp; try (with_reducible rfl)
            try simp only [sq]
            refine wpAnyH_take (i := 1) (v := ?_) rfl (by kernel_rfl) (by kernel_rfl) (by kernel_rfl) (fun _ _ _ h => h) (Or.inl ⟨by rfl, ?_⟩) hHeld ?_
            rotate_left
            · intro w hSw; (try dsimp only at hSw); go_simp; try (with_reducible rfl)
            try simp only [sq]
            refine wpAnyH_take (i := 2) (v := undef) rfl (by kernel_rfl) (by kernel_rfl) (by kernel_rfl) (fun _ _ _ h => h) (Or.inr ⟨by rfl, rfl⟩) hHeld ?_
            try simp only [sq]
            refine wpAnyH_take (i := 3) (v := undef) rfl (by kernel_rfl) (by kernel_rfl) (by kernel_rfl) (fun _ _ _ h => h) (Or.inr ⟨by rfl, rfl⟩) hHeld ?_
            try simp only [sq]
            refine wpAnyH_take (i := 4) (v := undef) rfl (by kernel_rfl) (by kernel_rfl) (by kernel_rfl) (fun _ _ _ h => h) (Or.inr ⟨by rfl, rfl⟩) hHeld ?_
            try simp only [sq]
            refine wpAnyH_take (i := 5) (v := undef) rfl (by kernel_rfl) (by kernel_rfl) (by kernel_rfl) (fun _ _ _ h => h) (Or.inr ⟨by rfl, rfl⟩) hHeld ?_
            try simp only [sq]
            refine wpAnyH_take (i := 6) (v := undef) rfl (by kernel_rfl) (by kernel_rfl) (by kernel_rfl) (fun _ _ _ h => h) (Or.inr ⟨by rfl, rfl⟩) hHeld ?_
            try simp only [sq]
            refine wpAnyH_take (i := 7) (v := undef) rfl (by kernel_rfl) (by kernel_rfl) (by kernel_rfl) (fun _ _ _ h => h) (Or.inr ⟨by rfl, rfl⟩) hHeld ?_
            try simp only [sq]
            refine wpAnyH_take (i := 8) (v := undef) rfl (by kernel_rfl) (by kernel_rfl) (by kernel_rfl) (fun _ _ _ h => h) (Or.inr ⟨by rfl, rfl⟩) hHeld ?_
            try simp only [sq]
            refine wpAnyH_take (i := 9) (v := undef) rfl (by kernel_rfl) (by kernel_rfl) (by kernel_rfl) (fun _ _ _ h => h) (Or.inr ⟨by rfl, rfl⟩) hHeld ?_
            try simp only [sq]
            refine wpAnyH_take (i := 10) (v := ?_) rfl (by kernel_rfl) (by kernel_rfl) (by kernel_rfl) (fun _ _ _ h => h) (Or.inl ⟨by rfl, ?_⟩) hHeld ?_
            rotate_left
            · intro w hSw; (try dsimp only at hSw); go_simp; try (with_reducible rfl)
            try simp only [sq]
            refine wpAnyH_take (i := 11) (v := ?_) rfl (by kernel_rfl) (by kernel_rfl) (by kernel_rfl) (fun _ _ _ h => h) (Or.inl ⟨by rfl, ?_⟩) hHeld ?_
            rotate_left
            · intro w hSw; (try dsimp only at hSw); go_simp; try (with_reducible rfl)
            try simp only [sq]
            refine wpAnyH_done (by kernel_rfl) ?_ _
            go_wp2_with fail
            go_roundw
            case rel => exact ⟨true, k + 1, rfl, by go_num, by omega, HBd⟩
            case measure => simp [intOf]; omega
        · have c2 : (cs.length : Int) ≤ (k : Int) := by omega
          have HVq := hid (HV1.out.below HB.out)
          have HRq := hid (HR1.out.bel HB.out)
          have HGq := hid (grown_bel HG1.out HB.out)
          have HSq := hid (KN.frame HS1.out (fun c _ hc => HB.out.block c (by omega)) HB.out.size)
          have hqs := HB.out.size
          have hqQ := lt_of_block gq
          clear HV1 HR1 HG1 HS1 HB HQ
          have hm := HVq.out.2.2.2.1
          cases b
          · have hownZ : wr.ownsRow w.heap.size 63 4 (.slice av cs.length cv) cs.length (flatK KN us) := HVq.out.2.1
            go_wp2_with (at_builtin; (refine wpList_append_lies _ rfl (.tmp 41) (.tmp 43) 24 rfl w.heap.size 63 i0 _ 4 48 Tryz.underlying24 hi0 hz0 hz1 hz2 rfl (by decide) (.slice av cs.length cv) cs.length (flatK KN us) rfl (hownZ.alloc _) ⟨wr.heap.size, 0, none⟩ 1 1 [.int .i64 id, .bool gn, .int .i64 kd, .slice avv ps.length cvv] rfl rfl (World.news_of_block (cs := #[.int .i64 id, .bool gn, .int .i64 kd, .slice avv ps.length cvv]) (t := 63) (fr := (0, 0)) (heap_alloc_new wr _)) (by simp [Value.oneCell']) (by omega) (by unfold maxLen; omega) (by omega) (by simp; omega) (wr.heap.size + 1) (by simp) ?_; intro gg cq w2 hown2 hgrow hat hlt2))
            have hal2 : Below wr.heap.size wr (wr.alloc (.cells #[.int .i64 id, .bool gn, .int .i64 kd, .slice avv ps.length cvv] 63)) := balloc (Below.refl _ _) _
            have hsn := LX.snoc (x := (id, gn, kd, ps)) (sv := .slice avv ps.length cvv) (l := X) (u := Q) (g := gg) (cap := cq) (HVq.out.below hal2) (Nat.le_refl _) (by omega) (KN.frame HSq.out (fun c _ hc => hal2.block c (by omega)) hal2.size) hown2 hgrow (by simpa using hat) hlt2
            have hne : (Value.slice av cs.length cv).ownBlock ≠ some p := fun e => by have := (World.ownsRow.lt hownZ _ e).1; omega
            have hgn : w.grownBy w2 (some p) := ⟨hgrow.os.trans HGq.out.os, hgrow.tape.trans HGq.out.tape, hgrow.output.trans HGq.out.output, by have := hgrow.size; have := HGq.out.size; simp at *; omega, fun k hk hkp => (hgrow.block k (by simp; omega) (fun e => by have := (World.ownsRow.lt hownZ k e.symm).1; omega)).trans ((Below.heap_alloc _ _ k (by omega)).trans (HGq.out.block k hk hkp))⟩
            have hrd : Ready w2 p a len cap := by
              have hr2 := HRq.out.alloc (.cells #[.int .i64 id, .bool gn, .int .i64 kd, .slice avv ps.length cvv] 63)
              obtain ⟨⟨j, xx, hj, hh⟩, hc⟩ := hr2
              refine ⟨⟨j, xx, hj, (hgrow.block p (lt_of_block hh) (fun e => hne e.symm)).trans hh⟩, hc.below ⟨hgrow.os, hgrow.tape, hgrow.output, by have := hgrow.size; omega, fun k hk => hgrow.block k (by have := lt_of_block hh; omega) (fun e => by have := (World.ownsRow.lt hownZ k e.symm).1; omega)⟩⟩
            have HSN := hid hsn
            have HGN := hid hgn
            have HRD := hid hrd
            clear hsn hgn hrd hown2 hgrow hal2 hownZ x0 x1 x2 x3
            go_roundw
            case rel => exact ⟨i + 1, cs ++ [(id, gn, kd, ps)], _, by go_num, by omega, by simp; omega, HSN, HRD, HGN⟩
            case measure => simp [intOf]; omega
          · go_wp2_with fail
            refine (once_r _ p a len cap 12 (by omega) (by omega) HRq.out).mono ?_
            rintro e wz ⟨d, rfl, hr, hg⟩
            have gz := grown_blk hg gq (by omega)
            replace HVq := hid (HVq.out.grown hg hp)
            replace HRq := hid hr
            replace HGq := hid (grown_trans HGq.out hg)
            replace HSq := hid (KN.frame HSq.out (fun c c1 hc => hg.block c (by omega) (fun e => by injection e with e; omega)) hg.size)
            have hzs := hg.size
            clear hr hg x0 x1 x2 x3 gq
            cases d
            · go_wp2_with fail
              go_roundw
              case rel => exact ⟨i + 1, cs, us, by go_num, by omega, by omega, hid (HVq.out.mono (Nat.le_refl _) (by omega) (Nat.le_refl _)), HRq, HGq⟩
              case measure => simp [intOf]; omega
            · obtain ⟨⟨x0, x1, x2, x3⟩, _⟩ := cell4c gz
              have hownZ : wz.ownsRow w.heap.size 63 4 (.slice av cs.length cv) cs.length (flatK KN us) := HVq.out.2.1
              go_wp2_with (at_builtin; (refine wpList_append_lies _ rfl (.tmp 41) (.tmp 43) 24 rfl w.heap.size 63 i0 _ 4 48 Tryz.underlying24 hi0 hz0 hz1 hz2 rfl (by decide) (.slice av cs.length cv) cs.length (flatK KN us) rfl (hownZ.alloc _) ⟨wz.heap.size, 0, none⟩ 1 1 [.int .i64 id, .bool gn, .int .i64 kd, .slice avv ps.length cvv] rfl rfl (World.news_of_block (cs := #[.int .i64 id, .bool gn, .int .i64 kd, .slice avv ps.length cvv]) (t := 63) (fr := (0, 0)) (heap_alloc_new wz _)) (by simp [Value.oneCell']) (by omega) (by unfold maxLen; omega) (by omega) (by simp; omega) (wz.heap.size + 1) (by simp) ?_; intro gg cq w2 hown2 hgrow hat hlt2))
              have hal2 : Below wz.heap.size wz (wz.alloc (.cells #[.int .i64 id, .bool gn, .int .i64 kd, .slice avv ps.length cvv] 63)) := balloc (Below.refl _ _) _
              have hsn := LX.snoc (x := (id, gn, kd, ps)) (sv := .slice avv ps.length cvv) (l := X) (u := Q) (g := gg) (cap := cq) (HVq.out.below hal2) (Nat.le_refl _) (by omega) (KN.frame HSq.out (fun c _ hc => hal2.block c (by omega)) hal2.size) hown2 hgrow (by simpa using hat) hlt2
              have hne : (Value.slice av cs.length cv).ownBlock ≠ some p := fun e => by have := (World.ownsRow.lt hownZ _ e).1; omega
              have hgn : w.grownBy w2 (some p) := ⟨hgrow.os.trans HGq.out.os, hgrow.tape.trans HGq.out.tape, hgrow.output.trans HGq.out.output, by have := hgrow.size; have := HGq.out.size; simp at *; omega, fun k hk hkp => (hgrow.block k (by simp; omega) (fun e => by have := (World.ownsRow.lt hownZ k e.symm).1; omega)).trans ((Below.heap_alloc _ _ k (by omega)).trans (HGq.out.block k hk hkp))⟩
              have hrd : Ready w2 p a len cap := by
                have hr2 := HRq.out.alloc (.cells #[.int .i64 id, .bool gn, .int .i64 kd, .slice avv ps.length cvv] 63)
                obtain ⟨⟨j, xx, hj, hh⟩, hc⟩ := hr2
                refine ⟨⟨j, xx, hj, (hgrow.block p (lt_of_block hh) (fun e => hne e.symm)).trans hh⟩, hc.below ⟨hgrow.os, hgrow.tape, hgrow.output, by have := hgrow.size; omega, fun k hk => hgrow.block k (by have := lt_of_block hh; omega) (fun e => by have := (World.ownsRow.lt hownZ k e.symm).1; omega)⟩⟩
              have HSN := hid hsn
              have HGN := hid hgn
              have HRD := hid hrd
              clear hsn hgn hrd hown2 hgrow hal2 hownZ x0 x1 x2 x3
              go_roundw
              case rel => exact ⟨i + 1, cs ++ [(id, gn, kd, ps)], _, by go_num, by omega, by simp; omega, HSN, HRD, HGN⟩
              case measure => simp [intOf]; omega
    · have c1 : (n : Int) ≤ (i : Int) := by omega
      go_wp2_with fail
      go_ret
      exact ⟨cs, av, cv, rfl, by omega, HV.out.lc.chsN, fun b off e => (HVR.out b off e).1, HR.out, HG.out⟩
end Go.Proofs.YtdaheepfmnjadaaGreatDoor
