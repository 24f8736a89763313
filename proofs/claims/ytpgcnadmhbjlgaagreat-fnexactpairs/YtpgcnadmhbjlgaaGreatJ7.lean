/- Texts of stores, joined: Bg, Mark, RwK, Bh, RwO. -/
import Derived.Test.YtpgcnadmhbjlgaaGreatJ6
import Derived.Test.YtpgcnadmhbjlgaaGreatJ5
import Derived.Test.YtpgcnadmhbjlgaaGreatAreaM
import Derived.Test.YtpgcnadmhbjlgaaGreatDrawP
import Derived.Test.YtpgcnadmhbjlgaaGreatShLaw
import Derived.Test.YtpgcnadmhbjlgaaGreatRwE
import Derived.Test.YtpgcnadmhbjlgaaGreatBe
import Derived.Deep.SlicePairs
namespace Go.Proofs.YtpgcnadmhbjlgaaGreat
open Go.RowKit
set_option linter.unusedSimpArgs false
set_option linter.unusedVariables false
/-- Where the walk of Pairs stands. -/
def SP (w : World) (now : Int) (a : Option Addr) (n0 cap : Nat) (gi : Nat) (ids : List Int) (ps : List (Int × Int)) (gp c : Nat) (wr : World) : Prop :=
  wr.heap[w.heap.size]? = some (.cells #[.int .i64 now, .slice a n0 cap] 30 (0, 0)) ∧ gi < wr.heap.size ∧ IAt wr gi 0 ids ∧ wr.ownsRow w.heap.size 51 2 (.slice (some ⟨gp, 0, none⟩) ps.length c) ps.length (fl2 ps) ∧ gp < wr.heap.size ∧ gp ≠ gi ∧ gp ≠ w.heap.size ∧ Below w.heap.size w wr
theorem own_frame1 {w w' : World} {B : Nat} {e : TypeId} {sz : Nat} {v : Value} {n : Nat} {xs : List Value} (h : w.ownsRow B e sz v n xs) (hb : ∀ g, v.ownBlock = some g → w'.heap[g]? = w.heap[g]?) : w'.ownsRow B e sz v n xs := by
  refine ⟨h.1, ?_⟩
  rcases h.2 with q | ⟨g, c, cur, rfl, q1, q2, q3⟩
  · exact .inl q
  · exact .inr ⟨g, c, cur, rfl, q1, by rw [hb g rfl]; exact q2, q3⟩
theorem SP.below {w : World} {now : Int} {a : Option Addr} {n0 cap gi : Nat} {ids : List Int} {ps : List (Int × Int)} {gp c : Nat} {wr w' : World} (h : SP w now a n0 cap gi ids ps gp c wr) (H : Below wr.heap.size wr w') : SP w now a n0 cap gi ids ps gp c w' := by
  obtain ⟨h1, h2, h3, h4, h5, h6, h7, h8⟩ := h
  exact ⟨keepheap2 H h1, Nat.lt_of_lt_of_le h2 H.size, h3.blk (H.block gi h2), own_frame1 h4 (fun d e => by simp [Value.ownBlock] at e; subst e; exact H.block _ h5), Nat.lt_of_lt_of_le h5 H.size, h6, h7, btrans h8 H⟩
/-- The first shape of a pair, beside the list that is being made. -/
def KP (ba gq cq : Nat) (rk : Int) (rp : List (Int × Int)) (gp : Nat) (wr : World) : Prop :=
  gp ≠ ba ∧ gp ≠ gq ∧ gq < wr.heap.size ∧ wr.heap[ba]? = some (.cells #[.int .i64 rk, .slice (some ⟨gq, 0, none⟩) rp.length cq] 47 (0, 0)) ∧ PtsAt wr gq 0 rp
theorem PtsAt.blk {w w' : World} {b off : Nat} {ps : List (Int × Int)} (h : PtsAt w b off ps) (e : w'.heap[b]? = w.heap[b]?) : PtsAt w' b off ps := fun k hk => by
  have hc : ∀ k, w'.cell? ⟨b, k, none⟩ = w.cell? ⟨b, k, none⟩ := fun k => by simp only [World.cell?, e]
  rw [hc, hc]
  exact h k hk
theorem KP.below {ba gq cq : Nat} {rk : Int} {rp : List (Int × Int)} {gp : Nat} {wr w' : World} (h : KP ba gq cq rk rp gp wr) (H : Below wr.heap.size wr w') : KP ba gq cq rk rp gp w' := by
  obtain ⟨h1, h2, h3, h4, h5⟩ := h
  exact ⟨h1, h2, Nat.lt_of_lt_of_le h3 H.size, keepheap2 H h4, h5.blk (H.block gq h3)⟩
theorem pts_at {w : World} {b : Nat} {ps : List (Int × Int)} (h : Pts w (some ⟨b, 0, none⟩) ps) : PtsAt w b 0 ps := by
  rcases h with rfl | ⟨b', off, e, _, hp⟩
  · intro k hk; simp at hk
  · cases e; exact hp
theorem ids_blk2 {w W : World} {a1 : Option Addr} {ids : List Int} (h : OwnI w a1 ids) (hn : ∀ b off, a1 = some ⟨b, off, none⟩ → W.heap.size ≤ b) (d : Nat) (hd : d < w.heap.size) : ∃ gi, (0 < ids.length → a1 = some ⟨gi, 0, none⟩) ∧ gi < w.heap.size ∧ IAt w gi 0 ids ∧ (gi = d ∨ W.heap.size ≤ gi) := by
  rcases h with ⟨rfl, rfl⟩ | ⟨b, rfl, hb, hi, _⟩
  · exact ⟨d, fun h => absurd h (by simp), hd, fun k hk => absurd hk (by simp), .inl rfl⟩
  · exact ⟨b, fun _ => rfl, hb, hi, .inr (hn b 0 rfl)⟩
set_option maxRecDepth 100000 in
set_option maxHeartbeats 4000000 in
theorem spec_Pairs {N : Nat → Prop} (now : Int) (a : Option Addr) (cap : Nat) (rs : List Rw) (t : Int) (w : World) (hm : rs.length ≤ 1099511627776) (h : Rws N w a rs) : Calls Tryz.prog 6 #[.agg #[.int .i64 now, .slice a rs.length cap], .int .i64 t] w fun e w' => PA w (prs rs t (idsb now rs t)) e w' := by
  obtain ⟨i0, hi0, hz0, hz1, hz2⟩ := info_parts Tryz.infoA2
  have HIA := hid (fun (W : World) (hb : Below w.heap.size w W) => spec_IdsAt now a cap rs t W hm (h.below hb))
  have HRW := hid (fun (id : Int) (hi : id ∈ idsb now rs t) (W : World) (hb : Below w.heap.size w W) => spec_rowB now a cap rs id t W hm (h.below hb) hi)
  have HSH := hid (fun (id : Int) (h : id ∈ idsb now rs t) => (idsb_row h).2)
  have HIL := hid (idsb_len now rs t)
  clear h
  generalize idsb now rs t = ids at *
  generalize rs.length = n0 at *
  go_enter Tryz.func6, Tryz.ntmps6
  go_upto_region 2 with fail
  have hBx : Below w.heap.size w ((w.alloc (.cells #[.int .i64 now, .slice a n0 cap] 30)).alloc (.cells #[] 51)) := balloc (balloc (Below.refl _ _) _) _
  have g0 := old_alloc (o' := .cells #[] 51) (new_alloc w w.heap.size (.cells #[.int .i64 now, .slice a n0 cap] 30) rfl)
  have ho := own_new2 (w := w.alloc (.cells #[.int .i64 now, .slice a n0 cap] 30)) (B := w.heap.size) (by simp)
  rw [show (w.alloc (.cells #[.int .i64 now, .slice a n0 cap] 30)).heap.size = w.heap.size + 1 by simp] at ho
  have hs0 : ((w.alloc (.cells #[.int .i64 now, .slice a n0 cap] 30)).alloc (.cells #[] 51)).heap.size = w.heap.size + 2 := by simp
  generalize (w.alloc (.cells #[.int .i64 now, .slice a n0 cap] 30)).alloc (.cells #[] 51) = W0 at *
  obtain ⟨d0, d1, _, _⟩ := cell2r g0
  have HO := hid ho
  have HG0 := hid g0
  clear ho g0
  go_wp2_with fail
  refine (HIA.out _ hBx).mono ?_
  rintro e W1 ⟨a1, c1, rfl, hI, hnew, hB1⟩
  obtain ⟨gi, ha1, hgi, hIA, hgd⟩ := ids_blk2 hI hnew w.heap.size (Nat.lt_of_lt_of_le (by omega) hB1.size)
  have HA := hid ha1
  have HSP : Hid (SP w now a n0 cap gi ids [] (w.heap.size + 1) 0 W1) := hid ⟨keepheap2 hB1 HG0.out, hgi, hIA, own_frame1 HO.out (fun d e => by simp [Value.ownBlock] at e; subst e; exact hB1.block _ (by omega)), Nat.lt_of_lt_of_le (by omega) hB1.size, by omega, by omega, btrans hBx hB1⟩
  clear hI ha1 hIA hB1 hBx d0 d1 HIA HO HG0 hgd hgi hnew hs0
  obtain ⟨n, hn⟩ : ∃ n, n = ids.length := ⟨_, rfl⟩
  have HN := hid hn.symm
  rw [← hn] at HA ⊢
  have hnm : n ≤ 300 := by rw [hn]; exact HIL.out
  clear hn
  go_wp2_with fail
  go_loopw [5, 7] (fun tv ti wr => ∃ i gp c : Nat, ti = .int .i64 i ∧ i ≤ n ∧ tv = .slice (some ⟨gp, 0, none⟩) (prO rs t ids i).length c ∧ Hid (SP w now a n0 cap gi ids (prO rs t ids i) gp c wr)) (fun _ ti _ => n - (intOf ti).toNat)
  case atStart => exact ⟨0, w.heap.size + 1, 0, rfl, Nat.zero_le _, rfl, HSP⟩
  case round =>
    clear HSP
    obtain ⟨i, gp, c, rfl, hi, rfl, HP⟩ := hrel
    by_cases hlt : i < n
    · have c1 : (i : Int) < (n : Int) := by omega
      have hii : i < ids.length := by rw [HN.out]; exact hlt
      have ea := HA.out (by omega)
      subst ea
      have hgd : ids.getD i 0 = ids[i] := by rw [List.getD_eq_getElem?_getD, List.getElem?_eq_getElem hii]; rfl
      have hmem : ids.getD i 0 ∈ ids := by rw [hgd]; exact List.getElem_mem hii
      obtain ⟨s0, hgil, s4, _, _, _, _, s5⟩ := HP.out
      have hxi := s4 i hii
      rw [Nat.zero_add] at hxi
      have HRI := hid (HRW.out _ hmem)
      have HSK := hid (HSH.out _ hmem)
      have HB0 := hid s5
      have hwl : w.heap.size < wr.heap.size := lt_of_block s0
      obtain ⟨x0, x1, _, _⟩ := cell2r s0
      have HMT : Hid (∀ y, mt rs t (ids.getD i 0) y = smP (raK (rat rs (ids.getD i 0) t)) (raP (rat rs (ids.getD i 0) t)) (raK (rat rs y t)) (raP (rat rs y t))) := hid (fun y => rfl)
      have HKN := hid (fun (m : Nat) (h : i + 1 + m < ids.length) => prK_next (rs := rs) (t := t) h)
      have HKL := hid (fun m => prK_len rs t ids i m)
      have HOL := hid (prO_len rs t ids HIL.out i)
      have HON := hid (prO_next (rs := rs) (t := t) (ids := ids) (i := i))
      have HK0 : Hid (prK rs t ids i 0 = []) := hid (by simp [prK])
      have HXI : Hid (∀ W : World, IAt W gi 0 ids → W.cell? ⟨gi, i, none⟩ = some (.int .i64 (ids.getD i 0))) := hid (fun W hW => by have := hW i hii; rw [Nat.zero_add] at this; exact this)
      generalize raP (rat rs (ids.getD i 0) t) = rp at *
      generalize raK (rat rs (ids.getD i 0) t) = rk at *
      generalize (rat rs (ids.getD i 0) t).isSome = rb at *
      generalize ids.getD i 0 = id1 at *
      generalize prO rs t ids i = zs at *
      clear s0 s4 s5 hgd hmem
      go_upto_region 6 with fail
      go_cut [8, 9] from 17 to 65 (fun t8 _ wx => RQ wr rk rp t8 wx)
      case first =>
        clear HRW HSH HKN HKL HOL HON HK0 HMT HSK HP HIL HA HN HXI
        refine wp_region_held_drew (S := (fun w' => w'.cell? ⟨w.heap.size, 0, none⟩ = some (.int .i64 now) ∧ w'.cell? ⟨w.heap.size, 1, none⟩ = some (.slice a n0 cap) ∧ w'.cell? ⟨gi, i, none⟩ = some (.int .i64 id1))) (by kernel_rfl) ?_ (fun hHeld => ?_)
        · (repeat' apply And.intro) <;> (repeat (first | with_reducible assumption | with_reducible refine keepset ?_ (by dsimp only; omega) | with_reducible refine keepdrew ?_ | with_reducible refine keepalloc ?_ _ | with_reducible refine keepcell (by with_reducible assumption) ?_))
        have hB0 : Below w.heap.size w wr.drew := bdrew HB0.out
        have hD0 : Below wr.heap.size wr wr.drew := bdrew (Below.refl _ _)
        generalize wr.drew = V0 at *
        refine wpAnyH_take (i := 0) (v := ?_) rfl (by kernel_rfl) (by kernel_rfl) (by kernel_rfl) (fun _ _ _ h => h) (Or.inl ⟨by rfl, ?_⟩) hHeld ?_
        rotate_left
        · intro w hSw; (try dsimp only at hSw); go_simp; try (with_reducible rfl)
        try simp only [sq]
        refine wpAnyH_take (i := 1) (v := ?_) rfl (by kernel_rfl) (by kernel_rfl) (by kernel_rfl) (fun _ _ _ h => h) (Or.inl ⟨by rfl, ?_⟩) hHeld ?_
        rotate_left
        · intro w hSw; (try dsimp only at hSw); go_simp; try (with_reducible rfl)
        try simp only [sq]
        refine wpAnyH_take (i := 2) (v := ?_) rfl (by kernel_rfl) (by kernel_rfl) (by kernel_rfl) (fun _ _ _ h => h) (Or.inl ⟨by rfl, ?_⟩) hHeld ?_
        rotate_left
        · intro w hSw; (try dsimp only at hSw); go_simp; try (with_reducible rfl)
        try simp only [sq]
        refine wpAnyH_take (i := 3) (v := ?_) rfl (by kernel_rfl) (by kernel_rfl) (by kernel_rfl) (fun _ _ _ h => h) (Or.inl ⟨by rfl, ?_⟩) hHeld ?_
        rotate_left
        · intro w hSw; (try dsimp only at hSw); go_simp; try (with_reducible rfl)
        try simp only [sq]
        refine wpAnyH_take (i := 4) (v := ?_) rfl (by kernel_rfl) (by kernel_rfl) (by kernel_rfl) (fun _ _ _ h => h) (Or.inl ⟨by rfl, ?_⟩) hHeld ?_
        rotate_left
        · intro w hSw; (try dsimp only at hSw); go_simp; try (with_reducible rfl)
        try simp only [sq]
        refine wpAnyH_take (i := 5) (v := ?_) rfl (by kernel_rfl) (by kernel_rfl) (by kernel_rfl) (fun _ _ _ h => h) (Or.inl ⟨by rfl, ?_⟩) hHeld ?_
        rotate_left
        · intro w hSw; (try dsimp only at hSw); go_simp; try (with_reducible rfl)
        try simp only [sq]
        refine wpAnyH_ready (rs := [6, 10]) (by kernel_rfl) (by simp) ?_
        refine (AllReadyH.cons rfl (fun K hK => ?_) (AllReadyH.cons rfl (fun K hK => ?_) AllReadyH.nil))
        · skip
          try simp only [sq]
          go_simp
          go_at_call 19
          refine (HRI.out _ hB0).mono ?_
          rintro e y ⟨gq, cq, rfl, hcq, hgq, hgl, hpq, hy⟩
          have hBy := btrans hB0 hy
          have hDy := btrans hD0 hy
          go_wp2_with fail
          refine hK.out _ _ ?_ (fun hHeld => ?_)
          · (go_split_ands; (repeat' apply And.intro) <;> (repeat (first | with_reducible assumption | with_reducible refine keepset ?_ (by dsimp only; omega) | with_reducible refine keepdrew ?_ | with_reducible refine keepalloc ?_ _ | with_reducible refine keepcell (by with_reducible assumption) ?_)))
          clear hK K
          try simp only [sq]
          refine wpAnyH_take (i := 7) (v := ?_) rfl (by kernel_rfl) (by kernel_rfl) (by kernel_rfl) (fun _ _ _ h => h) (Or.inl ⟨by rfl, ?_⟩) hHeld ?_
          rotate_left
          · intro w hSw; (try dsimp only at hSw); go_simp; try (with_reducible rfl)
          try simp only [sq]
          refine wpAnyH_take (i := 8) (v := ?_) rfl (by kernel_rfl) (by kernel_rfl) (by kernel_rfl) (fun _ _ _ h => h) (Or.inl ⟨by rfl, ?_⟩) hHeld ?_
          rotate_left
          · intro w hSw; (try dsimp only at hSw); go_simp; try (with_reducible rfl)
          try simp only [sq]
          refine wpAnyH_take (i := 9) (v := ?_) rfl (by kernel_rfl) (by kernel_rfl) (by kernel_rfl) (fun _ _ _ h => h) (Or.inl ⟨by rfl, ?_⟩) hHeld ?_
          rotate_left
          · intro w hSw; (try dsimp only at hSw); go_simp; try (with_reducible rfl)
          try simp only [sq]
          refine wpAnyH_ready (rs := [10]) (by kernel_rfl) (by simp) ?_
          refine (AllReadyH.cons rfl (fun K hK => ?_) AllReadyH.nil)
          try simp only [sq]
          go_simp
          refine hK.out _ _ ?_ (fun hHeld => ?_)
          · (go_split_ands; (repeat' apply And.intro) <;> (repeat (first | with_reducible assumption | with_reducible refine keepset ?_ (by dsimp only; omega) | with_reducible refine keepdrew ?_ | with_reducible refine keepalloc ?_ _ | with_reducible refine keepcell (by with_reducible assumption) ?_)))
          clear hK K
          try simp only [sq]
          have gX := new_alloc y y.heap.size (.cells #[.int .i64 0, .slice none 0 0] 47) rfl
          have hal : Below y.heap.size y (y.alloc (.cells #[.int .i64 0, .slice none 0 0] 47)) := balloc (Below.refl _ _) _
          have hBa := btrans hBy hal
          have hDa := btrans hDy hal
          have hpqa := hpq.below hal
          have hxg : y.heap.size ≠ gq := by omega
          have hxb : wr.heap.size ≤ y.heap.size := hDy.size
          have hals := hal.size
          clear hal
          generalize y.alloc (.cells #[.int .i64 0, .slice none 0 0] 47) = Z at *
          generalize y.heap.size = xb at *
          refine wpAnyH_ready (rs := [11]) (by kernel_rfl) (by simp) ?_
          refine (AllReadyH.cons rfl (fun K hK => ?_) AllReadyH.nil)
          obtain ⟨v0, v1, s0, s1⟩ := cell2r gX
          try simp only [sq]
          go_simp
          refine hK.out _ _ ?_ (fun hHeld => ?_)
          · (go_split_ands; (repeat' apply And.intro) <;> (repeat (first | with_reducible assumption | with_reducible refine keepset ?_ (by dsimp only; omega) | with_reducible refine keepdrew ?_ | with_reducible refine keepalloc ?_ _ | with_reducible refine keepcell (by with_reducible assumption) ?_)))
          clear hK K
          try simp only [sq]
          refine wpAnyH_take (i := 12) (v := ?_) rfl (by kernel_rfl) (by kernel_rfl) (by kernel_rfl) (fun _ _ _ h => h) (Or.inl ⟨by rfl, ?_⟩) hHeld ?_
          rotate_left
          · intro w hSw; (try dsimp only at hSw); go_simp; try (with_reducible rfl)
          try simp only [sq]
          refine wpAnyH_done (by kernel_rfl) ?_ _
          go_wp2_with fail
          go_meet
          exact rq_mk gX hcq hpqa hxg (by omega) hDa (Nat.le_trans hD0.size hgq) (Nat.lt_of_lt_of_le hgl hals)
        · skip
          try simp only [sq]
          go_simp
          refine hK.out _ _ ?_ (fun hHeld => ?_)
          · (go_split_ands; (repeat' apply And.intro) <;> (repeat (first | with_reducible assumption | with_reducible refine keepset ?_ (by dsimp only; omega) | with_reducible refine keepdrew ?_ | with_reducible refine keepalloc ?_ _ | with_reducible refine keepcell (by with_reducible assumption) ?_)))
          clear hK K
          try simp only [sq]
          have gX := new_alloc V0 V0.heap.size (.cells #[.int .i64 0, .slice none 0 0] 47) rfl
          have hal : Below V0.heap.size V0 (V0.alloc (.cells #[.int .i64 0, .slice none 0 0] 47)) := balloc (Below.refl _ _) _
          have hBa := btrans hB0 hal
          have hDa := btrans hD0 hal
          have hxb : wr.heap.size ≤ V0.heap.size := hD0.size
          have hals := hal.size
          clear hal
          generalize V0.alloc (.cells #[.int .i64 0, .slice none 0 0] 47) = Z at *
          generalize V0.heap.size = xb at *
          refine wpAnyH_ready (rs := [6]) (by kernel_rfl) (by simp) ?_
          refine (AllReadyH.cons rfl (fun K hK => ?_) AllReadyH.nil)
          try simp only [sq]
          go_simp
          go_at_call 19
          refine (HRI.out _ hBa).mono ?_
          rintro e y ⟨gq, cq, rfl, hcq, hgq, hgl, hpq, hy⟩
          have hxg : xb ≠ gq := by have := lt_of_block gX; omega
          replace gX := keepheap2 hy gX
          have hBy := btrans hBa hy
          have hDy := btrans hDa hy
          go_wp2_with fail
          refine hK.out _ _ ?_ (fun hHeld => ?_)
          · (go_split_ands; (repeat' apply And.intro) <;> (repeat (first | with_reducible assumption | with_reducible refine keepset ?_ (by dsimp only; omega) | with_reducible refine keepdrew ?_ | with_reducible refine keepalloc ?_ _ | with_reducible refine keepcell (by with_reducible assumption) ?_)))
          clear hK K
          try simp only [sq]
          refine wpAnyH_take (i := 7) (v := ?_) rfl (by kernel_rfl) (by kernel_rfl) (by kernel_rfl) (fun _ _ _ h => h) (Or.inl ⟨by rfl, ?_⟩) hHeld ?_
          rotate_left
          · intro w hSw; (try dsimp only at hSw); go_simp; try (with_reducible rfl)
          try simp only [sq]
          refine wpAnyH_take (i := 8) (v := ?_) rfl (by kernel_rfl) (by kernel_rfl) (by kernel_rfl) (fun _ _ _ h => h) (Or.inl ⟨by rfl, ?_⟩) hHeld ?_
          rotate_left
          · intro w hSw; (try dsimp only at hSw); go_simp; try (with_reducible rfl)
          try simp only [sq]
          refine wpAnyH_take (i := 9) (v := ?_) rfl (by kernel_rfl) (by kernel_rfl) (by kernel_rfl) (fun _ _ _ h => h) (Or.inl ⟨by rfl, ?_⟩) hHeld ?_
          rotate_left
          · intro w hSw; (try dsimp only at hSw); go_simp; try (with_reducible rfl)
          try simp only [sq]
          refine wpAnyH_ready (rs := [11]) (by kernel_rfl) (by simp) ?_
          refine (AllReadyH.cons rfl (fun K hK => ?_) AllReadyH.nil)
          obtain ⟨v0, v1, s0, s1⟩ := cell2r gX
          try simp only [sq]
          go_simp
          refine hK.out _ _ ?_ (fun hHeld => ?_)
          · (go_split_ands; (repeat' apply And.intro) <;> (repeat (first | with_reducible assumption | with_reducible refine keepset ?_ (by dsimp only; omega) | with_reducible refine keepdrew ?_ | with_reducible refine keepalloc ?_ _ | with_reducible refine keepcell (by with_reducible assumption) ?_)))
          clear hK K
          try simp only [sq]
          refine wpAnyH_take (i := 12) (v := ?_) rfl (by kernel_rfl) (by kernel_rfl) (by kernel_rfl) (fun _ _ _ h => h) (Or.inl ⟨by rfl, ?_⟩) hHeld ?_
          rotate_left
          · intro w hSw; (try dsimp only at hSw); go_simp; try (with_reducible rfl)
          try simp only [sq]
          refine wpAnyH_done (by kernel_rfl) ?_ _
          go_wp2_with fail
          go_meet
          exact rq_mk gX hcq hpq hxg (by omega) hDy (Nat.le_trans hDa.size hgq) hgl
      case rest =>
        obtain ⟨ba, gq, cq, rfl, hba, gA, hcq, hpq, hD, hlo, hhi, hne⟩ := hcut
        have hgpl := HP.out.2.2.2.2.1
        have HKP : Hid (KP ba gq cq rk rp gp wc) := hid ⟨by omega, by omega, hhi, gA, pts_at hpq⟩
        replace HP := hid (HP.out.below hD)
        have hrl := (shok_aok HSK.out).2.2
        clear hpq hD x0 x1 hxi HRI HB0 gA hgil hwl hba hlo hhi hne hgpl
        have hw1 : IntKind.i64.wrap ((i : Int) + 1) = ((i + 1 : Nat) : Int) := by rw [IntWalk.i64_in _ ⟨by omega, by omega⟩]; omega
        go_wp2_with fail
        go_loopw [5, 10] (fun tv tk wr' => ∃ k gp' c' : Nat, ∃ zk : List (Int × Int), tk = .int .i64 k ∧ i + 1 ≤ k ∧ k ≤ n ∧ tv = .slice (some ⟨gp', 0, none⟩) zk.length c' ∧ Hid (zk = zs ++ prK rs t ids i (k - (i + 1))) ∧ Hid (SP w now a n0 cap gi ids zk gp' c' wr') ∧ Hid (KP ba gq cq rk rp gp' wr')) (fun _ tk _ => n - (intOf tk).toNat)
        case atStart => exact ⟨i + 1, gp, c, zs, by first | rfl | go_num, Nat.le_refl _, by omega, rfl, hid (by rw [Nat.sub_self, HK0.out, List.append_nil]), HP, HKP⟩
        case round =>
          clear HP HKP
          obtain ⟨k, gp', c', zk, rfl, hk1, hk2, rfl, HZK, HP, HKP⟩ := hrel
          by_cases hlt2 : k < n
          · have c2 : (k : Int) < (n : Int) := by omega
            have hk0 : (0 : Int) ≤ (k : Int) := by omega
            have hkk : k < ids.length := by rw [HN.out]; exact hlt2
            have hgd : ids.getD k 0 = ids[k] := by rw [List.getD_eq_getElem?_getD, List.getElem?_eq_getElem hkk]; rfl
            have hmem : ids.getD k 0 ∈ ids := by rw [hgd]; exact List.getElem_mem hkk
            obtain ⟨s0, hgil, s4, _, _, _, _, s5⟩ := HP.out
            have hxk := s4 k hkk
            rw [Nat.zero_add] at hxk
            have HRJ := hid (HRW.out _ hmem)
            have HSJ := hid (HSH.out _ hmem)
            have HB0 := hid s5
            have hwl : w.heap.size < wr.heap.size := lt_of_block s0
            obtain ⟨x0, x1, _, _⟩ := cell2r s0
            have HKX := hid (HKN.out (k - (i + 1)) (by omega))
            rw [show i + 1 + (k - (i + 1)) = k by omega, HMT.out] at HKX
            have HXK : Hid (∀ W : World, IAt W gi 0 ids → W.cell? ⟨gi, k, none⟩ = some (.int .i64 (ids.getD k 0))) := hid (fun W hW => by have := hW k hkk; rw [Nat.zero_add] at this; exact this)
            have hkl := HKL.out (k - (i + 1))
            generalize raP (rat rs (ids.getD k 0) t) = rq at *
            generalize raK (rat rs (ids.getD k 0) t) = rj at *
            generalize (rat rs (ids.getD k 0) t).isSome = rb2 at *
            generalize ids.getD k 0 = id2 at *
            clear s0 s4 s5 hgd hmem
            go_upto_region 10 with fail
            go_cut [11, 12] from 35 to 65 (fun t11 _ wx => RQ wr rj rq t11 wx)
            case first =>
              clear HRW HSH HKN HKL HOL HON HK0 HMT HSK HSJ HP HKP HIL HA HN HXI HXK HKX HZK
              refine wp_region_held_drew (S := (fun w' => w'.cell? ⟨w.heap.size, 0, none⟩ = some (.int .i64 now) ∧ w'.cell? ⟨w.heap.size, 1, none⟩ = some (.slice a n0 cap) ∧ w'.cell? ⟨gi, k, none⟩ = some (.int .i64 id2))) (by kernel_rfl) ?_ (fun hHeld => ?_)
              · (repeat' apply And.intro) <;> (repeat (first | with_reducible assumption | with_reducible refine keepset ?_ (by dsimp only; omega) | with_reducible refine keepdrew ?_ | with_reducible refine keepalloc ?_ _ | with_reducible refine keepcell (by with_reducible assumption) ?_))
              have hB0 : Below w.heap.size w wr.drew := bdrew HB0.out
              have hD0 : Below wr.heap.size wr wr.drew := bdrew (Below.refl _ _)
              generalize wr.drew = V0 at *
              refine wpAnyH_take (i := 0) (v := ?_) rfl (by kernel_rfl) (by kernel_rfl) (by kernel_rfl) (fun _ _ _ h => h) (Or.inl ⟨by rfl, ?_⟩) hHeld ?_
              rotate_left
              · intro w hSw; (try dsimp only at hSw); go_simp; try (with_reducible rfl)
              try simp only [sq]
              refine wpAnyH_take (i := 1) (v := ?_) rfl (by kernel_rfl) (by kernel_rfl) (by kernel_rfl) (fun _ _ _ h => h) (Or.inl ⟨by rfl, ?_⟩) hHeld ?_
              rotate_left
              · intro w hSw; (try dsimp only at hSw); go_simp; try (with_reducible rfl)
              try simp only [sq]
              refine wpAnyH_take (i := 2) (v := ?_) rfl (by kernel_rfl) (by kernel_rfl) (by kernel_rfl) (fun _ _ _ h => h) (Or.inl ⟨by rfl, ?_⟩) hHeld ?_
              rotate_left
              · intro w hSw; (try dsimp only at hSw); go_simp; try (with_reducible rfl)
              try simp only [sq]
              refine wpAnyH_take (i := 3) (v := ?_) rfl (by kernel_rfl) (by kernel_rfl) (by kernel_rfl) (fun _ _ _ h => h) (Or.inl ⟨by rfl, ?_⟩) hHeld ?_
              rotate_left
              · intro w hSw; (try dsimp only at hSw); go_simp; try (with_reducible rfl)
              try simp only [sq]
              refine wpAnyH_take (i := 4) (v := ?_) rfl (by kernel_rfl) (by kernel_rfl) (by kernel_rfl) (fun _ _ _ h => h) (Or.inl ⟨by rfl, ?_⟩) hHeld ?_
              rotate_left
              · intro w hSw; (try dsimp only at hSw); go_simp; try (with_reducible rfl)
              try simp only [sq]
              refine wpAnyH_take (i := 5) (v := ?_) rfl (by kernel_rfl) (by kernel_rfl) (by kernel_rfl) (fun _ _ _ h => h) (Or.inl ⟨by rfl, ?_⟩) hHeld ?_
              rotate_left
              · intro w hSw; (try dsimp only at hSw); go_simp; try (with_reducible rfl)
              try simp only [sq]
              refine wpAnyH_ready (rs := [6, 10]) (by kernel_rfl) (by simp) ?_
              refine (AllReadyH.cons rfl (fun K hK => ?_) (AllReadyH.cons rfl (fun K hK => ?_) AllReadyH.nil))
              · skip
                try simp only [sq]
                go_simp
                go_at_call 19
                refine (HRJ.out _ hB0).mono ?_
                rintro e y ⟨gq, cq, rfl, hcq, hgq, hgl, hpq, hy⟩
                have hBy := btrans hB0 hy
                have hDy := btrans hD0 hy
                go_wp2_with fail
                refine hK.out _ _ ?_ (fun hHeld => ?_)
                · (go_split_ands; (repeat' apply And.intro) <;> (repeat (first | with_reducible assumption | with_reducible refine keepset ?_ (by dsimp only; omega) | with_reducible refine keepdrew ?_ | with_reducible refine keepalloc ?_ _ | with_reducible refine keepcell (by with_reducible assumption) ?_)))
                clear hK K
                try simp only [sq]
                refine wpAnyH_take (i := 7) (v := ?_) rfl (by kernel_rfl) (by kernel_rfl) (by kernel_rfl) (fun _ _ _ h => h) (Or.inl ⟨by rfl, ?_⟩) hHeld ?_
                rotate_left
                · intro w hSw; (try dsimp only at hSw); go_simp; try (with_reducible rfl)
                try simp only [sq]
                refine wpAnyH_take (i := 8) (v := ?_) rfl (by kernel_rfl) (by kernel_rfl) (by kernel_rfl) (fun _ _ _ h => h) (Or.inl ⟨by rfl, ?_⟩) hHeld ?_
                rotate_left
                · intro w hSw; (try dsimp only at hSw); go_simp; try (with_reducible rfl)
                try simp only [sq]
                refine wpAnyH_take (i := 9) (v := ?_) rfl (by kernel_rfl) (by kernel_rfl) (by kernel_rfl) (fun _ _ _ h => h) (Or.inl ⟨by rfl, ?_⟩) hHeld ?_
                rotate_left
                · intro w hSw; (try dsimp only at hSw); go_simp; try (with_reducible rfl)
                try simp only [sq]
                refine wpAnyH_ready (rs := [10]) (by kernel_rfl) (by simp) ?_
                refine (AllReadyH.cons rfl (fun K hK => ?_) AllReadyH.nil)
                try simp only [sq]
                go_simp
                refine hK.out _ _ ?_ (fun hHeld => ?_)
                · (go_split_ands; (repeat' apply And.intro) <;> (repeat (first | with_reducible assumption | with_reducible refine keepset ?_ (by dsimp only; omega) | with_reducible refine keepdrew ?_ | with_reducible refine keepalloc ?_ _ | with_reducible refine keepcell (by with_reducible assumption) ?_)))
                clear hK K
                try simp only [sq]
                have gX := new_alloc y y.heap.size (.cells #[.int .i64 0, .slice none 0 0] 47) rfl
                have hal : Below y.heap.size y (y.alloc (.cells #[.int .i64 0, .slice none 0 0] 47)) := balloc (Below.refl _ _) _
                have hBa := btrans hBy hal
                have hDa := btrans hDy hal
                have hpqa := hpq.below hal
                have hxg : y.heap.size ≠ gq := by omega
                have hxb : wr.heap.size ≤ y.heap.size := hDy.size
                have hals := hal.size
                clear hal
                generalize y.alloc (.cells #[.int .i64 0, .slice none 0 0] 47) = Z at *
                generalize y.heap.size = xb at *
                refine wpAnyH_ready (rs := [11]) (by kernel_rfl) (by simp) ?_
                refine (AllReadyH.cons rfl (fun K hK => ?_) AllReadyH.nil)
                obtain ⟨v0, v1, s0, s1⟩ := cell2r gX
                try simp only [sq]
                go_simp
                refine hK.out _ _ ?_ (fun hHeld => ?_)
                · (go_split_ands; (repeat' apply And.intro) <;> (repeat (first | with_reducible assumption | with_reducible refine keepset ?_ (by dsimp only; omega) | with_reducible refine keepdrew ?_ | with_reducible refine keepalloc ?_ _ | with_reducible refine keepcell (by with_reducible assumption) ?_)))
                clear hK K
                try simp only [sq]
                refine wpAnyH_take (i := 12) (v := ?_) rfl (by kernel_rfl) (by kernel_rfl) (by kernel_rfl) (fun _ _ _ h => h) (Or.inl ⟨by rfl, ?_⟩) hHeld ?_
                rotate_left
                · intro w hSw; (try dsimp only at hSw); go_simp; try (with_reducible rfl)
                try simp only [sq]
                refine wpAnyH_done (by kernel_rfl) ?_ _
                go_wp2_with fail
                go_meet
                exact rq_mk gX hcq hpqa hxg (by omega) hDa (Nat.le_trans hD0.size hgq) (Nat.lt_of_lt_of_le hgl hals)
              · skip
                try simp only [sq]
                go_simp
                refine hK.out _ _ ?_ (fun hHeld => ?_)
                · (go_split_ands; (repeat' apply And.intro) <;> (repeat (first | with_reducible assumption | with_reducible refine keepset ?_ (by dsimp only; omega) | with_reducible refine keepdrew ?_ | with_reducible refine keepalloc ?_ _ | with_reducible refine keepcell (by with_reducible assumption) ?_)))
                clear hK K
                try simp only [sq]
                have gX := new_alloc V0 V0.heap.size (.cells #[.int .i64 0, .slice none 0 0] 47) rfl
                have hal : Below V0.heap.size V0 (V0.alloc (.cells #[.int .i64 0, .slice none 0 0] 47)) := balloc (Below.refl _ _) _
                have hBa := btrans hB0 hal
                have hDa := btrans hD0 hal
                have hxb : wr.heap.size ≤ V0.heap.size := hD0.size
                have hals := hal.size
                clear hal
                generalize V0.alloc (.cells #[.int .i64 0, .slice none 0 0] 47) = Z at *
                generalize V0.heap.size = xb at *
                refine wpAnyH_ready (rs := [6]) (by kernel_rfl) (by simp) ?_
                refine (AllReadyH.cons rfl (fun K hK => ?_) AllReadyH.nil)
                try simp only [sq]
                go_simp
                go_at_call 19
                refine (HRJ.out _ hBa).mono ?_
                rintro e y ⟨gq, cq, rfl, hcq, hgq, hgl, hpq, hy⟩
                have hxg : xb ≠ gq := by have := lt_of_block gX; omega
                replace gX := keepheap2 hy gX
                have hBy := btrans hBa hy
                have hDy := btrans hDa hy
                go_wp2_with fail
                refine hK.out _ _ ?_ (fun hHeld => ?_)
                · (go_split_ands; (repeat' apply And.intro) <;> (repeat (first | with_reducible assumption | with_reducible refine keepset ?_ (by dsimp only; omega) | with_reducible refine keepdrew ?_ | with_reducible refine keepalloc ?_ _ | with_reducible refine keepcell (by with_reducible assumption) ?_)))
                clear hK K
                try simp only [sq]
                refine wpAnyH_take (i := 7) (v := ?_) rfl (by kernel_rfl) (by kernel_rfl) (by kernel_rfl) (fun _ _ _ h => h) (Or.inl ⟨by rfl, ?_⟩) hHeld ?_
                rotate_left
                · intro w hSw; (try dsimp only at hSw); go_simp; try (with_reducible rfl)
                try simp only [sq]
                refine wpAnyH_take (i := 8) (v := ?_) rfl (by kernel_rfl) (by kernel_rfl) (by kernel_rfl) (fun _ _ _ h => h) (Or.inl ⟨by rfl, ?_⟩) hHeld ?_
                rotate_left
                · intro w hSw; (try dsimp only at hSw); go_simp; try (with_reducible rfl)
                try simp only [sq]
                refine wpAnyH_take (i := 9) (v := ?_) rfl (by kernel_rfl) (by kernel_rfl) (by kernel_rfl) (fun _ _ _ h => h) (Or.inl ⟨by rfl, ?_⟩) hHeld ?_
                rotate_left
                · intro w hSw; (try dsimp only at hSw); go_simp; try (with_reducible rfl)
                try simp only [sq]
                refine wpAnyH_ready (rs := [11]) (by kernel_rfl) (by simp) ?_
                refine (AllReadyH.cons rfl (fun K hK => ?_) AllReadyH.nil)
                obtain ⟨v0, v1, s0, s1⟩ := cell2r gX
                try simp only [sq]
                go_simp
                refine hK.out _ _ ?_ (fun hHeld => ?_)
                · (go_split_ands; (repeat' apply And.intro) <;> (repeat (first | with_reducible assumption | with_reducible refine keepset ?_ (by dsimp only; omega) | with_reducible refine keepdrew ?_ | with_reducible refine keepalloc ?_ _ | with_reducible refine keepcell (by with_reducible assumption) ?_)))
                clear hK K
                try simp only [sq]
                refine wpAnyH_take (i := 12) (v := ?_) rfl (by kernel_rfl) (by kernel_rfl) (by kernel_rfl) (fun _ _ _ h => h) (Or.inl ⟨by rfl, ?_⟩) hHeld ?_
                rotate_left
                · intro w hSw; (try dsimp only at hSw); go_simp; try (with_reducible rfl)
                try simp only [sq]
                refine wpAnyH_done (by kernel_rfl) ?_ _
                go_wp2_with fail
                go_meet
                exact rq_mk gX hcq hpq hxg (by omega) hDy (Nat.le_trans hDa.size hgq) hgl
            case rest =>
              obtain ⟨bb, gr, cr, rfl, hbb, gA, hcr, hpr, hD, hlo, hhi, hne⟩ := hcut
              replace HP := hid (HP.out.below hD)
              replace HKP := hid (HKP.out.below hD)
              have hrm := (shok_aok HSJ.out).2.2
              have HSM := hid (fun (W : World) (hb : Below wc.heap.size wc W) => spec_ShapesMeet rk rj (some ⟨gq, 0, none⟩) (some ⟨gr, 0, none⟩) cq cr rp rq W (by omega) hcq ((show Pts wc (some ⟨gq, 0, none⟩) rp from .inr ⟨gq, 0, rfl, HKP.out.2.2.1, HKP.out.2.2.2.2⟩).below hb) (by omega) hcr (hpr.below hb))
              unfold shv at HSM
              obtain ⟨u0, u1, _, _⟩ := cell2r HKP.out.2.2.2.1
              obtain ⟨v0, v1, _, _⟩ := cell2r gA
              generalize smP rk rp rj rq = qb at *
              generalize hrpn : rp.length = nrp at *
              generalize rq.length = nrq at *
              clear hpr hD x0 x1 hxk HRJ HB0 hgil hwl hbb hlo hhi hne HSJ
              go_wp2_with fail
              refine (HSM.out _ (Below.refl _ _)).mono ?_
              rintro e z ⟨rfl, hz⟩
              subst hrpn
              replace HP := hid (HP.out.below hz)
              replace HKP := hid (HKP.out.below hz)
              clear hz u0 u1 v0 v1 gA HSM
              have hk3 : k + 1 - (i + 1) = k - (i + 1) + 1 := by omega
              cases qb
              · have HKE : Hid (zk = zs ++ prK rs t ids i (k + 1 - (i + 1))) := hid (by rw [hk3, HKX.out, if_neg (by simp)]; exact HZK.out)
                go_wp2_with fail
                go_roundw
                case rel => exact ⟨k + 1, gp', c', zk, by go_num, by omega, by omega, rfl, HKE, HP, HKP⟩
                case measure => simp [intOf]; omega
              · have HKE : Hid (zk ++ [(id1, id2)] = zs ++ prK rs t ids i (k + 1 - (i + 1))) := hid (by rw [hk3, HKX.out, if_pos rfl, ← List.append_assoc, ← HZK.out])
                have hzl : zs.length ≤ i * 300 := HOL.out
                have hll : zk.length ≤ 90300 := by rw [HZK.out, List.length_append]; omega
                clear HRW HSH HKN HKL HOL HMT HSK HKX HZK
                generalize z = wc at *
                obtain ⟨p1, hgis, p3, hown, hgl, hgg, hgw, hBz⟩ := HP.out
                have z1 := HXI.out wc p3
                have z2 := HXK.out wc p3
                have hwz := hBz.size
                have HFIN : Hid (∀ V : World, Below wc.heap.size wc V → ∀ gg cq2 w2, w2.ownsRow w.heap.size 51 2 (.slice (some ⟨gg, 0, none⟩) (zk.length + 1) cq2) (zk.length + 1) (fl2 zk ++ fl2 [(id1, id2)]) → (V.alloc (.cells #[.int .i64 id1, .int .i64 id2] 51)).grownBy w2 (some gp') → (gg = gp' ∨ gg = V.heap.size + 1) → gg < w2.heap.size → ∃ g2 c2, (Value.slice (some ⟨gg, 0, none⟩) (zk.length + 1) cq2) = .slice (some ⟨g2, 0, none⟩) (zk.length + 1) c2 ∧ Hid (SP w now a n0 cap gi ids (zk ++ [(id1, id2)]) g2 c2 w2) ∧ Hid (KP ba gq cq rk rp g2 w2)) := hid (fun V hV gg cq2 w2 h1 h2 h3 h4 => by
                  have hal : Below V.heap.size V (V.alloc (.cells #[.int .i64 id1, .int .i64 id2] 51)) := balloc (Below.refl _ _) _
                  obtain ⟨q1, q2, q3, q4, q5, q6, q7, q8⟩ := (HP.out.below hV).below hal
                  obtain ⟨k1, k2, k3, k4, k5⟩ := (HKP.out.below hV).below hal
                  have hVs := hV.size
                  have hVa : (V.alloc (.cells #[.int .i64 id1, .int .i64 id2] 51)).heap.size = V.heap.size + 1 := by simp
                  have hbal := lt_of_block (keepheap2 hV HKP.out.2.2.2.1)
                  have hgql := HKP.out.2.2.1
                  refine ⟨gg, cq2, rfl, hid ⟨grown_blk h2 q1 (by omega), Nat.lt_of_lt_of_le q2 h2.size, q3.blk (h2.block gi q2 (by simp; omega)), ?_, h4, by omega, by have := lt_of_block p1; omega, bgrown q8 h2 (q4.lt gp' rfl).1⟩, hid ⟨by omega, by omega, Nat.lt_of_lt_of_le k3 h2.size, grown_blk h2 k4 (by omega), k5.blk (h2.block gq k3 (by simp; omega))⟩⟩
                  have e : fl2 (zk ++ [(id1, id2)]) = fl2 zk ++ fl2 [(id1, id2)] := by simp [fl2]
                  rw [List.length_append, e]
                  exact h1)
                clear p1 p3 hBz HP HKP
                go_upto_region 12 with fail
                refine wp_region_held_drew (S := (fun w' => w'.cell? ⟨gi, i, none⟩ = some (.int .i64 id1) ∧ w'.cell? ⟨gi, k, none⟩ = some (.int .i64 id2))) (by kernel_rfl) ?_ (fun hHeld => ?_)
                · exact ⟨z1, z2⟩
                replace hown : wc.drew.ownsRow _ _ _ _ _ _ := hown.drew
                replace z1 : wc.drew.cell? ⟨gi, i, none⟩ = _ := z1
                replace z2 : wc.drew.cell? ⟨gi, k, none⟩ = _ := z2
                replace hgis : gi < wc.drew.heap.size := hgis
                replace hwz : w.heap.size ≤ wc.drew.heap.size := hwz
                replace HFIN := hid (HFIN.out _ (bdrew (Below.refl _ _)))
                generalize wc.drew = V0 at *
                refine wpAnyH_take (i := 0) (v := ?_) rfl (by kernel_rfl) (by kernel_rfl) (by kernel_rfl) (fun _ _ _ h => h) (Or.inl ⟨by rfl, ?_⟩) hHeld ?_
                rotate_left
                · intro w hSw; (try dsimp only at hSw); go_simp; try (with_reducible rfl)
                try simp only [sq]
                refine wpAnyH_take (i := 1) (v := ?_) rfl (by kernel_rfl) (by kernel_rfl) (by kernel_rfl) (fun _ _ _ h => h) (Or.inl ⟨by rfl, ?_⟩) hHeld ?_
                rotate_left
                · intro w hSw; (try dsimp only at hSw); go_simp; try (with_reducible rfl)
                try simp only [sq]
                refine wpAnyH_take (i := 2) (v := ?_) rfl (by kernel_rfl) (by kernel_rfl) (by kernel_rfl) (fun _ _ _ h => h) (Or.inl ⟨by rfl, ?_⟩) hHeld ?_
                rotate_left
                · intro w hSw; (try dsimp only at hSw); go_simp; try (with_reducible rfl)
                try simp only [sq]
                refine wpAnyH_take (i := 3) (v := ?_) rfl (by kernel_rfl) (by kernel_rfl) (by kernel_rfl) (fun _ _ _ h => h) (Or.inl ⟨by rfl, ?_⟩) hHeld ?_
                rotate_left
                · intro w hSw; (try dsimp only at hSw); go_simp; try (with_reducible rfl)
                try simp only [sq]
                refine wpAnyH_take (i := 4) (v := ?_) rfl (by kernel_rfl) (by kernel_rfl) (by kernel_rfl) (fun _ _ _ h => h) (Or.inl ⟨by rfl, ?_⟩) hHeld ?_
                rotate_left
                · intro w hSw; (try dsimp only at hSw); go_simp; try (with_reducible rfl)
                try simp only [sq]
                refine wpAnyH_take (i := 5) (v := ?_) rfl (by kernel_rfl) (by kernel_rfl) (by kernel_rfl) (fun _ _ _ h => h) (Or.inl ⟨by rfl, ?_⟩) hHeld ?_
                rotate_left
                · intro w hSw; (try dsimp only at hSw); go_simp; try (with_reducible rfl)
                try simp only [sq]
                refine wpAnyH_take (i := 6) (v := ?_) rfl (by kernel_rfl) (by kernel_rfl) (by kernel_rfl) (fun _ _ _ h => h) (Or.inl ⟨by rfl, ?_⟩) hHeld ?_
                rotate_left
                · intro w hSw; (try dsimp only at hSw); go_simp; try (with_reducible rfl)
                try simp only [sq]
                refine wpAnyH_take (i := 7) (v := ?_) rfl (by kernel_rfl) (by kernel_rfl) (by kernel_rfl) (fun _ _ _ h => h) (Or.inl ⟨by rfl, ?_⟩) hHeld ?_
                rotate_left
                · intro w hSw; (try dsimp only at hSw); go_simp; try (with_reducible rfl)
                try simp only [sq]
                refine wpAnyH_take (i := 8) (v := ?_) rfl (by kernel_rfl) (by kernel_rfl) (by kernel_rfl) (fun _ _ _ h => h) (Or.inl ⟨by rfl, ?_⟩) hHeld ?_
                rotate_left
                · intro w hSw; (try dsimp only at hSw); go_simp; try (with_reducible rfl)
                try simp only [sq]
                refine wpAnyH_take (i := 9) (v := ?_) rfl (by kernel_rfl) (by kernel_rfl) (by kernel_rfl) (fun _ _ _ h => h) (Or.inl ⟨by rfl, ?_⟩) hHeld ?_
                rotate_left
                · intro w hSw; (try dsimp only at hSw); go_simp; try (with_reducible rfl)
                try simp only [sq]
                refine wpAnyH_ready (rs := [10]) (by kernel_rfl) (by simp) ?_
                refine (AllReadyH.cons rfl (fun K hK => ?_) AllReadyH.nil)
                try simp only [sq]
                go_simp
                refine hK.out _ _ ?_ (fun hHeld => ?_)
                · (go_split_ands; (repeat' apply And.intro) <;> (repeat (first | with_reducible assumption | with_reducible refine keepdrew ?_ | with_reducible refine keepalloc ?_ _ | with_reducible refine keepcell (by with_reducible assumption) ?_)))
                clear hK K
                try simp only [sq]
                refine wpAnyH_ready (rs := [11]) (by kernel_rfl) (by simp) ?_
                refine (AllReadyH.cons rfl (fun K hK => ?_) AllReadyH.nil)
                refine step_append_lies _ (by rfl) _ _ _ (by rfl) w.heap.size 51 i0 _ 2 16 Tryz.underlying26 hi0 hz0 hz1 hz2 rfl (by omega) _ zk.length (fl2 zk) (by rfl) (hown.alloc _) ⟨V0.heap.size, 0, none⟩ 1 1 (fl2 [(id1, id2)]) (by rfl) (by rfl) (World.news_of_block (cs := #[.int .i64 id1, .int .i64 id2]) (t := 51) (fr := (0, 0)) (heap_alloc_new V0 _)) (by simp [fl2, Value.oneCell']) (by omega) (by unfold maxLen; omega) (by omega) (by simp; omega) (V0.heap.size + 1) (by simp) ?_
                intro gg cq2 w2 hown2 hgrow hat hlt2
                have hgr : (V0.alloc (.cells #[.int .i64 id1, .int .i64 id2] 51)).grownBy w2 (some gp') := hgrow
                have hcl : ∀ j v, V0.cell? ⟨gi, j, none⟩ = some v → w2.cell? ⟨gi, j, none⟩ = some v := fun j v hv => by
                  have h1 := keepalloc hv (.cells #[.int .i64 id1, .int .i64 id2] 51)
                  simp only [World.cell?] at h1 ⊢
                  rw [hgr.block gi (by simp; omega) (by simp; omega)]
                  exact h1
                refine hK.out _ _ ?_ (fun hHeld => ?_)
                · exact ⟨hcl _ _ z1, hcl _ _ z2⟩
                clear hK K
                try simp only [sq]
                refine wpAnyH_take (i := 12) (v := ?_) rfl (by kernel_rfl) (by kernel_rfl) (by kernel_rfl) (fun _ _ _ h => h) (Or.inl ⟨by rfl, ?_⟩) hHeld ?_
                rotate_left
                · intro w hSw; (try dsimp only at hSw); go_simp; try (with_reducible rfl)
                try simp only [sq]
                refine wpAnyH_done (by kernel_rfl) ?_ _
                obtain ⟨g2, c2', e2, HP, HKP⟩ := HFIN.out gg cq2 w2 hown2 hgr (hat.elim (fun h => .inl (by simp [Value.ownBlock] at h; exact h.symm)) .inr) hlt2
                cases e2
                have hln : (zk ++ [(id1, id2)]).length = zk.length + 1 := by rw [List.length_append]; rfl
                clear HFIN hown z1 z2 hown2 hgrow hgr hat
                go_wp2_with fail
                go_roundw
                case rel => exact ⟨k + 1, _, _, zk ++ [(id1, id2)], by go_num, by omega, by omega, by rw [hln], HKE, HP, HKP⟩
                case measure => simp [intOf]; omega
          · have hme : k = n := by omega
            have c2 : (n : Int) ≤ (k : Int) := by omega
            have hzo : zk = prO rs t ids (i + 1) := by rw [HON.out, HN.out, ← hme]; exact HZK.out
            rw [hzo] at HP
            have hln : (prO rs t ids (i + 1)).length = zk.length := by rw [hzo]
            clear HKP
            go_wp2_with fail
            go_roundw
            case rel => exact ⟨i + 1, gp', c', by go_num, by omega, by rw [hln], HP⟩
            case measure => simp [intOf]; omega
    · have c1 : (n : Int) ≤ (i : Int) := by omega
      have hin : i = ids.length := by have := HN.out; omega
      have HF : Hid (prO rs t ids i = prs rs t ids) := hid (by rw [hin]; rfl)
      clear hin
      go_wp2_with fail
      go_ret
      rw [← HF.out]
      obtain ⟨q1, q2, q3⟩ := own_prs HP.out.2.2.2.1 rfl
      exact ⟨gp, c, rfl, q3, q1, HP.out.2.2.2.2.2.2.2⟩
end Go.Proofs.YtpgcnadmhbjlgaaGreat
namespace Go.Proofs.YtpgcnadmhbjlgaaGreat
open Go.RowKit
set_option linter.unusedVariables false
set_option linter.unusedSimpArgs false
/-- A list of points that may be written into: nil, or a block of its own. -/
def OwnP (w : World) (a : Option Addr) (ps : List (Int × Int)) : Prop := (a = none ∧ ps = []) ∨ ∃ b, a = some ⟨b, 0, none⟩ ∧ PtsOwn w b ps
theorem OwnP.pts {w : World} {a : Option Addr} {ps : List (Int × Int)} (h : OwnP w a ps) : Pts w a ps := by
  rcases h with ⟨rfl, rfl⟩ | ⟨b, rfl, h⟩
  · exact .inl rfl
  · exact h.pts
theorem OwnP.below {w w' : World} {a : Option Addr} {ps : List (Int × Int)} (h : OwnP w a ps) (H : Below w.heap.size w w') : OwnP w' a ps := by
  rcases h with ⟨rfl, rfl⟩ | ⟨b, rfl, h⟩
  · exact .inl ⟨rfl, rfl⟩
  · exact .inr ⟨b, rfl, h.below H⟩
def mk (j : Nat) : Int × Int := ((1 : Int) + 2 * j, (2 : Int) + 2 * j)
/-- What is marked is another list in the same block; nothing else is turned. -/
def Marked (w w' : World) (a : Option Addr) (n : Nat) : Prop := OwnP w' a (tk mk n) ∧ w.grownBy w' (a.map (·.block))
theorem take_of (f : Nat → Int × Int) (n k : Nat) (h : k ≤ n) : (tk f n).take k = tk f k := by
  unfold tk
  rw [← List.map_take, List.take_range, Nat.min_eq_left h]
theorem put_mark {w : World} {b k n : Nat} (hb : b < w.heap.size) (hk : k < n) (h : PtsAt w b 0 (tk mk k)) (ht : w.there b 0 (n * 2)) :
    PtsAt ((w.setCell ⟨b, k * 2, none⟩ (.int .i64 (1 + 2 * k))).setCell ⟨b, k * 2 + 1, none⟩ (.int .i64 (2 + 2 * k))) b 0 (tk mk (k + 1)) ∧ ((w.setCell ⟨b, k * 2, none⟩ (.int .i64 (1 + 2 * k))).setCell ⟨b, k * 2 + 1, none⟩ (.int .i64 (2 + 2 * k))).there b 0 (n * 2) := by
  have h1 := put_point (ps := tk mk n) (n := n * 2) hb (by rw [tk_len]; exact hk) (by rw [tk_len]) (by rw [take_of _ _ _ (by omega)]; exact h) ht (1 + 2 * k) (2 + 2 * k) (by rw [tk_getD _ _ _ hk]; rfl) (by rw [tk_getD _ _ _ hk]; rfl)
  rw [take_of _ _ _ (by omega)] at h1
  exact h1
theorem grown_setb {w w1 : World} {b k : Nat} (h : w.grownBy w1 (some b)) (u : Value) : w.grownBy (w1.setCell ⟨b, k, none⟩ u) (some b) := grown_trans h (grown_set _ _ _ _)
set_option maxRecDepth 100000 in
set_option maxHeartbeats 1000000 in
theorem mark_pts (w : World) (a : Option Addr) (cap : Nat) (ps : List (Int × Int)) (hm : ps.length ≤ 1099511627776) (hc : ps.length ≤ cap) (h : OwnP w a ps) : Calls Tryz.prog 51 #[.slice a ps.length cap, .int .i64 1] w fun e w' => e = .returned (.int .i64 (1 + 2 * (ps.length : Int))) ∧ Marked w w' a ps.length := by
  rcases h with ⟨rfl, rfl⟩ | ⟨b, rfl, hb, hp, ht⟩
  · go_enter Tryz.func51, Tryz.ntmps51
    go_wp2_with fail
    go_loopw [1, 5] (fun tk' ti wr => tk' = .int .i64 1 ∧ ti = .int .i64 0 ∧ wr = w) (fun _ _ _ => 0)
    case atStart => exact ⟨rfl, rfl, rfl⟩
    case round =>
      obtain ⟨rfl, rfl, rfl⟩ := hrel
      go_wp2_with fail
      go_ret
      exact ⟨by first | rfl | (simp; done) | (show Ending.returned (.int .i64 1) = _; simp), .inl ⟨rfl, rfl⟩, grown_same _ _⟩
  · generalize hn : ps.length = n at *
    clear hp
    go_enter Tryz.func51, Tryz.ntmps51
    go_wp2_with fail
    go_loopw [1, 5] (fun tk' ti wr => ∃ k : Nat, ti = .int .i64 k ∧ tk' = .int .i64 (1 + 2 * (k : Int)) ∧ k ≤ n ∧ Hid (b < wr.heap.size ∧ PtsAt wr b 0 (tk mk k) ∧ wr.there b 0 (n * 2) ∧ w.grownBy wr (some b))) (fun _ ti _ => n - (intOf ti).toNat)
    case atStart => exact ⟨0, rfl, rfl, Nat.zero_le _, hid ⟨hb, fun j hj => by simp [tk] at hj, ht, grown_same _ _⟩⟩
    case round =>
      obtain ⟨k, rfl, rfl, hk, HH⟩ := hrel
      by_cases hlt : k < n
      · have c1 : (k : Int) < (n : Int) := by omega
        obtain ⟨g0, g0'⟩ := HH.out.2.2.1 (k * 2) (by omega)
        obtain ⟨g1, g1'⟩ := HH.out.2.2.1 (k * 2 + 1) (by omega)
        obtain ⟨u0, hu0⟩ := Option.isSome_iff_exists.1 g0
        obtain ⟨u1, hu1⟩ := Option.isSome_iff_exists.1 g1
        simp only [Nat.zero_add, ← Nat.add_assoc] at hu0 hu1 g0' g1'
        have hu1' : (wr.setCell ⟨b, k * 2, none⟩ (.int .i64 (1 + 2 * (k : Int)))).cell? ⟨b, k * 2 + 1, none⟩ = some u1 := by
          rw [World.cell?_setCell_other _ _ _ _ (by simp)]; exact hu1
        have g1'' : (wr.setCell ⟨b, k * 2, none⟩ (.int .i64 (1 + 2 * (k : Int)))).frozen? ⟨b, k * 2 + 1, none⟩ = false := by rw [World.frozen?_setCell]; exact g1'
        clear g0 g1
        go_wp2_with fail
        go_roundw
        case rel =>
          obtain ⟨r1, r2⟩ := put_mark HH.out.1 hlt HH.out.2.1 HH.out.2.2.1
          refine ⟨k + 1, by go_num, by go_num, by omega, ?_⟩
          rw [show (1 : Int) + 2 * (k : Int) + 1 = 2 + 2 * (k : Int) by omega]
          exact hid ⟨by simpa using HH.out.1, r1, r2, grown_setb (grown_setb HH.out.2.2.2 _) _⟩
        case measure => simp [intOf]; omega
      · obtain rfl : k = n := by omega
        go_wp2_with fail
        go_ret
        exact ⟨rfl, .inr ⟨b, rfl, HH.out.1, HH.out.2.1, by rw [tk_len]; exact HH.out.2.2.1⟩, HH.out.2.2.2⟩
end Go.Proofs.YtpgcnadmhbjlgaaGreat
namespace Go.Proofs.YtpgcnadmhbjlgaaGreat
open Go.RowKit
set_option linter.unusedSimpArgs false
set_option linter.unusedVariables false
/-- Of what was there only blocks from lo on, below hi, may have turned. -/
def Mid (lo hi : Nat) (w w' : World) : Prop := w'.os = w.os ∧ w'.tape = w.tape ∧ w'.output = w.output ∧ w.heap.size ≤ w'.heap.size ∧ ∀ k, k < w.heap.size → (k < lo ∨ hi ≤ k) → w'.heap[k]? = w.heap[k]?
theorem mid_refl (lo hi : Nat) (w : World) : Mid lo hi w w := ⟨rfl, rfl, rfl, Nat.le_refl _, fun _ _ _ => rfl⟩
theorem mid_trans {lo hi : Nat} {a b c : World} (h : Mid lo hi a b) (k : Mid lo hi b c) : Mid lo hi a c := by
  obtain ⟨h1, h2, h3, h4, h5⟩ := h
  obtain ⟨k1, k2, k3, k4, k5⟩ := k
  exact ⟨k1.trans h1, k2.trans h2, k3.trans h3, Nat.le_trans h4 k4, fun i hi' ho => (k5 i (Nat.lt_of_lt_of_le hi' h4) ho).trans (h5 i hi' ho)⟩
theorem mid_below {lo hi : Nat} {w w' : World} (h : Below w.heap.size w w') : Mid lo hi w w' := ⟨h.os, h.tape, h.output, h.size, fun k hk _ => h.block k hk⟩
theorem mid_set {lo hi b k : Nat} {w w1 : World} (h : Mid lo hi w w1) (h1 : lo ≤ b) (h2 : b < hi) (u : Value) : Mid lo hi w (w1.setCell ⟨b, k, none⟩ u) :=
  mid_trans h ⟨rfl, rfl, rfl, by simp [World.setCell], fun i _ ho => Below.heap_setCell _ _ _ _ (by dsimp only; omega)⟩
theorem mid_grown {lo hi b : Nat} {w w1 w2 : World} (h : Mid lo hi w w1) (g : w1.grownBy w2 (some b)) (h1 : lo ≤ b) (h2 : b < hi) : Mid lo hi w w2 :=
  mid_trans h ⟨g.os, g.tape, g.output, g.size, fun i hi' ho => g.block i hi' (fun e => by cases e; omega)⟩
theorem mid_B {n lo hi : Nat} {w0 w w' : World} (h : Below n w0 w) (k : Mid lo hi w w') (h1 : n ≤ lo) (h2 : n ≤ w.heap.size) : Below n w0 w' := by
  obtain ⟨k1, k2, k3, k4, k5⟩ := k
  exact h.trans ⟨k1, k2, k3, k4, fun i hi' => k5 i (by omega) (by omega)⟩
theorem mid_blk {lo hi c : Nat} {w w' : World} (k : Mid lo hi w w') (hc : c < w.heap.size) (h : c < lo ∨ hi ≤ c) : w'.heap[c]? = w.heap[c]? := k.2.2.2.2 c hc h
theorem mid_cell {lo hi c j : Nat} {v : Value} {w w' : World} (k : Mid lo hi w w') (hv : w.cell? ⟨c, j, none⟩ = some v) (h : c < lo ∨ hi ≤ c) : w'.cell? ⟨c, j, none⟩ = some v := by
  have hc : c < w.heap.size := World.block_lt_of_cell? w _ hv
  simp only [World.cell?, mid_blk k hc h] at hv ⊢
  exact hv
theorem mid_own {lo hi : Nat} {w w' : World} {a : Option Addr} {ps : List (Int × Int)} (k : Mid lo hi w w') (h : OwnP w a ps) (ha : ∀ c off, a = some ⟨c, off, none⟩ → c < lo ∨ hi ≤ c) : OwnP w' a ps := by
  rcases h with ⟨rfl, rfl⟩ | ⟨b, rfl, h⟩
  · exact .inl ⟨rfl, rfl⟩
  · exact .inr ⟨b, rfl, h.of_block (mid_blk k h.1 (ha b 0 rfl)) k.2.2.2.1⟩
/-- A row whose points' list has a block of its own, below hi, that may be written into. -/
def RwO (hi : Nat) (w : World) (B o n : Nat) : Prop := ∃ c, w.cell? ⟨B, o + 4, none⟩ = some (.slice (some ⟨c, 0, none⟩) n n) ∧ B < c ∧ c < hi ∧ w.there c 0 (n * 2)
def RwsO (hi : Nat) (w : World) (B : Nat) (rs : List Rw) : Prop := ∀ j (h : j < rs.length), RwO hi w B (j * 5) rs[j].2.2.2.2.length
theorem RwO.below {hi : Nat} {w w' : World} {B o n : Nat} (h : RwO hi w B o n) (hh : hi ≤ w.heap.size) (H : Below w.heap.size w w') : RwO hi w' B o n := by
  obtain ⟨c, h0, h1, h2, h3⟩ := h
  exact ⟨c, keepcell H h0, h1, h2, there_below h3 (by omega) H⟩
theorem RwO.mono {hi hi' : Nat} {w : World} {B o n : Nat} (h : RwO hi w B o n) (hh : hi ≤ hi') : RwO hi' w B o n := by
  obtain ⟨c, h0, h1, h2, h3⟩ := h
  exact ⟨c, h0, h1, by omega, h3⟩
theorem RwsO.below {hi : Nat} {w w' : World} {B : Nat} {rs : List Rw} (h : RwsO hi w B rs) (hh : hi ≤ w.heap.size) (H : Below w.heap.size w w') : RwsO hi w' B rs := fun j hj => (h j hj).below hh H
theorem there_at {w : World} {b n k : Nat} (h : w.there b 0 n) (hk : k < n) : ∃ v, w.cell? ⟨b, k, none⟩ = some v ∧ w.frozen? ⟨b, k, none⟩ = false := by
  obtain ⟨h1, h2⟩ := h k hk
  obtain ⟨v, hv⟩ := Option.isSome_iff_exists.1 h1
  simp only [Nat.zero_add] at hv h2
  exact ⟨v, hv, h2⟩
theorem there_set {w : World} {b n p k : Nat} (h : w.there b 0 n) (u : Value) : (w.setCell ⟨p, k, none⟩ u).there b 0 n := by
  intro j hj
  obtain ⟨h1, h2⟩ := h j hj
  refine ⟨?_, by rw [World.frozen?_setCell]; exact h2⟩
  obtain ⟨v, hv⟩ := Option.isSome_iff_exists.1 h1
  obtain ⟨v', hv'⟩ := cell?_setCell_some (p := ⟨p, k, none⟩) (x := u) hv
  rw [hv']; rfl
theorem put_own {hi : Nat} {w : World} {B k n b m : Nat} (ht : w.there B 0 (n * 5)) (hk : k < n) (hb : B < b) (hbh : b < hi) (ho : w.there b 0 (m * 2)) (u0 u1 u2 u3 : Value) :
    RwO hi (((((w.setCell ⟨B, k * 5, none⟩ u0).setCell ⟨B, k * 5 + 1, none⟩ u1).setCell ⟨B, k * 5 + 2, none⟩ u2).setCell ⟨B, k * 5 + 3, none⟩ u3).setCell ⟨B, k * 5 + 4, none⟩ (.slice (some ⟨b, 0, none⟩) m m)) B (k * 5) m := by
  obtain ⟨v, hv, _⟩ := there_at (there_set (there_set (there_set (there_set ht u0 (p := B) (k := k * 5)) u1 (p := B) (k := k * 5 + 1)) u2 (p := B) (k := k * 5 + 2)) u3 (p := B) (k := k * 5 + 3)) (show k * 5 + 4 < n * 5 by omega)
  exact ⟨b, World.cell?_setCell_same _ _ _ hv, hb, hbh, there_set (there_set (there_set (there_set (there_set ho _) _) _) _) _⟩
theorem RwO.far {hi : Nat} {w : World} {B o n k : Nat} (h : RwO hi w B o n) (hk : k ≠ o + 4) (u : Value) : RwO hi (w.setCell ⟨B, k, none⟩ u) B o n := by
  obtain ⟨c, h0, h1, h2, h3⟩ := h
  refine ⟨c, ?_, h1, h2, there_set h3 _⟩
  rw [World.cell?_setCell_other _ _ _ _ (by intro q; injection q; omega)]
  exact h0
set_option maxHeartbeats 2000000 in
theorem to_rowSO {N : Nat → Prop} (a : Option Addr) (cap : Nat) (rs : List Rw) (w : World) (hm : rs.length ≤ 1099511627776) (h : Rws N w a rs) : Calls Tryz.prog 21 #[.slice a rs.length cap] w fun e w' => ∃ B, e = .returned (.slice (some ⟨B, 0, none⟩) rs.length rs.length) ∧ w.heap.size ≤ B ∧ B < w'.heap.size ∧ RwsAt (fun c => B < c) w' B 0 rs ∧ w'.there B 0 (rs.length * 5) ∧ RwsO w'.heap.size w' B rs ∧ Below w.heap.size w w' := by
  have HR := hid h
  clear h
  have hmk := make_rows rs.length hm
  obtain ⟨n, hn⟩ : ∃ n, n = rs.length := ⟨_, rfl⟩
  have HN := hid hn.symm
  rw [← hn] at hmk hm ⊢
  clear hn
  go_enter Tryz.func21, Tryz.ntmps21
  go_wp2_with fail
  have hB : Below w.heap.size w (w.alloc (.cells (madeCells #[.int .i64 0, .int .i64 0, .int .i64 0, .int .i64 0, .slice none 0 0] (n * 5)) 55)) := balloc (Below.refl _ _) _
  have hT := made_own5 w n
  have hl : w.heap.size < (w.alloc (.cells (madeCells #[.int .i64 0, .int .i64 0, .int .i64 0, .int .i64 0, .slice none 0 0] (n * 5)) 55)).heap.size := by simp
  generalize w.alloc (.cells (madeCells #[.int .i64 0, .int .i64 0, .int .i64 0, .int .i64 0, .slice none 0 0] (n * 5)) 55) = W at *
  clear hmk
  go_loopw [4] (fun ti wr => ∃ j : Nat, ti = .int .i64 j ∧ j ≤ n ∧ Hid (w.heap.size < wr.heap.size) ∧ Hid (∀ i (hi : i < rs.length), i < j → RwAt (fun c => w.heap.size < c) wr w.heap.size (i * 5) rs[i]) ∧ Hid (wr.there w.heap.size 0 (n * 5)) ∧ Hid (∀ i (hi : i < rs.length), i < j → RwO wr.heap.size wr w.heap.size (i * 5) rs[i].2.2.2.2.length) ∧ Hid (Below w.heap.size w wr)) (fun ti _ => n - (intOf ti).toNat)
  case atStart => exact ⟨0, rfl, Nat.zero_le _, hid hl, hid (fun i hi h => absurd h (by omega)), hid hT, hid (fun i hi h => absurd h (by omega)), hid hB⟩
  case round =>
    clear hB hT hl
    obtain ⟨j, rfl, hj, HL, HP, HT, HOW, HBW⟩ := hrel
    by_cases hlt : j < n
    · have c1 : (j : Int) < (n : Int) := by omega
      have hjr : j < rs.length := by rw [HN.out]; exact hlt
      obtain ⟨b, o, rfl, hbs, hr⟩ := (HR.out.below HBW.out).at j hjr
      obtain ⟨a', cap', k0, k1, k2, k3, k4, k5, k6, k7, k8⟩ := hr
      have TR := hid (to_row rs[j] a' cap' wr k6 k5 k7)
      have HPR := hid (fun (W : World) (bb : Nat) => put_row (N := fun c => w.heap.size < c) (w := W) (B := w.heap.size) (k := j) (n := n) (b := bb) (rs := rs) (fun c hc => by omega) hjr HN.out)
      have HK6 := hid k6
      have HLN : Hid (∀ m, rs[j].2.2.2.2.length = m → ∀ (X : World) (hX : ∀ i (hi : i < rs.length), i < j → RwO X.heap.size X w.heap.size (i * 5) rs[i].2.2.2.2.length) (hY : RwO X.heap.size X w.heap.size (j * 5) m), ∀ i (hi : i < rs.length), i < j + 1 → RwO X.heap.size X w.heap.size (i * 5) rs[i].2.2.2.2.length) := hid (fun m hm X hX hY i hi h => by
        by_cases e : i = j
        · subst e; rw [hm]; exact hY
        · exact hX i hi (by omega))
      unfold rwv at TR
      clear k5 k6 k7 k8
      generalize rs[j].1 = id at *
      generalize rs[j].2.1 = fr at *
      generalize rs[j].2.2.1 = te at *
      generalize rs[j].2.2.2.1 = kd at *
      generalize rs[j].2.2.2.2 = ps at *
      go_wp2_with fail
      refine TR.out.mono ?_
      rintro e w1 ⟨bb, rfl, hbb, ho, hb1⟩
      have hP := fun i (hi : i < rs.length) (h : i < j) => (HP.out i hi h).below hb1
      have hT := there_below HT.out HL.out hb1
      have hB := btrans HBW.out hb1
      have hL : w.heap.size < w1.heap.size := Nat.lt_of_lt_of_le HL.out hb1.size
      have hbl : w.heap.size < bb := Nat.lt_of_lt_of_le HL.out hbb
      have HPUT := hid (HPR.out w1 bb hP hT hbl HK6.out ho)
      have HOLD := hid (fun i (hi : i < rs.length) (h : i < j) => ((HOW.out i hi h).below (Nat.le_refl _) hb1).mono hb1.size)
      have HNEW := hid (fun u0 u1 u2 u3 => put_own (hi := w1.heap.size) hT hlt hbl ho.1 ho.2.2 u0 u1 u2 u3)
      have q := fun i (hi : i < n * 5) => hT i hi
      obtain ⟨x0, y0⟩ := q (j * 5) (by omega)
      obtain ⟨x1, y1⟩ := q (j * 5 + 1) (by omega)
      obtain ⟨x2, y2⟩ := q (j * 5 + 2) (by omega)
      obtain ⟨x3, y3⟩ := q (j * 5 + 3) (by omega)
      obtain ⟨x4, y4⟩ := q (j * 5 + 4) (by omega)
      obtain ⟨v0, z0⟩ := Option.isSome_iff_exists.1 x0
      obtain ⟨v1, z1⟩ := Option.isSome_iff_exists.1 x1
      obtain ⟨v2, z2⟩ := Option.isSome_iff_exists.1 x2
      obtain ⟨v3, z3⟩ := Option.isSome_iff_exists.1 x3
      obtain ⟨v4, z4⟩ := Option.isSome_iff_exists.1 x4
      simp only [Nat.zero_add, ← Nat.add_assoc] at z0 z1 z2 z3 z4 y0 y1 y2 y3 y4
      clear q x0 x1 x2 x3 x4 hP HPR hb1 ho TR
      have HL1 := hid hL
      have HB1 := hid hB
      clear hT
      go_wp2_with fail
      go_roundw
      case rel => exact ⟨j + 1, by go_num, by omega, hid (by simpa using hL), hid HPUT.out.1, hid HPUT.out.2, hid (HLN.out _ rfl _ (fun i hi h => by simpa using ((((((HOLD.out i hi h).far (by omega) _).far (by omega) _).far (by omega) _).far (by omega) _).far (by omega) _)) (by simpa using HNEW.out _ _ _ _)), hid (bset (bset (bset (bset (bset hB (by omega) _) (by omega) _) (by omega) _) (by omega) _) (by omega) _)⟩
      case measure => simp [intOf]; omega
    · obtain rfl : n = j := by omega
      have c1 : (n : Int) ≤ (n : Int) := by omega
      go_wp2_with fail
      go_ret
      exact ⟨w.heap.size, rfl, Nat.le_refl _, HL.out, fun i hi => by have := HP.out i hi (by rw [HN.out] at hi; exact hi); simpa using this, HT.out, fun i hi => HOW.out i hi (by rw [HN.out] at hi; exact hi), HBW.out⟩
theorem RwO.other {hi : Nat} {w : World} {B o n q k : Nat} (h : RwO hi w B o n) (hq : q ≠ B) (u : Value) : RwO hi (w.setCell ⟨q, k, none⟩ u) B o n := by
  obtain ⟨c, h0, h1, h2, h3⟩ := h
  refine ⟨c, ?_, h1, h2, there_set h3 _⟩
  rw [World.cell?_setCell_other _ _ _ _ (by intro e; injection e; omega)]
  exact h0
set_option maxHeartbeats 1000000 in
theorem to_rowsO {N : Nat → Prop} (now : Int) (a : Option Addr) (cap : Nat) (rs : List Rw) (w : World) (hm : rs.length ≤ 1099511627776) (h : Rws N w a rs) : Calls Tryz.prog 7 #[.agg #[.int .i64 now, .slice a rs.length cap]] w fun e w' => ∃ B, e = .returned (.agg #[.int .i64 now, .slice (some ⟨B, 0, none⟩) rs.length rs.length]) ∧ w.heap.size ≤ B ∧ B < w'.heap.size ∧ RwsAt (fun c => B < c) w' B 0 rs ∧ w'.there B 0 (rs.length * 5) ∧ RwsO w'.heap.size w' B rs ∧ Below w.heap.size w w' := by
  have TS := hid (fun (W : World) (hb : Below w.heap.size w W) => to_rowSO a cap rs W hm (h.below hb))
  clear h
  obtain ⟨n, hn⟩ : ∃ n, n = rs.length := ⟨_, rfl⟩
  rw [← hn] at TS ⊢
  clear hn
  go_enter Tryz.func7, Tryz.ntmps7
  go_wp2_with fail
  have hB0 : Below w.heap.size w (((w.alloc (.cells #[.int .i64 now, .slice a n cap] 24)).alloc (.cells #[.int .i64 0, .slice none 0 0] 30)).alloc (.cells #[.int .i64 now, .slice none 0 0] 30)) := balloc (balloc (balloc (Below.refl _ _) _) _) _
  have g2 := old_alloc (o' := .cells #[.int .i64 now, .slice none 0 0] 30) (new_alloc (w.alloc (.cells #[.int .i64 now, .slice a n cap] 24)) (w.heap.size + 1) (.cells #[.int .i64 0, .slice none 0 0] 30) (by simp))
  have g3 := new_alloc ((w.alloc (.cells #[.int .i64 now, .slice a n cap] 24)).alloc (.cells #[.int .i64 0, .slice none 0 0] 30)) (w.heap.size + 1 + 1) (.cells #[.int .i64 now, .slice none 0 0] 30) (by simp)
  generalize (((w.alloc (.cells #[.int .i64 now, .slice a n cap] 24)).alloc (.cells #[.int .i64 0, .slice none 0 0] 30)).alloc (.cells #[.int .i64 now, .slice none 0 0] 30)) = W at *
  have hlW := lt_of_block g3
  refine (TS.out _ hB0).mono ?_
  rintro e w1 ⟨B, rfl, hbb, hbl, ho, ht, hro, hb1⟩
  replace g2 := keepheap2 hb1 g2
  replace g3 := keepheap2 hb1 g3
  have hB := btrans hB0 hb1
  have HO := hid ho
  have HRO := hid hro
  have HTH := hid ht
  clear hb1 hB0 ho ht hro
  obtain ⟨a0, a1, f0, f1⟩ := cell2f g2
  obtain ⟨b0, b1, e0, e1⟩ := cell2f g3
  go_wp2_with fail
  have gF := set2r (set_far (q := w.heap.size + 1 + 1) (k := 1) (u := .slice (some ⟨B, 0, none⟩) n n) g2 (by omega)) (.int .i64 now) (.slice (some ⟨B, 0, none⟩) n n)
  have bF := bset (bset (bset hB (q := w.heap.size + 1 + 1) (k := 1) (by omega) (.slice (some ⟨B, 0, none⟩) n n)) (q := w.heap.size + 1) (k := 0) (by omega) (.int .i64 now)) (q := w.heap.size + 1) (k := 1) (by omega) (.slice (some ⟨B, 0, none⟩) n n)
  have oF := ((HO.out.setR (q := w.heap.size + 1 + 1) (k := 1) (u := .slice (some ⟨B, 0, none⟩) n n) (by omega) (by omega)).setR (q := w.heap.size + 1) (k := 0) (u := .int .i64 now) (by omega) (by omega)).setR (q := w.heap.size + 1) (k := 1) (u := .slice (some ⟨B, 0, none⟩) n n) (by omega) (by omega)
  have lF : B < (((w1.setCell ⟨w.heap.size + 1 + 1, 1, none⟩ (.slice (some ⟨B, 0, none⟩) n n)).setCell ⟨w.heap.size + 1, 0, none⟩ (.int .i64 now)).setCell ⟨w.heap.size + 1, 1, none⟩ (.slice (some ⟨B, 0, none⟩) n n)).heap.size := by simpa using hbl
  have tF : (((w1.setCell ⟨w.heap.size + 1 + 1, 1, none⟩ (.slice (some ⟨B, 0, none⟩) n n)).setCell ⟨w.heap.size + 1, 0, none⟩ (.int .i64 now)).setCell ⟨w.heap.size + 1, 1, none⟩ (.slice (some ⟨B, 0, none⟩) n n)).there B 0 (n * 5) := there_set (there_set (there_set HTH.out _) _) _
  have rF : RwsO (((w1.setCell ⟨w.heap.size + 1 + 1, 1, none⟩ (.slice (some ⟨B, 0, none⟩) n n)).setCell ⟨w.heap.size + 1, 0, none⟩ (.int .i64 now)).setCell ⟨w.heap.size + 1, 1, none⟩ (.slice (some ⟨B, 0, none⟩) n n)).heap.size (((w1.setCell ⟨w.heap.size + 1 + 1, 1, none⟩ (.slice (some ⟨B, 0, none⟩) n n)).setCell ⟨w.heap.size + 1, 0, none⟩ (.int .i64 now)).setCell ⟨w.heap.size + 1, 1, none⟩ (.slice (some ⟨B, 0, none⟩) n n)) B rs := fun j hj => by simpa using (((HRO.out j hj).other (q := w.heap.size + 1 + 1) (k := 1) (by omega) (.slice (some ⟨B, 0, none⟩) n n)).other (q := w.heap.size + 1) (k := 0) (by omega) (.int .i64 now)).other (q := w.heap.size + 1) (k := 1) (by omega) (.slice (some ⟨B, 0, none⟩) n n)
  generalize ((w1.setCell ⟨w.heap.size + 1 + 1, 1, none⟩ (.slice (some ⟨B, 0, none⟩) n n)).setCell ⟨w.heap.size + 1, 0, none⟩ (.int .i64 now)).setCell ⟨w.heap.size + 1, 1, none⟩ (.slice (some ⟨B, 0, none⟩) n n) = wf at *
  obtain ⟨z0, z1, _, _⟩ := cell2f gF
  exact bodyPost_ret (v := .agg #[.int .i64 now, .slice (some ⟨B, 0, none⟩) n n]) (by simp [results, Tryz.results7, go_sem, z0, z1]) rfl ⟨B, rfl, by omega, lF, oF, tF, rF, bF⟩
set_option maxRecDepth 100000 in
set_option maxHeartbeats 1000000 in
theorem mark_ptsN (w : World) (c n : Nat) (k0 : Int) (h0 : 0 ≤ k0) (h1 : k0 ≤ 4611686018427387904) (hn : n ≤ 1048576) (hc : c < w.heap.size) (ht : w.there c 0 (n * 2)) : Calls Tryz.prog 51 #[.slice (some ⟨c, 0, none⟩) n n, .int .i64 k0] w fun e w' => e = .returned (.int .i64 (k0 + 2 * (n : Int))) ∧ w.grownBy w' (some c) ∧ (∀ d m, w.there d 0 m → w'.there d 0 m) := by
  go_enter Tryz.func51, Tryz.ntmps51
  go_wp2_with fail
  go_loopw [1, 5] (fun tk' ti wr => ∃ k : Nat, ti = .int .i64 k ∧ tk' = .int .i64 (k0 + 2 * (k : Int)) ∧ k ≤ n ∧ Hid (w.grownBy wr (some c)) ∧ Hid (∀ d m, w.there d 0 m → wr.there d 0 m)) (fun _ ti _ => n - (intOf ti).toNat)
  case atStart => exact ⟨0, rfl, by simp, Nat.zero_le _, hid (grown_same _ _), hid (fun _ _ h => h)⟩
  case round =>
    obtain ⟨k, rfl, rfl, hk, HG, HT⟩ := hrel
    by_cases hlt : k < n
    · have c1 : (k : Int) < (n : Int) := by omega
      have hT := HT.out _ _ ht
      obtain ⟨u0, hu0, g0'⟩ := there_at hT (show k * 2 < n * 2 by omega)
      obtain ⟨u1, hu1, g1'⟩ := there_at hT (show k * 2 + 1 < n * 2 by omega)
      have hu1' : (wr.setCell ⟨c, k * 2, none⟩ (.int .i64 (k0 + 2 * (k : Int)))).cell? ⟨c, k * 2 + 1, none⟩ = some u1 := by
        rw [World.cell?_setCell_other _ _ _ _ (by simp)]; exact hu1
      have g1'' : (wr.setCell ⟨c, k * 2, none⟩ (.int .i64 (k0 + 2 * (k : Int)))).frozen? ⟨c, k * 2 + 1, none⟩ = false := by rw [World.frozen?_setCell]; exact g1'
      clear hT
      go_wp2_with fail
      go_roundw
      case rel => exact ⟨k + 1, by go_num, by go_num, by omega, hid (grown_setb (grown_setb HG.out _) _), hid (fun d m h => there_set (there_set (HT.out d m h) _) _)⟩
      case measure => simp [intOf]; omega
    · obtain rfl : k = n := by omega
      go_wp2_with fail
      go_ret
      exact ⟨rfl, HG.out, HT.out⟩
set_option maxRecDepth 100000 in
set_option maxHeartbeats 2000000 in
theorem mark_rowS (lo hi B : Nat) (rs : List Rw) (w : World) (hlo : lo ≤ B) (hBh : B < hi) (hih : hi ≤ w.heap.size) (hm : rs.length ≤ 1048576) (hl : ∀ m (h : m < rs.length), rs[m].2.2.2.2.length ≤ 1048576) (ht : w.there B 0 (rs.length * 5)) (ho : RwsO hi w B rs) : Calls Tryz.prog 26 #[.slice (some ⟨B, 0, none⟩) rs.length rs.length, .int .i64 1] w fun e w' => (∃ v : Int, e = .returned (.int .i64 v) ∧ 0 ≤ v) ∧ Mid lo hi w w' := by
  have HL := hid hl
  have HO := hid ho
  clear hl ho
  obtain ⟨n, hn⟩ : ∃ n, n = rs.length := ⟨_, rfl⟩
  have HN := hid hn.symm
  rw [← hn] at hm ht ⊢
  clear hn
  have HTT := hid ht
  clear ht
  go_enter Tryz.func26, Tryz.ntmps26
  go_wp2_with fail
  go_loopw [1, 5] (fun tk' ti wr => ∃ j : Nat, ∃ k : Int, ti = .int .i64 j ∧ tk' = .int .i64 k ∧ j ≤ n ∧ 0 ≤ k ∧ k ≤ 1 + (j : Int) * 2097156 ∧ Hid (Mid lo hi w wr) ∧ Hid (∀ d m, w.there d 0 m → wr.there d 0 m) ∧ Hid (∀ i, j ≤ i → i < n → wr.cell? ⟨B, i * 5 + 4, none⟩ = w.cell? ⟨B, i * 5 + 4, none⟩)) (fun _ ti _ => n - (intOf ti).toNat)
  case atStart => exact ⟨0, 1, rfl, rfl, Nat.zero_le _, by omega, by omega, hid (mid_refl _ _ _), hid (fun _ _ h => h), hid (fun _ _ _ => rfl)⟩
  case round =>
    obtain ⟨j, k, rfl, rfl, hj, hk0, hk1, HM, HT, HC⟩ := hrel
    by_cases hlt : j < n
    · have c1 : (j : Int) < (n : Int) := by omega
      have hjr : j < rs.length := by rw [HN.out]; exact hlt
      obtain ⟨c, q0, q1, q2, q3⟩ := HO.out j hjr
      have hnp := HL.out j hjr
      generalize rs[j].2.2.2.2.length = np at *
      have hk2 : k ≤ 2199027449858 := by omega
      have hT := HT.out _ _ HTT.out
      rw [← HC.out j (Nat.le_refl _) hlt] at q0
      obtain ⟨u0, z0, y0⟩ := there_at hT (show j * 5 < n * 5 by omega)
      obtain ⟨u1, z1, y1⟩ := there_at hT (show j * 5 + 1 < n * 5 by omega)
      obtain ⟨u2, z2, y2⟩ := there_at hT (show j * 5 + 2 < n * 5 by omega)
      obtain ⟨u3, z3, y3⟩ := there_at hT (show j * 5 + 3 < n * 5 by omega)
      have z1' : (wr.setCell ⟨B, j * 5, none⟩ (.int .i64 k)).cell? ⟨B, j * 5 + 1, none⟩ = some u1 := by
        rw [World.cell?_setCell_other _ _ _ _ (by simp)]; exact z1
      have z2' : ((wr.setCell ⟨B, j * 5, none⟩ (.int .i64 k)).setCell ⟨B, j * 5 + 1, none⟩ (.int .i64 (k + 1))).cell? ⟨B, j * 5 + 2, none⟩ = some u2 := by
        rw [World.cell?_setCell_other _ _ _ _ (by simp), World.cell?_setCell_other _ _ _ _ (by simp)]; exact z2
      have z3' : (((wr.setCell ⟨B, j * 5, none⟩ (.int .i64 k)).setCell ⟨B, j * 5 + 1, none⟩ (.int .i64 (k + 1))).setCell ⟨B, j * 5 + 2, none⟩ (.int .i64 (k + 1 + 1))).cell? ⟨B, j * 5 + 3, none⟩ = some u3 := by
        rw [World.cell?_setCell_other _ _ _ _ (by simp), World.cell?_setCell_other _ _ _ _ (by simp), World.cell?_setCell_other _ _ _ _ (by simp)]; exact z3
      have z4' : ((((wr.setCell ⟨B, j * 5, none⟩ (.int .i64 k)).setCell ⟨B, j * 5 + 1, none⟩ (.int .i64 (k + 1))).setCell ⟨B, j * 5 + 2, none⟩ (.int .i64 (k + 1 + 1))).setCell ⟨B, j * 5 + 3, none⟩ (.int .i64 (k + 1 + 1 + 1))).cell? ⟨B, j * 5 + 4, none⟩ = some (.slice (some ⟨c, 0, none⟩) np np) := by
        rw [World.cell?_setCell_other _ _ _ _ (by simp), World.cell?_setCell_other _ _ _ _ (by simp), World.cell?_setCell_other _ _ _ _ (by simp), World.cell?_setCell_other _ _ _ _ (by simp)]; exact q0
      have y1' : (wr.setCell ⟨B, j * 5, none⟩ (.int .i64 k)).frozen? ⟨B, j * 5 + 1, none⟩ = false := by rw [World.frozen?_setCell]; exact y1
      have y2' : ((wr.setCell ⟨B, j * 5, none⟩ (.int .i64 k)).setCell ⟨B, j * 5 + 1, none⟩ (.int .i64 (k + 1))).frozen? ⟨B, j * 5 + 2, none⟩ = false := by rw [World.frozen?_setCell, World.frozen?_setCell]; exact y2
      have y3' : (((wr.setCell ⟨B, j * 5, none⟩ (.int .i64 k)).setCell ⟨B, j * 5 + 1, none⟩ (.int .i64 (k + 1))).setCell ⟨B, j * 5 + 2, none⟩ (.int .i64 (k + 1 + 1))).frozen? ⟨B, j * 5 + 3, none⟩ = false := by rw [World.frozen?_setCell, World.frozen?_setCell, World.frozen?_setCell]; exact y3
      have hsz : c < ((((wr.setCell ⟨B, j * 5, none⟩ (.int .i64 k)).setCell ⟨B, j * 5 + 1, none⟩ (.int .i64 (k + 1))).setCell ⟨B, j * 5 + 2, none⟩ (.int .i64 (k + 1 + 1))).setCell ⟨B, j * 5 + 3, none⟩ (.int .i64 (k + 1 + 1 + 1))).heap.size := by
        have := HM.out.2.2.2.1
        simp only [World.size_setCell]; omega
      have hM4 : Mid lo hi w ((((wr.setCell ⟨B, j * 5, none⟩ (.int .i64 k)).setCell ⟨B, j * 5 + 1, none⟩ (.int .i64 (k + 1))).setCell ⟨B, j * 5 + 2, none⟩ (.int .i64 (k + 1 + 1))).setCell ⟨B, j * 5 + 3, none⟩ (.int .i64 (k + 1 + 1 + 1))) := mid_set (mid_set (mid_set (mid_set HM.out hlo hBh _) hlo hBh _) hlo hBh _) hlo hBh _
      have hT4 : ∀ d m, w.there d 0 m → ((((wr.setCell ⟨B, j * 5, none⟩ (.int .i64 k)).setCell ⟨B, j * 5 + 1, none⟩ (.int .i64 (k + 1))).setCell ⟨B, j * 5 + 2, none⟩ (.int .i64 (k + 1 + 1))).setCell ⟨B, j * 5 + 3, none⟩ (.int .i64 (k + 1 + 1 + 1))).there d 0 m := fun d m h => there_set (there_set (there_set (there_set (HT.out d m h) _) _) _) _
      have hC4 : ∀ i, j + 1 ≤ i → i < n → ((((wr.setCell ⟨B, j * 5, none⟩ (.int .i64 k)).setCell ⟨B, j * 5 + 1, none⟩ (.int .i64 (k + 1))).setCell ⟨B, j * 5 + 2, none⟩ (.int .i64 (k + 1 + 1))).setCell ⟨B, j * 5 + 3, none⟩ (.int .i64 (k + 1 + 1 + 1))).cell? ⟨B, i * 5 + 4, none⟩ = w.cell? ⟨B, i * 5 + 4, none⟩ := fun i h1 h2 => by
        rw [World.cell?_setCell_other _ _ _ _ (by intro e; injection e; omega), World.cell?_setCell_other _ _ _ _ (by intro e; injection e; omega), World.cell?_setCell_other _ _ _ _ (by intro e; injection e; omega), World.cell?_setCell_other _ _ _ _ (by intro e; injection e; omega)]
        exact HC.out i (by omega) h2
      have HM4 := hid hM4
      have HT4 := hid hT4
      have HC4 := hid hC4
      have MP := hid (mark_ptsN _ c np (k + 1 + 1 + 1 + 1) (by omega) (by omega) hnp hsz (hT4 _ _ q3))
      clear hM4 hT4 hC4 q0 q3 hT z1 z2 z3 y1 y2 y3 HM HT HC
      go_wp2_with fail
      refine MP.out.mono ?_
      rintro e w1 ⟨rfl, hg, hth⟩
      have HM5 := hid (mid_grown HM4.out hg (by omega) q2)
      have HT5 := hid (fun d m (h : w.there d 0 m) => hth d m (HT4.out d m h))
      have HC5 : Hid (∀ i, j + 1 ≤ i → i < n → w1.cell? ⟨B, i * 5 + 4, none⟩ = w.cell? ⟨B, i * 5 + 4, none⟩) := hid (fun i h1 h2 => by
        rw [← HC4.out i h1 h2]
        have hBs : B < ((((wr.setCell ⟨B, j * 5, none⟩ (.int .i64 k)).setCell ⟨B, j * 5 + 1, none⟩ (.int .i64 (k + 1))).setCell ⟨B, j * 5 + 2, none⟩ (.int .i64 (k + 1 + 1))).setCell ⟨B, j * 5 + 3, none⟩ (.int .i64 (k + 1 + 1 + 1))).heap.size := by omega
        have := hg.block B hBs (by intro e; injection e; omega)
        simp only [World.cell?, this])
      clear hg hth MP HM4 HT4 HC4 hsz
      go_wp2_with fail
      go_roundw
      case rel => exact ⟨j + 1, _, by go_num, rfl, by omega, by omega, by omega, HM5, HT5, HC5⟩
      case measure => simp [intOf]; omega
    · have c1 : (n : Int) ≤ (j : Int) := by omega
      go_wp2_with fail
      go_ret
      exact ⟨⟨_, rfl, hk0⟩, HM.out⟩
set_option maxHeartbeats 400000 in
theorem mark_rows (lo hi B : Nat) (now : Int) (rs : List Rw) (w : World) (hlo : lo ≤ B) (hBh : B < hi) (hih : hi ≤ w.heap.size) (hm : rs.length ≤ 1048576) (hl : ∀ m (h : m < rs.length), rs[m].2.2.2.2.length ≤ 1048576) (ht : w.there B 0 (rs.length * 5)) (ho : RwsO hi w B rs) : Calls Tryz.prog 11 #[.agg #[.int .i64 now, .slice (some ⟨B, 0, none⟩) rs.length rs.length], .int .i64 1] w fun e w' => (∃ v : Int, e = .returned (.int .i64 v) ∧ 0 ≤ v) ∧ Mid lo hi w w' := by
  have hB : Below w.heap.size w (w.alloc (.cells #[.int .i64 now, .slice (some ⟨B, 0, none⟩) rs.length rs.length] 30)) := balloc (Below.refl _ _) _
  have HM := hid (mark_rowS lo hi B rs _ hlo hBh (Nat.le_trans hih hB.size) hm hl (there_below ht (by omega) hB) (ho.below hih hB))
  clear ht ho hl
  go_enter Tryz.func11, Tryz.ntmps11
  go_wp2_with fail
  refine HM.out.mono ?_
  rintro e w1 ⟨⟨v, rfl, hv⟩, hmid⟩
  have HMM := hid (mid_trans (mid_below hB) hmid)
  clear hmid
  go_wp2_with fail
  go_ret
  exact ⟨⟨_, rfl, hv⟩, HMM.out⟩
end Go.Proofs.YtpgcnadmhbjlgaaGreat
namespace Go.Proofs.YtpgcnadmhbjlgaaGreat
open Go.RowKit
set_option linter.unusedSimpArgs false
set_option linter.unusedVariables false
theorem bgrownr {w a b : World} {r : Option Nat} (h : Below w.heap.size w a) (hg : a.grownBy b r) (hp : ∀ c, r = some c → w.heap.size ≤ c) : Below w.heap.size w b :=
  h.grown hg h.size hp
/-- Rows that may be written into, from block B on, below hi. -/
def Own3 (hi : Nat) (w : World) (B : Nat) (rs : List Rw) : Prop := B < hi ∧ hi ≤ w.heap.size ∧ w.there B 0 (rs.length * 5) ∧ RwsO hi w B rs
theorem Own3.below {hi : Nat} {w w' : World} {B : Nat} {rs : List Rw} (h : Own3 hi w B rs) (H : Below w.heap.size w w') : Own3 hi w' B rs :=
  ⟨h.1, Nat.le_trans h.2.1 H.size, there_below h.2.2.1 (Nat.lt_of_lt_of_le h.1 h.2.1) H, h.2.2.2.below h.2.1 H⟩
/-- A list of pairs in memory of its own. -/
def OwnA (w : World) (a : Option Addr) (ps : List (Int × Int)) : Prop := ∃ b, a = some ⟨b, 0, none⟩ ∧ PtsOwn w b ps
def OwnM (w : World) (a : Option Addr) (n : Nat) : Prop := ∃ b, a = some ⟨b, 0, none⟩ ∧ Mk2 w b n
theorem OwnA.lt {w : World} {a : Option Addr} {ps : List (Int × Int)} (h : OwnA w a ps) : ∀ c off, a = some ⟨c, off, none⟩ → c < w.heap.size := by
  obtain ⟨b, rfl, h⟩ := h
  intro c off e
  cases e
  exact h.1
theorem OwnA.blk {w w' : World} {a : Option Addr} {ps : List (Int × Int)} (h : OwnA w a ps) (hs : w.heap.size ≤ w'.heap.size) (e : ∀ b off, a = some ⟨b, off, none⟩ → w'.heap[b]? = w.heap[b]?) : OwnA w' a ps := by
  obtain ⟨b, rfl, h⟩ := h
  exact ⟨b, rfl, own_blk h (e b 0 rfl) (Nat.lt_of_lt_of_le h.1 hs)⟩
theorem OwnA.below {w w' : World} {a : Option Addr} {ps : List (Int × Int)} (h : OwnA w a ps) (H : Below w.heap.size w w') : OwnA w' a ps := h.blk H.size (fun b off e => H.block b (h.lt b off e))
theorem OwnA.grown {w w' : World} {a : Option Addr} {ps : List (Int × Int)} {r : Option Nat} (h : OwnA w a ps) (hg : w.grownBy w' r) (hne : ∀ c off, a = some ⟨c, off, none⟩ → some c ≠ r) : OwnA w' a ps := h.blk hg.size (fun b off e => hg.block b (h.lt b off e) (hne b off e))
theorem OwnA.map_blk {a : Option Addr} {c : Nat} {w : World} {ps : List (Int × Int)} (h : OwnA w a ps) (e : a.map (·.block) = some c) : a = some ⟨c, 0, none⟩ := by
  obtain ⟨b, rfl, _⟩ := h
  simp at e
  subst e
  rfl
theorem OwnM.below {w w' : World} {a : Option Addr} {n : Nat} (h : OwnM w a n) (H : Below w.heap.size w w') : OwnM w' a n := by
  obtain ⟨b, rfl, h1, h2⟩ := h
  exact ⟨b, rfl, Nat.lt_of_lt_of_le h1 H.size, fun i hi => keepcell H (h2 i hi)⟩
theorem mid_ownA {lo hi : Nat} {w w' : World} {a : Option Addr} {ps : List (Int × Int)} (k : Mid lo hi w w') (h : OwnA w a ps) (ha : ∀ c off, a = some ⟨c, off, none⟩ → c < lo ∨ hi ≤ c) : OwnA w' a ps :=
  h.blk k.2.2.2.1 (fun b off e => mid_blk k (h.lt b off e) (ha b off e))
theorem OwnA.pts {w : World} {a : Option Addr} {ps : List (Int × Int)} (h : OwnA w a ps) : Pts w a ps := by
  obtain ⟨b, rfl, h⟩ := h
  exact h.pts
theorem eq_prsA (a b : Option Addr) (cap cap' : Nat) (ps : List (Int × Int)) (w : World) (hm : ps.length ≤ 1099511627776) (h : OwnA w a ps) (h' : OwnA w b ps) : Calls Tryz.prog 9 #[.slice a ps.length cap, .slice b ps.length cap'] w fun e w' => e = .returned (.bool true) ∧ Below w.heap.size w w' :=
  eq_prs a b cap cap' ps w hm h.pts h'.pts
theorem mark_prsA (w : World) (a : Option Addr) (cap : Nat) (ps : List (Int × Int)) (hm : ps.length ≤ 1099511627776) (h : OwnA w a ps) : Calls Tryz.prog 12 #[.slice a ps.length cap, .int .i64 1] w fun e w' => e = .returned (.int .i64 (1 + 2 * (ps.length : Int))) ∧ OwnM w' a ps.length ∧ w.grownBy w' (a.map (·.block)) := by
  obtain ⟨b, rfl, h⟩ := h
  exact (mark_prs w b cap ps hm h).mono (fun e w' ⟨h1, h2, h3⟩ => ⟨h1, ⟨b, rfl, h2⟩, h3⟩)
theorem held_prsA (w : World) (a : Option Addr) (cap n : Nat) (hm : n ≤ 1099511627776) (h : OwnM w a n) : Calls Tryz.prog 13 #[.slice a n cap, .int .i64 1] w fun e w' => e = .returned (.int .i64 (1 + 2 * (n : Int))) ∧ Below w.heap.size w w' := by
  obtain ⟨b, rfl, h⟩ := h
  exact held_prs w b cap n hm h
def PAA (w : World) (ps : List (Int × Int)) (e : Ending) (w' : World) : Prop :=
  ∃ a' cap', e = .returned (.slice a' ps.length cap') ∧ OwnA w' a' ps ∧ (∀ b off, a' = some ⟨b, off, none⟩ → w.heap.size ≤ b) ∧ Below w.heap.size w w'
theorem PA.form {w : World} {ps : List (Int × Int)} {e : Ending} {w' : World} (h : PA w ps e w') : PAA w ps e w' := by
  obtain ⟨b, cap, rfl, h1, h2, h3⟩ := h
  exact ⟨_, cap, rfl, ⟨b, rfl, h1⟩, fun c off e => (by cases e; exact h2), h3⟩
theorem prs_len (now : Int) (rs : List Rw) (t : Int) : (prs rs t (idsb now rs t)).length ≤ 90000 := by
  have h1 := idsb_len now rs t
  have h2 := prO_len rs t (idsb now rs t) h1 (idsb now rs t).length
  unfold prs
  omega
end Go.Proofs.YtpgcnadmhbjlgaaGreat
namespace Go.Proofs.YtpgcnadmhbjlgaaGreat
open Go.RowKit
set_option linter.unusedSimpArgs false
set_option linter.unusedVariables false
/-- A row at a place, of any length. -/
def RwL (w : World) (b o : Nat) (r : Rw) : Prop :=
  ∃ a cap, w.cell? ⟨b, o, none⟩ = some (.int .i64 r.1) ∧ w.cell? ⟨b, o + 1, none⟩ = some (.int .i64 r.2.1) ∧ w.cell? ⟨b, o + 2, none⟩ = some (.int .i64 r.2.2.1) ∧ w.cell? ⟨b, o + 3, none⟩ = some (.int .i64 r.2.2.2.1) ∧ w.cell? ⟨b, o + 4, none⟩ = some (.slice a r.2.2.2.2.length cap) ∧ r.2.2.2.2.length ≤ cap ∧ r.2.2.2.2.length ≤ 9223372036854775807 ∧ Pts w a r.2.2.2.2
def RwsL (w : World) (a : Option Addr) (rs : List Rw) : Prop := rs = [] ∨ ∃ b o, a = some ⟨b, o, none⟩ ∧ b < w.heap.size ∧ ∀ j (h : j < rs.length), RwL w b (o + j * 5) rs[j]
theorem RwL.below {w w' : World} {b o : Nat} {r : Rw} (hb : b < w.heap.size) (h : RwL w b o r) (H : Below w.heap.size w w') : RwL w' b o r := by
  obtain ⟨a, cap, h0, h1, h2, h3, h4, h5, h6, h7⟩ := h
  exact ⟨a, cap, keepcell H h0, keepcell H h1, keepcell H h2, keepcell H h3, keepcell H h4, h5, h6, h7.below H⟩
theorem RwsL.below {w w' : World} {a : Option Addr} {rs : List Rw} (h : RwsL w a rs) (H : Below w.heap.size w w') : RwsL w' a rs := by
  rcases h with h | ⟨b, o, h1, h2, h3⟩
  · exact .inl h
  · exact .inr ⟨b, o, h1, Nat.lt_of_lt_of_le h2 H.size, fun j hj => (h3 j hj).below h2 H⟩
theorem RwsL.at {w : World} {a : Option Addr} {rs : List Rw} (h : RwsL w a rs) (j : Nat) (hj : j < rs.length) : ∃ b o, a = some ⟨b, o, none⟩ ∧ b < w.heap.size ∧ RwL w b (o + j * 5) rs[j] := by
  rcases h with h | ⟨b, o, h1, h2, h3⟩
  · subst h; exact absurd hj (by simp)
  · exact ⟨b, o, h1, h2, h3 j hj⟩
theorem RwsL.rws {w : World} {a : Option Addr} {rs : List Rw} (h : RwsL w a rs) (hl : ∀ m (h : m < rs.length), rs[m].2.2.2.2.length ≤ 1048576) : Rws (fun _ => True) w a rs := by
  rcases h with h | ⟨b, o, h1, h2, h3⟩
  · exact .inl h
  · refine .inr ⟨b, o, h1, h2, fun j hj => ?_⟩
    obtain ⟨a, cap, k0, k1, k2, k3, k4, k5, k6, k7⟩ := h3 j hj
    have := hl j hj
    exact ⟨a, cap, k0, k1, k2, k3, k4, k5, by omega, k7, fun _ _ _ => trivial⟩
set_option maxHeartbeats 1000000 in
theorem sz_rowL (r : Rw) (a : Option Addr) (cap : Nat) (left : Int) (w : World) (hm : r.2.2.2.2.length ≤ 9223372036854775807) (h0 : 0 ≤ left) (h1 : left ≤ 1048576) : Calls Tryz.prog 30 #[rwv r a cap, .int .i64 left] w fun e w' => (∃ v : Int, e = .returned (.int .i64 v) ∧ (v = -1 ∨ (0 ≤ v ∧ v ≤ 1048576 ∧ r.2.2.2.2.length ≤ 1048576))) ∧ Below w.heap.size w w' := by
  obtain ⟨id, fr, te, kd, ps⟩ := r
  unfold rwv
  simp only at *
  by_cases h : left < (ps.length : Int)
  · go_enter Tryz.func30, Tryz.ntmps30
    go_wp2_with fail
    refine (szs_big kd a ps.length cap left _ (by omega) h0 h1 h).mono ?_
    rintro e w1 ⟨rfl, hb⟩
    go_wp2_with fail
    go_ret
    exact ⟨⟨_, rfl, .inl rfl⟩, btrans (balloc (Below.refl _ _) _) hb⟩
  · have h2 : ¬ (left - (ps.length : Int) < 0) := by omega
    go_enter Tryz.func30, Tryz.ntmps30
    go_wp2_with fail
    refine (szs_ok kd a ps.length cap left _ h0 h1 (by omega)).mono ?_
    rintro e w1 ⟨rfl, hb⟩
    go_wp2_with fail
    go_ret
    exact ⟨⟨_, rfl, .inr ⟨by omega, by omega, by omega⟩⟩, btrans (balloc (Below.refl _ _) _) hb⟩
set_option maxHeartbeats 1000000 in
theorem sz_rowsL (a : Option Addr) (cap : Nat) (rs : List Rw) (left : Int) (w : World) (hm : rs.length ≤ 9223372036854775807) (h0 : 0 ≤ left) (h1 : left ≤ 1048576) (h : RwsL w a rs) : Calls Tryz.prog 17 #[.slice a rs.length cap, .int .i64 left] w fun e w' => (∃ v : Int, e = .returned (.int .i64 v) ∧ (v = -1 ∨ (0 ≤ v ∧ v ≤ 1048576 ∧ Hid (rs.length ≤ 1048576 ∧ ∀ m (h : m < rs.length), rs[m].2.2.2.2.length ≤ 1048576)))) ∧ Below w.heap.size w w' := by
  have HR := hid h
  clear h
  by_cases hb : left < (rs.length : Int)
  · have h2 : left - (rs.length : Int) < 0 := by omega
    go_enter Tryz.func17, Tryz.ntmps17
    go_wp2_with fail
    go_ret
    exact ⟨⟨_, rfl, .inl rfl⟩, Below.refl _ _⟩
  · have h2 : ¬ (left - (rs.length : Int) < 0) := by omega
    go_enter Tryz.func17, Tryz.ntmps17
    go_wp2_with fail
    go_loopw [5, 1] (fun ti tl wr => ∃ j : Nat, ∃ l : Int, ti = .int .i64 j ∧ tl = .int .i64 l ∧ j ≤ rs.length ∧ 0 ≤ l ∧ l ≤ 1048576 ∧ Hid (∀ m (h : m < rs.length), m < j → rs[m].2.2.2.2.length ≤ 1048576) ∧ Hid (Below w.heap.size w wr)) (fun ti _ _ => rs.length - (intOf ti).toNat)
    case atStart => exact ⟨0, _, rfl, rfl, Nat.zero_le _, by omega, by omega, hid (fun m h hh => absurd hh (by omega)), hid (Below.refl _ _)⟩
    case round =>
      obtain ⟨j, l, rfl, rfl, hj, hl0, hl1, HM, HB⟩ := hrel
      by_cases hlt : j < rs.length
      · have c1 : (j : Int) < (rs.length : Int) := by omega
        obtain ⟨b, o, rfl, hbs, hr⟩ := (HR.out.below HB.out).at j hlt
        have hmr : rs[j].2.2.2.2.length ≤ 9223372036854775807 := by obtain ⟨_, _, _, _, _, _, _, _, h6, _⟩ := hr; exact h6
        have HX : Hid (rs[j].2.2.2.2.length ≤ 1048576 → ∀ m (h : m < rs.length), m < j + 1 → rs[m].2.2.2.2.length ≤ 1048576) := hid (fun hx m h hm => by
          by_cases e : m = j
          · subst e; exact hx
          · exact HM.out m h (by omega))
        obtain ⟨a', cap', k0, k1, k2, k3, k4, k5, k6, k7⟩ := hr
        have S := hid (fun w' => sz_rowL rs[j] a' cap' l w' hmr hl0 hl1)
        unfold rwv at S
        generalize rs[j].1 = id at *
        generalize rs[j].2.1 = fr at *
        generalize rs[j].2.2.1 = te at *
        generalize rs[j].2.2.2.1 = kd at *
        generalize rs[j].2.2.2.2 = ps at *
        clear k7 k5 k6 hmr
        go_wp2_with fail
        refine (S.out _).mono ?_
        rintro e w1 ⟨⟨v, rfl, hv⟩, hb1⟩
        have hB := btrans HB.out hb1
        rcases hv with rfl | ⟨hv0, hv1, hv3⟩
        · go_wp2_with fail
          go_ret
          exact ⟨⟨_, rfl, .inl rfl⟩, hB⟩
        · have hv2 : ¬ v < 0 := by omega
          have HX2 := hid (HX.out hv3)
          clear hv3
          go_wp2_with fail
          go_roundw
          case rel => exact ⟨j + 1, v, by go_num, rfl, by omega, hv0, hv1, HX2, hid hB⟩
          case measure => simp [intOf]; omega
      · have c1 : (rs.length : Int) ≤ (j : Int) := by omega
        go_wp2_with fail
        go_ret
        exact ⟨⟨_, rfl, .inr ⟨hl0, hl1, hid ⟨by omega, fun m h => HM.out m h (by omega)⟩⟩⟩, HB.out⟩
set_option maxHeartbeats 1000000 in
theorem sz_allL (now : Int) (a : Option Addr) (cap : Nat) (rs : List Rw) (w : World) (hm : rs.length ≤ 9223372036854775807) (h : RwsL w a rs) : Calls Tryz.prog 5 #[.agg #[.int .i64 now, .slice a rs.length cap], .int .i64 1048576] w fun e w' => (∃ v : Int, e = .returned (.int .i64 v) ∧ (v = -1 ∨ (0 ≤ v ∧ v ≤ 1048576 ∧ Hid (rs.length ≤ 1048576 ∧ ∀ m (h : m < rs.length), rs[m].2.2.2.2.length ≤ 1048576)))) ∧ Below w.heap.size w w' := by
  have HR := hid (fun (W : World) (hb : Below w.heap.size w W) => sz_rowsL a cap rs 1048576 W hm (by omega) (by omega) (h.below hb))
  clear h
  obtain ⟨G, hG⟩ : ∃ G : Prop, G = (rs.length ≤ 1048576 ∧ ∀ m (h : m < rs.length), rs[m].2.2.2.2.length ≤ 1048576) := ⟨_, rfl⟩
  have HR2 : Hid (∀ (W : World), Below w.heap.size w W → Calls Tryz.prog 17 #[.slice a rs.length cap, .int .i64 1048576] W fun e w' => (∃ v : Int, e = .returned (.int .i64 v) ∧ (v = -1 ∨ (0 ≤ v ∧ v ≤ 1048576 ∧ Hid G))) ∧ Below W.heap.size W w') := hid (by rw [hG]; exact HR.out)
  rw [← hG]
  clear hG HR
  generalize rs.length = n at *
  go_enter Tryz.func5, Tryz.ntmps5
  go_wp2_with fail
  refine (HR2.out _ (balloc (Below.refl _ _) _)).mono ?_
  rintro e w1 ⟨⟨v, rfl, hv⟩, hb⟩
  have hB := btrans (balloc (Below.refl _ w) _) hb
  rcases hv with rfl | ⟨hv0, hv1, HV⟩
  · go_wp2_with fail
    go_ret
    exact ⟨⟨_, rfl, .inl rfl⟩, hB⟩
  · have hv2 : ¬ v < 0 := by omega
    go_wp2_with fail
    go_ret
    exact ⟨⟨_, rfl, .inr ⟨hv0, hv1, HV⟩⟩, hB⟩
theorem cellsRow : Tryz.prog.cellsOf 68 = 5 := by kernel_rfl
theorem cellsShape : Tryz.prog.cellsOf 66 = 2 := by kernel_rfl
theorem cellsPoint : Tryz.prog.cellsOf 149 = 2 := by kernel_rfl
theorem open_points {H : Type} {enc : TypeId × Value → H} {W : World} {base fuel : Nat} {v : Value} {x : DataW H × List MemPlace} (h : DataW.trod enc Tryz.prog W base (fun _ => true) true fuel 64 [v] = some x) : ∃ (a : Option Addr) (cap : Nat) (ps : List (Int × Int)), v = .slice a ps.length cap ∧ PtsIn W a cap ps := by
  rcases Go.Deep.open_slice_pairs Tryz.underlying64 Tryz.underlying149 cellsPoint rfl rfl (by kernel_rfl) (by kernel_rfl) h with ⟨hcs, _⟩ | ⟨x, l, c, m, n, V0, V1, D0, D1, P0, P1, hcs, _, hl, hm, hmm, _, hall⟩
  · simp at hcs
    exact ⟨none, 0, [], hcs, ptsIn_nil _ _⟩
  · simp at hcs
    obtain ⟨ps, hp, hw⟩ := ptsIn_of hl hm (fun j hj => by
      obtain ⟨h1, h2, h3, h4⟩ := hall j (by rw [hmm]; simp; omega)
      obtain ⟨z0, e0, _, y0⟩ := DataW.trod_int Tryz.underlying3 h3
      obtain ⟨z1, e1, _, y1⟩ := DataW.trod_int Tryz.underlying3 h4
      simp at e0 e1
      exact ⟨z0, z1, by rw [h1, e0], by rw [h2, e1], y0, y1⟩)
    exact ⟨some x, c, ps, by rw [hcs, hp], hw⟩
set_option maxRecDepth 100000 in
theorem open_row {H : Type} {enc : TypeId × Value → H} {W : World} {base fuel : Nat} {cs : List Value} {x : DataW H × List MemPlace} (h : DataW.trod enc Tryz.prog W base (fun _ => true) true fuel 68 cs = some x) : ∃ (r : Rw) (a : Option Addr) (cap : Nat), cs = [.int .i64 r.1, .int .i64 r.2.1, .int .i64 r.2.2.1, .int .i64 r.2.2.2.1, .slice a r.2.2.2.2.length cap] ∧ PtsIn W a cap r.2.2.2.2 := by
  obtain ⟨xs, n, _, _, hlen, hxl, hf⟩ := DataW.trod_struct Tryz.underlying68 h
  rw [cellsRow] at hlen
  match xs, hxl, cs, hlen with
  | [y0, y1, y2, y3], _, [v0, v1, v2, v3, v4], _ =>
    have g0 : DataW.trod enc Tryz.prog W base (fun _ => true) true n 3 (([v0, v1, v2, v3, v4].drop 0).take (Tryz.prog.cellsOf 3)) = some y0 := hf 0 _ rfl
    have g1 : DataW.trod enc Tryz.prog W base (fun _ => true) true n 3 (([v0, v1, v2, v3, v4].drop 1).take (Tryz.prog.cellsOf 3)) = some y1 := hf 1 _ rfl
    have g2 : DataW.trod enc Tryz.prog W base (fun _ => true) true n 3 (([v0, v1, v2, v3, v4].drop 2).take (Tryz.prog.cellsOf 3)) = some y2 := hf 2 _ rfl
    have g3 : DataW.trod enc Tryz.prog W base (fun _ => true) true n 66 (([v0, v1, v2, v3, v4].drop 3).take (Tryz.prog.cellsOf 66)) = some y3 := hf 3 _ rfl
    rw [show Tryz.prog.cellsOf 3 = 1 by kernel_rfl] at g0 g1 g2
    rw [cellsShape] at g3
    simp at g0 g1 g2 g3
    obtain ⟨z0, e0, _, _⟩ := DataW.trod_int Tryz.underlying3 g0
    obtain ⟨z1, e1, _, _⟩ := DataW.trod_int Tryz.underlying3 g1
    obtain ⟨z2, e2, _, _⟩ := DataW.trod_int Tryz.underlying3 g2
    obtain ⟨xs', n', _, _, _, hxl', hf'⟩ := DataW.trod_struct Tryz.underlying66 g3
    match xs', hxl' with
    | [u0, u1], _ =>
      have q0 : DataW.trod enc Tryz.prog W base (fun _ => true) true n' 3 (([v3, v4].drop 0).take (Tryz.prog.cellsOf 3)) = some u0 := hf' 0 _ rfl
      have q1 : DataW.trod enc Tryz.prog W base (fun _ => true) true n' 64 (([v3, v4].drop 1).take (Tryz.prog.cellsOf 64)) = some u1 := hf' 1 _ rfl
      rw [show Tryz.prog.cellsOf 3 = 1 by kernel_rfl] at q0
      rw [show Tryz.prog.cellsOf 64 = 1 by kernel_rfl] at q1
      simp at q0 q1
      obtain ⟨z3, e3, _, _⟩ := DataW.trod_int Tryz.underlying3 q0
      obtain ⟨a, cap, ps, e4, hp⟩ := open_points q1
      simp at e0 e1 e2 e3
      exact ⟨(z0, z1, z2, z3, ps), a, cap, by simp [e0, e1, e2, e3, e4], hp⟩
theorem open_rows {H : Type} {enc : TypeId × Value → H} {W : World} {base fuel : Nat} {v : Value} {x : DataW H × List MemPlace} (h : DataW.trod enc Tryz.prog W base (fun _ => true) true fuel 22 [v] = some x) : ∃ (a : Option Addr) (cap : Nat) (rs : List Rw), v = .slice a rs.length cap ∧ rs.length ≤ 9223372036854775807 ∧ RwsL W a rs := by
  rcases Go.Deep.open_slice Tryz.underlying22 h with ⟨hcs, _⟩ | ⟨a, len, cap, m, n, D, Pl, hcs, _, hl, hm, hmm, _, hall⟩
  · simp at hcs
    exact ⟨none, 0, [], hcs, by simp, .inl rfl⟩
  · simp at hcs
    have hlm : len ≤ m := by rw [hmm]; simp; exact hl
    have hM : len ≤ 9223372036854775807 := Nat.le_trans hl hm
    by_cases h0 : len = 0
    · subst h0
      exact ⟨some a, cap, [], hcs, by simp, .inl rfl⟩
    rw [cellsRow] at hall
    have each : ∀ j : Nat, ∃ r : Rw, j < len → ∃ (a' : Option Addr) (cap' : Nat), W.cells? base (a.add (j * 5)) 5 = some [.int .i64 r.1, .int .i64 r.2.1, .int .i64 r.2.2.1, .int .i64 r.2.2.2.1, .slice a' r.2.2.2.2.length cap'] ∧ PtsIn W a' cap' r.2.2.2.2 := by
      intro j
      by_cases hj : j < len
      · obtain ⟨cs', h1, h2⟩ := hall j (by omega)
        obtain ⟨r, a', cap', e, hp⟩ := open_row h2
        subst e
        exact ⟨r, fun _ => ⟨a', cap', h1, hp⟩⟩
      · exact ⟨(0, 0, 0, 0, []), fun h' => absurd h' hj⟩
    have ⟨f, hf⟩ := Classical.axiomOfChoice each
    have hspot : a.spot = none := by
      obtain ⟨_, _, h1, _⟩ := hf 0 (by omega)
      have h00 := (World.cells?_some h1).2.2 0 (by omega)
      simp only [Nat.zero_mul, Addr.add, if_true] at h00
      unfold World.cell? at h00
      split at h00
      · split at h00
        · cases h00
        · rename_i q; simpa using q
      · cases h00
    obtain ⟨b, o, s⟩ := a
    simp only at hspot
    subst hspot
    have hblk : b < W.heap.size := by
      obtain ⟨_, _, h1, _⟩ := hf 0 (by omega)
      have h00 := (World.cells?_some h1).2.2 0 (by omega)
      rw [Go.Deep.add_add, Addr.add_mid] at h00
      exact World.block_lt_of_cell? W _ (h00.trans rfl)
    refine ⟨some ⟨b, o, none⟩, cap, (List.range len).map f, by simpa using hcs, by simpa using hM, .inr ⟨b, o, rfl, hblk, fun j hj => ?_⟩⟩
    simp only [List.length_map, List.length_range] at hj
    have e : ((List.range len).map f)[j]'(by simpa using hj) = f j := by simp
    rw [e]
    obtain ⟨a', cap', h1, hp⟩ := hf j hj
    have hc := (World.cells?_some h1).2.2
    have c0 := hc 0 (by omega)
    have c1 := hc 1 (by omega)
    have c2 := hc 2 (by omega)
    have c3 := hc 3 (by omega)
    have c4 := hc 4 (by omega)
    rw [Go.Deep.add_add, Addr.add_mid] at c0 c1 c2 c3 c4
    exact ⟨a', cap', c0, c1, c2, c3, c4, hp.2.1, Nat.le_trans hp.2.1 hp.2.2, hp.1⟩
end Go.Proofs.YtpgcnadmhbjlgaaGreat
