/- Texts of stores, joined: Tc, Vb, Va. -/
import Derived.Test.YtninciflfolenaaGreatJ12
import Derived.BigQuiet
import Derived.Test.YtninciflfolenaaGreatJ7
import Derived.Deep.RegionHeld3
import Derived.Test.YtninciflfolenaaGreatJ11
import Derived.Test.YtninciflfolenaaGreatJ3
import Derived.Test.YtninciflfolenaaGreatJ9
import Derived.Maps.AppendAt
namespace Go.Proofs.YtninciflfolenaaGreat
open Go.RowKit Go.Maps
set_option linter.unusedSimpArgs false
set_option linter.unusedVariables false
theorem bdrewN2 {w a : World} (h : Below w.heap.size w a) {n : Nat} : Below w.heap.size w (a.drewN n) := ⟨h.1, h.2, h.3, h.4, h.5⟩
def IdW (rs : List Rw) : Prop := ∀ m (h : m < rs.length), i64w rs[m].1 ∧ i64w rs[m].2.2.1
/-- What placesByEnd answers. -/
def PB (w : World) (rs : List Rw) (e : Ending) (w' : World) : Prop :=
  ∃ (B n : Nat) (D : DataW Unit), e = .returned (.map (some B)) ∧ w.heap.size ≤ B ∧ w'.ownsMap Tryz.prog 89 (plainElem Tryz.prog 3) B n D ∧ MP rs rs.length D ∧ Below w.heap.size w w'
set_option maxRecDepth 100000 in
set_option maxHeartbeats 2000000 in
theorem places_c {N : Nat → Prop} (a : Option Addr) (cap : Nat) (rs : List Rw) (w : World) (hm : rs.length ≤ 1099511627776) (hk : IdW rs) (h : Rws N w a rs) : Calls Tryz.prog 51 #[.slice a rs.length cap] w fun e w' => PB w rs e w' := by
  have HR := hid h
  have HK := hid hk
  have HEND : Hid (∀ (W : World) (D : DataW Unit), W.ownsMap Tryz.prog 89 (plainElem Tryz.prog 3) w.heap.size rs.length D → MP rs rs.length D → Below w.heap.size w W → PB w rs (.returned (.map (some w.heap.size))) W) := hid (fun W D h1 h2 h3 => ⟨_, _, D, rfl, Nat.le_refl _, h1, h2, h3⟩)
  obtain ⟨n, hn⟩ : ∃ n, n = rs.length := ⟨_, rfl⟩
  have HN := hid hn.symm
  rw [← hn] at hm HEND ⊢
  clear hn h hk
  have hmm := make_mapK n
  go_enter Tryz.func51, Tryz.ntmps51
  go_wp2_with fail
  clear hmm
  go_loopw [11] (fun ti wr => ∃ i : Nat, ti = .int .i64 i ∧ i ≤ n ∧ Hid (Below w.heap.size w wr) ∧ Hid (∃ D : DataW Unit, wr.ownsMap Tryz.prog 89 (plainElem Tryz.prog 3) w.heap.size i D ∧ MP rs i D)) (fun ti _ => n - (intOf ti).toNat)
  case atStart => exact ⟨0, rfl, Nat.zero_le _, hid ((Below.refl _ _).alloc (Nat.le_refl _) _), hid ⟨_, World.ownsMap_made _ _ _ _, MP.start rs⟩⟩
  case round =>
    obtain ⟨i, rfl, hi, HBW, HO⟩ := hrel
    by_cases hlt : i < n
    · have d1 : (i : Int) < (n : Int) := by omega
      have d0 : (0 : Int) ≤ (i : Int) := by omega
      have hir : i < rs.length := by rw [HN.out]; exact hlt
      obtain ⟨D, hown, hmp⟩ := HO.out
      obtain ⟨w1, w2⟩ := HK.out i hir
      have hkey := kyL_is w1 w2
      have HMP := hid (hmp.next hir w1 w2)
      obtain ⟨b, o, rfl, hbs, a', cap', k0, k1, k2, k3, k4, _⟩ := (HR.out.at i hir)
      replace k0 := keepcell HBW.out k0
      replace k1 := keepcell HBW.out k1
      replace k2 := keepcell HBW.out k2
      replace k3 := keepcell HBW.out k3
      replace k4 := keepcell HBW.out k4
      clear HO hmp w1 w2
      generalize rs[i].2.2.2.2.length = v4 at *
      generalize rs[i].2.2.2.1 = v3 at *
      generalize rs[i].2.2.1 = v2 at *
      generalize rs[i].2.1 = v1 at *
      generalize rs[i].1 = v0 at *
      have HOW := hid hown
      have HKEY := hid hkey
      clear hown hkey
      have hBx : Below wr.heap.size wr (wr.alloc (.cells #[.int .i64 v0, .int .i64 v1, .int .i64 v2, .int .i64 v3, .slice a' v4 cap'] 55)) := balloc (Below.refl _ _) _
      have gx := new_alloc wr wr.heap.size (.cells #[.int .i64 v0, .int .i64 v1, .int .i64 v2, .int .i64 v3, .slice a' v4 cap'] 55) rfl
      go_upto_region 5 with fail
      have HB1 := hid (btrans HBW.out hBx)
      have HO1 := hid (HOW.out.alloc (.cells #[.int .i64 v0, .int .i64 v1, .int .i64 v2, .int .i64 v3, .slice a' v4 cap'] 55))
      clear k0 k1 k2 k3 k4 hBx HOW
      generalize wr.alloc (.cells #[.int .i64 v0, .int .i64 v1, .int .i64 v2, .int .i64 v3, .slice a' v4 cap'] 55) = W1 at *
      obtain ⟨X, hX⟩ : ∃ X, X = wr.heap.size := ⟨_, rfl⟩
      rw [← hX] at gx ⊢
      clear hX
      obtain ⟨⟨x0, x1, x2, x3, x4⟩, _⟩ := cell5g gx
      go_wp2_with (first
        | (at_mapUpdate; refine wpList_mapUpdate_own _ rfl _ _ _ 85 rfl 89 3 Tryz.lawK Tryz.underlying85 (plainElem Tryz.prog 3) w.heap.size i D rfl HO1.out (by unfold maxLen; omega) _ _ _ rfl rfl HKEY.out (.lit (.int .i64 i)) [] (plainElem_int Tryz.underlying3 (WalkArith.wf_i64 (by omega))) ?_)
        | go_in)
      intro y hown1 hgrow1
      have R2 := hid (HB1.out.grown hgrow1 HB1.out.size (fun j hj => by cases hj; exact Nat.le_refl _))
      have R1 : Hid (∃ D : DataW Unit, y.ownsMap Tryz.prog 89 (plainElem Tryz.prog 3) w.heap.size (i + 1) D ∧ MP rs (i + 1) D) := hid ⟨_, hown1, HMP.out⟩
      clear hown1 hgrow1 HO1
      go_wp2_with fail
      go_roundw
      case rel => exact ⟨i + 1, by go_num, by omega, R2, R1⟩
      case measure => simp [intOf]; omega
    · have hin : i = n := by omega
      have HF : Hid (PB w rs (.returned (.map (some w.heap.size))) wr) := hid (by
        obtain ⟨D, h1, h2⟩ := HO.out
        subst hin
        exact HEND.out _ D h1 h2 HBW.out)
      clear hin HO
      go_wp2_with fail
      go_ret
      exact HF.out
set_option maxHeartbeats 2000000 in
theorem begun_c {N : Nat → Prop} (a : Option Addr) (cap : Nat) (cs : List Ch) (w : World) (hm : cs.length ≤ 1099511627776) (h : Chs N 1099511627776 w a cs) : Calls Tryz.prog 46 #[.slice a cs.length cap] w fun e w' => e = .returned (.int .i64 (bgn cs)) ∧ Below w.heap.size w w' := by
  have HR := hid h
  have HBG : Hid (∀ i (h : i < cs.length), bgn (cs.take (i + 1)) = bgn (cs.take i) + (if cs[i].2.1 = true then 0 else 1)) := hid (fun i h => bgn_next cs h)
  have HALL : Hid (bgn (cs.take cs.length) = bgn cs) := hid (by rw [List.take_length])
  have HLE : Hid (∀ i, bgn (cs.take i) ≤ cs.length) := hid (fun i => Nat.le_trans (bgn_le _) (by simp; omega))
  generalize bgn cs = bz at *
  obtain ⟨n, hn⟩ : ∃ n, n = cs.length := ⟨_, rfl⟩
  have HN := hid hn.symm
  rw [← hn] at hm HALL HLE ⊢
  clear hn h
  go_enter Tryz.func46, Tryz.ntmps46
  go_wp2_with fail
  go_loopw [3, 8] (fun tn ti wr => ∃ i k : Nat, ti = .int .i64 i ∧ tn = .int .i64 k ∧ i ≤ n ∧ k ≤ n ∧ Hid (k = bgn (cs.take i)) ∧ Hid (Below w.heap.size w wr)) (fun _ ti _ => n - (intOf ti).toNat)
  case atStart => exact ⟨0, 0, rfl, rfl, Nat.zero_le _, Nat.zero_le _, hid rfl, hid (Below.refl _ _)⟩
  case round =>
    obtain ⟨i, k, rfl, rfl, hi, hk, HKB, HBW⟩ := hrel
    by_cases hlt : i < n
    · have d1 : (i : Int) < (n : Int) := by omega
      have d0 : (0 : Int) ≤ (i : Int) := by omega
      have hir : i < cs.length := by rw [HN.out]; exact hlt
      obtain ⟨b, o, rfl, hbs, a', cap', k0, k1, k2, k3, _⟩ := (HR.out.at i hir)
      replace k0 := keepcell HBW.out k0
      replace k1 := keepcell HBW.out k1
      replace k2 := keepcell HBW.out k2
      replace k3 := keepcell HBW.out k3
      have HNX := hid (HBG.out i hir)
      have HL1 := hid (HLE.out (i + 1))
      generalize cs[i].2.2.2.length = v3 at *
      generalize cs[i].2.2.1 = v2 at *
      generalize cs[i].2.1 = v1 at *
      generalize cs[i].1 = v0 at *
      cases v1
      · have hk1 : k + 1 ≤ n := by have h1 := HNX.out; have h2 := HL1.out; have h3 := HKB.out; simp at h1; omega
        have HK1 : Hid (k + 1 = bgn (cs.take (i + 1))) := hid (by rw [HNX.out, ← HKB.out]; rfl)
        go_wp2_with fail
        go_roundw
        case rel => exact ⟨i + 1, k + 1, by go_num, by go_num, by omega, hk1, HK1, hid (balloc HBW.out _)⟩
        case measure => simp [intOf]; omega
      · have HK1 : Hid (k = bgn (cs.take (i + 1))) := hid (by rw [HNX.out, ← HKB.out]; rfl)
        go_wp2_with fail
        go_roundw
        case rel => exact ⟨i + 1, k, by go_num, rfl, by omega, hk, HK1, hid (balloc HBW.out _)⟩
        case measure => simp [intOf]; omega
    · have hin : i = n := by omega
      have HF : Hid (k = bz) := hid (by rw [HKB.out, hin, HALL.out])
      clear hin
      go_wp2_with fail
      go_ret
      exact ⟨by rw [HF.out]; rfl, HBW.out⟩
set_option maxHeartbeats 2000000 in
theorem takes_c {N : Nat → Prop} (now : Int) (ra : Option Addr) (rn rcap : Nat) (a : Option Addr) (cap : Nat) (cs : List Ch) (w : World) (hrn : rn ≤ 1099511627776) (hm : cs.length ≤ 1099511627776) (h : Chs N 1099511627776 w a cs) : Calls Tryz.prog 20 #[.agg #[.int .i64 now, .slice ra rn rcap], .slice a cs.length cap] w fun e w' => e = .returned (.bool (decide (now ≤ 1000000000) && decide (rn + bgn cs ≤ 300))) ∧ Below w.heap.size w w' := by
  have hB : Below w.heap.size w (w.alloc (.cells #[.int .i64 now, .slice ra rn rcap] 26)) := balloc (Below.refl _ _) _
  have g0 := new_alloc w w.heap.size (.cells #[.int .i64 now, .slice ra rn rcap] 26) rfl
  have HBG := hid (fun (W : World) (hb : Below w.heap.size w W) => begun_c a cap cs W hm (h.below hb))
  have hle : bgn cs ≤ 1099511627776 := Nat.le_trans (bgn_le cs) hm
  generalize bgn cs = bz at *
  obtain ⟨n, hn⟩ : ∃ n, n = cs.length := ⟨_, rfl⟩
  rw [← hn] at HBG ⊢
  clear hn h hm
  go_enter Tryz.func20, Tryz.ntmps20
  go_upto_region 1 with fail
  have HB := hid hB
  clear hB
  generalize w.alloc (.cells #[.int .i64 now, .slice ra rn rcap] 26) = W at *
  obtain ⟨X, hX⟩ : ∃ X, X = w.heap.size := ⟨_, rfl⟩
  rw [← hX] at g0 ⊢
  clear hX
  obtain ⟨x0, x1⟩ := cell2 g0
  clear g0
  have hw1 : IntKind.i64.wrap ((rn : Int) + (bz : Int)) = (rn : Int) + (bz : Int) := by rw [IntKind.wrap_i64]; omega
  by_cases hnow : now ≤ 1000000000
  · have hd : decide (now ≤ 1000000000) = true := by simpa using hnow
    go_region_held3 (fun w' => w'.cell? ⟨X, 0, none⟩ = some (.int .i64 now) ∧ w'.cell? ⟨X, 1, none⟩ = some (.slice ra rn rcap)) ((go_split_ands; (repeat' apply And.intro) <;> (repeat (first | with_reducible assumption | with_reducible refine keepcell (by with_reducible assumption) ?_ | with_reducible refine keepdrew ?_ | with_reducible refine keepalloc ?_ _))))
      (first
        | (go_at_call 46; refine (HBG.out _ (bdrew HB.out)).mono ?_; rintro e w1 ⟨rfl, hb1⟩))
    go_wp2_with fail
    go_ret
    exact ⟨by congr 2; by_cases hq : rn + bz ≤ 300 <;> simp [hq, hnow] <;> omega, by have hBB := HB.out; (repeat (first | with_reducible exact Below.refl _ _ | with_reducible assumption | (with_reducible refine btrans ?_ (by with_reducible assumption)) | with_reducible refine bdrew ?_ | with_reducible refine balloc ?_ _))⟩
  · have hd : decide (now ≤ 1000000000) = false := by simpa using hnow
    go_quiet (fail)
    go_wp2_with fail
    go_ret
    exact ⟨by simp [hnow], by have hBB := HB.out; (repeat (first | with_reducible exact Below.refl _ _ | with_reducible assumption | (with_reducible refine btrans ?_ (by with_reducible assumption)) | with_reducible refine bdrew ?_ | with_reducible refine bdrewN2 ?_ | with_reducible refine balloc ?_ _))⟩
end Go.Proofs.YtninciflfolenaaGreat
namespace Go.Proofs.YtninciflfolenaaGreat
open Go.RowKit
set_option linter.unusedSimpArgs false
set_option linter.unusedVariables false
def elR (r : Rw) (c cap : Nat) : El := (r.1, r.2.1, r.2.2.1, r.2.2.2.1, some ⟨c, 0, none⟩, r.2.2.2.2.length, cap)
/-- Rows that the call has made: the list's block and the points' blocks lie from base on, below hi, each another one. -/
def RowsX (base hi : Nat) (w : World) (v : Value) (rs : List Rw) (xs : List El) : Prop :=
  xs.length = rs.length ∧ w.ownsRow base 55 5 v rs.length (flat5 xs) ∧ (∀ g, v.ownBlock = some g → g < hi) ∧ hi ≤ w.heap.size ∧
  ∃ c cp : Nat → Nat, (∀ j (h : j < rs.length), xs[j]? = some (elR rs[j] (c j) (cp j)) ∧ rs[j].2.2.2.2.length ≤ cp j ∧ rs[j].2.2.2.2.length ≤ 1099511627776 ∧ base ≤ c j ∧ c j < hi ∧ v.ownBlock ≠ some (c j) ∧ PtsOwn w (c j) rs[j].2.2.2.2) ∧ (∀ i j, i < j → j < rs.length → c i ≠ c j)
theorem own_frame {w w' : World} {B : Nat} {e : TypeId} {sz : Nat} {v : Value} {n : Nat} {xs : List Value} (h : w.ownsRow B e sz v n xs) (hb : ∀ g, v.ownBlock = some g → w'.heap[g]? = w.heap[g]?) : w'.ownsRow B e sz v n xs := by
  refine ⟨h.1, ?_⟩
  rcases h.2 with q | ⟨g, c, cur, e1, q1, q2, q3⟩
  · exact .inl q
  · refine .inr ⟨g, c, cur, e1, q1, ?_, q3⟩
    rw [hb g (by rw [e1]; rfl)]; exact q2
theorem RowsX.frame {base hi : Nat} {w w' : World} {v : Value} {rs : List Rw} {xs : List El} (h : RowsX base hi w v rs xs) (hb : ∀ c, base ≤ c → c < hi → w'.heap[c]? = w.heap[c]?) (hs : w.heap.size ≤ w'.heap.size) : RowsX base hi w' v rs xs := by
  obtain ⟨h1, h2, h3, h4, c, cp, h5, h6⟩ := h
  refine ⟨h1, own_frame h2 (fun g e => hb g (h2.lt g e).1 (h3 g e)), h3, by omega, c, cp, fun j hj => ?_, h6⟩
  obtain ⟨a1, a2, a3, a4, a5, a6, a7⟩ := h5 j hj
  exact ⟨a1, a2, a3, a4, a5, a6, own_blk a7 (hb _ a4 a5) (by omega)⟩
theorem RowsX.below {base hi : Nat} {w w' : World} {v : Value} {rs : List Rw} {xs : List El} (h : RowsX base hi w v rs xs) (H : Below w.heap.size w w') : RowsX base hi w' v rs xs :=
  h.frame (fun c _ h2 => H.block c (by have := h.2.2.2.1; omega)) H.size
theorem RowsX.mono {base base' hi hi' : Nat} {w : World} {v : Value} {rs : List Rw} {xs : List El} (h : RowsX base hi w v rs xs) (hb : base' ≤ base) (hh : hi ≤ hi') (hs : hi' ≤ w.heap.size) : RowsX base' hi' w v rs xs := by
  obtain ⟨h1, h2, h3, h4, c, cp, h5, h6⟩ := h
  refine ⟨h1, ⟨h2.1, ?_⟩, fun g e => by have := h3 g e; omega, hs, c, cp, fun j hj => ?_, h6⟩
  · rcases h2.2 with q | ⟨g, cc, cur, e1, q1, q2, q3⟩
    · exact .inl q
    · exact .inr ⟨g, cc, cur, e1, by omega, q2, q3⟩
  · obtain ⟨a1, a2, a3, a4, a5, a6, a7⟩ := h5 j hj
    exact ⟨a1, a2, a3, by omega, by omega, a6, a7⟩
theorem RowsX.nil {base hi : Nat} {w : World} {v : Value} (h : w.ownsRow base 55 5 v 0 []) (h3 : ∀ g, v.ownBlock = some g → g < hi) (h4 : hi ≤ w.heap.size) : RowsX base hi w v [] [] :=
  ⟨rfl, by simpa [flat5] using h, h3, h4, fun _ => 0, fun _ => 0, fun j hj => absurd hj (by simp), fun i j _ hj => absurd hj (by simp)⟩
theorem RowsX.snoc {base hi : Nat} {W w' : World} {v : Value} {rs : List Rw} {xs : List El} {r : Rw} {c cp g cap : Nat} (h : RowsX base hi W v rs xs) (hcb : base ≤ c) (hc1 : hi ≤ c) (hc2 : c < W.heap.size) (hcp : r.2.2.2.2.length ≤ cp) (hl : r.2.2.2.2.length ≤ 1099511627776) (hp : PtsOwn W c r.2.2.2.2)
    (hown : w'.ownsRow base 55 5 (.slice (some ⟨g, 0, none⟩) (rs.length + 1) cap) (rs.length + 1) (flat5 xs ++ ev (elR r c cp))) (hg : W.grownBy w' v.ownBlock) (hat : v.ownBlock = some g ∨ g = W.heap.size) (hlt : g < w'.heap.size) :
    RowsX base w'.heap.size w' (.slice (some ⟨g, 0, none⟩) (rs.length + 1) cap) (rs ++ [r]) (xs ++ [elR r c cp]) := by
  obtain ⟨h1, h2, h3, h4, cf, cpf, h5, h6⟩ := h
  have hgc : ∀ d, d < W.heap.size → v.ownBlock ≠ some d → g ≠ d := by
    intro d hd hne e
    subst e
    rcases hat with q | q
    · exact hne q
    · omega
  have hvc : v.ownBlock ≠ some c := fun e => by have := h3 c e; omega
  have hlr : (rs ++ [r]).length = rs.length + 1 := by simp
  refine ⟨by simp [h1], by rw [flat5_snoc, hlr]; exact hown, fun g' e => by simp [Value.ownBlock] at e; omega, Nat.le_refl _, fun j => if j = rs.length then c else cf j, fun j => if j = rs.length then cp else cpf j, fun j hj => ?_, fun i j hij hj => ?_⟩
  · by_cases e : j = rs.length
    · subst e
      simp only [if_true]
      have er : (rs ++ [r])[rs.length]'(by simp) = r := by simp
      rw [er]
      refine ⟨by rw [← h1]; simp, hcp, hl, hcb, by have := hg.size; omega, by simp only [Value.ownBlock, ne_eq, Option.some.injEq]; exact hgc c hc2 hvc, own_blk hp (hg.block c hc2 (fun e => hvc e.symm)) (by have := hg.size; omega)⟩
    · have hjl : j < rs.length := by simp at hj; omega
      simp only [if_neg e]
      have er : (rs ++ [r])[j]'(by simpa using hj) = rs[j] := by rw [List.getElem_append_left hjl]
      rw [er]
      obtain ⟨a1, a2, a3, a4, a5, a6, a7⟩ := h5 j hjl
      refine ⟨by rw [List.getElem?_append_left (by omega)]; exact a1, a2, a3, a4, by have := hg.size; omega, by simp only [Value.ownBlock, ne_eq, Option.some.injEq]; exact hgc _ (by omega) a6, own_blk a7 (hg.block _ (by omega) (fun e => a6 e.symm)) (by have := hg.size; omega)⟩
  · have hil : i < rs.length := by simp at hj; omega
    simp only [if_neg (show i ≠ rs.length by omega)]
    by_cases e : j = rs.length
    · simp only [if_pos e]
      obtain ⟨_, _, _, _, a5, _⟩ := h5 i hil
      omega
    · simp only [if_neg e]
      exact h6 i j hij (by simp at hj; omega)
/-- A row at a place, with its points' block. -/
def RowC (w : World) (g o : Nat) (r : Rw) (c cp : Nat) : Prop := w.cell? ⟨g, o, none⟩ = some (.int .i64 r.1) ∧ w.cell? ⟨g, o + 1, none⟩ = some (.int .i64 r.2.1) ∧ w.cell? ⟨g, o + 2, none⟩ = some (.int .i64 r.2.2.1) ∧ w.cell? ⟨g, o + 3, none⟩ = some (.int .i64 r.2.2.2.1) ∧ w.cell? ⟨g, o + 4, none⟩ = some (.slice (some ⟨c, 0, none⟩) r.2.2.2.2.length cp) ∧ PtsOwn w c r.2.2.2.2
theorem RowC.at {w : World} {g o : Nat} {r : Rw} {c cp : Nat} (h : RowC w g o r c cp) (h1 : r.2.2.2.2.length ≤ cp) (h2 : r.2.2.2.2.length ≤ 1099511627776) : RwAt (fun _ => True) w g o r := by
  obtain ⟨a0, a1, a2, a3, a4, a5⟩ := h
  exact ⟨_, _, a0, a1, a2, a3, a4, h1, h2, a5.pts, fun _ _ _ => trivial⟩
theorem RowsX.rows {base hi : Nat} {w : World} {v : Value} {rs : List Rw} {xs : List El} (h : RowsX base hi w v rs xs) : (rs = [] ∧ v.ownBlock = none ∧ v = .slice none 0 0) ∨ ∃ g cap, v = .slice (some ⟨g, 0, none⟩) rs.length cap ∧ base ≤ g ∧ g < hi ∧ hi ≤ w.heap.size ∧ rs.length ≤ cap ∧ w.there g 0 (rs.length * 5) ∧ ∃ c cp : Nat → Nat, (∀ j (h : j < rs.length), RowC w g (j * 5) rs[j] (c j) (cp j) ∧ rs[j].2.2.2.2.length ≤ cp j ∧ rs[j].2.2.2.2.length ≤ 1099511627776 ∧ base ≤ c j ∧ c j < hi ∧ c j ≠ g) ∧ (∀ i j, i < j → j < rs.length → c i ≠ c j) := by
  obtain ⟨h1, h2, h3, h4, c, cp, h5, h6⟩ := h
  have h2' := h2
  rcases h2.2 with ⟨q, hn⟩ | ⟨g, cap, cur, rfl, hb, hg, hc, _⟩
  · left
    subst q
    exact ⟨List.length_eq_zero_iff.1 hn, rfl, rfl⟩
  · right
    refine ⟨g, cap, rfl, hb, h3 g rfl, h4, hc, fun j hj => ?_, c, cp, fun j hj => ?_, h6⟩
    · simp only [Nat.zero_add]
      refine ⟨?_, World.ownsRow.frozenAt h2' j⟩
      rw [World.ownsRow.cellAt h2' j hj, List.getElem?_eq_getElem (by rw [flat5_len, h1]; exact hj)]
      rfl
    · obtain ⟨a1, a2, a3, a4, a5, a6, a7⟩ := h5 j hj
      have hjx : j < xs.length := by omega
      have ex : xs[j] = elR rs[j] (c j) (cp j) := by
        rw [List.getElem?_eq_getElem hjx] at a1
        exact Option.some.inj a1
      obtain ⟨f0, f1, f2, f3, f4⟩ := flat5_at xs j hjx
      rw [ex] at f0 f1 f2 f3 f4
      refine ⟨⟨?_, ?_, ?_, ?_, ?_, a7⟩, a2, a3, a4, a5, fun e => a6 (by rw [e]; rfl)⟩
      · rw [World.ownsRow.cellAt h2' _ (by omega)]; exact f0
      · rw [World.ownsRow.cellAt h2' _ (by omega)]; exact f1
      · rw [World.ownsRow.cellAt h2' _ (by omega)]; exact f2
      · rw [World.ownsRow.cellAt h2' _ (by omega)]; exact f3
      · rw [World.ownsRow.cellAt h2' _ (by omega)]; exact f4
theorem RowsX.rws {base hi : Nat} {w : World} {a : Option Addr} {n cap : Nat} {rs : List Rw} {xs : List El} (h : RowsX base hi w (.slice a n cap) rs xs) : Rws (fun _ => True) w a rs := by
  rcases h.rows with ⟨rfl, _⟩ | ⟨g, cp, e, h1, h2, h3, h4, h5, c, cpf, h6, h7⟩
  · exact .inl rfl
  · cases e
    exact .inr ⟨g, 0, rfl, by omega, fun j hj => by
      obtain ⟨a1, a2, a3, _⟩ := h6 j hj
      rw [Nat.zero_add]; exact a1.at a2 a3⟩
def kk (rs : List Rw) (j : Nat) : Int := 1 + ((rs.take j).map (fun r => 4 + 2 * (r.2.2.2.2.length : Int))).sum
end Go.Proofs.YtninciflfolenaaGreat
namespace Go.Proofs.YtninciflfolenaaGreat
open Go.RowKit
set_option linter.unusedSimpArgs false
set_option linter.unusedVariables false
/-- The same in a plain region. -/
theorem wpList_append_any {P : Program} {w : World} {ops : Array Oper} {rest : List Oper} {o : Oper} {a : Act} {Q : Exit → Act → World → Prop} (hgd : o.guard = none) (s x : Operand) (t : TypeId)
    (ho : o.op = .call { callee := .builtin .append, args := #[s, x], argTypes := #[t, t] })
    (base : Nat) (e : TypeId) (i : TypeInfo) (z : Value) (size bytes : Nat) (ht : P.underlying t = some (.slice e)) (hi : P.info? e = some i) (hz : i.zero = some z)
    (hsize : i.size = size) (hby : i.bytes = bytes) (hzs : z.cells.size = size) (hsz : 0 < size)
    (g0 n0 cap0 : Nat) (n : Nat) (xs : List Value) (hs : a.eval s = .slice (some ⟨g0, 0, none⟩) n0 cap0) (hown : w.ownsRow base e size (.slice (some ⟨g0, 0, none⟩) n0 cap0) n xs)
    (ad : Addr) (m c : Nat) (news : List Value) (hx : a.eval x = .slice (some ad) m c) (hl : news.length = m * size) (hnews : ∀ j u, news[j]? = some u → w.cell? (ad.add j) = some u) (h1 : ∀ u ∈ news, u.oneCell' = true)
    (h63 : n + m ≤ maxLen) (hbytes : (n + m) * bytes ≤ 140737488355328) (hbase : base ≤ w.heap.size)
    (h : ∀ g cap w', w'.ownsRow base e size (.slice (some ⟨g, 0, none⟩) (n + m) cap) (n + m) (xs ++ news) → w.grownBy w' (some g0) → (g = g0 ∨ g = w.heap.size) → wpList P ops Q rest (a.put o.dst (.slice (some ⟨g, 0, none⟩) (n + m) cap)) w') : wpList P ops Q (o :: rest) a w := by
  refine wpList_plain hgd fun K hK => ?_
  obtain ⟨v', w', hr, h2, h3, h4, h5⟩ := run_append_own_at (P := P) w base t o.type e i z size bytes ht hi hz hsize hby hzs hsz _ n xs hown ad m c news hl hnews h1 h63 hbytes hbase
  have hne : v' ≠ .slice none 0 0 := fun e => by have := (h4.1 e).1; cases this
  obtain ⟨g, cap, cur, rfl, _⟩ : ∃ g cap cur, v' = .slice (some ⟨g, 0, none⟩) (n + m) cap ∧ cur = () := by
    rcases h2.2 with ⟨q, _⟩ | ⟨g, cap, cur, e, _⟩
    · exact absurd q hne
    · exact ⟨g, cap, (), e, rfl⟩
  unfold Oper.wp execOp
  simp only [ho, resolve, invoke, builtin, Sem.run_bind, Sem.run_pure, Result.andThen_ok, List.map_toArray, List.map_cons, List.map_nil, hs, hx, hr]
  refine hK _ _ (h g cap w' h2 h3 ?_)
  rcases h5 with h5 | h5
  · left; simpa [Value.ownBlock] using h5
  · right; simpa [Value.ownBlock] using h5
set_option maxRecDepth 100000 in
set_option maxHeartbeats 1000000 in
theorem spec_copyG (kd : Int) (b off : Nat) (cap : Nat) (ps : List (Int × Int)) (w : World) (hm : ps.length ≤ 1099511627776) (h : Pts w (some ⟨b, off, none⟩) ps) (hbs : b < w.heap.size) : Calls Tryz.prog 25 #[.agg #[.int .i64 kd, .slice (some ⟨b, off, none⟩) ps.length cap]] w fun e w' => CP w kd ps e w' := by
  obtain ⟨i0, hi0, hz0, hz1, hz2⟩ := info_parts Tryz.infoPC
  have hp : PtsAt w b off ps := by
    rcases h with h | ⟨b', o', e, _, h⟩
    · subst h; intro k hk; simp at hk
    · cases e; exact h
  have hN := fl2_len ps
  have HP := hid hp
  clear hp h
  have hB3 : Below w.heap.size w (((w.alloc (.cells #[.int .i64 kd, .slice (some ⟨b, off, none⟩) ps.length cap] 37)).alloc (.cells #[.int .i64 0, .slice none 0 0] 37)).alloc (.cells #[] 66)) := balloc (balloc (balloc (Below.refl _ _) _) _) _
  have hown := own_new (w := (w.alloc (.cells #[.int .i64 kd, .slice (some ⟨b, off, none⟩) ps.length cap] 37)).alloc (.cells #[.int .i64 0, .slice none 0 0] 37)) (B := w.heap.size + 2) (by simp)
  have gA := old_alloc (o' := .cells #[] 66) (old_alloc (o' := .cells #[.int .i64 0, .slice none 0 0] 37) (new_alloc w w.heap.size (.cells #[.int .i64 kd, .slice (some ⟨b, off, none⟩) ps.length cap] 37) rfl))
  have gB := old_alloc (o' := .cells #[] 66) (new_alloc (w.alloc (.cells #[.int .i64 kd, .slice (some ⟨b, off, none⟩) ps.length cap] 37)) (w.heap.size + 1) (.cells #[.int .i64 0, .slice none 0 0] 37) (by simp))
  have hsz3 : (((w.alloc (.cells #[.int .i64 kd, .slice (some ⟨b, off, none⟩) ps.length cap] 37)).alloc (.cells #[.int .i64 0, .slice none 0 0] 37)).alloc (.cells #[] 66)).heap.size = w.heap.size + 3 := by simp
  have hsz2 : ((w.alloc (.cells #[.int .i64 kd, .slice (some ⟨b, off, none⟩) ps.length cap] 37)).alloc (.cells #[.int .i64 0, .slice none 0 0] 37)).heap.size = w.heap.size + 2 := by simp
  rw [hsz2] at hown
  have HNW := hid (fl2_news (HP.out.below hbs hB3))
  have HOW := hid hown
  have HGA := hid gA
  have HGB := hid gB
  have HB3 := hid hB3
  have HSZ := hid hsz3
  have HF1 := hid (fl2_one ps)
  clear hown gA gB hB3 hsz3 hsz2
  go_enter Tryz.func25, Tryz.ntmps25
  go_wp2_with (at_builtin; (refine wpList_append_any rfl (.tmp 3) (.tmp 5) 35 rfl (w.heap.size + 2) 66 i0 _ 2 16 Tryz.underlying35 hi0 hz0 hz1 hz2 rfl (by decide) (w.heap.size + 2) 0 0 0 [] (by rfl) HOW.out ⟨b, off, none⟩ ps.length cap (fl2 ps) (by rfl) hN HNW.out HF1.out (by unfold maxLen; omega) (by omega) (by rw [HSZ.out]; omega) ?_; intro gg cp w2 hown1 hgrow hat; have gA := grown_blk (p := w.heap.size + 2) hgrow HGA.out (by omega); have gB := grown_blk (p := w.heap.size + 2) hgrow HGB.out (by omega); obtain ⟨a0, a1, f0, f1⟩ := cell2r gA; obtain ⟨b0, b1, e0, e1⟩ := cell2r gB))
  have HO1 := hid (own_pts (ps := ps) (by simpa using hown1) (by omega))
  have HB4 := hid (bgrown (p := w.heap.size + 2) HB3.out hgrow (by omega))
  clear hown1 hgrow
  obtain ⟨h1, h2, h3⟩ := HO1.out
  have gF := set2r (set_far (q := w.heap.size) (k := 1) (u := .slice (some ⟨gg, 0, none⟩) ps.length cp) gB (by omega)) (.int .i64 kd) (.slice (some ⟨gg, 0, none⟩) ps.length cp)
  have bF := bset (bset (bset HB4.out (q := w.heap.size) (k := 1) (Nat.le_refl _) (.slice (some ⟨gg, 0, none⟩) ps.length cp)) (q := w.heap.size + 1) (k := 0) (by omega) (.int .i64 kd)) (q := w.heap.size + 1) (k := 1) (by omega) (.slice (some ⟨gg, 0, none⟩) ps.length cp)
  have oF : PtsOwn (((w2.setCell ⟨w.heap.size, 1, none⟩ (.slice (some ⟨gg, 0, none⟩) ps.length cp)).setCell ⟨w.heap.size + 1, 0, none⟩ (.int .i64 kd)).setCell ⟨w.heap.size + 1, 1, none⟩ (.slice (some ⟨gg, 0, none⟩) ps.length cp)) gg ps := by
    refine own_blk h3 ?_ (by simp; exact h3.1)
    rw [Below.heap_setCell _ _ _ _ (by dsimp only; omega), Below.heap_setCell _ _ _ _ (by dsimp only; omega), Below.heap_setCell _ _ _ _ (by dsimp only; omega)]
  generalize ((w2.setCell ⟨w.heap.size, 1, none⟩ (.slice (some ⟨gg, 0, none⟩) ps.length cp)).setCell ⟨w.heap.size + 1, 0, none⟩ (.int .i64 kd)).setCell ⟨w.heap.size + 1, 1, none⟩ (.slice (some ⟨gg, 0, none⟩) ps.length cp) = wf at *
  obtain ⟨z0, z1, _, _⟩ := cell2r gF
  exact bodyPost_ret (v := .agg #[.int .i64 kd, .slice (some ⟨gg, 0, none⟩) ps.length cp]) (by simp [results, Tryz.results25, go_sem, z0, z1]) rfl ⟨gg, cp, rfl, by omega, by omega, oF, bF⟩
set_option maxRecDepth 100000 in
set_option maxHeartbeats 2000000 in
theorem impl_copyG (kd : Int) (b off : Nat) (cap : Nat) (ps : List (Int × Int)) (w : World) (hm : ps.length ≤ 1099511627776) (h : Pts w (some ⟨b, off, none⟩) ps) (hbs : b < w.heap.size) : Calls Tryz.prog 34 #[.agg #[.int .i64 kd, .slice (some ⟨b, off, none⟩) ps.length cap]] w fun e w' => CP w kd ps e w' := by
  obtain ⟨i0, hi0, hz0, hz1, hz2⟩ := info_parts Tryz.infoPC
  have hp : PtsAt w b off ps := by
    rcases h with h | ⟨b', o', e, _, h⟩
    · subst h; intro k hk; simp at hk
    · cases e; exact h
  have hN := fl2_len ps
  have HP := hid hp
  have HF1 := hid (fl2_one ps)
  clear hp h
  go_enter Tryz.func34, Tryz.ntmps34
  go_upto_region 1 with fail
  have hB : Below w.heap.size w ((w.alloc (.cells #[.int .i64 kd, .slice (some ⟨b, off, none⟩) ps.length cap] 37)).alloc (.cells #[.int .i64 0, .slice none 0 0] 37)) := balloc (balloc (Below.refl _ _) _) _
  have gA := old_alloc (o' := .cells #[.int .i64 0, .slice none 0 0] 37) (new_alloc w w.heap.size (.cells #[.int .i64 kd, .slice (some ⟨b, off, none⟩) ps.length cap] 37) rfl)
  have gB := new_alloc (w.alloc (.cells #[.int .i64 kd, .slice (some ⟨b, off, none⟩) ps.length cap] 37)) (w.heap.size + 1) (.cells #[.int .i64 0, .slice none 0 0] 37) (by simp)
  have hsz : ((w.alloc (.cells #[.int .i64 kd, .slice (some ⟨b, off, none⟩) ps.length cap] 37)).alloc (.cells #[.int .i64 0, .slice none 0 0] 37)).heap.size = w.heap.size + 2 := by simp
  generalize ((w.alloc (.cells #[.int .i64 kd, .slice (some ⟨b, off, none⟩) ps.length cap] 37)).alloc (.cells #[.int .i64 0, .slice none 0 0] 37)) = W at *
  have HNW := hid (fl2_news (HP.out.below hbs (balloc hB (.cells #[] 66))))
  have HOW := hid (own_new (w := W) (B := w.heap.size + 2) (by omega))
  rw [hsz] at HOW
  have HGB := hid (old_alloc (o' := .cells #[] 66) gB)
  have hs3 : (W.alloc (.cells #[] 66)).heap.size = w.heap.size + 3 := by simp [hsz]
  have HB3 := hid (balloc hB (.cells #[] 66))
  obtain ⟨a0, a1, f0, f1⟩ := cell2r gA
  obtain ⟨b0, b1, e0, e1⟩ := cell2r gB
  clear gA gB hB
  go_region_held3 (fun w' => w'.cell? ⟨w.heap.size, 0, none⟩ = some (.int .i64 kd) ∧ w'.cell? ⟨w.heap.size, 1, none⟩ = some (.slice (some ⟨b, off, none⟩) ps.length cap)) ((go_split_ands; (repeat' apply And.intro) <;> (repeat (first | with_reducible assumption | with_reducible refine keepset3 ?_ (by dsimp only; omega) | with_reducible refine keepdrew ?_ | with_reducible refine keepalloc ?_ _ | (refine hgrow.cell ?_ (by simp; try omega))))))
    ((refine step_append_any (by rfl) _ _ _ (by rfl) (w.heap.size + 2) 66 i0 _ 2 16 Tryz.underlying35 hi0 hz0 hz1 hz2 rfl (by omega) (w.heap.size + 2) 0 0 0 [] (by rw [← hsz]; rfl) (HOW.out.drew) ⟨b, off, none⟩ ps.length cap (fl2 ps) (by rfl) hN HNW.out HF1.out (by unfold maxLen; omega) (by omega) (by show _ ≤ (W.alloc (.cells #[] 66)).heap.size; omega) ?_; intro gg cp w2 hown1 hgrow hat; have gB := grown_blk (p := w.heap.size + 2) hgrow HGB.out (by omega); obtain ⟨y0, y1, x0, x1⟩ := cell2r gB))
  have HO1 := hid (own_pts (ps := ps) (by simpa using hown1) (by omega))
  have HB4 := hid (bgrown (p := w.heap.size + 2) (bdrew HB3.out) hgrow (by omega))
  clear hown1 hgrow
  go_wp2_with fail
  obtain ⟨h1, h2, h3⟩ := HO1.out
  have gF := set2r gB (.int .i64 kd) (.slice (some ⟨gg, 0, none⟩) ps.length cp)
  have bF := bset (bset HB4.out (q := w.heap.size + 1) (k := 0) (by omega) (.int .i64 kd)) (q := w.heap.size + 1) (k := 1) (by omega) (.slice (some ⟨gg, 0, none⟩) ps.length cp)
  have oF : PtsOwn ((w2.setCell ⟨w.heap.size + 1, 0, none⟩ (.int .i64 kd)).setCell ⟨w.heap.size + 1, 1, none⟩ (.slice (some ⟨gg, 0, none⟩) ps.length cp)) gg ps := by
    refine own_blk h3 ?_ (by simp; exact h3.1)
    rw [Below.heap_setCell _ _ _ _ (by dsimp only; omega), Below.heap_setCell _ _ _ _ (by dsimp only; omega)]
  generalize (w2.setCell ⟨w.heap.size + 1, 0, none⟩ (.int .i64 kd)).setCell ⟨w.heap.size + 1, 1, none⟩ (.slice (some ⟨gg, 0, none⟩) ps.length cp) = wf at *
  obtain ⟨z0, z1, _, _⟩ := cell2r gF
  exact bodyPost_ret (v := .agg #[.int .i64 kd, .slice (some ⟨gg, 0, none⟩) ps.length cp]) (by simp [results, Tryz.results34, go_sem, z0, z1]) rfl ⟨gg, cp, rfl, by omega, by omega, oF, bF⟩
end Go.Proofs.YtninciflfolenaaGreat
