/- Texts of stores, joined: Zag, Zb, Zc, Zd, Ze, Xm0, Xm3, Xh, Zg. -/
import Derived.Test.YtnajddjalagmoaaGreatDoorC4
import Derived.Test.YtnajddjalagmoaaGreatDoorC1
import Derived.Laws.CopyRow
import Derived.Deep.AppendLies
import Derived.Deep.RegionLaw
import Derived.Test.YtnajddjalagmoaaGreatDoorC3
namespace Go.Proofs.YtnajddjalagmoaaGreatDoor
open Go.RowKit
set_option linter.unusedSimpArgs false
set_option linter.unusedVariables false
/-- A list of changes that the specification answers. -/
def SQ (N : Nat → Prop) (w : World) (xs : List Ch) (e : Ending) (w' : World) : Prop := ∃ g c, e = .returned (.slice (some ⟨g, 0, none⟩) xs.length c) ∧ w.heap.size ≤ g ∧ g < w'.heap.size ∧ xs.length ≤ c ∧ Chs N 1099511627776 w' (some ⟨g, 0, none⟩) xs ∧ Below w.heap.size w w'
theorem sq_mk {N : Nat → Prop} {w w' : World} {tv : Value} {xs ys : List Ch} (h : OI N w (w.heap.size + 1) w' tv xs) (e : xs = ys) (hb : Below w.heap.size w w') : SQ N w ys (.returned tv) w' := by
  subst e
  obtain ⟨g, c, rfl, h1, h2, h3, h4⟩ := h.chs hb
  exact ⟨g, c, rfl, by omega, h2, h3, h4, hb⟩
theorem sl_len {cs : List Ch} {x : Ch} {i : Nat} (hi : i ≤ cs.length) : (sl cs x i).length ≤ i + 1 := by
  by_cases h : i ≤ pl cs x.1
  · rw [sl_le h, List.length_take]; omega
  · by_cases hh : hit cs x.1
    · rw [sl_be1 (by omega) hh]; simp; omega
    · rw [sl_be2 (by omega) hh]; simp; omega
theorem grown_oi {w0 : World} {base : Nat} {w w' : World} {b : Nat} {o : Obj} {r : Option Nat} (g : w.heap[b]? = some o) (hg : w.grownBy w' r) (h : r ≠ some b) : w'.heap[b]? = some o := (hg.block b (lt_of_block g) (fun e => h e.symm)).trans g
def OQ (N : Nat → Prop) (w0 : World) (qs : List (Ch × Value)) (xs : List Ch) : Prop := qs.map Prod.fst = xs ∧ ∀ q ∈ qs, ∃ a cap, q.2 = .slice a q.1.2.2.2.length cap ∧ q.1.2.2.2.length ≤ cap ∧ q.1.2.2.2.length ≤ 1099511627776 ∧ Pts w0 a q.1.2.2.2 ∧ (∀ c off, a = some ⟨c, off, none⟩ → N c)
theorem OQ.snoc {N : Nat → Prop} {w0 : World} {xs : List Ch} {qs : List (Ch × Value)} {x : Ch} {a : Option Addr} {cap : Nat} (h : OQ N w0 qs xs) (hc : x.2.2.2.length ≤ cap) (hm : x.2.2.2.length ≤ 1099511627776) (hp : Pts w0 a x.2.2.2) (hn : ∀ c off, a = some ⟨c, off, none⟩ → N c) : OQ N w0 (qs ++ [(x, .slice a x.2.2.2.length cap)]) (xs ++ [x]) := by
  refine ⟨by rw [List.map_append, h.1]; rfl, fun q hq => ?_⟩
  rcases List.mem_append.1 hq with hq | hq
  · exact h.2 q hq
  · simp at hq; subst hq; exact ⟨a, cap, rfl, hc, hm, hp, hn⟩
theorem oi_mk {N : Nat → Prop} {w0 : World} {base g c n : Nat} {w : World} {xs : List Ch} {qs : List (Ch × Value)} (h : OQ N w0 qs xs) (hn : xs.length = n) (ho : w.ownsRow base 66 4 (.slice (some ⟨g, 0, none⟩) n c) n (flatK KC qs)) : OI N w0 base w (.slice (some ⟨g, 0, none⟩) n c) xs := by
  subst hn
  exact ⟨g, c, qs, rfl, h.1, ho, h.2⟩
set_option maxRecDepth 100000 in
set_option maxHeartbeats 8000000 in
theorem spec_set {N : Nat → Prop} (a : Option Addr) (cap : Nat) (cs : List Ch) (x : Ch) (xa : Option Addr) (xc : Nat) (w : World) (hm : cs.length ≤ 1099511627776) (h : Chs N 1099511627776 w a cs) (hasc : ∀ i j, i < j → j < cs.length → idc cs i < idc cs j) (hxc : x.2.2.2.length ≤ xc) (hxm : x.2.2.2.length ≤ 1099511627776) (hxp : Pts w xa x.2.2.2) (hxN : ∀ c off, xa = some ⟨c, off, none⟩ → N c) : Calls Tryz.prog 25 #[.slice a cs.length cap, .agg #[.int .i64 x.1, .bool x.2.1, .int .i64 x.2.2.1, .slice xa x.2.2.2.length xc]] w fun e w' => SQ N w (putC cs x) e w' := by
  obtain ⟨i0, hi0, hz0, hz1, hz2⟩ := info_parts Tryz.infoCh
  have HR := hid h
  have HPL := hid (pl_Pl (id := x.1) hasc)
  have HAS := hid hasc
  have HSNX : Hid (∀ {xs : List Ch} {qs : List (Ch × Value)}, OQ N w qs xs → OQ N w (qs ++ [(x, .slice xa x.2.2.2.length xc)]) (xs ++ [x])) := hid (fun h => h.snoc hxc hxm hxp hxN)
  have HXV : Hid (∀ (qs : List (Ch × Value)) v, flatK KC (qs ++ [(x, v)]) = flatK KC qs ++ [.int .i64 x.1, .bool x.2.1, .int .i64 x.2.2.1, v]) := hid (fun qs v => flatK_snoc KC qs (x, v))
  have HEND := hid (@sl_end cs x)
  have HLAST := hid (@sl_last cs x)
  have HLEN := hid (fun i (hi : i ≤ cs.length) => @sl_len cs x i hi)
  have HLT := hid (fun i (hi : i < cs.length) h => @sl_lt cs x i hi h)
  have HGT := hid (fun i (hi : i < cs.length) h => @sl_gt cs x i hi h)
  have HHIT := hid (@sl_hit cs x)
  have HNEW := hid (@sl_new cs x)
  have HZ : Hid (sl cs x 0 = []) := hid (by rw [sl_le (Nat.zero_le _)]; rfl)
  have HHD : Hid (hit cs x.1 ↔ pl cs x.1 < cs.length ∧ idc cs (pl cs x.1) = x.1) := hid Iff.rfl
  clear h hasc hxp hxc hxm hxN
  have gB := old_alloc (o' := .cells #[] 66) (new_alloc w w.heap.size (.cells #[.int .i64 x.1, .bool x.2.1, .int .i64 x.2.2.1, .slice xa x.2.2.2.length xc] 66) rfl)
  have hB : Below w.heap.size w ((w.alloc (.cells #[.int .i64 x.1, .bool x.2.1, .int .i64 x.2.2.1, .slice xa x.2.2.2.length xc] 66)).alloc (.cells #[] 66)) := balloc (balloc (Below.refl _ _) _) _
  have hOI : OI N w (w.heap.size + 1) ((w.alloc (.cells #[.int .i64 x.1, .bool x.2.1, .int .i64 x.2.2.1, .slice xa x.2.2.2.length xc] 66)).alloc (.cells #[] 66)) (.slice (some ⟨w.heap.size + 1, 0, none⟩) 0 0) (sl cs x 0) := by
    rw [HZ.out]
    have := World.ownsRow_made (base := w.heap.size + 1) (e := 66) (size := 4) (w.alloc (.cells #[.int .i64 x.1, .bool x.2.1, .int .i64 x.2.2.1, .slice xa x.2.2.2.length xc] 66)) #[] 0 (by simp) (by decide) rfl
    refine ⟨w.heap.size + 1, 0, [], rfl, rfl, ?_, fun q hq => by simp at hq⟩
    simpa [flatK] using this
  have HOI0 := hid hOI
  clear hOI HZ
  generalize putC cs x = F at *
  obtain ⟨id, hid'⟩ : ∃ id, id = x.1 := ⟨_, rfl⟩
  obtain ⟨xg, hxg⟩ : ∃ xg, xg = x.2.1 := ⟨_, rfl⟩
  obtain ⟨xk, hxk⟩ : ∃ xk, xk = x.2.2.1 := ⟨_, rfl⟩
  obtain ⟨xn, hxn⟩ : ∃ xn, xn = x.2.2.2.length := ⟨_, rfl⟩
  have HID := hid hid'
  rw [← hid', ← hxg, ← hxk, ← hxn] at gB hB HOI0 ⊢
  rw [← hxn] at HSNX
  rw [← hid', ← hxg, ← hxk] at HXV
  rw [← hid'] at HPL HHD HHIT HNEW HLT HGT HEND HLAST
  clear hid' hxg hxk hxn
  generalize pl cs id = p at *
  go_enter Tryz.func25, Tryz.ntmps25
  go_upto_region 2 with fail
  generalize (w.alloc (.cells #[.int .i64 id, .bool xg, .int .i64 xk, .slice xa xn xc] 66)).alloc (.cells #[] 66) = W at *
  go_wp2_with fail
  go_loopw [5, 6, 7] (fun t5 t6 ti wr => ∃ (i : Nat) (pb : Bool), ti = .int .i64 i ∧ t6 = .bool pb ∧ i ≤ cs.length ∧ Hid (pb = decide (p < i)) ∧ Hid (OI N w (w.heap.size + 1) wr t5 (sl cs x i)) ∧ Hid (wr.heap[w.heap.size]? = some (.cells #[.int .i64 id, .bool xg, .int .i64 xk, .slice xa xn xc] 66 (0, 0))) ∧ Hid (Below w.heap.size w wr)) (fun _ _ ti _ => cs.length - (intOf ti).toNat)
  case atStart => exact ⟨0, false, rfl, rfl, Nat.zero_le _, hid (by simp), HOI0, hid gB, hid hB⟩
  case round =>
    clear HOI0 gB hB
    obtain ⟨i, pb, rfl, rfl, hi, HPB, HOI, HGB, HB⟩ := hrel
    have gB := HGB.out
    obtain ⟨⟨x0, x1, x2, x3⟩, _⟩ := cellk4 gB
    clear HGB
    have hsl := HLEN.out i hi
    obtain ⟨ln, hln⟩ : ∃ ln, ln = (sl cs x i).length := ⟨_, rfl⟩
    have HLN := hid hln.symm
    have hl1 : ln ≤ i + 1 := by omega
    obtain ⟨g5, c5, qs, e5, hq1, hown, hq3⟩ := HOI.out
    rw [HLN.out] at e5 hown
    subst e5
    have HOWN := hid hown
    have HQ : Hid (OQ N w qs (sl cs x i)) := hid ⟨hq1, hq3⟩
    clear HOI hq1 hq3 hown hln hsl
    by_cases hlt : i < cs.length
    · have d1 : (i : Int) < (cs.length : Int) := by omega
      obtain ⟨bb, o, rfl, hbs, a', cap', k0, k1, k2, k3, k4, k5, k6, k7⟩ := HR.out.at i hlt
      have KW0 := hid k0
      have KW1 := hid k1
      have KW2 := hid k2
      have KW3 := hid k3
      replace k0 := keepcell HB.out k0
      replace k1 := keepcell HB.out k1
      replace k2 := keepcell HB.out k2
      replace k3 := keepcell HB.out k3
      have HSNC : Hid (∀ {xs : List Ch} {qs : List (Ch × Value)}, OQ N w qs xs → OQ N w (qs ++ [(cs[i], .slice a' cs[i].2.2.2.length cap')]) (xs ++ [cs[i]])) := hid (fun h => h.snoc k4 k5 k6 k7)
      have HCV : Hid (∀ (qs : List (Ch × Value)) v, flatK KC (qs ++ [(cs[i], v)]) = flatK KC qs ++ [.int .i64 cs[i].1, .bool cs[i].2.1, .int .i64 cs[i].2.2.1, v]) := hid (fun qs v => flatK_snoc KC qs (cs[i], v))
      have hci : idc cs i = cs[i].1 := idc_at hlt
      have HLTi := hid (HLT.out i hlt)
      have HGTi := hid (HGT.out i hlt)
      have HNEWi : Hid (i = p → ¬ hit cs id → sl cs x (i + 1) = sl cs x i ++ [x] ++ [cs[i]]) := hid (fun e hn => by subst e; exact HNEW.out hlt hn)
      have HHITi : Hid (i = p → hit cs id → sl cs x (i + 1) = sl cs x i ++ [x]) := hid (fun e hn => by subst e; exact HHIT.out hn)
      have HHDi : Hid (i = p → (hit cs id ↔ cs[i].1 = id)) := hid (fun e => by
        rw [HHD.out, ← e, hci]
        exact ⟨fun q => q.2, fun q => ⟨hlt, q⟩⟩)
      have HL1 : Hid (i < p → cs[i].1 < id) := hid (fun q => by have := HPL.out.2.1 i q; rw [hci] at this; exact this)
      have HL2 : Hid (i = p → id ≤ cs[i].1) := hid (fun q => by have := HPL.out.2.2 i (by omega) hlt; rw [hci] at this; exact this)
      have HL3 : Hid (p < i → id < cs[i].1) := hid (fun q => by
        have h1 := HPL.out.2.2 p (Nat.le_refl _) (by omega)
        have h2 := HAS.out p i q hlt
        rw [hci] at h2; omega)
      clear k4 k5 k6 k7 hci
      generalize cs[i] = ce at *
      obtain ⟨ci, gn, kd, inn⟩ := ce
      simp only at k0 k1 k2 k3 HSNC HCV HHDi HL1 HL2 HL3 KW0 KW1 KW2 KW3
      generalize inn.length = np at *
      obtain ⟨S0, hS0⟩ : ∃ S0, S0 = sl cs x i := ⟨_, rfl⟩
      obtain ⟨S1, hS1⟩ : ∃ S1, S1 = sl cs x (i + 1) := ⟨_, rfl⟩
      have HS1 := hid hS1.symm
      rw [← hS0] at HLN HQ HLTi HGTi HNEWi HHITi
      rw [← hS1] at HLTi HGTi HNEWi HHITi
      clear hS0 hS1
      rcases Nat.lt_trichotomy i p with hip | hip | hip
      · have e1 := HL1.out hip
        have e2 : ¬ (id ≤ ci) := by omega
        have e3 : ¬ (ci = id) := by omega
        have hpb : pb = false := by rw [HPB.out]; simp; omega
        have HPB2 : Hid (false = decide (p < i + 1)) := hid (by simp; omega)
        have HSE := hid (HLTi.out hip)
        clear HL1 HL2 HL3 HHDi HHITi HNEWi HLTi HGTi HPB
        subst hpb
        go_upto_region 6 with fail
        refine wp_region_held_drew (S := (fun w' => w'.cell? ⟨bb, o + i * 4, none⟩ = some (.int .i64 ci) ∧ w'.cell? ⟨w.heap.size, 0, none⟩ = some (.int .i64 id))) (by kernel_rfl) ?_ (fun hHeld => ?_)
        · (repeat' apply And.intro) <;> (repeat (first | with_reducible assumption | with_reducible refine keepdrew ?_ | with_reducible refine keepcell (by with_reducible assumption) ?_ | with_reducible refine keepalloc ?_ _))
        replace gB : wr.drew.heap[w.heap.size]? = _ := gB
        replace HOWN : Hid (wr.drew.ownsRow (w.heap.size + 1) 66 4 (.slice (some ⟨g5, 0, none⟩) ln c5) ln (flatK KC qs)) := hid HOWN.out
        replace HB := hid (bdrew HB.out)
        replace k0 : wr.drew.cell? _ = _ := k0
        replace k1 : wr.drew.cell? _ = _ := k1
        replace k2 : wr.drew.cell? _ = _ := k2
        replace k3 : wr.drew.cell? _ = _ := k3
        replace x0 : wr.drew.cell? _ = _ := x0
        replace x1 : wr.drew.cell? _ = _ := x1
        replace x2 : wr.drew.cell? _ = _ := x2
        replace x3 : wr.drew.cell? _ = _ := x3
        generalize wr.drew = Z1 at *
        refine wpAnyH_take (i := 0) (v := ?_) rfl (by kernel_rfl) (by kernel_rfl) (by kernel_rfl) (fun _ _ _ h => h) (Or.inl ⟨by rfl, ?_⟩) hHeld ?_
        rotate_left
        · intro w hSw; (try dsimp only at hSw); go_simp; try (with_reducible rfl)
        try simp only [sq]
        refine wpAnyH_take (i := 1) (v := ?_) rfl (by kernel_rfl) (by kernel_rfl) (by kernel_rfl) (fun _ _ _ h => h) (Or.inl ⟨by rfl, ?_⟩) hHeld ?_
        rotate_left
        · intro w hSw; (try dsimp only at hSw); go_simp; try (with_reducible rfl)
        try simp only [sq]
        refine wpAnyH_take (i := 2) (v := ?_) rfl (by kernel_rfl) (by kernel_rfl) (by kernel_rfl) (fun _ _ _ h => h) (Or.inl ⟨by rfl, ?_⟩) hHeld ?_
        rotate_left
        · intro w hSw; (try dsimp only at hSw); go_simp; try (with_reducible rfl)
        try simp only [sq]
        refine wpAnyH_take (i := 3) (v := ?_) rfl (by kernel_rfl) (by kernel_rfl) (by kernel_rfl) (fun _ _ _ h => h) (Or.inl ⟨by rfl, ?_⟩) hHeld ?_
        rotate_left
        · intro w hSw; (try dsimp only at hSw); go_simp; try (with_reducible rfl)
        try simp only [sq]
        refine wpAnyH_take (i := 4) (v := ?_) rfl (by kernel_rfl) (by kernel_rfl) (by kernel_rfl) (fun _ _ _ h => h) (Or.inl ⟨by rfl, ?_⟩) hHeld ?_
        rotate_left
        · intro w hSw; (try dsimp only at hSw); go_simp; try (with_reducible rfl)
        try simp only [sq]
        refine wpAnyH_take (i := 5) (v := ?_) rfl (by kernel_rfl) (by kernel_rfl) (by kernel_rfl) (fun _ _ _ h => h) (Or.inl ⟨by rfl, ?_⟩) hHeld ?_
        rotate_left
        · intro w hSw; (try dsimp only at hSw); go_simp; try (with_reducible rfl)
        try simp only [sq]
        refine wpAnyH_take (i := 6) (v := ?_) rfl (by kernel_rfl) (by kernel_rfl) (by kernel_rfl) (fun _ _ _ h => h) (Or.inl ⟨by rfl, ?_⟩) hHeld ?_
        rotate_left
        · intro w hSw; (try dsimp only at hSw); go_simp; try (with_reducible rfl)
        try simp only [sq]
        refine wpAnyH_take (i := 7) (v := ?_) rfl (by kernel_rfl) (by kernel_rfl) (by kernel_rfl) (fun _ _ _ h => h) (Or.inl ⟨by rfl, ?_⟩) hHeld ?_
        rotate_left
        · intro w hSw; (try dsimp only at hSw); go_simp; try (with_reducible rfl)
        try simp only [sq]
        refine wpAnyH_take (i := 8) (v := ?_) rfl (by kernel_rfl) (by kernel_rfl) (by kernel_rfl) (fun _ _ _ h => h) (Or.inl ⟨by rfl, ?_⟩) hHeld ?_
        rotate_left
        · intro w hSw; (try dsimp only at hSw); go_simp; try (with_reducible rfl)
        try simp only [sq]
        refine wpAnyH_take (i := 9) (v := ?_) rfl (by kernel_rfl) (by kernel_rfl) (by kernel_rfl) (fun _ _ _ h => h) (Or.inl ⟨by rfl, ?_⟩) hHeld ?_
        rotate_left
        · intro w hSw; (try dsimp only at hSw); go_simp; try (with_reducible rfl)
        try simp only [sq]
        refine wpAnyH_take (i := 10) (v := ?_) rfl (by kernel_rfl) (by kernel_rfl) (by kernel_rfl) (fun _ _ _ h => h) (Or.inl ⟨by rfl, ?_⟩) hHeld ?_
        rotate_left
        · intro w hSw; (try dsimp only at hSw); go_simp; try (with_reducible rfl)
        try simp only [sq]
        refine wpAnyH_take (i := 11) (v := ?_) rfl (by kernel_rfl) (by kernel_rfl) (by kernel_rfl) (fun _ _ _ h => h) (Or.inl ⟨by rfl, ?_⟩) hHeld ?_
        rotate_left
        · intro w hSw; (try dsimp only at hSw); go_simp; try (with_reducible rfl)
        try simp only [sq]
        refine wpAnyH_done (by kernel_rfl) ?_ _
        clear hHeld
        go_wp2_with fail
        refine wp_region_held_drew (S := (fun w' => w'.cell? ⟨bb, o + i * 4, none⟩ = some (.int .i64 ci) ∧ w'.cell? ⟨w.heap.size, 0, none⟩ = some (.int .i64 id))) (by kernel_rfl) ?_ (fun hHeld => ?_)
        · (repeat' apply And.intro) <;> (repeat (first | with_reducible assumption | with_reducible refine keepdrew ?_ | with_reducible refine keepcell (by with_reducible assumption) ?_ | with_reducible refine keepalloc ?_ _))
        replace gB : Z1.drew.heap[w.heap.size]? = _ := gB
        replace HOWN : Hid (Z1.drew.ownsRow (w.heap.size + 1) 66 4 (.slice (some ⟨g5, 0, none⟩) ln c5) ln (flatK KC qs)) := hid HOWN.out
        replace HB := hid (bdrew HB.out)
        replace k0 : Z1.drew.cell? _ = _ := k0
        replace k1 : Z1.drew.cell? _ = _ := k1
        replace k2 : Z1.drew.cell? _ = _ := k2
        replace k3 : Z1.drew.cell? _ = _ := k3
        replace x0 : Z1.drew.cell? _ = _ := x0
        replace x1 : Z1.drew.cell? _ = _ := x1
        replace x2 : Z1.drew.cell? _ = _ := x2
        replace x3 : Z1.drew.cell? _ = _ := x3
        generalize Z1.drew = Z2 at *
        refine wpAnyH_take (i := 0) (v := ?_) rfl (by kernel_rfl) (by kernel_rfl) (by kernel_rfl) (fun _ _ _ h => h) (Or.inl ⟨by rfl, ?_⟩) hHeld ?_
        rotate_left
        · intro w hSw; (try dsimp only at hSw); go_simp; try (with_reducible rfl)
        try simp only [sq]
        refine wpAnyH_take (i := 1) (v := ?_) rfl (by kernel_rfl) (by kernel_rfl) (by kernel_rfl) (fun _ _ _ h => h) (Or.inl ⟨by rfl, ?_⟩) hHeld ?_
        rotate_left
        · intro w hSw; (try dsimp only at hSw); go_simp; try (with_reducible rfl)
        try simp only [sq]
        refine wpAnyH_take (i := 2) (v := ?_) rfl (by kernel_rfl) (by kernel_rfl) (by kernel_rfl) (fun _ _ _ h => h) (Or.inl ⟨by rfl, ?_⟩) hHeld ?_
        rotate_left
        · intro w hSw; (try dsimp only at hSw); go_simp; try (with_reducible rfl)
        try simp only [sq]
        refine wpAnyH_take (i := 3) (v := ?_) rfl (by kernel_rfl) (by kernel_rfl) (by kernel_rfl) (fun _ _ _ h => h) (Or.inl ⟨by rfl, ?_⟩) hHeld ?_
        rotate_left
        · intro w hSw; (try dsimp only at hSw); go_simp; try (with_reducible rfl)
        try simp only [sq]
        refine wpAnyH_take (i := 4) (v := ?_) rfl (by kernel_rfl) (by kernel_rfl) (by kernel_rfl) (fun _ _ _ h => h) (Or.inl ⟨by rfl, ?_⟩) hHeld ?_
        rotate_left
        · intro w hSw; (try dsimp only at hSw); go_simp; try (with_reducible rfl)
        try simp only [sq]
        refine wpAnyH_take (i := 5) (v := ?_) rfl (by kernel_rfl) (by kernel_rfl) (by kernel_rfl) (fun _ _ _ h => h) (Or.inl ⟨by rfl, ?_⟩) hHeld ?_
        rotate_left
        · intro w hSw; (try dsimp only at hSw); go_simp; try (with_reducible rfl)
        try simp only [sq]
        refine wpAnyH_take (i := 6) (v := ?_) rfl (by kernel_rfl) (by kernel_rfl) (by kernel_rfl) (fun _ _ _ h => h) (Or.inl ⟨by rfl, ?_⟩) hHeld ?_
        rotate_left
        · intro w hSw; (try dsimp only at hSw); go_simp; try (with_reducible rfl)
        try simp only [sq]
        refine wpAnyH_take (i := 7) (v := ?_) rfl (by kernel_rfl) (by kernel_rfl) (by kernel_rfl) (fun _ _ _ h => h) (Or.inl ⟨by rfl, ?_⟩) hHeld ?_
        rotate_left
        · intro w hSw; (try dsimp only at hSw); go_simp; try (with_reducible rfl)
        try simp only [sq]
        refine wpAnyH_done (by kernel_rfl) ?_ _
        clear hHeld
        have hwY := HB.out.size
        have hbY := lt_of_block gB
        have hown := HOWN.out
        go_wp2_with (at_builtin; (refine wpList_append_lies _ rfl (.tmp 39) (.tmp 44) 60 rfl (w.heap.size + 1) 66 i0 _ 4 48 Tryz.underlying60 hi0 hz0 hz1 hz2 rfl (by decide) (.slice (some ⟨g5, 0, none⟩) (ln) c5) (ln) (flatK KC qs) rfl (hown.alloc _) ⟨Z2.heap.size, 0, none⟩ 1 1 [.int .i64 ci, .bool gn, .int .i64 kd, .slice a' np cap'] rfl rfl (World.news_of_block (cs := #[.int .i64 ci, .bool gn, .int .i64 kd, .slice a' np cap']) (t := 66) (fr := (0, 0)) (heap_alloc_new Z2 _)) (by simp [Value.oneCell']) (by omega) (by unfold maxLen; omega) (by omega) (by simp; omega) (Z2.heap.size + 1) (by simp) ?_; intro gg cq w2 hown2 hgrow hat hlt2))
        go_roundw
        case rel =>
          refine ⟨i + 1, _, by go_num, rfl, by omega, HPB2, hid ?_, hid ?_, hid ?_⟩
          · rw [HS1.out, HSE.out]
            exact oi_mk (HSNC.out HQ.out) (by rw [List.length_append, HLN.out]; rfl) (by rw [HCV.out]; exact hown2)
          · exact grown_oi (w0 := w) (base := 0) (old_alloc gB) hgrow (fun e => by have := (hown.lt _ e).1; omega)
          · exact Below.grown (balloc HB.out _) hgrow (by simp; omega) (fun k e => by have := (hown.lt k e).1; omega)
        case measure => simp [intOf]; omega
      · have e2 := HL2.out hip
        have hpb : pb = false := by rw [HPB.out]; simp; omega
        have HPB2 : Hid (true = decide (p < i + 1)) := hid (by simp; omega)
        have HHI := hid (HHITi.out hip)
        have HNE := hid (HNEWi.out hip)
        have HDI := hid (HHDi.out hip)
        clear hip
        clear HL1 HL2 HL3 HHDi HHITi HNEWi HLTi HGTi HPB
        subst hpb
        go_upto_region 6 with fail
        refine wp_region_held_drew (S := (fun w' => w'.cell? ⟨bb, o + i * 4, none⟩ = some (.int .i64 ci) ∧ w'.cell? ⟨w.heap.size, 0, none⟩ = some (.int .i64 id))) (by kernel_rfl) ?_ (fun hHeld => ?_)
        · (repeat' apply And.intro) <;> (repeat (first | with_reducible assumption | with_reducible refine keepdrew ?_ | with_reducible refine keepcell (by with_reducible assumption) ?_ | with_reducible refine keepalloc ?_ _))
        replace gB : wr.drew.heap[w.heap.size]? = _ := gB
        replace HOWN : Hid (wr.drew.ownsRow (w.heap.size + 1) 66 4 (.slice (some ⟨g5, 0, none⟩) ln c5) ln (flatK KC qs)) := hid HOWN.out
        replace HB := hid (bdrew HB.out)
        replace k0 : wr.drew.cell? _ = _ := k0
        replace k1 : wr.drew.cell? _ = _ := k1
        replace k2 : wr.drew.cell? _ = _ := k2
        replace k3 : wr.drew.cell? _ = _ := k3
        replace x0 : wr.drew.cell? _ = _ := x0
        replace x1 : wr.drew.cell? _ = _ := x1
        replace x2 : wr.drew.cell? _ = _ := x2
        replace x3 : wr.drew.cell? _ = _ := x3
        generalize wr.drew = Z1 at *
        refine wpAnyH_take (i := 0) (v := ?_) rfl (by kernel_rfl) (by kernel_rfl) (by kernel_rfl) (fun _ _ _ h => h) (Or.inl ⟨by rfl, ?_⟩) hHeld ?_
        rotate_left
        · intro w hSw; (try dsimp only at hSw); go_simp; try (with_reducible rfl)
        try simp only [sq]
        refine wpAnyH_take (i := 1) (v := ?_) rfl (by kernel_rfl) (by kernel_rfl) (by kernel_rfl) (fun _ _ _ h => h) (Or.inl ⟨by rfl, ?_⟩) hHeld ?_
        rotate_left
        · intro w hSw; (try dsimp only at hSw); go_simp; try (with_reducible rfl)
        try simp only [sq]
        refine wpAnyH_take (i := 2) (v := ?_) rfl (by kernel_rfl) (by kernel_rfl) (by kernel_rfl) (fun _ _ _ h => h) (Or.inl ⟨by rfl, ?_⟩) hHeld ?_
        rotate_left
        · intro w hSw; (try dsimp only at hSw); go_simp; try (with_reducible rfl)
        try simp only [sq]
        refine wpAnyH_take (i := 3) (v := ?_) rfl (by kernel_rfl) (by kernel_rfl) (by kernel_rfl) (fun _ _ _ h => h) (Or.inl ⟨by rfl, ?_⟩) hHeld ?_
        rotate_left
        · intro w hSw; (try dsimp only at hSw); go_simp; try (with_reducible rfl)
        try simp only [sq]
        refine wpAnyH_take (i := 4) (v := ?_) rfl (by kernel_rfl) (by kernel_rfl) (by kernel_rfl) (fun _ _ _ h => h) (Or.inl ⟨by rfl, ?_⟩) hHeld ?_
        rotate_left
        · intro w hSw; (try dsimp only at hSw); go_simp; try (with_reducible rfl)
        try simp only [sq]
        refine wpAnyH_take (i := 5) (v := ?_) rfl (by kernel_rfl) (by kernel_rfl) (by kernel_rfl) (fun _ _ _ h => h) (Or.inl ⟨by rfl, ?_⟩) hHeld ?_
        rotate_left
        · intro w hSw; (try dsimp only at hSw); go_simp; try (with_reducible rfl)
        try simp only [sq]
        refine wpAnyH_take (i := 6) (v := ?_) rfl (by kernel_rfl) (by kernel_rfl) (by kernel_rfl) (fun _ _ _ h => h) (Or.inl ⟨by rfl, ?_⟩) hHeld ?_
        rotate_left
        · intro w hSw; (try dsimp only at hSw); go_simp; try (with_reducible rfl)
        try simp only [sq]
        refine wpAnyH_take (i := 7) (v := ?_) rfl (by kernel_rfl) (by kernel_rfl) (by kernel_rfl) (fun _ _ _ h => h) (Or.inl ⟨by rfl, ?_⟩) hHeld ?_
        rotate_left
        · intro w hSw; (try dsimp only at hSw); go_simp; try (with_reducible rfl)
        try simp only [sq]
        refine wpAnyH_take (i := 8) (v := ?_) rfl (by kernel_rfl) (by kernel_rfl) (by kernel_rfl) (fun _ _ _ h => h) (Or.inl ⟨by rfl, ?_⟩) hHeld ?_
        rotate_left
        · intro w hSw; (try dsimp only at hSw); go_simp; try (with_reducible rfl)
        try simp only [sq]
        refine wpAnyH_take (i := 9) (v := ?_) rfl (by kernel_rfl) (by kernel_rfl) (by kernel_rfl) (fun _ _ _ h => h) (Or.inl ⟨by rfl, ?_⟩) hHeld ?_
        rotate_left
        · intro w hSw; (try dsimp only at hSw); go_simp; try (with_reducible rfl)
        try simp only [sq]
        refine wpAnyH_take (i := 10) (v := ?_) rfl (by kernel_rfl) (by kernel_rfl) (by kernel_rfl) (fun _ _ _ h => h) (Or.inl ⟨by rfl, ?_⟩) hHeld ?_
        rotate_left
        · intro w hSw; (try dsimp only at hSw); go_simp; try (with_reducible rfl)
        try simp only [sq]
        refine wpAnyH_take (i := 11) (v := ?_) rfl (by kernel_rfl) (by kernel_rfl) (by kernel_rfl) (fun _ _ _ h => h) (Or.inl ⟨by rfl, ?_⟩) hHeld ?_
        rotate_left
        · intro w hSw; (try dsimp only at hSw); go_simp; try (with_reducible rfl)
        try simp only [sq]
        refine wpAnyH_done (by kernel_rfl) ?_ _
        clear hHeld
        have hwY := HB.out.size
        have hbY := lt_of_block gB
        have hown := HOWN.out
        go_wp2_with (at_builtin; (refine wpList_append_lies _ rfl (.tmp 27) (.tmp 29) 60 rfl (w.heap.size + 1) 66 i0 _ 4 48 Tryz.underlying60 hi0 hz0 hz1 hz2 rfl (by decide) (.slice (some ⟨g5, 0, none⟩) (ln) c5) (ln) (flatK KC qs) rfl (hown.alloc _) ⟨Z1.heap.size, 0, none⟩ 1 1 [.int .i64 id, .bool xg, .int .i64 xk, .slice xa xn xc] rfl rfl (World.news_of_block (cs := #[.int .i64 id, .bool xg, .int .i64 xk, .slice xa xn xc]) (t := 66) (fr := (0, 0)) (heap_alloc_new Z1 _)) (by simp [Value.oneCell']) (by omega) (by unfold maxLen; omega) (by omega) (by simp; omega) (Z1.heap.size + 1) (by simp) ?_; intro gg cq V1 hown2 hgrow hat hlt2))
        have hB1 : Below w.heap.size w V1 := Below.grown (balloc HB.out _) hgrow (by simp; omega) (fun k e => by have := (hown.lt k e).1; omega)
        replace gB : V1.heap[w.heap.size]? = _ := grown_oi (w0 := w) (base := 0) (old_alloc gB) hgrow (fun e => by have := (hown.lt _ e).1; omega)
        clear k0 k1 k2 k3 x0 x1 x2 x3
        have k0 := keepcell hB1 KW0.out
        have k1 := keepcell hB1 KW1.out
        have k2 := keepcell hB1 KW2.out
        have k3 := keepcell hB1 KW3.out
        obtain ⟨⟨x0, x1, x2, x3⟩, _⟩ := cellk4 gB
        have HOWN : Hid (V1.ownsRow (w.heap.size + 1) 66 4 (.slice (some ⟨gg, 0, none⟩) (ln + 1) cq) (ln + 1) (flatK KC qs ++ [.int .i64 id, .bool xg, .int .i64 xk, .slice xa xn xc])) := hid hown2
        have HB := hid hB1
        clear hown hown2 hgrow hat hlt2 hB1 hwY hbY
        by_cases heq : ci = id
        · have hhit : hit cs id := HDI.out.2 heq
          have HSE := hid (HHI.out hhit)
          clear HHI HNE HDI hhit
          subst heq
          go_upto_region 9 with fail
          refine wp_region_held_drew (S := (fun w' => w'.cell? ⟨bb, o + i * 4, none⟩ = some (.int .i64 ci) ∧ w'.cell? ⟨w.heap.size, 0, none⟩ = some (.int .i64 ci))) (by kernel_rfl) ?_ (fun hHeld => ?_)
          · (repeat' apply And.intro) <;> (repeat (first | with_reducible assumption | with_reducible refine keepdrew ?_ | with_reducible refine keepcell (by with_reducible assumption) ?_ | with_reducible refine keepalloc ?_ _))
          replace gB : V1.drew.heap[w.heap.size]? = _ := gB
          replace HOWN : Hid (V1.drew.ownsRow (w.heap.size + 1) 66 4 (.slice (some ⟨gg, 0, none⟩) (ln + 1) cq) (ln + 1) (flatK KC qs ++ [.int .i64 ci, .bool xg, .int .i64 xk, .slice xa xn xc])) := hid HOWN.out
          replace HB := hid (bdrew HB.out)
          replace k0 : V1.drew.cell? _ = _ := k0
          replace k1 : V1.drew.cell? _ = _ := k1
          replace k2 : V1.drew.cell? _ = _ := k2
          replace k3 : V1.drew.cell? _ = _ := k3
          replace x0 : V1.drew.cell? _ = _ := x0
          replace x1 : V1.drew.cell? _ = _ := x1
          replace x2 : V1.drew.cell? _ = _ := x2
          replace x3 : V1.drew.cell? _ = _ := x3
          generalize V1.drew = Z2 at *
          refine wpAnyH_take (i := 0) (v := ?_) rfl (by kernel_rfl) (by kernel_rfl) (by kernel_rfl) (fun _ _ _ h => h) (Or.inl ⟨by rfl, ?_⟩) hHeld ?_
          rotate_left
          · intro w hSw; (try dsimp only at hSw); go_simp; try (with_reducible rfl)
          try simp only [sq]
          refine wpAnyH_take (i := 1) (v := ?_) rfl (by kernel_rfl) (by kernel_rfl) (by kernel_rfl) (fun _ _ _ h => h) (Or.inl ⟨by rfl, ?_⟩) hHeld ?_
          rotate_left
          · intro w hSw; (try dsimp only at hSw); go_simp; try (with_reducible rfl)
          try simp only [sq]
          refine wpAnyH_take (i := 2) (v := ?_) rfl (by kernel_rfl) (by kernel_rfl) (by kernel_rfl) (fun _ _ _ h => h) (Or.inl ⟨by rfl, ?_⟩) hHeld ?_
          rotate_left
          · intro w hSw; (try dsimp only at hSw); go_simp; try (with_reducible rfl)
          try simp only [sq]
          refine wpAnyH_take (i := 3) (v := ?_) rfl (by kernel_rfl) (by kernel_rfl) (by kernel_rfl) (fun _ _ _ h => h) (Or.inl ⟨by rfl, ?_⟩) hHeld ?_
          rotate_left
          · intro w hSw; (try dsimp only at hSw); go_simp; try (with_reducible rfl)
          try simp only [sq]
          refine wpAnyH_take (i := 4) (v := ?_) rfl (by kernel_rfl) (by kernel_rfl) (by kernel_rfl) (fun _ _ _ h => h) (Or.inl ⟨by rfl, ?_⟩) hHeld ?_
          rotate_left
          · intro w hSw; (try dsimp only at hSw); go_simp; try (with_reducible rfl)
          try simp only [sq]
          refine wpAnyH_take (i := 5) (v := ?_) rfl (by kernel_rfl) (by kernel_rfl) (by kernel_rfl) (fun _ _ _ h => h) (Or.inl ⟨by rfl, ?_⟩) hHeld ?_
          rotate_left
          · intro w hSw; (try dsimp only at hSw); go_simp; try (with_reducible rfl)
          try simp only [sq]
          refine wpAnyH_take (i := 6) (v := ?_) rfl (by kernel_rfl) (by kernel_rfl) (by kernel_rfl) (fun _ _ _ h => h) (Or.inl ⟨by rfl, ?_⟩) hHeld ?_
          rotate_left
          · intro w hSw; (try dsimp only at hSw); go_simp; try (with_reducible rfl)
          try simp only [sq]
          refine wpAnyH_take (i := 7) (v := ?_) rfl (by kernel_rfl) (by kernel_rfl) (by kernel_rfl) (fun _ _ _ h => h) (Or.inl ⟨by rfl, ?_⟩) hHeld ?_
          rotate_left
          · intro w hSw; (try dsimp only at hSw); go_simp; try (with_reducible rfl)
          try simp only [sq]
          refine wpAnyH_done (by kernel_rfl) ?_ _
          clear hHeld
          go_wp2_with fail
          go_roundw
          case rel =>
            refine ⟨i + 1, _, by go_num, rfl, by omega, HPB2, hid ?_, hid gB, HB⟩
            rw [HS1.out, HSE.out]
            exact oi_mk (HSNX.out HQ.out) (by rw [List.length_append, HLN.out]; rfl) (by rw [HXV.out]; exact HOWN.out)
          case measure => simp [intOf]; omega
        · have hhit : ¬ hit cs id := fun q => heq (HDI.out.1 q)
          have HSE := hid (HNE.out hhit)
          clear HHI HNE HDI hhit
          go_upto_region 9 with fail
          refine wp_region_held_drew (S := (fun w' => w'.cell? ⟨bb, o + i * 4, none⟩ = some (.int .i64 ci) ∧ w'.cell? ⟨w.heap.size, 0, none⟩ = some (.int .i64 id))) (by kernel_rfl) ?_ (fun hHeld => ?_)
          · (repeat' apply And.intro) <;> (repeat (first | with_reducible assumption | with_reducible refine keepdrew ?_ | with_reducible refine keepcell (by with_reducible assumption) ?_ | with_reducible refine keepalloc ?_ _))
          replace gB : V1.drew.heap[w.heap.size]? = _ := gB
          replace HOWN : Hid (V1.drew.ownsRow (w.heap.size + 1) 66 4 (.slice (some ⟨gg, 0, none⟩) (ln + 1) cq) (ln + 1) (flatK KC qs ++ [.int .i64 id, .bool xg, .int .i64 xk, .slice xa xn xc])) := hid HOWN.out
          replace HB := hid (bdrew HB.out)
          replace k0 : V1.drew.cell? _ = _ := k0
          replace k1 : V1.drew.cell? _ = _ := k1
          replace k2 : V1.drew.cell? _ = _ := k2
          replace k3 : V1.drew.cell? _ = _ := k3
          replace x0 : V1.drew.cell? _ = _ := x0
          replace x1 : V1.drew.cell? _ = _ := x1
          replace x2 : V1.drew.cell? _ = _ := x2
          replace x3 : V1.drew.cell? _ = _ := x3
          generalize V1.drew = Z2 at *
          refine wpAnyH_take (i := 0) (v := ?_) rfl (by kernel_rfl) (by kernel_rfl) (by kernel_rfl) (fun _ _ _ h => h) (Or.inl ⟨by rfl, ?_⟩) hHeld ?_
          rotate_left
          · intro w hSw; (try dsimp only at hSw); go_simp; try (with_reducible rfl)
          try simp only [sq]
          refine wpAnyH_take (i := 1) (v := ?_) rfl (by kernel_rfl) (by kernel_rfl) (by kernel_rfl) (fun _ _ _ h => h) (Or.inl ⟨by rfl, ?_⟩) hHeld ?_
          rotate_left
          · intro w hSw; (try dsimp only at hSw); go_simp; try (with_reducible rfl)
          try simp only [sq]
          refine wpAnyH_take (i := 2) (v := ?_) rfl (by kernel_rfl) (by kernel_rfl) (by kernel_rfl) (fun _ _ _ h => h) (Or.inl ⟨by rfl, ?_⟩) hHeld ?_
          rotate_left
          · intro w hSw; (try dsimp only at hSw); go_simp; try (with_reducible rfl)
          try simp only [sq]
          refine wpAnyH_take (i := 3) (v := ?_) rfl (by kernel_rfl) (by kernel_rfl) (by kernel_rfl) (fun _ _ _ h => h) (Or.inl ⟨by rfl, ?_⟩) hHeld ?_
          rotate_left
          · intro w hSw; (try dsimp only at hSw); go_simp; try (with_reducible rfl)
          try simp only [sq]
          refine wpAnyH_take (i := 4) (v := ?_) rfl (by kernel_rfl) (by kernel_rfl) (by kernel_rfl) (fun _ _ _ h => h) (Or.inl ⟨by rfl, ?_⟩) hHeld ?_
          rotate_left
          · intro w hSw; (try dsimp only at hSw); go_simp; try (with_reducible rfl)
          try simp only [sq]
          refine wpAnyH_take (i := 5) (v := ?_) rfl (by kernel_rfl) (by kernel_rfl) (by kernel_rfl) (fun _ _ _ h => h) (Or.inl ⟨by rfl, ?_⟩) hHeld ?_
          rotate_left
          · intro w hSw; (try dsimp only at hSw); go_simp; try (with_reducible rfl)
          try simp only [sq]
          refine wpAnyH_take (i := 6) (v := ?_) rfl (by kernel_rfl) (by kernel_rfl) (by kernel_rfl) (fun _ _ _ h => h) (Or.inl ⟨by rfl, ?_⟩) hHeld ?_
          rotate_left
          · intro w hSw; (try dsimp only at hSw); go_simp; try (with_reducible rfl)
          try simp only [sq]
          refine wpAnyH_take (i := 7) (v := ?_) rfl (by kernel_rfl) (by kernel_rfl) (by kernel_rfl) (fun _ _ _ h => h) (Or.inl ⟨by rfl, ?_⟩) hHeld ?_
          rotate_left
          · intro w hSw; (try dsimp only at hSw); go_simp; try (with_reducible rfl)
          try simp only [sq]
          refine wpAnyH_done (by kernel_rfl) ?_ _
          clear hHeld
          have hwY := HB.out.size
          have hbY := lt_of_block gB
          have hown := HOWN.out
          go_wp2_with (at_builtin; (refine wpList_append_lies _ rfl (.tmp 39) (.tmp 44) 60 rfl (w.heap.size + 1) 66 i0 _ 4 48 Tryz.underlying60 hi0 hz0 hz1 hz2 rfl (by decide) (.slice (some ⟨gg, 0, none⟩) (ln + 1) cq) (ln + 1) (flatK KC qs ++ [.int .i64 id, .bool xg, .int .i64 xk, .slice xa xn xc]) rfl (hown.alloc _) ⟨Z2.heap.size, 0, none⟩ 1 1 [.int .i64 ci, .bool gn, .int .i64 kd, .slice a' np cap'] rfl rfl (World.news_of_block (cs := #[.int .i64 ci, .bool gn, .int .i64 kd, .slice a' np cap']) (t := 66) (fr := (0, 0)) (heap_alloc_new Z2 _)) (by simp [Value.oneCell']) (by omega) (by unfold maxLen; omega) (by omega) (by simp; omega) (Z2.heap.size + 1) (by simp) ?_; intro gg2 cq2 w2 hown2 hgrow hat hlt2))
          go_roundw
          case rel =>
            refine ⟨i + 1, _, by go_num, rfl, by omega, HPB2, hid ?_, hid ?_, hid ?_⟩
            · rw [HS1.out, HSE.out]
              exact oi_mk (HSNC.out (HSNX.out HQ.out)) (by simp [HLN.out]) (by rw [HCV.out, HXV.out]; exact hown2)
            · exact grown_oi (w0 := w) (base := 0) (old_alloc gB) hgrow (fun e => by have := (hown.lt _ e).1; omega)
            · exact Below.grown (balloc HB.out _) hgrow (by simp; omega) (fun k e => by have := (hown.lt k e).1; omega)
          case measure => simp [intOf]; omega
      · have e1 := HL3.out hip
        have e3 : ¬ (ci = id) := by omega
        have hpb : pb = true := by rw [HPB.out]; simp; omega
        have HPB2 : Hid (true = decide (p < i + 1)) := hid (by simp; omega)
        have HSE := hid (HGTi.out hip)
        clear HL1 HL2 HL3 HHDi HHITi HNEWi HLTi HGTi HPB
        subst hpb
        go_upto_region 6 with fail
        refine wp_region_held_drew (S := (fun w' => w'.cell? ⟨bb, o + i * 4, none⟩ = some (.int .i64 ci) ∧ w'.cell? ⟨w.heap.size, 0, none⟩ = some (.int .i64 id))) (by kernel_rfl) ?_ (fun hHeld => ?_)
        · (repeat' apply And.intro) <;> (repeat (first | with_reducible assumption | with_reducible refine keepdrew ?_ | with_reducible refine keepcell (by with_reducible assumption) ?_ | with_reducible refine keepalloc ?_ _))
        replace gB : wr.drew.heap[w.heap.size]? = _ := gB
        replace HOWN : Hid (wr.drew.ownsRow (w.heap.size + 1) 66 4 (.slice (some ⟨g5, 0, none⟩) ln c5) ln (flatK KC qs)) := hid HOWN.out
        replace HB := hid (bdrew HB.out)
        replace k0 : wr.drew.cell? _ = _ := k0
        replace k1 : wr.drew.cell? _ = _ := k1
        replace k2 : wr.drew.cell? _ = _ := k2
        replace k3 : wr.drew.cell? _ = _ := k3
        replace x0 : wr.drew.cell? _ = _ := x0
        replace x1 : wr.drew.cell? _ = _ := x1
        replace x2 : wr.drew.cell? _ = _ := x2
        replace x3 : wr.drew.cell? _ = _ := x3
        generalize wr.drew = Z1 at *
        refine wpAnyH_take (i := 0) (v := ?_) rfl (by kernel_rfl) (by kernel_rfl) (by kernel_rfl) (fun _ _ _ h => h) (Or.inl ⟨by rfl, ?_⟩) hHeld ?_
        rotate_left
        · intro w hSw; (try dsimp only at hSw); go_simp; try (with_reducible rfl)
        try simp only [sq]
        refine wpAnyH_take (i := 1) (v := ?_) rfl (by kernel_rfl) (by kernel_rfl) (by kernel_rfl) (fun _ _ _ h => h) (Or.inl ⟨by rfl, ?_⟩) hHeld ?_
        rotate_left
        · intro w hSw; (try dsimp only at hSw); go_simp; try (with_reducible rfl)
        try simp only [sq]
        refine wpAnyH_take (i := 2) (v := ?_) rfl (by kernel_rfl) (by kernel_rfl) (by kernel_rfl) (fun _ _ _ h => h) (Or.inl ⟨by rfl, ?_⟩) hHeld ?_
        rotate_left
        · intro w hSw; (try dsimp only at hSw); go_simp; try (with_reducible rfl)
        try simp only [sq]
        refine wpAnyH_take (i := 3) (v := undef) rfl (by kernel_rfl) (by kernel_rfl) (by kernel_rfl) (fun _ _ _ h => h) (Or.inr ⟨by rfl, rfl⟩) hHeld ?_
        try simp only [sq]
        refine wpAnyH_take (i := 4) (v := undef) rfl (by kernel_rfl) (by kernel_rfl) (by kernel_rfl) (fun _ _ _ h => h) (Or.inr ⟨by rfl, rfl⟩) hHeld ?_
        try simp only [sq]
        refine wpAnyH_take (i := 5) (v := undef) rfl (by kernel_rfl) (by kernel_rfl) (by kernel_rfl) (fun _ _ _ h => h) (Or.inr ⟨by rfl, rfl⟩) hHeld ?_
        try simp only [sq]
        refine wpAnyH_take (i := 6) (v := undef) rfl (by kernel_rfl) (by kernel_rfl) (by kernel_rfl) (fun _ _ _ h => h) (Or.inr ⟨by rfl, rfl⟩) hHeld ?_
        try simp only [sq]
        refine wpAnyH_take (i := 7) (v := undef) rfl (by kernel_rfl) (by kernel_rfl) (by kernel_rfl) (fun _ _ _ h => h) (Or.inr ⟨by rfl, rfl⟩) hHeld ?_
        try simp only [sq]
        refine wpAnyH_take (i := 8) (v := undef) rfl (by kernel_rfl) (by kernel_rfl) (by kernel_rfl) (fun _ _ _ h => h) (Or.inr ⟨by rfl, rfl⟩) hHeld ?_
        try simp only [sq]
        refine wpAnyH_take (i := 9) (v := undef) rfl (by kernel_rfl) (by kernel_rfl) (by kernel_rfl) (fun _ _ _ h => h) (Or.inr ⟨by rfl, rfl⟩) hHeld ?_
        try simp only [sq]
        refine wpAnyH_take (i := 10) (v := undef) rfl (by kernel_rfl) (by kernel_rfl) (by kernel_rfl) (fun _ _ _ h => h) (Or.inr ⟨by rfl, rfl⟩) hHeld ?_
        try simp only [sq]
        refine wpAnyH_take (i := 11) (v := ?_) rfl (by kernel_rfl) (by kernel_rfl) (by kernel_rfl) (fun _ _ _ h => h) (Or.inl ⟨by rfl, ?_⟩) hHeld ?_
        rotate_left
        · intro w hSw; (try dsimp only at hSw); go_simp; try (with_reducible rfl)
        try simp only [sq]
        refine wpAnyH_done (by kernel_rfl) ?_ _
        clear hHeld
        go_wp2_with fail
        refine wp_region_held_drew (S := (fun w' => w'.cell? ⟨bb, o + i * 4, none⟩ = some (.int .i64 ci) ∧ w'.cell? ⟨w.heap.size, 0, none⟩ = some (.int .i64 id))) (by kernel_rfl) ?_ (fun hHeld => ?_)
        · (repeat' apply And.intro) <;> (repeat (first | with_reducible assumption | with_reducible refine keepdrew ?_ | with_reducible refine keepcell (by with_reducible assumption) ?_ | with_reducible refine keepalloc ?_ _))
        replace gB : Z1.drew.heap[w.heap.size]? = _ := gB
        replace HOWN : Hid (Z1.drew.ownsRow (w.heap.size + 1) 66 4 (.slice (some ⟨g5, 0, none⟩) ln c5) ln (flatK KC qs)) := hid HOWN.out
        replace HB := hid (bdrew HB.out)
        replace k0 : Z1.drew.cell? _ = _ := k0
        replace k1 : Z1.drew.cell? _ = _ := k1
        replace k2 : Z1.drew.cell? _ = _ := k2
        replace k3 : Z1.drew.cell? _ = _ := k3
        replace x0 : Z1.drew.cell? _ = _ := x0
        replace x1 : Z1.drew.cell? _ = _ := x1
        replace x2 : Z1.drew.cell? _ = _ := x2
        replace x3 : Z1.drew.cell? _ = _ := x3
        generalize Z1.drew = Z2 at *
        refine wpAnyH_take (i := 0) (v := ?_) rfl (by kernel_rfl) (by kernel_rfl) (by kernel_rfl) (fun _ _ _ h => h) (Or.inl ⟨by rfl, ?_⟩) hHeld ?_
        rotate_left
        · intro w hSw; (try dsimp only at hSw); go_simp; try (with_reducible rfl)
        try simp only [sq]
        refine wpAnyH_take (i := 1) (v := ?_) rfl (by kernel_rfl) (by kernel_rfl) (by kernel_rfl) (fun _ _ _ h => h) (Or.inl ⟨by rfl, ?_⟩) hHeld ?_
        rotate_left
        · intro w hSw; (try dsimp only at hSw); go_simp; try (with_reducible rfl)
        try simp only [sq]
        refine wpAnyH_take (i := 2) (v := ?_) rfl (by kernel_rfl) (by kernel_rfl) (by kernel_rfl) (fun _ _ _ h => h) (Or.inl ⟨by rfl, ?_⟩) hHeld ?_
        rotate_left
        · intro w hSw; (try dsimp only at hSw); go_simp; try (with_reducible rfl)
        try simp only [sq]
        refine wpAnyH_take (i := 3) (v := ?_) rfl (by kernel_rfl) (by kernel_rfl) (by kernel_rfl) (fun _ _ _ h => h) (Or.inl ⟨by rfl, ?_⟩) hHeld ?_
        rotate_left
        · intro w hSw; (try dsimp only at hSw); go_simp; try (with_reducible rfl)
        try simp only [sq]
        refine wpAnyH_take (i := 4) (v := ?_) rfl (by kernel_rfl) (by kernel_rfl) (by kernel_rfl) (fun _ _ _ h => h) (Or.inl ⟨by rfl, ?_⟩) hHeld ?_
        rotate_left
        · intro w hSw; (try dsimp only at hSw); go_simp; try (with_reducible rfl)
        try simp only [sq]
        refine wpAnyH_take (i := 5) (v := ?_) rfl (by kernel_rfl) (by kernel_rfl) (by kernel_rfl) (fun _ _ _ h => h) (Or.inl ⟨by rfl, ?_⟩) hHeld ?_
        rotate_left
        · intro w hSw; (try dsimp only at hSw); go_simp; try (with_reducible rfl)
        try simp only [sq]
        refine wpAnyH_take (i := 6) (v := ?_) rfl (by kernel_rfl) (by kernel_rfl) (by kernel_rfl) (fun _ _ _ h => h) (Or.inl ⟨by rfl, ?_⟩) hHeld ?_
        rotate_left
        · intro w hSw; (try dsimp only at hSw); go_simp; try (with_reducible rfl)
        try simp only [sq]
        refine wpAnyH_take (i := 7) (v := ?_) rfl (by kernel_rfl) (by kernel_rfl) (by kernel_rfl) (fun _ _ _ h => h) (Or.inl ⟨by rfl, ?_⟩) hHeld ?_
        rotate_left
        · intro w hSw; (try dsimp only at hSw); go_simp; try (with_reducible rfl)
        try simp only [sq]
        refine wpAnyH_done (by kernel_rfl) ?_ _
        clear hHeld
        have hwY := HB.out.size
        have hbY := lt_of_block gB
        have hown := HOWN.out
        go_wp2_with (at_builtin; (refine wpList_append_lies _ rfl (.tmp 39) (.tmp 44) 60 rfl (w.heap.size + 1) 66 i0 _ 4 48 Tryz.underlying60 hi0 hz0 hz1 hz2 rfl (by decide) (.slice (some ⟨g5, 0, none⟩) (ln) c5) (ln) (flatK KC qs) rfl (hown.alloc _) ⟨Z2.heap.size, 0, none⟩ 1 1 [.int .i64 ci, .bool gn, .int .i64 kd, .slice a' np cap'] rfl rfl (World.news_of_block (cs := #[.int .i64 ci, .bool gn, .int .i64 kd, .slice a' np cap']) (t := 66) (fr := (0, 0)) (heap_alloc_new Z2 _)) (by simp [Value.oneCell']) (by omega) (by unfold maxLen; omega) (by omega) (by simp; omega) (Z2.heap.size + 1) (by simp) ?_; intro gg cq w2 hown2 hgrow hat hlt2))
        go_roundw
        case rel =>
          refine ⟨i + 1, _, by go_num, rfl, by omega, HPB2, hid ?_, hid ?_, hid ?_⟩
          · rw [HS1.out, HSE.out]
            exact oi_mk (HSNC.out HQ.out) (by rw [List.length_append, HLN.out]; rfl) (by rw [HCV.out]; exact hown2)
          · exact grown_oi (w0 := w) (base := 0) (old_alloc gB) hgrow (fun e => by have := (hown.lt _ e).1; omega)
          · exact Below.grown (balloc HB.out _) hgrow (by simp; omega) (fun k e => by have := (hown.lt k e).1; omega)
        case measure => simp [intOf]; omega
    · have d1 : (cs.length : Int) ≤ (i : Int) := by omega
      have hin : i = cs.length := by omega
      by_cases hp : p < cs.length
      · have hpb : pb = true := by rw [HPB.out]; simp; omega
        have HF : Hid (sl cs x i = F) := hid (by rw [hin]; exact HEND.out hp)
        clear hin HPB
        subst hpb
        go_wp2_with fail
        go_ret
        exact sq_mk (oi_mk HQ.out HLN.out HOWN.out) HF.out HB.out
      · have hpn : p = cs.length := by have := HPL.out.1; omega
        have hpb : pb = false := by rw [HPB.out]; simp; omega
        have HF : Hid (sl cs x i ++ [x] = F) := hid (by rw [hin]; exact HLAST.out hpn)
        clear hin HPB hpn hp
        subst hpb
        have hwY := HB.out.size
        have hbY := lt_of_block gB
        have hown := HOWN.out
        go_wp2_with (at_builtin; (refine wpList_append_lies _ rfl (.tmp 48) (.tmp 50) 60 rfl (w.heap.size + 1) 66 i0 _ 4 48 Tryz.underlying60 hi0 hz0 hz1 hz2 rfl (by decide) (.slice (some ⟨g5, 0, none⟩) (ln) c5) (ln) (flatK KC qs) rfl (hown.alloc _) ⟨wr.heap.size, 0, none⟩ 1 1 [.int .i64 id, .bool xg, .int .i64 xk, .slice xa xn xc] rfl rfl (World.news_of_block (cs := #[.int .i64 id, .bool xg, .int .i64 xk, .slice xa xn xc]) (t := 66) (fr := (0, 0)) (heap_alloc_new wr _)) (by simp [Value.oneCell']) (by omega) (by unfold maxLen; omega) (by omega) (by simp; omega) (wr.heap.size + 1) (by simp) ?_; intro gg cq w2 hown2 hgrow hat hlt2))
        go_ret
        exact sq_mk (oi_mk (HSNX.out HQ.out) (by rw [List.length_append, HLN.out]; rfl) (by rw [HXV.out]; exact hown2)) HF.out (Below.grown (balloc HB.out _) hgrow (by simp; omega) (fun k e => by have := (hown.lt k e).1; omega))
end Go.Proofs.YtnajddjalagmoaaGreatDoor
namespace Go.Proofs.YtnajddjalagmoaaGreatDoor
open Go.RowKit
set_option linter.unusedSimpArgs false
set_option linter.unusedVariables false
theorem run_copy_any {P : Program} (w : World) (dT sT ty elem : TypeId) (size n : Nat) (g o dLen dCap : Nat) (a : Addr) (sLen sCap : Nat) (cur : Array Value) (t : TypeId) (cs : List Value)
    (hu : P.underlying dT = some (.slice elem)) (hs : (P.info? elem).map (·.size) = some size)
    (hg : w.heap[g]? = some (.cells cur t (0, 0))) (hm : Nat.min sLen dLen = n) (hn : cs.length = n * size)
    (hsrc : ∀ j v, cs[j]? = some v → w.cell? (a.add j) = some v) (hfit : o + cs.length ≤ cur.size) (h1 : ∀ v ∈ cs, v.oneCell' = true) :
    (Builtin.copy_ #[dT, sT] ty #[.slice (some ⟨g, o, none⟩) dLen dCap, .slice (some a) sLen sCap]).run P w =
      .ok (goInt n) (w.setRow g (cur.toList.take o ++ cs ++ cur.toList.drop (o + cs.length)).toArray) := by
  have hl := run_loadCells_list (P := P) w a cs hsrc
  have hst := run_storeCells_at P g o t cs 0 cur w hg (by simpa using hfit) h1
  cases hq : P.info? elem with
  | none => simp [hq] at hs
  | some i =>
    have hi : i.size = size := by simpa [hq] using hs
    simp [Builtin.copy_, run_underlying hu, Builtin.lenOf, Builtin.firstCells, sizeOf, typeInfo, hq, hi, hm, ← hn, hl, hst]
theorem wp_copy_any {P : Program} {w : World} {o : Oper} {a : Act} {K : Act → World → Prop} {Q : Exit → Act → World → Prop} (d s : Operand) (dT sT : TypeId)
    (ho : o.op = .call { callee := .builtin .copy, args := #[d, s], argTypes := #[dT, sT] }) (elem : TypeId) (hu : P.underlying dT = some (.slice elem)) (size n : Nat) (hsz : (P.info? elem).map (·.size) = some size)
    (g off dLen dCap : Nat) (ad : Addr) (sLen sCap : Nat) (hd : a.eval d = .slice (some ⟨g, off, none⟩) dLen dCap) (hs : a.eval s = .slice (some ad) sLen sCap)
    (cur : Array Value) (t : TypeId) (hg : w.heap[g]? = some (.cells cur t (0, 0))) (cs : List Value) (hm : Nat.min sLen dLen = n) (hn : cs.length = n * size)
    (hsrc : ∀ j v, cs[j]? = some v → w.cell? (ad.add j) = some v) (hfit : off + cs.length ≤ cur.size) (h1 : ∀ v ∈ cs, v.oneCell' = true)
    (h : K (a.put o.dst (goInt n)) (w.setRow g (cur.toList.take off ++ cs ++ cur.toList.drop (off + cs.length)).toArray)) : o.wp P a w K Q := by
  have hrun := run_copy_any (P := P) w dT sT o.type elem size n g off dLen dCap ad sLen sCap cur t cs hu hsz hg hm hn hsrc hfit h1
  unfold Oper.wp execOp
  simp only [ho, resolve, invoke, builtin, Sem.run_bind, Sem.run_pure, Result.andThen_ok, List.map_toArray, List.map_cons, List.map_nil, hd, hs, hrun]
  exact h
theorem wpList_copy_any {P : Program} {w : World} {ops : Array Oper} {rest : List Oper} {o : Oper} {a : Act} {Q : Exit → Act → World → Prop} (hgd : o.guard = none) (d s : Operand) (dT sT : TypeId)
    (ho : o.op = .call { callee := .builtin .copy, args := #[d, s], argTypes := #[dT, sT] }) (elem : TypeId) (hu : P.underlying dT = some (.slice elem)) (size n : Nat) (hsz : (P.info? elem).map (·.size) = some size)
    (g off dLen dCap : Nat) (ad : Addr) (sLen sCap : Nat) (hd : a.eval d = .slice (some ⟨g, off, none⟩) dLen dCap) (hs : a.eval s = .slice (some ad) sLen sCap)
    (cur : Array Value) (t : TypeId) (hg : w.heap[g]? = some (.cells cur t (0, 0))) (cs : List Value) (hm : Nat.min sLen dLen = n) (hn : cs.length = n * size)
    (hsrc : ∀ j v, cs[j]? = some v → w.cell? (ad.add j) = some v) (hfit : off + cs.length ≤ cur.size) (h1 : ∀ v ∈ cs, v.oneCell' = true)
    (h : wpList P ops Q rest (a.put o.dst (goInt n)) (w.setRow g (cur.toList.take off ++ cs ++ cur.toList.drop (off + cs.length)).toArray)) : wpList P ops Q (o :: rest) a w :=
  wpList_plain hgd fun _ hK => wp_copy_any d s dT sT ho elem hu size n hsz g off dLen dCap ad sLen sCap hd hs cur t hg cs hm hn hsrc hfit h1 (hK _ _ h)
theorem step_copy_any {P : Program} {ops : Array Oper} {o : Oper} {a : Act} {w : World} {K : Act → World → Prop} {Q : Exit → Act → World → Prop} {E : Prop} (hgd : o.guard = none) (d s : Operand) (dT sT : TypeId)
    (ho : o.op = .call { callee := .builtin .copy, args := #[d, s], argTypes := #[dT, sT] }) (elem : TypeId) (hu : P.underlying dT = some (.slice elem)) (size n : Nat) (hsz : (P.info? elem).map (·.size) = some size)
    (g off dLen dCap : Nat) (ad : Addr) (sLen sCap : Nat) (hd : a.eval d = .slice (some ⟨g, off, none⟩) dLen dCap) (hs : a.eval s = .slice (some ad) sLen sCap)
    (cur : Array Value) (t : TypeId) (hg : w.heap[g]? = some (.cells cur t (0, 0))) (cs : List Value) (hm : Nat.min sLen dLen = n) (hn : cs.length = n * size)
    (hsrc : ∀ j v, cs[j]? = some v → w.cell? (ad.add j) = some v) (hfit : off + cs.length ≤ cur.size) (h1 : ∀ v ∈ cs, v.oneCell' = true)
    (h : K (a.put o.dst (goInt n)) (w.setRow g (cur.toList.take off ++ cs ++ cur.toList.drop (off + cs.length)).toArray)) :
    if Region.wanted o (yielded ops a.tmps) = true then Oper.wp P o a w K Q else E := by
  have hw : Region.wanted o (yielded ops a.tmps) = true := by simp [Region.wanted, hgd]
  rw [if_pos hw]
  exact wp_copy_any d s dT sT ho elem hu size n hsz g off dLen dCap ad sLen sCap hd hs cur t hg cs hm hn hsrc hfit h1 h
theorem grown_row {w : World} {g : Nat} (cs : Array Value) : w.grownBy (w.setRow g cs) (some g) :=
  ⟨rfl, rfl, rfl, by simp [World.setRow], fun k _ hk => setRow_other w g k cs (fun e => hk (by rw [e]))⟩
end Go.Proofs.YtnajddjalagmoaaGreatDoor
namespace Go.Proofs.YtnajddjalagmoaaGreatDoor
open Go.RowKit
set_option linter.unusedSimpArgs false
set_option linter.unusedVariables false
theorem wpList_copy_row {P : Program} {w : World} {ops : Array Oper} {rest : List Oper} {o : Oper} {a : Act} {Q : Exit → Act → World → Prop} (hgd : o.guard = none) (d s : Operand) (dT sT : TypeId)
    (ho : o.op = .call { callee := .builtin .copy, args := #[d, s], argTypes := #[dT, sT] }) (elem : TypeId) (hu : P.underlying dT = some (.slice elem)) (size n : Nat) (hsz : (P.info? elem).map (·.size) = some size)
    (g off dLen dCap : Nat) (ad : Addr) (sLen sCap : Nat) (hd : a.eval d = .slice (some ⟨g, off, none⟩) dLen dCap) (hs : a.eval s = .slice (some ad) sLen sCap)
    (cur : Array Value) (t : TypeId) (hg : w.heap[g]? = some (.cells cur t (0, 0))) (cs : List Value) (hm : Nat.min sLen dLen = n) (hn : cs.length = n * size)
    (hsrc : ∀ j v, cs[j]? = some v → w.cell? (ad.add j) = some v) (hfit : off + cs.length ≤ cur.size) (h1 : ∀ v ∈ cs, v.oneCell' = true)
    (new : Array Value) (hnew : (cur.toList.take off ++ cs ++ cur.toList.drop (off + cs.length)).toArray = new)
    (h : ∀ w', Hid (w'.heap[g]? = some (.cells new t (0, 0))) → Hid (w.grownBy w' (some g)) → wpList P ops Q rest (a.put o.dst (goInt n)) w') : wpList P ops Q (o :: rest) a w := by
  subst hnew
  exact wpList_copy_any hgd d s dT sT ho elem hu size n hsz g off dLen dCap ad sLen sCap hd hs cur t hg cs hm hn hsrc hfit h1 (h _ (hid (setRow_heap w g cur _ t _ hg)) (hid (grown_row _)))
theorem step_copy_row {P : Program} {ops : Array Oper} {o : Oper} {a : Act} {w : World} {K : Act → World → Prop} {Q : Exit → Act → World → Prop} {E : Prop} (hgd : o.guard = none) (d s : Operand) (dT sT : TypeId)
    (ho : o.op = .call { callee := .builtin .copy, args := #[d, s], argTypes := #[dT, sT] }) (elem : TypeId) (hu : P.underlying dT = some (.slice elem)) (size n : Nat) (hsz : (P.info? elem).map (·.size) = some size)
    (g off dLen dCap : Nat) (ad : Addr) (sLen sCap : Nat) (hd : a.eval d = .slice (some ⟨g, off, none⟩) dLen dCap) (hs : a.eval s = .slice (some ad) sLen sCap)
    (cur : Array Value) (t : TypeId) (hg : w.heap[g]? = some (.cells cur t (0, 0))) (cs : List Value) (hm : Nat.min sLen dLen = n) (hn : cs.length = n * size)
    (hsrc : ∀ j v, cs[j]? = some v → w.cell? (ad.add j) = some v) (hfit : off + cs.length ≤ cur.size) (h1 : ∀ v ∈ cs, v.oneCell' = true)
    (new : Array Value) (hnew : (cur.toList.take off ++ cs ++ cur.toList.drop (off + cs.length)).toArray = new)
    (h : ∀ w', Hid (w'.heap[g]? = some (.cells new t (0, 0))) → Hid (w.grownBy w' (some g)) → K (a.put o.dst (goInt n)) w') :
    if Region.wanted o (yielded ops a.tmps) = true then Oper.wp P o a w K Q else E := by
  subst hnew
  exact step_copy_any hgd d s dT sT ho elem hu size n hsz g off dLen dCap ad sLen sCap hd hs cur t hg cs hm hn hsrc hfit h1 (h _ (hid (setRow_heap w g cur _ t _ hg)) (hid (grown_row _)))
end Go.Proofs.YtnajddjalagmoaaGreatDoor
namespace Go.Proofs.YtnajddjalagmoaaGreatDoor
open Go.RowKit
set_option linter.unusedSimpArgs false
set_option linter.unusedVariables false
theorem flatK_set {α : Type} (K : Kd α) (q : α × Value) : ∀ (ps : List (α × Value)) (i : Nat), i < ps.length → flatK K (ps.set i q) = (flatK K ps).take (i * K.sz) ++ K.vals q.1 q.2 ++ (flatK K ps).drop (i * K.sz + K.sz)
  | [], i, h => absurd h (by simp)
  | p :: ps, 0, _ => by
    simp only [flatK, List.set_cons_zero, List.flatMap_cons, Nat.zero_mul, List.take_zero, List.nil_append, Nat.zero_add]
    have h := K.len p.1 p.2
    rw [← h, List.drop_left]
  | p :: ps, i + 1, h => by
    have ih := flatK_set K q ps i (by simpa using h)
    have hl := K.len p.1 p.2
    simp only [flatK, List.set_cons_succ, List.flatMap_cons] at ih ⊢
    rw [ih, show (i + 1) * K.sz = K.sz + i * K.sz by rw [Nat.succ_mul]; omega]
    rw [← hl, List.take_length_add_append, show (K.vals p.1 p.2).length + i * (K.vals p.1 p.2).length + (K.vals p.1 p.2).length = (K.vals p.1 p.2).length + (i * (K.vals p.1 p.2).length + (K.vals p.1 p.2).length) by omega, List.drop_length_add_append]
    simp only [List.append_assoc]
end Go.Proofs.YtnajddjalagmoaaGreatDoor
namespace Go.Proofs.YtnajddjalagmoaaGreatDoor
open Go.RowKit
set_option linter.unusedSimpArgs false
set_option linter.unusedVariables false
theorem flatK_one {α : Type} {K : Kd α} {t : TypeId} {base hi : Nat} {w : World} {v : Value} {xs : List α} {ps : List (α × Value)} (h : LX K t base hi w v xs ps) : ∀ u ∈ flatK K ps, u.oneCell' = true := by
  obtain ⟨h1, h2, h3, h4, lo, up, h5, h6⟩ := h
  intro u hu
  unfold flatK at hu
  rw [List.mem_flatMap] at hu
  obtain ⟨q, hq, hu⟩ := hu
  obtain ⟨j, hj, rfl⟩ := List.getElem_of_mem hq
  exact K.one (h5 j hj).1 u hu
end Go.Proofs.YtnajddjalagmoaaGreatDoor
namespace Go.Proofs.YtnajddjalagmoaaGreatDoor
open Go.RowKit
set_option linter.unusedSimpArgs false
set_option linter.unusedVariables false
def kcn (xs : List Ch) : Int := (xs.map (fun r => 3 + 2 * (r.2.2.2.length : Int))).sum
def kkc (k0 : Int) (xs : List Ch) (j : Nat) : Int := k0 + kcn (xs.take j)
theorem kkc_next {k0 : Int} {xs : List Ch} {j : Nat} (h : j < xs.length) : kkc k0 xs (j + 1) = kkc k0 xs j + 3 + 2 * (xs[j].2.2.2.length : Int) := by
  unfold kkc kcn
  rw [List.take_add_one, List.getElem?_eq_getElem h, List.map_append, List.sum_append]
  simp only [Option.toList, List.map_cons, List.map_nil, List.sum_cons, List.sum_nil]
  omega
theorem kkc_bound {k0 : Int} {xs : List Ch} (hl : ∀ m (h : m < xs.length), xs[m].2.2.2.length ≤ 1048576) : ∀ j, j ≤ xs.length → k0 ≤ kkc k0 xs j ∧ kkc k0 xs j ≤ k0 + (j : Int) * 2097155 := by
  intro j
  induction j with
  | zero => intro _; simp [kkc, kcn]
  | succ j ih =>
    intro hj
    obtain ⟨h1, h2⟩ := ih (by omega)
    have h3 := hl j (by omega)
    rw [kkc_next (by omega)]
    constructor <;> omega
def mke (k : Int) (r : Ch) : Ch := (k, ((k + 1) % 3 == 0), k + 2, tkk (k + 3) r.2.2.2.length)
def mkc (k0 : Int) (xs : List Ch) : List Ch := xs.mapIdx (fun j r => mke (kkc k0 xs j) r)
theorem mkc_len (k0 : Int) (xs : List Ch) : (mkc k0 xs).length = xs.length := by simp [mkc]
theorem mkc_at {k0 : Int} {xs : List Ch} {j : Nat} (h : j < xs.length) : (mkc k0 xs)[j]'(by rw [mkc_len]; exact h) = mke (kkc k0 xs j) xs[j] := by simp [mkc]
def ktn (ts : List Tx) : Int := (ts.map (fun r => 2 + kcn r.2.2)).sum
def kkt (k0 : Int) (ts : List Tx) (j : Nat) : Int := k0 + ktn (ts.take j)
theorem kkt_next {k0 : Int} {ts : List Tx} {j : Nat} (h : j < ts.length) : kkt k0 ts (j + 1) = kkc (kkt k0 ts j + 2) ts[j].2.2 ts[j].2.2.length := by
  unfold kkt ktn kkc
  rw [List.take_add_one, List.getElem?_eq_getElem h, List.map_append, List.sum_append, List.take_length]
  simp only [Option.toList, List.map_cons, List.map_nil, List.sum_cons, List.sum_nil]
  omega
theorem kkt_bound {k0 : Int} {ts : List Tx} (hl : ∀ m (h : m < ts.length), chS ts[m].2.2) : ∀ j, j ≤ ts.length → k0 ≤ kkt k0 ts j ∧ kkt k0 ts j ≤ k0 + (j : Int) * 2199026401282 := by
  intro j
  induction j with
  | zero => intro _; simp [kkt, ktn]
  | succ j ih =>
    intro hj
    obtain ⟨h1, h2⟩ := ih (by omega)
    have h3 := hl j (by omega)
    obtain ⟨h4, h5⟩ := kkc_bound (k0 := kkt k0 ts j + 2) h3.2 ts[j].2.2.length (Nat.le_refl _)
    have h6 := h3.1
    rw [kkt_next (by omega)]
    constructor <;> omega
def mkt (k : Int) (r : Tx) : Tx := (k, ((k + 1) % 3 == 0), mkc (k + 2) r.2.2)
def mks (k0 : Int) (ts : List Tx) : List Tx := ts.mapIdx (fun j r => mkt (kkt k0 ts j) r)
theorem mks_len (k0 : Int) (ts : List Tx) : (mks k0 ts).length = ts.length := by simp [mks]
theorem mks_at {k0 : Int} {ts : List Tx} {j : Nat} (h : j < ts.length) : (mks k0 ts)[j]'(by rw [mks_len]; exact h) = mkt (kkt k0 ts j) ts[j] := by simp [mks]
def rwS (xs : List Rw) : Prop := xs.length ≤ 1048576 ∧ ∀ m (h : m < xs.length), xs[m].2.2.2.2.length ≤ 1048576
def krn (xs : List Rw) : Int := (xs.map (fun r => 4 + 2 * (r.2.2.2.2.length : Int))).sum
def kkr (k0 : Int) (xs : List Rw) (j : Nat) : Int := k0 + krn (xs.take j)
theorem kkr_next {k0 : Int} {xs : List Rw} {j : Nat} (h : j < xs.length) : kkr k0 xs (j + 1) = kkr k0 xs j + 4 + 2 * (xs[j].2.2.2.2.length : Int) := by
  unfold kkr krn
  rw [List.take_add_one, List.getElem?_eq_getElem h, List.map_append, List.sum_append]
  simp only [Option.toList, List.map_cons, List.map_nil, List.sum_cons, List.sum_nil]
  omega
theorem kkr_bound {k0 : Int} {xs : List Rw} (hl : ∀ m (h : m < xs.length), xs[m].2.2.2.2.length ≤ 1048576) : ∀ j, j ≤ xs.length → k0 ≤ kkr k0 xs j ∧ kkr k0 xs j ≤ k0 + (j : Int) * 2097156 := by
  intro j
  induction j with
  | zero => intro _; simp [kkr, krn]
  | succ j ih =>
    intro hj
    obtain ⟨h1, h2⟩ := ih (by omega)
    have h3 := hl j (by omega)
    rw [kkr_next (by omega)]
    constructor <;> omega
def mkr1 (k : Int) (r : Rw) : Rw := (k, k + 1, k + 2, k + 3, tkk (k + 4) r.2.2.2.2.length)
def mkr (k0 : Int) (xs : List Rw) : List Rw := xs.mapIdx (fun j r => mkr1 (kkr k0 xs j) r)
theorem mkr_len (k0 : Int) (xs : List Rw) : (mkr k0 xs).length = xs.length := by simp [mkr]
theorem mkr_at {k0 : Int} {xs : List Rw} {j : Nat} (h : j < xs.length) : (mkr k0 xs)[j]'(by rw [mkr_len]; exact h) = mkr1 (kkr k0 xs j) xs[j] := by simp [mkr]
end Go.Proofs.YtnajddjalagmoaaGreatDoor
namespace Go.Proofs.YtnajddjalagmoaaGreatDoor
open Go.RowKit
set_option linter.unusedSimpArgs false
set_option linter.unusedVariables false
set_option maxRecDepth 100000 in
set_option maxHeartbeats 4000000 in
theorem mark_rwsX (base hi : Nat) (v : Value) (xs : List Rw) (k0 : Int) (w : World) (hs : rwS xs) (h0 : 0 ≤ k0) (h1 : k0 ≤ 2000000000000000000) (h : LC KR base hi w v xs) : Calls Tryz.prog 68 #[v, .int .i64 k0] w fun e w' => e = .returned (.int .i64 (kkr k0 xs xs.length)) ∧ LC KR base hi w' v (mkr k0 xs) ∧ Mid base hi w w' := by
  obtain ⟨hih, h⟩ := h
  rcases h with ⟨rfl, rfl⟩ | ⟨g, cap, ss, lo, up, rfl, hcap, hbg, hgh, hth, hel, hd⟩
  · go_enter Tryz.func68, Tryz.ntmps68
    go_wp2_with fail
    go_loopw [1, 5] (fun tk' ti wr => tk' = .int .i64 k0 ∧ ti = .int .i64 0 ∧ wr = w) (fun _ _ _ => 0)
    case atStart => exact ⟨rfl, rfl, rfl⟩
    case round =>
      obtain ⟨rfl, rfl, rfl⟩ := hrel
      go_wp2_with fail
      go_ret
      exact ⟨by simp [kkr, krn], ⟨hih, .inl ⟨by simp [mkr], rfl⟩⟩, mid_refl _ _ _⟩
  have HL := hid hs.2
  have hm := hs.1
  have HE := hid (fun j hj => (hel j hj).1)
  have HC := hid (fun j hj => (hel j hj).2)
  have HD := hid hd
  have HK := hid (kkr_bound (k0 := k0) hs.2)
  clear hs hel hd
  obtain ⟨n, hn⟩ : ∃ n, n = xs.length := ⟨_, rfl⟩
  have HN := hid hn.symm
  rw [← hn] at hm hth hcap ⊢
  have HTT := hid hth
  have HF : Hid (∀ (W : World) (q : Int), q = kkr k0 xs n → Mid base hi w W → W.there g 0 (n * 5) → (∀ i (h : i < xs.length), i < n → ElX KR W g i (mkr1 (kkr k0 xs i) xs[i]) (ss i) (lo i) (up i)) → (Ending.returned (.int .i64 q) = .returned (.int .i64 (kkr k0 xs n)) ∧ LC KR base hi W (.slice (some ⟨g, 0, none⟩) n cap) (mkr k0 xs))) := hid (fun W q hq hM hT h => ⟨by rw [hq], by
    refine ⟨Nat.le_trans hih hM.2.2.2.1, .inr ⟨g, cap, ss, lo, up, by rw [mkr_len, ← hn], by rw [mkr_len, ← hn]; exact hcap, hbg, hgh, by rw [mkr_len, ← hn]; exact hT, fun j hj => ?_, fun i j hne hi' hj => ?_⟩⟩
    · have hj' := hj
      rw [mkr_len] at hj'
      rw [mkr_at hj']
      exact ⟨h j hj' (by omega), HC.out j hj'⟩
    · rw [mkr_len] at hi' hj
      exact HD.out i j hne hi' hj⟩)
  clear hth hcap hn
  have hmid0 := mid_refl base hi w
  have hgw : g < w.heap.size := by omega
  go_enter Tryz.func68, Tryz.ntmps68
  go_wp2_with fail
  go_loopw [1, 5] (fun tk' ti wr => ∃ j : Nat, ∃ k : Int, ti = .int .i64 j ∧ tk' = .int .i64 k ∧ j ≤ n ∧ Hid (k = kkr k0 xs j) ∧ Hid (Mid base hi w wr) ∧ Hid (wr.there g 0 (n * 5)) ∧ Hid (∀ i (h : i < xs.length), i < j → ElX KR wr g i (mkr1 (kkr k0 xs i) xs[i]) (ss i) (lo i) (up i)) ∧ Hid (∀ i (h : i < xs.length), j ≤ i → ElX KR wr g i xs[i] (ss i) (lo i) (up i))) (fun _ ti _ => n - (intOf ti).toNat)
  case atStart => exact ⟨0, k0, rfl, rfl, Nat.zero_le _, hid (by simp [kkr, krn]), hid hmid0, HTT, hid (fun i h hh => absurd hh (by omega)), hid (fun i h _ => HE.out i h)⟩
  case round =>
    clear hmid0
    obtain ⟨j, k, rfl, rfl, hj, HKJ, HM, HT, HA, HZ⟩ := hrel
    by_cases hlt : j < n
    · have c1 : (j : Int) < (n : Int) := by omega
      have hjr : j < xs.length := by rw [HN.out]; exact hlt
      obtain ⟨hk0, hk1⟩ := HK.out j (by omega)
      rw [← HKJ.out] at hk0 hk1
      have hk2 : k ≤ 4400000000000000000 := by omega
      have hk3 : 0 ≤ k := by omega
      have HKN := hid (kkr_next (k0 := k0) hjr)
      rw [← HKJ.out] at HKN
      obtain ⟨zc, zs⟩ := HZ.out j hjr (Nat.le_refl _)
      obtain ⟨hcb, hch, hcg⟩ := HC.out j hjr
      have hws := HM.out.2.2.2.1
      obtain ⟨_, c, cp, esv, b1, b2, b3, b4, b5⟩ := zs
      have hnp := HL.out j hjr
      have HMK : Hid (∀ W, (∀ t, t < 5 → W.cell? ⟨g, j * 5 + t, none⟩ = ([.int .i64 k, .int .i64 (k + 1), .int .i64 (k + 2), .int .i64 (k + 3), ss j] : List Value)[t]?) → PtsOwn W c (tkk (k + 4) xs[j].2.2.2.2.length) → up j ≤ W.heap.size → ElX KR W g j (mkr1 (kkr k0 xs j) xs[j]) (ss j) (lo j) (up j)) := hid (fun W h1 h2 h3 => by
        rw [← HKJ.out]
        refine ⟨h1, h3, c, cp, ?_, ?_, ?_, b3, b4, h2⟩
        · simp only [mkr1, tkk_len]; exact esv
        · simp only [mkr1, tkk_len]; exact b1
        · simp only [mkr1, tkk_len]; exact b2)
      generalize hps : xs[j].2.2.2.2 = ps at *
      clear hps
      obtain ⟨sv, hsv⟩ : ∃ sv, sv = ss j := ⟨_, rfl⟩
      have HSJ := hid hsv
      rw [← hsv] at zc HMK esv
      clear hsv
      subst esv
      have q3 := zc 4 (by decide)
      simp only [KR, List.getElem?_cons_succ, List.getElem?_cons_zero] at q3
      have HDJ : Hid (∀ i, i < xs.length → i ≠ j → up i ≤ lo j ∨ up j ≤ lo i) := hid (fun i hi' hne => HD.out i j hne hi' hjr)
      obtain ⟨u0, z0, y0⟩ := there_at HT.out (show j * 5 < n * 5 by omega)
      obtain ⟨u1, z1, y1⟩ := there_at HT.out (show j * 5 + 1 < n * 5 by omega)
      obtain ⟨u2, z2, y2⟩ := there_at HT.out (show j * 5 + 2 < n * 5 by omega)
      obtain ⟨u3, z3, y3⟩ := there_at HT.out (show j * 5 + 3 < n * 5 by omega)
      have z1' : ∀ a0, (wr.setCell ⟨g, j * 5, none⟩ a0).cell? ⟨g, j * 5 + 1, none⟩ = some u1 := fun a0 => by rw [World.cell?_setCell_other _ _ _ _ (by simp)]; exact z1
      have y1' : ∀ a0, (wr.setCell ⟨g, j * 5, none⟩ a0).frozen? ⟨g, j * 5 + 1, none⟩ = false := fun a0 => by rw [World.frozen?_setCell]; exact y1
      have z2' : ∀ a0 a1, ((wr.setCell ⟨g, j * 5, none⟩ a0).setCell ⟨g, j * 5 + 1, none⟩ a1).cell? ⟨g, j * 5 + 2, none⟩ = some u2 := fun a0 a1 => by rw [World.cell?_setCell_other _ _ _ _ (by simp), World.cell?_setCell_other _ _ _ _ (by simp)]; exact z2
      have y2' : ∀ a0 a1, ((wr.setCell ⟨g, j * 5, none⟩ a0).setCell ⟨g, j * 5 + 1, none⟩ a1).frozen? ⟨g, j * 5 + 2, none⟩ = false := fun a0 a1 => by rw [World.frozen?_setCell, World.frozen?_setCell]; exact y2
      have z3' : ∀ a0 a1 a2, (((wr.setCell ⟨g, j * 5, none⟩ a0).setCell ⟨g, j * 5 + 1, none⟩ a1).setCell ⟨g, j * 5 + 2, none⟩ a2).cell? ⟨g, j * 5 + 3, none⟩ = some u3 := fun a0 a1 a2 => by rw [World.cell?_setCell_other _ _ _ _ (by simp), World.cell?_setCell_other _ _ _ _ (by simp), World.cell?_setCell_other _ _ _ _ (by simp)]; exact z3
      have y3' : ∀ a0 a1 a2, (((wr.setCell ⟨g, j * 5, none⟩ a0).setCell ⟨g, j * 5 + 1, none⟩ a1).setCell ⟨g, j * 5 + 2, none⟩ a2).frozen? ⟨g, j * 5 + 3, none⟩ = false := fun a0 a1 a2 => by rw [World.frozen?_setCell, World.frozen?_setCell, World.frozen?_setCell]; exact y3
      have zl' : ∀ a0 a1 a2 a3, ((((wr.setCell ⟨g, j * 5, none⟩ a0).setCell ⟨g, j * 5 + 1, none⟩ a1).setCell ⟨g, j * 5 + 2, none⟩ a2).setCell ⟨g, j * 5 + 3, none⟩ a3).cell? ⟨g, j * 5 + 4, none⟩ = some (.slice (some ⟨c, 0, none⟩) ps.length cp) := fun a0 a1 a2 a3 => by rw [World.cell?_setCell_other _ _ _ _ (by simp), World.cell?_setCell_other _ _ _ _ (by simp), World.cell?_setCell_other _ _ _ _ (by simp), World.cell?_setCell_other _ _ _ _ (by simp)]; exact q3
      have HM3 := hid (fun a0 a1 a2 a3 => (mid_set (mid_set (mid_set (mid_set (HM.out) hbg hgh a0) hbg hgh a1) hbg hgh a2) hbg hgh a3 : Mid base hi w ((((wr.setCell ⟨g, j * 5, none⟩ a0).setCell ⟨g, j * 5 + 1, none⟩ a1).setCell ⟨g, j * 5 + 2, none⟩ a2).setCell ⟨g, j * 5 + 3, none⟩ a3)))
      have HT3 := hid (fun a0 a1 a2 a3 => (there_set (there_set (there_set (there_set (HT.out) a0) a1) a2) a3 : ((((wr.setCell ⟨g, j * 5, none⟩ a0).setCell ⟨g, j * 5 + 1, none⟩ a1).setCell ⟨g, j * 5 + 2, none⟩ a2).setCell ⟨g, j * 5 + 3, none⟩ a3).there g 0 (n * 5)))
      have HA3 : Hid (∀ a0 a1 a2 a3 i (h : i < xs.length), i < j → ElX KR ((((wr.setCell ⟨g, j * 5, none⟩ a0).setCell ⟨g, j * 5 + 1, none⟩ a1).setCell ⟨g, j * 5 + 2, none⟩ a2).setCell ⟨g, j * 5 + 3, none⟩ a3) g i (mkr1 (kkr k0 xs i) xs[i]) (ss i) (lo i) (up i)) := hid (fun a0 a1 a2 a3 i h h1 => (((((HA.out i h h1).set (HC.out i h).2.2 (by show _ < i * 5 ∨ i * 5 + 5 ≤ _; omega) a0).set (HC.out i h).2.2 (by show _ < i * 5 ∨ i * 5 + 5 ≤ _; omega) a1).set (HC.out i h).2.2 (by show _ < i * 5 ∨ i * 5 + 5 ≤ _; omega) a2).set (HC.out i h).2.2 (by show _ < i * 5 ∨ i * 5 + 5 ≤ _; omega) a3))
      have HZ3 : Hid (∀ a0 a1 a2 a3 i (h : i < xs.length), j + 1 ≤ i → ElX KR ((((wr.setCell ⟨g, j * 5, none⟩ a0).setCell ⟨g, j * 5 + 1, none⟩ a1).setCell ⟨g, j * 5 + 2, none⟩ a2).setCell ⟨g, j * 5 + 3, none⟩ a3) g i xs[i] (ss i) (lo i) (up i)) := hid (fun a0 a1 a2 a3 i h h1 => (((((HZ.out i h (by omega)).set (HC.out i h).2.2 (by show _ < i * 5 ∨ i * 5 + 5 ≤ _; omega) a0).set (HC.out i h).2.2 (by show _ < i * 5 ∨ i * 5 + 5 ≤ _; omega) a1).set (HC.out i h).2.2 (by show _ < i * 5 ∨ i * 5 + 5 ≤ _; omega) a2).set (HC.out i h).2.2 (by show _ < i * 5 ∨ i * 5 + 5 ≤ _; omega) a3))
      have x0 : ∀ a0 a1 a2 a3, ((((wr.setCell ⟨g, j * 5, none⟩ a0).setCell ⟨g, j * 5 + 1, none⟩ a1).setCell ⟨g, j * 5 + 2, none⟩ a2).setCell ⟨g, j * 5 + 3, none⟩ a3).cell? ⟨g, j * 5, none⟩ = some a0 := fun a0 a1 a2 a3 => by rw [World.cell?_setCell_other _ _ _ _ (by simp), World.cell?_setCell_other _ _ _ _ (by simp), World.cell?_setCell_other _ _ _ _ (by simp)]; exact World.cell?_setCell_same _ _ _ z0
      have x1 : ∀ a0 a1 a2 a3, ((((wr.setCell ⟨g, j * 5, none⟩ a0).setCell ⟨g, j * 5 + 1, none⟩ a1).setCell ⟨g, j * 5 + 2, none⟩ a2).setCell ⟨g, j * 5 + 3, none⟩ a3).cell? ⟨g, j * 5 + 1, none⟩ = some a1 := fun a0 a1 a2 a3 => by rw [World.cell?_setCell_other _ _ _ _ (by simp), World.cell?_setCell_other _ _ _ _ (by simp)]; exact World.cell?_setCell_same _ _ _ (z1' a0)
      have x2 : ∀ a0 a1 a2 a3, ((((wr.setCell ⟨g, j * 5, none⟩ a0).setCell ⟨g, j * 5 + 1, none⟩ a1).setCell ⟨g, j * 5 + 2, none⟩ a2).setCell ⟨g, j * 5 + 3, none⟩ a3).cell? ⟨g, j * 5 + 2, none⟩ = some a2 := fun a0 a1 a2 a3 => by rw [World.cell?_setCell_other _ _ _ _ (by simp)]; exact World.cell?_setCell_same _ _ _ (z2' a0 a1)
      have x3 : ∀ a0 a1 a2 a3, ((((wr.setCell ⟨g, j * 5, none⟩ a0).setCell ⟨g, j * 5 + 1, none⟩ a1).setCell ⟨g, j * 5 + 2, none⟩ a2).setCell ⟨g, j * 5 + 3, none⟩ a3).cell? ⟨g, j * 5 + 3, none⟩ = some a3 := fun a0 a1 a2 a3 => by exact World.cell?_setCell_same _ _ _ (z3' a0 a1 a2)
      have HX := hid (fun a0 a1 a2 a3 => (⟨x0 a0 a1 a2 a3, x1 a0 a1 a2 a3, x2 a0 a1 a2 a3, x3 a0 a1 a2 a3, zl' a0 a1 a2 a3⟩ : ((((wr.setCell ⟨g, j * 5, none⟩ a0).setCell ⟨g, j * 5 + 1, none⟩ a1).setCell ⟨g, j * 5 + 2, none⟩ a2).setCell ⟨g, j * 5 + 3, none⟩ a3).cell? ⟨g, j * 5, none⟩ = some a0 ∧ ((((wr.setCell ⟨g, j * 5, none⟩ a0).setCell ⟨g, j * 5 + 1, none⟩ a1).setCell ⟨g, j * 5 + 2, none⟩ a2).setCell ⟨g, j * 5 + 3, none⟩ a3).cell? ⟨g, j * 5 + 1, none⟩ = some a1 ∧ ((((wr.setCell ⟨g, j * 5, none⟩ a0).setCell ⟨g, j * 5 + 1, none⟩ a1).setCell ⟨g, j * 5 + 2, none⟩ a2).setCell ⟨g, j * 5 + 3, none⟩ a3).cell? ⟨g, j * 5 + 2, none⟩ = some a2 ∧ ((((wr.setCell ⟨g, j * 5, none⟩ a0).setCell ⟨g, j * 5 + 1, none⟩ a1).setCell ⟨g, j * 5 + 2, none⟩ a2).setCell ⟨g, j * 5 + 3, none⟩ a3).cell? ⟨g, j * 5 + 3, none⟩ = some a3 ∧ ((((wr.setCell ⟨g, j * 5, none⟩ a0).setCell ⟨g, j * 5 + 1, none⟩ a1).setCell ⟨g, j * 5 + 2, none⟩ a2).setCell ⟨g, j * 5 + 3, none⟩ a3).cell? ⟨g, j * 5 + 4, none⟩ = some (.slice (some ⟨c, 0, none⟩) ps.length cp)))
      have HP3 := hid (fun a0 a1 a2 a3 => (own_blk b5 (by rw [Below.heap_setCell _ _ _ _ (by dsimp only; omega), Below.heap_setCell _ _ _ _ (by dsimp only; omega), Below.heap_setCell _ _ _ _ (by dsimp only; omega), Below.heap_setCell _ _ _ _ (by dsimp only; omega)]) (by simp only [World.size_setCell]; exact b5.1) : PtsOwn ((((wr.setCell ⟨g, j * 5, none⟩ a0).setCell ⟨g, j * 5 + 1, none⟩ a1).setCell ⟨g, j * 5 + 2, none⟩ a2).setCell ⟨g, j * 5 + 3, none⟩ a3) c ps))
      have HSZ := hid (fun a0 a1 a2 a3 => (by simp only [World.size_setCell] : ((((wr.setCell ⟨g, j * 5, none⟩ a0).setCell ⟨g, j * 5 + 1, none⟩ a1).setCell ⟨g, j * 5 + 2, none⟩ a2).setCell ⟨g, j * 5 + 3, none⟩ a3).heap.size = wr.heap.size))
      clear b5 zc
      clear HM HT HA HZ q3 z1 y1 z2 y2 z3 y3 x0 x1 x2 x3
      go_wp2_with fail
      refine (mark_ptsK _ c ps.length cp ps (k + 1 + 1 + 1 + 1) (by omega) (by omega) hnp rfl (HP3.out _ _ _ _)).mono ?_
      rintro e w1 ⟨rfl, hp1, hg⟩
      have hgne : some g ≠ some c := fun e => by cases e; omega
      have hsz1 := hg.size
      rw [HSZ.out] at hsz1
      have HM5 := hid (mid_grown (HM3.out (.int .i64 k) (.int .i64 (k + 1)) (.int .i64 (k + 1 + 1)) (.int .i64 (k + 1 + 1 + 1))) hg (by omega) (by omega))
      have HT5 : Hid (w1.there g 0 (n * 5)) := hid (fun i hi' => by
        obtain ⟨s1, s2⟩ := HT3.out (.int .i64 k) (.int .i64 (k + 1)) (.int .i64 (k + 1 + 1)) (.int .i64 (k + 1 + 1 + 1)) i hi'
        have hb := hg.block g (by rw [HSZ.out]; omega) hgne
        simp only [World.cell?, World.frozen?, hb]; exact ⟨s1, s2⟩)
      have HFR : Hid (∀ i, i < xs.length → i ≠ j → ∀ q, lo i ≤ q → q < up i → q < wr.heap.size → w1.heap[q]? = _) := hid (fun i hi' hne q q1 q2 q3 => hg.block q (by rw [HSZ.out]; exact q3) (fun e => by cases e; have := HDJ.out i hi' hne; omega))
      have HA5 : Hid (∀ i (h : i < xs.length), i < j + 1 → ElX KR w1 g i (mkr1 (kkr k0 xs i) xs[i]) (ss i) (lo i) (up i)) := hid (fun i h h1 => by
        by_cases e : i = j
        · subst e
          obtain ⟨s0, s1, s2, s3, s4⟩ := HX.out (.int .i64 k) (.int .i64 (k + 1)) (.int .i64 (k + 1 + 1)) (.int .i64 (k + 1 + 1 + 1))
          rw [← HSJ.out]
          refine HMK.out w1 (fun t ht => ?_) (by rw [show k + 4 = k + 1 + 1 + 1 + 1 by omega]; exact hp1) (by omega)
          rcases (show t = 0 ∨ t = 1 ∨ t = 2 ∨ t = 3 ∨ t = 4 by omega) with e | e | e | e | e <;> subst e
          · exact hg.cell s0 hgne
          · exact hg.cell s1 hgne
          · show _ = some (Value.int .i64 (k + 2)); rw [show k + 2 = k + 1 + 1 by omega]; exact hg.cell s2 hgne
          · show _ = some (Value.int .i64 (k + 3)); rw [show k + 3 = k + 1 + 1 + 1 by omega]; exact hg.cell s3 hgne
          · exact hg.cell s4 hgne
        · have hx := HA3.out (.int .i64 k) (.int .i64 (k + 1)) (.int .i64 (k + 1 + 1)) (.int .i64 (k + 1 + 1 + 1)) i h (by omega)
          have htp := KR.top hx.2
          rw [HSZ.out] at htp
          exact hx.blk (hg.block g (by rw [HSZ.out]; omega) hgne) (fun q q1 q2 => HFR.out i h e q q1 q2 (by omega)) (by rw [HSZ.out]; exact hsz1))
      have HZ5 : Hid (∀ i (h : i < xs.length), j + 1 ≤ i → ElX KR w1 g i xs[i] (ss i) (lo i) (up i)) := hid (fun i h h1 => by
        have hx := HZ3.out (.int .i64 k) (.int .i64 (k + 1)) (.int .i64 (k + 1 + 1)) (.int .i64 (k + 1 + 1 + 1)) i h h1
        have htp := KR.top hx.2
        rw [HSZ.out] at htp
        exact hx.blk (hg.block g (by rw [HSZ.out]; omega) hgne) (fun q q1 q2 => HFR.out i h (by omega) q q1 q2 (by omega)) (by rw [HSZ.out]; exact hsz1))
      have HK5 : Hid (k + 1 + 1 + 1 + 1 + 2 * (ps.length : Int) = kkr k0 xs (j + 1)) := hid (by rw [HKN.out]; omega)
      clear hg hp1 HM3 HT3 HA3 HZ3 HX HFR HP3 HSZ zl' z1' z2' z3' y1' y2' y3' 
      go_wp2_with fail
      go_roundw
      case rel => exact ⟨j + 1, _, by go_num, rfl, by omega, HK5, HM5, HT5, HA5, HZ5⟩
      case measure => simp [intOf]; omega
    · obtain rfl : j = n := by omega
      have c1 : (j : Int) ≤ (j : Int) := by omega
      go_wp2_with fail
      go_ret
      obtain ⟨e1, e2⟩ := HF.out wr k HKJ.out HM.out HT.out HA.out
      exact ⟨e1, e2, HM.out⟩
end Go.Proofs.YtnajddjalagmoaaGreatDoor
namespace Go.Proofs.YtnajddjalagmoaaGreatDoor
open Go.RowKit
set_option linter.unusedSimpArgs false
set_option linter.unusedVariables false
theorem bnes (b : Bool) : (b != b) = false := by cases b <;> rfl
set_option maxRecDepth 100000 in
set_option maxHeartbeats 2000000 in
theorem held_chsX {N : Nat → Prop} (a : Option Addr) (n cap : Nat) (xs : List Ch) (k0 : Int) (w : World) (hn : xs.length = n) (hs : chS xs) (h0 : 0 ≤ k0) (h1 : k0 ≤ 4500000000000000000) (h : Chs N 1099511627776 w a (mkc k0 xs)) : Calls Tryz.prog 71 #[.slice a n cap, .int .i64 k0] w fun e w' => e = .returned (.int .i64 (kkc k0 xs n)) ∧ w' = w := by
  have hm := hs.1
  rw [hn] at hm
  have HL := hid hs.2
  have HR := hid h
  have HN := hid hn
  have HK := hid (kkc_bound (k0 := k0) hs.2)
  clear hs h hn
  have HF : Hid (∀ k : Int, k = kkc k0 xs n → Ending.returned (.int .i64 k) = .returned (.int .i64 (kkc k0 xs n))) := hid (fun k e => by rw [e])
  go_enter Tryz.func71, Tryz.ntmps71
  go_wp2_with fail
  go_loopw [1, 5] (fun tk' ti wr => ∃ j : Nat, ∃ k : Int, ti = .int .i64 j ∧ tk' = .int .i64 k ∧ j ≤ n ∧ Hid (k = kkc k0 xs j) ∧ wr = w) (fun _ ti _ => n - (intOf ti).toNat)
  case atStart => exact ⟨0, k0, rfl, rfl, Nat.zero_le _, hid (by simp [kkc, kcn]), rfl⟩
  case round =>
    obtain ⟨j, k, rfl, rfl, hj, HKJ, hw⟩ := hrel
    subst hw
    by_cases hlt : j < n
    · have c1 : (j : Int) < (n : Int) := by omega
      have hjr : j < xs.length := by rw [HN.out]; exact hlt
      obtain ⟨hk0, hk1⟩ := HK.out j (by omega)
      rw [← HKJ.out] at hk0 hk1
      have hk2 : k ≤ 4600000000000000000 := by omega
      have hk3 : 0 ≤ k := by omega
      have HKN := hid (kkc_next (k0 := k0) hjr)
      rw [← HKJ.out] at HKN
      have hma := mkc_at (k0 := k0) hjr
      rw [← HKJ.out] at hma
      obtain ⟨b, o, rfl, hbs, a', cap', q0, q1, q2, q4, q5, q6, q7, _⟩ := HR.out.at j (by rw [mkc_len]; exact hjr)
      rw [hma] at q0 q1 q2 q4 q5 q6 q7
      simp only [mke, tkk_len] at q0 q1 q2 q4 q5 q6 q7
      have hnp := HL.out j hjr
      generalize hps : xs[j].2.2.2.length = np at *
      clear hps hma
      rw [show k + 2 = k + 1 + 1 by omega] at q2
      rw [show k + 3 = k + 1 + 1 + 1 by omega] at q7
      have HP := hid (held_ptsK wr a' cap' np (k + 1 + 1 + 1) (by omega) (by omega) hnp q7)
      have HK5 : Hid (k + 1 + 1 + 1 + 2 * (np : Int) = kkc k0 xs (j + 1)) := hid (by rw [HKN.out]; omega)
      have hpos : ¬ (k + 1 + 1 + 1 + 2 * (np : Int) < 0) := by omega
      have hbb := bnes ((k + 1) % 3 == 0)
      clear q5 q6 q7
      go_wp2_with fail
      refine HP.out.mono ?_
      rintro e w1 ⟨rfl, hw1⟩
      replace hw1 := hw1.symm
      subst hw1
      go_wp2_with fail
      go_roundw
      case rel => exact ⟨j + 1, _, by go_num, rfl, by omega, HK5, by first | rfl | trivial⟩
      case measure => simp [intOf]; omega
    · obtain rfl : j = n := by omega
      have c1 : (j : Int) ≤ (j : Int) := by omega
      go_wp2_with fail
      go_ret
      exact ⟨HF.out k HKJ.out, rfl⟩
set_option maxRecDepth 100000 in
set_option maxHeartbeats 2000000 in
theorem held_txsX {N : Nat → Prop} (a : Option Addr) (n cap : Nat) (xs : List Tx) (k0 : Int) (w : World) (hn : xs.length = n) (hs : txS xs) (h0 : 0 ≤ k0) (h1 : k0 ≤ 2000000000000000000) (h : Txs N 1099511627776 w a (mks k0 xs)) : Calls Tryz.prog 40 #[.slice a n cap, .int .i64 k0] w fun e w' => e = .returned (.int .i64 (kkt k0 xs n)) ∧ w' = w := by
  have hm := hs.1
  rw [hn] at hm
  have HL := hid hs.2
  have HR := hid h
  have HN := hid hn
  have HK := hid (kkt_bound (k0 := k0) hs.2)
  clear hs h hn
  have HF : Hid (∀ k : Int, k = kkt k0 xs n → Ending.returned (.int .i64 k) = .returned (.int .i64 (kkt k0 xs n))) := hid (fun k e => by rw [e])
  go_enter Tryz.func40, Tryz.ntmps40
  go_wp2_with fail
  go_loopw [1, 5] (fun tk' ti wr => ∃ j : Nat, ∃ k : Int, ti = .int .i64 j ∧ tk' = .int .i64 k ∧ j ≤ n ∧ Hid (k = kkt k0 xs j) ∧ wr = w) (fun _ ti _ => n - (intOf ti).toNat)
  case atStart => exact ⟨0, k0, rfl, rfl, Nat.zero_le _, hid (by simp [kkt, ktn]), rfl⟩
  case round =>
    obtain ⟨j, k, rfl, rfl, hj, HKJ, hw⟩ := hrel
    subst hw
    by_cases hlt : j < n
    · have c1 : (j : Int) < (n : Int) := by omega
      have hjr : j < xs.length := by rw [HN.out]; exact hlt
      obtain ⟨hk0, hk1⟩ := HK.out j (by omega)
      rw [← HKJ.out] at hk0 hk1
      have hk2 : k ≤ 4400000000000000000 := by omega
      have hk3 : 0 ≤ k := by omega
      have HKN := hid (kkt_next (k0 := k0) hjr)
      rw [← HKJ.out] at HKN
      have hma := mks_at (k0 := k0) hjr
      rw [← HKJ.out] at hma
      obtain ⟨b, o, rfl, hbs, a', cap', q0, q1, q2, q4, q5, q6, _⟩ := HR.out.at j (by rw [mks_len]; exact hjr)
      rw [hma] at q0 q1 q2 q4 q5 q6
      simp only [mkt, mkc_len] at q0 q1 q2 q4 q5 q6
      have hcs := HL.out j hjr
      generalize hps : xs[j].2.2 = cs at *
      clear hps hma
      rw [show k + 2 = k + 1 + 1 by omega] at q6
      rw [show k + 2 = k + 1 + 1 by omega] at HKN
      have HP := hid (held_chsX a' cs.length cap' cs (k + 1 + 1) wr rfl hcs (by omega) (by omega) q6)
      have HK5 : Hid (kkc (k + 1 + 1) cs cs.length = kkt k0 xs (j + 1)) := hid HKN.out.symm
      obtain ⟨kq0, kq1⟩ := kkc_bound (k0 := k + 1 + 1) hcs.2 cs.length (Nat.le_refl _)
      generalize kkc (k + 1 + 1) cs cs.length = kq at *
      have hpos : ¬ (kq < 0) := by omega
      have hbb := bnes ((k + 1) % 3 == 0)
      clear q4 q5 q6
      go_wp2_with fail
      refine HP.out.mono ?_
      rintro e w1 ⟨rfl, hw1⟩
      replace hw1 := hw1.symm
      subst hw1
      go_wp2_with fail
      go_roundw
      case rel => exact ⟨j + 1, _, by go_num, rfl, by omega, HK5, by first | rfl | trivial⟩
      case measure => simp [intOf]; omega
    · obtain rfl : j = n := by omega
      have c1 : (j : Int) ≤ (j : Int) := by omega
      go_wp2_with fail
      go_ret
      exact ⟨HF.out k HKJ.out, rfl⟩
set_option maxRecDepth 100000 in
set_option maxHeartbeats 2000000 in
theorem held_rwsX {N : Nat → Prop} (a : Option Addr) (n cap : Nat) (xs : List Rw) (k0 : Int) (w : World) (hn : xs.length = n) (hs : rwS xs) (h0 : 0 ≤ k0) (h1 : k0 ≤ 2000000000000000000) (h : Rws N w a (mkr k0 xs)) : Calls Tryz.prog 70 #[.slice a n cap, .int .i64 k0] w fun e w' => e = .returned (.int .i64 (kkr k0 xs n)) ∧ w' = w := by
  have hm := hs.1
  rw [hn] at hm
  have HL := hid hs.2
  have HR := hid h
  have HN := hid hn
  have HK := hid (kkr_bound (k0 := k0) hs.2)
  clear hs h hn
  have HF : Hid (∀ k : Int, k = kkr k0 xs n → Ending.returned (.int .i64 k) = .returned (.int .i64 (kkr k0 xs n))) := hid (fun k e => by rw [e])
  go_enter Tryz.func70, Tryz.ntmps70
  go_wp2_with fail
  go_loopw [1, 5] (fun tk' ti wr => ∃ j : Nat, ∃ k : Int, ti = .int .i64 j ∧ tk' = .int .i64 k ∧ j ≤ n ∧ Hid (k = kkr k0 xs j) ∧ wr = w) (fun _ ti _ => n - (intOf ti).toNat)
  case atStart => exact ⟨0, k0, rfl, rfl, Nat.zero_le _, hid (by simp [kkr, krn]), rfl⟩
  case round =>
    obtain ⟨j, k, rfl, rfl, hj, HKJ, hw⟩ := hrel
    subst hw
    by_cases hlt : j < n
    · have c1 : (j : Int) < (n : Int) := by omega
      have hjr : j < xs.length := by rw [HN.out]; exact hlt
      obtain ⟨hk0, hk1⟩ := HK.out j (by omega)
      rw [← HKJ.out] at hk0 hk1
      have hk2 : k ≤ 4400000000000000000 := by omega
      have hk3 : 0 ≤ k := by omega
      have HKN := hid (kkr_next (k0 := k0) hjr)
      rw [← HKJ.out] at HKN
      have hma := mkr_at (k0 := k0) hjr
      rw [← HKJ.out] at hma
      obtain ⟨b, o, rfl, hbs, a', cap', q0, q1, q2, q3, q4, q5, q6, q7, _⟩ := HR.out.at j (by rw [mkr_len]; exact hjr)
      rw [hma] at q0 q1 q2 q3 q4 q5 q6 q7
      simp only [mkr1, tkk_len] at q0 q1 q2 q3 q4 q5 q6 q7
      have hnp := HL.out j hjr
      generalize hps : xs[j].2.2.2.2.length = np at *
      clear hps hma
      rw [show k + 2 = k + 1 + 1 by omega] at q2
      rw [show k + 3 = k + 1 + 1 + 1 by omega] at q3
      rw [show k + 4 = k + 1 + 1 + 1 + 1 by omega] at q7
      have HP := hid (held_ptsK wr a' cap' np (k + 1 + 1 + 1 + 1) (by omega) (by omega) hnp q7)
      have HK5 : Hid (k + 1 + 1 + 1 + 1 + 2 * (np : Int) = kkr k0 xs (j + 1)) := hid (by rw [HKN.out]; omega)
      have hpos : ¬ (k + 1 + 1 + 1 + 1 + 2 * (np : Int) < 0) := by omega
      clear q5 q6 q7
      go_wp2_with fail
      refine HP.out.mono ?_
      rintro e w1 ⟨rfl, hw1⟩
      replace hw1 := hw1.symm
      subst hw1
      go_wp2_with fail
      go_roundw
      case rel => exact ⟨j + 1, _, by go_num, rfl, by omega, HK5, by first | rfl | trivial⟩
      case measure => simp [intOf]; omega
    · obtain rfl : j = n := by omega
      have c1 : (j : Int) ≤ (j : Int) := by omega
      go_wp2_with fail
      go_ret
      exact ⟨HF.out k HKJ.out, rfl⟩
set_option maxHeartbeats 400000 in
theorem markRowsX_of (w : World) (now : Int) (a : Option Addr) (cap : Nat) (rs : List Rw) (kr : Int) (b1 u1 : Nat) (HM : ∀ w', LC KR b1 u1 w' (.slice a rs.length cap) rs → Calls Tryz.prog 68 #[.slice a rs.length cap, .int .i64 1] w' fun e w'' => e = .returned (.int .i64 kr) ∧ LC KR b1 u1 w'' (.slice a rs.length cap) (mkr 1 rs) ∧ Mid b1 u1 w' w'') (h : LC KR b1 u1 w (.slice a rs.length cap) rs) : Calls Tryz.prog 36 #[.agg #[.int .i64 now, .slice a rs.length cap], .int .i64 1] w fun e w' => e = .returned (.int .i64 kr) ∧ LC KR b1 u1 w' (.slice a rs.length cap) (mkr 1 rs) ∧ Mid b1 u1 w w' := by
  have hB : Below w.heap.size w (w.alloc (.cells #[.int .i64 now, .slice a rs.length cap] 35)) := balloc (Below.refl _ _) _
  have H := hid (HM _ (h.below hB))
  clear HM h
  go_enter Tryz.func36, Tryz.ntmps36
  go_wp2_with fail
  refine H.out.mono ?_
  rintro e y ⟨rfl, r1, m1⟩
  have HR := hid r1
  have HB := hid (mid_trans (mid_below (lo := b1) (hi := u1) hB) m1)
  clear r1 m1 hB
  go_wp2_with fail
  go_ret
  exact ⟨rfl, HR.out, HB.out⟩
set_option maxHeartbeats 400000 in
theorem heldRowsX_of (now : Int) (a : Option Addr) (cap : Nat) (rs : List Rw) (kr : Int) (w : World) (hk : ¬ kr < 0) (HM : ∀ w', Below w.heap.size w w' → Calls Tryz.prog 70 #[.slice a rs.length cap, .int .i64 1] w' fun e w'' => e = .returned (.int .i64 kr) ∧ w'' = w') : Calls Tryz.prog 39 #[.agg #[.int .i64 now, .slice a rs.length cap], .int .i64 1] w fun e w' => e = .returned (.int .i64 kr) ∧ Below w.heap.size w w' := by
  have hB : Below w.heap.size w (w.alloc (.cells #[.int .i64 now, .slice a rs.length cap] 35)) := balloc (Below.refl _ _) _
  have H := hid (HM _ hB)
  clear HM
  go_enter Tryz.func39, Tryz.ntmps39
  go_wp2_with fail
  refine H.out.mono ?_
  rintro e y ⟨rfl, hy⟩
  replace hy := hy.symm
  subst hy
  go_wp2_with fail
  go_ret
  exact ⟨rfl, hB⟩
/-- The last number of a store's marks. -/
def kst (rs : List Rw) (ts : List Tx) : Int := kkt (kkr 1 rs rs.length) ts ts.length
theorem kst_pos {rs : List Rw} {ts : List Tx} (hr : rwS rs) (ht : txS ts) : (1 ≤ kkr 1 rs rs.length ∧ kkr 1 rs rs.length ≤ 2199027449858) ∧ 1 ≤ kst rs ts := by
  obtain ⟨a, b⟩ := kkr_bound (k0 := 1) hr.2 rs.length (Nat.le_refl _)
  obtain ⟨c, d⟩ := kkt_bound (k0 := kkr 1 rs rs.length) ht.2 ts.length (Nat.le_refl _)
  have := hr.1
  refine ⟨⟨a, by omega⟩, by unfold kst; omega⟩
set_option maxHeartbeats 1000000 in
theorem held_storeX {N1 N2 : Nat → Prop} (now : Int) (a ta : Option Addr) (cap tcap : Nat) (rs : List Rw) (ts : List Tx) (w : World) (hr : rwS rs) (ht : txS ts) (h1 : Rws N1 w a (mkr 1 rs)) (h2 : Txs N2 1099511627776 w ta (mks (kkr 1 rs rs.length) ts)) : Calls Tryz.prog 15 #[.agg #[.int .i64 now, .slice a rs.length cap, .slice ta ts.length tcap], .int .i64 1] w fun e w' => e = .returned (.int .i64 (kst rs ts)) ∧ Below w.heap.size w w' := by
  obtain ⟨⟨p1, p2⟩, p3⟩ := kst_pos hr ht
  have HM := hid (fun w' (h : Below w.heap.size w w') => held_rwsX a rs.length cap rs 1 w' rfl hr (by omega) (by omega) (h1.below h))
  have HT := hid (fun w' (h : Below w.heap.size w w') => held_txsX ta ts.length tcap ts (kkr 1 rs rs.length) w' rfl ht (by omega) (by omega) (h2.below h))
  have HKS : Hid (kkt (kkr 1 rs rs.length) ts ts.length = kst rs ts) := hid rfl
  rw [HKS.out] at HT
  clear h1 h2 HKS
  generalize kst rs ts = ks at *
  generalize kkr 1 rs rs.length = kr at *
  have n1 : ¬ kr < 0 := by omega
  have n2 : ¬ ks < 0 := by omega
  go_enter Tryz.func15, Tryz.ntmps15
  go_wp2_with fail
  have gS := new_alloc w w.heap.size (.cells #[.int .i64 now, .slice a rs.length cap, .slice ta ts.length tcap] 38) rfl
  have hB : Below w.heap.size w (w.alloc (.cells #[.int .i64 now, .slice a rs.length cap, .slice ta ts.length tcap] 38)) := balloc (Below.refl _ _) _
  generalize w.alloc (.cells #[.int .i64 now, .slice a rs.length cap, .slice ta ts.length tcap] 38) = W at *
  refine (heldRowsX_of now a cap rs kr W (by omega) (fun w' h => HM.out w' (btrans hB h))).mono ?_
  rintro e y ⟨rfl, hy⟩
  have g1 := keepheap2 hy gS
  replace hB := btrans hB hy
  obtain ⟨⟨x0, x1, x2⟩, _⟩ := cellk3 g1
  clear hy gS g1
  go_wp2_with fail
  refine (HT.out _ hB).mono ?_
  rintro e z ⟨rfl, hz⟩
  replace hz := hz.symm
  subst hz
  go_wp2_with fail
  go_ret
  exact ⟨rfl, hB⟩
end Go.Proofs.YtnajddjalagmoaaGreatDoor
namespace Go.Proofs.YtnajddjalagmoaaGreatDoor
open Go.RowKit
set_option linter.unusedSimpArgs false
set_option linter.unusedVariables false
/-- Of what was there only blocks from lo on below hi have turned, and none from p on below q. -/
def MidH (lo hi p q : Nat) (w w' : World) : Prop := Mid lo hi w w' ∧ ∀ k, k < w.heap.size → p ≤ k → k < q → w'.heap[k]? = w.heap[k]?
theorem midh_refl (lo hi p q : Nat) (w : World) : MidH lo hi p q w w := ⟨mid_refl _ _ _, fun _ _ _ _ => rfl⟩
theorem midh_trans {lo hi p q : Nat} {a b c : World} (h : MidH lo hi p q a b) (k : MidH lo hi p q b c) : MidH lo hi p q a c :=
  ⟨mid_trans h.1 k.1, fun x hx h1 h2 => (k.2 x (Nat.lt_of_lt_of_le hx h.1.2.2.2.1) h1 h2).trans (h.2 x hx h1 h2)⟩
theorem midh_set {lo hi p q b k : Nat} {w w1 : World} (h : MidH lo hi p q w w1) (h1 : lo ≤ b) (h2 : b < hi) (h3 : b < p ∨ q ≤ b) (u : Value) : MidH lo hi p q w (w1.setCell ⟨b, k, none⟩ u) :=
  ⟨mid_set h.1 h1 h2 u, fun x hx e1 e2 => by rw [Below.heap_setCell _ _ _ _ (by dsimp only; omega)]; exact h.2 x hx e1 e2⟩
/-- A list in memory of its own, cell by cell, none of it in the hole from p on below q. -/
def LCH {α : Type} (K : Kd α) (base hi p q : Nat) (w : World) (v : Value) (xs : List α) : Prop :=
  hi ≤ w.heap.size ∧ ((xs = [] ∧ v = .slice none 0 0) ∨ ∃ (g cap : Nat) (ss : Nat → Value) (lo up : Nat → Nat), v = .slice (some ⟨g, 0, none⟩) xs.length cap ∧ xs.length ≤ cap ∧ base ≤ g ∧ g < hi ∧ w.there g 0 (xs.length * K.sz) ∧
  (∀ j (h : j < xs.length), ElX K w g j xs[j] (ss j) (lo j) (up j) ∧ base ≤ lo j ∧ up j ≤ hi ∧ (g < lo j ∨ up j ≤ g)) ∧ (∀ i j, i ≠ j → i < xs.length → j < xs.length → up i ≤ lo j ∨ up j ≤ lo i) ∧ (g < p ∨ q ≤ g) ∧ (∀ j, j < xs.length → up j ≤ p ∨ q ≤ lo j))
theorem LCH.lc {α : Type} {K : Kd α} {base hi p q : Nat} {w : World} {v : Value} {xs : List α} (h : LCH K base hi p q w v xs) : LC K base hi w v xs := by
  obtain ⟨h0, h | ⟨g, cap, ss, lo, up, h1, h2, h3, h4, h5, h6, h7, _, _⟩⟩ := h
  · exact ⟨h0, .inl h⟩
  · exact ⟨h0, .inr ⟨g, cap, ss, lo, up, h1, h2, h3, h4, h5, h6, h7⟩⟩
theorem LC.hole {α : Type} {K : Kd α} {base hi p q : Nat} {w : World} {v : Value} {xs : List α} (h : LC K base hi w v xs) (hd : hi ≤ p ∨ q ≤ base) : LCH K base hi p q w v xs := by
  obtain ⟨h0, h | ⟨g, cap, ss, lo, up, h1, h2, h3, h4, h5, h6, h7⟩⟩ := h
  · exact ⟨h0, .inl h⟩
  · exact ⟨h0, .inr ⟨g, cap, ss, lo, up, h1, h2, h3, h4, h5, h6, h7, by omega, fun j hj => by have := (h6 j hj).2; omega⟩⟩
/-- It stands where only the hole has turned. -/
theorem LCH.frame {α : Type} {K : Kd α} {base hi p q : Nat} {w w' : World} {v : Value} {xs : List α} (h : LCH K base hi p q w v xs) (hb : ∀ c, base ≤ c → c < hi → (c < p ∨ q ≤ c) → w'.heap[c]? = w.heap[c]?) (hs : w.heap.size ≤ w'.heap.size) : LCH K base hi p q w' v xs := by
  obtain ⟨h0, h | ⟨g, cap, ss, lo, up, h1, h2, h3, h4, h5, h6, h7, h8, h9⟩⟩ := h
  · exact ⟨by omega, .inl h⟩
  · have eg := hb g h3 h4 h8
    refine ⟨by omega, .inr ⟨g, cap, ss, lo, up, h1, h2, h3, h4, fun j hj => ?_, fun j hj => ?_, h7, h8, h9⟩⟩
    · obtain ⟨s1, s2⟩ := h5 j hj
      simp only [World.cell?, World.frozen?, eg]; exact ⟨s1, s2⟩
    · obtain ⟨a1, a2, a3, a4⟩ := h6 j hj
      have a5 := h9 j hj
      exact ⟨a1.blk eg (fun c c1 c2 => hb c (by omega) (by omega) (by omega)) hs, a2, a3, a4⟩
theorem LCH.below {α : Type} {K : Kd α} {base hi p q : Nat} {w w' : World} {v : Value} {xs : List α} (h : LCH K base hi p q w v xs) (H : Below w.heap.size w w') : LCH K base hi p q w' v xs :=
  h.frame (fun c _ h2 _ => H.block c (by have := h.1; omega)) H.size
end Go.Proofs.YtnajddjalagmoaaGreatDoor
