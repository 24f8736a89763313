/- Sites as a law is given them: their sizes, their conversion, their comparison. -/
import Derived.Test.YtdhdfgobefapiaaDoorOe0
import Derived.Test.YtdhdfgobefapiaaDoorG0
import Derived.Test.YtdhdfgobefapiaaDoorKc
namespace Go.Proofs.YtdhdfgobefapiaaDoor
open Go.RowKit
set_option linter.unusedSimpArgs false
set_option linter.unusedVariables false
def SITX (lo : Nat) (w : World) (B T S P : Nat) (rs : List Rw) (ts : List Tx) (zs : List Int) (ps : List (Int × Int)) : Prop := DBX lo w B T S rs ts zs ∧ lo ≤ P ∧ PtsOwn w P ps
theorem SITX.below {lo : Nat} {w w' : World} {B T S P : Nat} {rs : List Rw} {ts : List Tx} {zs : List Int} {ps : List (Int × Int)} (h : SITX lo w B T S P rs ts zs ps) (H : Below w.heap.size w w') : SITX lo w' B T S P rs ts zs ps := ⟨h.1.below H, h.2.1, h.2.2.below H⟩
set_option maxHeartbeats 4000000 in
theorem sz_site {N : Nat → Prop} (now sf : Int) (g : ByteArray) (a ta sa pa : Option Addr) (cap tcap scap pcap : Nat) (rs : List Rw) (ts : List Tx) (zs : List Int) (ps : List (Int × Int)) (w : World) (hm : rs.length ≤ 9223372036854775807) (htm : ts.length ≤ 9223372036854775807) (hsn : zs.length ≤ 9223372036854775807) (hg : g.size ≤ maxLen) (hpn : ps.length ≤ 9223372036854775807) (hr : RwsL w a rs) (ht : Txs N 9223372036854775807 w ta ts) : Calls Tryd.prog 4 #[.agg #[.int .i64 now, .slice a rs.length cap, .slice ta ts.length tcap, .slice sa zs.length scap, .string g, .int .i64 sf, .slice pa ps.length pcap], .int .i64 1048576] w fun e w' => (∃ v : Int, e = .returned (.int .i64 v) ∧ (v = -1 ∨ (0 ≤ v ∧ Hid ((((rs.length ≤ 1048576 ∧ ∀ m (h : m < rs.length), rs[m].2.2.2.2.length ≤ 1048576) ∧ txS ts) ∧ zs.length ≤ 1048576) ∧ ps.length ≤ 1048576)))) ∧ Below w.heap.size w w' := by
  have HS := hid (fun (W : World) (hb : Below w.heap.size w W) => sz_db2 now a ta sa cap tcap scap zs.length rs ts W hm htm hsn (hr.below hb) (ht.below hb))
  clear hr ht
  generalize ((rs.length ≤ 1048576 ∧ ∀ m (h : m < rs.length), rs[m].2.2.2.2.length ≤ 1048576) ∧ txS ts) = R at *
  generalize rs.length = rn at *
  generalize ts.length = tn at *
  generalize zs.length = sn at *
  generalize ps.length = pn at *
  have hgs : (g.size : Int) ≤ 9223372036854775807 := by unfold maxLen at hg; omega
  have hB : Below w.heap.size w (w.alloc (.cells #[.int .i64 now, .slice a rn cap, .slice ta tn tcap, .slice sa sn scap, .string g, .int .i64 sf, .slice pa pn pcap] 33)) := balloc (Below.refl _ _) _
  have g0 := new_alloc w w.heap.size (.cells #[.int .i64 now, .slice a rn cap, .slice ta tn tcap, .slice sa sn scap, .string g, .int .i64 sf, .slice pa pn pcap] 33) rfl
  go_enter Tryd.func4, Tryd.ntmps4
  go_upto_region 1 with fail
  generalize w.alloc (.cells #[.int .i64 now, .slice a rn cap, .slice ta tn tcap, .slice sa sn scap, .string g, .int .i64 sf, .slice pa pn pcap] 33) = W at *
  obtain ⟨⟨d0, d1, d2, d3, d4, d5, d6⟩, _⟩ := cellk7 g0
  go_wp2_with fail
  refine (HS.out _ hB).mono ?_
  rintro e z ⟨⟨v, rfl, hv⟩, hz⟩
  replace g0 := keepheapO hz g0
  replace hB := btrans hB hz
  clear hz d0 d1 d2 d3 d4 d5 d6
  obtain ⟨⟨d0, d1, d2, d3, d4, d5, d6⟩, _⟩ := cellk7 g0
  rcases hv with rfl | ⟨hv0, hv1, HV⟩
  · go_wp2_with fail
    go_ret
    exact ⟨⟨-1, rfl, .inl rfl⟩, hB⟩
  · have hv2 : ¬ v < 0 := by omega
    have s0 : IntKind.i64.wrap (v - (g.size : Int)) = v - (g.size : Int) := by rw [IntKind.wrap_i64]; omega
    by_cases hq : v - (g.size : Int) < 0
    · go_wp2_with fail
      go_ret
      exact ⟨⟨-1, rfl, .inl rfl⟩, hB⟩
    · by_cases hw : v - (g.size : Int) < (pn : Int)
      · go_wp2_with fail
        refine (szc_big pa pn pcap (v - (g.size : Int)) _ hpn (by omega) (by omega) hw).mono ?_
        rintro e y ⟨rfl, hy⟩
        subst hy
        go_wp2_with fail
        go_ret
        exact ⟨⟨-1, rfl, .inl rfl⟩, hB⟩
      · have hw2 : ¬ (v - (g.size : Int) - (pn : Int) < 0) := by omega
        go_wp2_with fail
        refine (szc_ok pa pn pcap (v - (g.size : Int)) _ (by omega) (by omega) (by omega)).mono ?_
        rintro e y ⟨rfl, hy⟩
        subst hy
        go_wp2_with fail
        go_ret
        exact ⟨⟨v - (g.size : Int) - (pn : Int), rfl, .inr ⟨by omega, hid ⟨HV.out, by omega⟩⟩⟩, hB⟩
set_option maxRecDepth 100000 in
set_option maxHeartbeats 8000000 in
theorem to_site {N1 N2 : Nat → Prop} (now sf : Int) (g : ByteArray) (a ta sa pa : Option Addr) (cap tcap scap pcap : Nat) (rs : List Rw) (ts : List Tx) (zs : List Int) (ps : List (Int × Int)) (w : World) (hm : rs.length ≤ 1099511627776) (htm : ts.length ≤ 1099511627776) (hzm : zs.length ≤ 1048576) (hpm : ps.length ≤ 1099511627776) (hpc : ps.length ≤ pcap) (hr : Rws N1 w a rs) (ht : Txs N2 1099511627776 w ta ts) (hs : InI w sa zs) (hp : Pts w pa ps) : Calls Tryd.prog 6 #[.agg #[.int .i64 now, .slice a rs.length cap, .slice ta ts.length tcap, .slice sa zs.length scap, .string g, .int .i64 sf, .slice pa ps.length pcap]] w fun e w' => ∃ B T S P, e = .returned (.agg #[.int .i64 now, .slice (some ⟨B, 0, none⟩) rs.length rs.length, .slice (some ⟨T, 0, none⟩) ts.length ts.length, .slice (some ⟨S, 0, none⟩) zs.length zs.length, .string g, .int .i64 sf, .slice (some ⟨P, 0, none⟩) ps.length ps.length]) ∧ SITX w.heap.size w' B T S P rs ts zs ps ∧ Below w.heap.size w w' := by
  have HR := hid (fun (W : World) (hb : Below w.heap.size w W) => to_db now a ta sa cap tcap scap rs ts zs W hm htm hzm (hr.below hb) (ht.below hb) (hs.below hb))
  have HI := hid (fun (W : World) (hb : Below w.heap.size w W) => to_counts pa pcap ps W hpm hpc (hp.below hb))
  clear hr ht hs hp
  obtain ⟨rn, hrn⟩ : ∃ n, n = rs.length := ⟨_, rfl⟩
  obtain ⟨tn, htn⟩ : ∃ tn, tn = ts.length := ⟨_, rfl⟩
  obtain ⟨sn, hsn⟩ : ∃ sn, sn = zs.length := ⟨_, rfl⟩
  obtain ⟨pn, hpn⟩ : ∃ pn, pn = ps.length := ⟨_, rfl⟩
  rw [← hrn, ← htn, ← hsn, ← hpn]
  rw [← hrn, ← htn, ← hsn] at HR
  rw [← hpn] at HI
  clear hrn htn hsn hpn
  have hB : Below w.heap.size w (((w.alloc (.cells #[.int .i64 now, .slice a rn cap, .slice ta tn tcap, .slice sa sn scap, .string g, .int .i64 sf, .slice pa pn pcap] 33)).alloc (.cells #[.int .i64 0, .slice none 0 0, .slice none 0 0, .slice none 0 0, .string ⟨#[]⟩, .int .i64 0, .slice none 0 0] 48)).alloc (.cells #[.int .i64 0, .slice none 0 0, .slice none 0 0, .slice none 0 0, .string ⟨#[]⟩, .int .i64 0, .slice none 0 0] 48)) := balloc (balloc (balloc (Below.refl _ _) _) _) _
  have g0 := old_alloc (o' := .cells #[.int .i64 0, .slice none 0 0, .slice none 0 0, .slice none 0 0, .string ⟨#[]⟩, .int .i64 0, .slice none 0 0] 48) (old_alloc (o' := .cells #[.int .i64 0, .slice none 0 0, .slice none 0 0, .slice none 0 0, .string ⟨#[]⟩, .int .i64 0, .slice none 0 0] 48) (new_alloc w w.heap.size (.cells #[.int .i64 now, .slice a rn cap, .slice ta tn tcap, .slice sa sn scap, .string g, .int .i64 sf, .slice pa pn pcap] 33) rfl))
  have g1 := old_alloc (o' := .cells #[.int .i64 0, .slice none 0 0, .slice none 0 0, .slice none 0 0, .string ⟨#[]⟩, .int .i64 0, .slice none 0 0] 48) (new_alloc (w.alloc (.cells #[.int .i64 now, .slice a rn cap, .slice ta tn tcap, .slice sa sn scap, .string g, .int .i64 sf, .slice pa pn pcap] 33)) (w.heap.size + 1) (.cells #[.int .i64 0, .slice none 0 0, .slice none 0 0, .slice none 0 0, .string ⟨#[]⟩, .int .i64 0, .slice none 0 0] 48) (by simp))
  have g2 := new_alloc ((w.alloc (.cells #[.int .i64 now, .slice a rn cap, .slice ta tn tcap, .slice sa sn scap, .string g, .int .i64 sf, .slice pa pn pcap] 33)).alloc (.cells #[.int .i64 0, .slice none 0 0, .slice none 0 0, .slice none 0 0, .string ⟨#[]⟩, .int .i64 0, .slice none 0 0] 48)) (w.heap.size + 1 + 1) (.cells #[.int .i64 0, .slice none 0 0, .slice none 0 0, .slice none 0 0, .string ⟨#[]⟩, .int .i64 0, .slice none 0 0] 48) (by simp)
  go_enter Tryd.func6, Tryd.ntmps6
  go_upto_region 2 with fail
  generalize ((w.alloc (.cells #[.int .i64 now, .slice a rn cap, .slice ta tn tcap, .slice sa sn scap, .string g, .int .i64 sf, .slice pa pn pcap] 33)).alloc (.cells #[.int .i64 0, .slice none 0 0, .slice none 0 0, .slice none 0 0, .string ⟨#[]⟩, .int .i64 0, .slice none 0 0] 48)).alloc (.cells #[.int .i64 0, .slice none 0 0, .slice none 0 0, .slice none 0 0, .string ⟨#[]⟩, .int .i64 0, .slice none 0 0] 48) = W at *
  have hlW := lt_of_block g2
  obtain ⟨⟨d0, d1, d2, d3, d4, d5, d6⟩, _⟩ := cellk7 g0
  go_wp2_with fail
  refine (HR.out _ hB).mono ?_
  rintro e y ⟨B, T, S, rfl, hor, hy⟩
  replace g0 := keepheapO hy g0
  replace g1 := keepheapO hy g1
  replace g2 := keepheapO hy g2
  replace hB := btrans hB hy
  have hyz := hy.size
  have HOR := hid hor
  clear hy d0 d1 d2 d3 d4 d5 d6 HR hor
  obtain ⟨⟨f0, f1, f2, f3, f4, f5, f6⟩, p0, p1, p2, p3, p4, p5, p6⟩ := cellk7 g2
  go_upto_region 3 with fail
  have hfar : ∀ c, c ≠ w.heap.size + 1 + 1 → (((((y.setCell ⟨w.heap.size + 1 + 1, 0, none⟩ (.int .i64 now)).setCell ⟨w.heap.size + 1 + 1, 1, none⟩ (.slice (some ⟨B, 0, none⟩) rn rn)).setCell ⟨w.heap.size + 1 + 1, 2, none⟩ (.slice (some ⟨T, 0, none⟩) tn tn)).setCell ⟨w.heap.size + 1 + 1, 3, none⟩ (.slice (some ⟨S, 0, none⟩) sn sn))).heap[c]? = y.heap[c]? := fun c hc => by rw [Below.heap_setCell _ _ _ _ (by dsimp only; omega), Below.heap_setCell _ _ _ _ (by dsimp only; omega), Below.heap_setCell _ _ _ _ (by dsimp only; omega), Below.heap_setCell _ _ _ _ (by dsimp only; omega)]
  have hsz : (((((y.setCell ⟨w.heap.size + 1 + 1, 0, none⟩ (.int .i64 now)).setCell ⟨w.heap.size + 1 + 1, 1, none⟩ (.slice (some ⟨B, 0, none⟩) rn rn)).setCell ⟨w.heap.size + 1 + 1, 2, none⟩ (.slice (some ⟨T, 0, none⟩) tn tn)).setCell ⟨w.heap.size + 1 + 1, 3, none⟩ (.slice (some ⟨S, 0, none⟩) sn sn))).heap.size = y.heap.size := by simp
  have G2 := (set_in7 (k := 3) (u := .slice (some ⟨S, 0, none⟩) sn sn) (set_in7 (k := 2) (u := .slice (some ⟨T, 0, none⟩) tn tn) (set_in7 (k := 1) (u := .slice (some ⟨B, 0, none⟩) rn rn) (set_in7 (k := 0) (u := .int .i64 now) g2))))
  simp at G2
  replace hB := (bset (bset (bset (bset hB (q := w.heap.size + 1 + 1) (k := 0) (by omega) (.int .i64 now)) (q := w.heap.size + 1 + 1) (k := 1) (by omega) (.slice (some ⟨B, 0, none⟩) rn rn)) (q := w.heap.size + 1 + 1) (k := 2) (by omega) (.slice (some ⟨T, 0, none⟩) tn tn)) (q := w.heap.size + 1 + 1) (k := 3) (by omega) (.slice (some ⟨S, 0, none⟩) sn sn))
  replace g0 := (hfar _ (by omega)).trans g0
  replace g1 := (hfar _ (by omega)).trans g1
  replace HOR := hid (HOR.out.off (w' := ((((y.setCell ⟨w.heap.size + 1 + 1, 0, none⟩ (.int .i64 now)).setCell ⟨w.heap.size + 1 + 1, 1, none⟩ (.slice (some ⟨B, 0, none⟩) rn rn)).setCell ⟨w.heap.size + 1 + 1, 2, none⟩ (.slice (some ⟨T, 0, none⟩) tn tn)).setCell ⟨w.heap.size + 1 + 1, 3, none⟩ (.slice (some ⟨S, 0, none⟩) sn sn))) (fun b hb => hfar b (by omega)) (by omega))
  have hzY := hsz
  clear hfar hsz g2 f0 f1 f2 f3 f4 f5 f6 p0 p1 p2 p3 p4 p5 p6
  replace g2 := G2
  clear G2
  generalize ((((y.setCell ⟨w.heap.size + 1 + 1, 0, none⟩ (.int .i64 now)).setCell ⟨w.heap.size + 1 + 1, 1, none⟩ (.slice (some ⟨B, 0, none⟩) rn rn)).setCell ⟨w.heap.size + 1 + 1, 2, none⟩ (.slice (some ⟨T, 0, none⟩) tn tn)).setCell ⟨w.heap.size + 1 + 1, 3, none⟩ (.slice (some ⟨S, 0, none⟩) sn sn)) = Y at *
  obtain ⟨⟨f0, f1, f2, f3, f4, f5, f6⟩, p0, p1, p2, p3, p4, p5, p6⟩ := cellk7 g2
  obtain ⟨⟨d0, d1, d2, d3, d4, d5, d6⟩, _⟩ := cellk7 g0
  go_upto_region 4 with fail
  have hfar : ∀ c, c ≠ w.heap.size + 1 + 1 → ((Y.setCell ⟨w.heap.size + 1 + 1, 4, none⟩ (.string g))).heap[c]? = Y.heap[c]? := fun c hc => by rw [Below.heap_setCell _ _ _ _ (by dsimp only; omega)]
  have hsz : ((Y.setCell ⟨w.heap.size + 1 + 1, 4, none⟩ (.string g))).heap.size = Y.heap.size := by simp
  have G2 := (set_in7 (k := 4) (u := .string g) g2)
  simp at G2
  replace hB := (bset hB (q := w.heap.size + 1 + 1) (k := 4) (by omega) (.string g))
  replace g0 := (hfar _ (by omega)).trans g0
  replace g1 := (hfar _ (by omega)).trans g1
  replace HOR := hid (HOR.out.off (w' := (Y.setCell ⟨w.heap.size + 1 + 1, 4, none⟩ (.string g))) (fun b hb => hfar b (by omega)) (by omega))
  have hzV := hsz
  clear hfar hsz g2 d0 d1 d2 d3 d4 d5 d6 f0 f1 f2 f3 f4 f5 f6 p0 p1 p2 p3 p4 p5 p6
  replace g2 := G2
  clear G2
  generalize (Y.setCell ⟨w.heap.size + 1 + 1, 4, none⟩ (.string g)) = V at *
  obtain ⟨⟨f0, f1, f2, f3, f4, f5, f6⟩, p0, p1, p2, p3, p4, p5, p6⟩ := cellk7 g2
  obtain ⟨⟨d0, d1, d2, d3, d4, d5, d6⟩, _⟩ := cellk7 g0
  go_upto_region 5 with fail
  have hfar : ∀ c, c ≠ w.heap.size + 1 + 1 → ((V.setCell ⟨w.heap.size + 1 + 1, 5, none⟩ (.int .i64 sf))).heap[c]? = V.heap[c]? := fun c hc => by rw [Below.heap_setCell _ _ _ _ (by dsimp only; omega)]
  have hsz : ((V.setCell ⟨w.heap.size + 1 + 1, 5, none⟩ (.int .i64 sf))).heap.size = V.heap.size := by simp
  have G2 := (set_in7 (k := 5) (u := .int .i64 sf) g2)
  simp at G2
  replace hB := (bset hB (q := w.heap.size + 1 + 1) (k := 5) (by omega) (.int .i64 sf))
  replace g0 := (hfar _ (by omega)).trans g0
  replace g1 := (hfar _ (by omega)).trans g1
  replace HOR := hid (HOR.out.off (w' := (V.setCell ⟨w.heap.size + 1 + 1, 5, none⟩ (.int .i64 sf))) (fun b hb => hfar b (by omega)) (by omega))
  have hzU := hsz
  clear hfar hsz g2 d0 d1 d2 d3 d4 d5 d6 f0 f1 f2 f3 f4 f5 f6 p0 p1 p2 p3 p4 p5 p6
  replace g2 := G2
  clear G2
  generalize (V.setCell ⟨w.heap.size + 1 + 1, 5, none⟩ (.int .i64 sf)) = U at *
  obtain ⟨⟨f0, f1, f2, f3, f4, f5, f6⟩, p0, p1, p2, p3, p4, p5, p6⟩ := cellk7 g2
  obtain ⟨⟨d0, d1, d2, d3, d4, d5, d6⟩, _⟩ := cellk7 g0
  go_wp2_with fail
  refine (HI.out _ hB).mono ?_
  rintro e z ⟨P, rfl, hP, hoz, hz⟩
  replace g1 := keepheapO hz g1
  replace g2 := keepheapO hz g2
  replace hB := btrans hB hz
  replace HOR := hid (HOR.out.below hz)
  have HOZ := hid hoz
  have hzz := hz.size
  clear hz hoz d0 d1 d2 d3 d4 d5 d6 f0 f1 f2 f3 f4 f5 f6 p0 p1 p2 p3 p4 p5 p6 HI g0
  obtain ⟨⟨f0, f1, f2, f3, f4, f5, f6⟩, p0, p1, p2, p3, p4, p5, p6⟩ := cellk7 g2
  obtain ⟨⟨v0, v1, v2, v3, v4, v5, v6⟩, s0, s1, s2, s3, s4, s5, s6⟩ := cellk7 g1
  go_wp2_with fail
  have gF := setk7 (set_far (q := w.heap.size + 1 + 1) (k := 6) (u := (.slice (some ⟨P, 0, none⟩) pn pn)) g1 (by omega)) (.int .i64 now) (.slice (some ⟨B, 0, none⟩) rn rn) (.slice (some ⟨T, 0, none⟩) tn tn) (.slice (some ⟨S, 0, none⟩) sn sn) (.string g) (.int .i64 sf) (.slice (some ⟨P, 0, none⟩) pn pn)
  have bF := bsek7 (bset hB (q := w.heap.size + 1 + 1) (k := 6) (by omega) (.slice (some ⟨P, 0, none⟩) pn pn)) (p := w.heap.size + 1) (by omega) (.int .i64 now) (.slice (some ⟨B, 0, none⟩) rn rn) (.slice (some ⟨T, 0, none⟩) tn tn) (.slice (some ⟨S, 0, none⟩) sn sn) (.string g) (.int .i64 sf) (.slice (some ⟨P, 0, none⟩) pn pn)
  have hfar : ∀ c, w.heap.size + 1 + 1 < c → (sek7 (z.setCell ⟨w.heap.size + 1 + 1, 6, none⟩ (.slice (some ⟨P, 0, none⟩) pn pn)) (w.heap.size + 1) (.int .i64 now) (.slice (some ⟨B, 0, none⟩) rn rn) (.slice (some ⟨T, 0, none⟩) tn tn) (.slice (some ⟨S, 0, none⟩) sn sn) (.string g) (.int .i64 sf) (.slice (some ⟨P, 0, none⟩) pn pn)).heap[c]? = z.heap[c]? := fun c hc => (fak7 _ _ _ _ _ _ _ c (by omega)).trans (Below.heap_setCell _ _ _ _ (by dsimp only; omega))
  have hsz : z.heap.size ≤ (sek7 (z.setCell ⟨w.heap.size + 1 + 1, 6, none⟩ (.slice (some ⟨P, 0, none⟩) pn pn)) (w.heap.size + 1) (.int .i64 now) (.slice (some ⟨B, 0, none⟩) rn rn) (.slice (some ⟨T, 0, none⟩) tn tn) (.slice (some ⟨S, 0, none⟩) sn sn) (.string g) (.int .i64 sf) (.slice (some ⟨P, 0, none⟩) pn pn)).heap.size := Nat.le_trans (by simp) (sik7 (W := (z.setCell ⟨w.heap.size + 1 + 1, 6, none⟩ (.slice (some ⟨P, 0, none⟩) pn pn))) (p := w.heap.size + 1) (.int .i64 now) (.slice (some ⟨B, 0, none⟩) rn rn) (.slice (some ⟨T, 0, none⟩) tn tn) (.slice (some ⟨S, 0, none⟩) sn sn) (.string g) (.int .i64 sf) (.slice (some ⟨P, 0, none⟩) pn pn))
  have o1 := HOR.out.off (w' := sek7 (z.setCell ⟨w.heap.size + 1 + 1, 6, none⟩ (.slice (some ⟨P, 0, none⟩) pn pn)) (w.heap.size + 1) (.int .i64 now) (.slice (some ⟨B, 0, none⟩) rn rn) (.slice (some ⟨T, 0, none⟩) tn tn) (.slice (some ⟨S, 0, none⟩) sn sn) (.string g) (.int .i64 sf) (.slice (some ⟨P, 0, none⟩) pn pn)) (fun b hb => hfar b (by omega)) hsz
  have o2 := HOZ.out.of_block (w' := sek7 (z.setCell ⟨w.heap.size + 1 + 1, 6, none⟩ (.slice (some ⟨P, 0, none⟩) pn pn)) (w.heap.size + 1) (.int .i64 now) (.slice (some ⟨B, 0, none⟩) rn rn) (.slice (some ⟨T, 0, none⟩) tn tn) (.slice (some ⟨S, 0, none⟩) sn sn) (.string g) (.int .i64 sf) (.slice (some ⟨P, 0, none⟩) pn pn)) (hfar P (by omega)) hsz
  clear hfar hsz
  unfold sek7 at gF bF o1 o2
  generalize ((((((((z.setCell ⟨w.heap.size + 1 + 1, 6, none⟩ (.slice (some ⟨P, 0, none⟩) pn pn)).setCell ⟨w.heap.size + 1, 0, none⟩ (.int .i64 now)).setCell ⟨w.heap.size + 1, 1, none⟩ (.slice (some ⟨B, 0, none⟩) rn rn)).setCell ⟨w.heap.size + 1, 2, none⟩ (.slice (some ⟨T, 0, none⟩) tn tn)).setCell ⟨w.heap.size + 1, 3, none⟩ (.slice (some ⟨S, 0, none⟩) sn sn)).setCell ⟨w.heap.size + 1, 4, none⟩ (.string g)).setCell ⟨w.heap.size + 1, 5, none⟩ (.int .i64 sf)).setCell ⟨w.heap.size + 1, 6, none⟩ (.slice (some ⟨P, 0, none⟩) pn pn)) = wf at *
  obtain ⟨⟨z0, z1, z2, z3, z4, z5, z6⟩, _⟩ := cellk7 gF
  exact bodyPost_ret (v := .agg #[.int .i64 now, .slice (some ⟨B, 0, none⟩) rn rn, .slice (some ⟨T, 0, none⟩) tn tn, .slice (some ⟨S, 0, none⟩) sn sn, .string g, .int .i64 sf, .slice (some ⟨P, 0, none⟩) pn pn]) (by simp [results, Tryd.results6, go_sem, z0, z1, z2, z3, z4, z5, z6]) rfl ⟨B, T, S, P, rfl, ⟨⟨by have := o1.1; omega, by have := o1.2.1; omega, by have := o1.2.2.1; omega, o1.2.2.2⟩, by omega, o2⟩, bF⟩
set_option maxHeartbeats 4000000 in
theorem eq_site (now sf : Int) (g : ByteArray) (B T S P B' T' S' P' lo lo' : Nat) (rs : List Rw) (ts : List Tx) (zs : List Int) (ps : List (Int × Int)) (w : World) (hm : rs.length ≤ 1099511627776) (htm : ts.length ≤ 1099511627776) (hzm : zs.length ≤ 1048576) (hpm : ps.length ≤ 1099511627776) (h1 : SITX lo w B T S P rs ts zs ps) (h2 : SITX lo' w B' T' S' P' rs ts zs ps) : Calls Tryd.prog 9 #[.agg #[.int .i64 now, .slice (some ⟨B, 0, none⟩) rs.length rs.length, .slice (some ⟨T, 0, none⟩) ts.length ts.length, .slice (some ⟨S, 0, none⟩) zs.length zs.length, .string g, .int .i64 sf, .slice (some ⟨P, 0, none⟩) ps.length ps.length], .agg #[.int .i64 now, .slice (some ⟨B', 0, none⟩) rs.length rs.length, .slice (some ⟨T', 0, none⟩) ts.length ts.length, .slice (some ⟨S', 0, none⟩) zs.length zs.length, .string g, .int .i64 sf, .slice (some ⟨P', 0, none⟩) ps.length ps.length]] w fun e w' => e = .returned (.bool true) ∧ Below w.heap.size w w' := by
  have HE := hid (fun (W : World) (hb : Below w.heap.size w W) => eq_db now B T S B' T' S' lo lo' rs ts zs W hm htm hzm (h1.below hb).1 (h2.below hb).1)
  have HI := hid (fun (W : World) (hb : Below w.heap.size w W) => eq_counts (some ⟨P, 0, none⟩) (some ⟨P', 0, none⟩) ps.length ps.length ps W hpm (Nat.le_refl _) (Nat.le_refl _) (h1.below hb).2.2.pts (h2.below hb).2.2.pts)
  clear h1 h2
  generalize rs.length = rn at *
  generalize ts.length = tn at *
  generalize zs.length = sn at *
  generalize ps.length = pn at *
  have hB0 : Below w.heap.size w ((w.alloc (.cells #[.int .i64 now, .slice (some ⟨B, 0, none⟩) rn rn, .slice (some ⟨T, 0, none⟩) tn tn, .slice (some ⟨S, 0, none⟩) sn sn, .string g, .int .i64 sf, .slice (some ⟨P, 0, none⟩) pn pn] 48)).alloc (.cells #[.int .i64 now, .slice (some ⟨B', 0, none⟩) rn rn, .slice (some ⟨T', 0, none⟩) tn tn, .slice (some ⟨S', 0, none⟩) sn sn, .string g, .int .i64 sf, .slice (some ⟨P', 0, none⟩) pn pn] 48)) := balloc (balloc (Below.refl _ _) _) _
  have g0 := old_alloc (o' := .cells #[.int .i64 now, .slice (some ⟨B', 0, none⟩) rn rn, .slice (some ⟨T', 0, none⟩) tn tn, .slice (some ⟨S', 0, none⟩) sn sn, .string g, .int .i64 sf, .slice (some ⟨P', 0, none⟩) pn pn] 48) (new_alloc w w.heap.size (.cells #[.int .i64 now, .slice (some ⟨B, 0, none⟩) rn rn, .slice (some ⟨T, 0, none⟩) tn tn, .slice (some ⟨S, 0, none⟩) sn sn, .string g, .int .i64 sf, .slice (some ⟨P, 0, none⟩) pn pn] 48) rfl)
  have g1 := new_alloc (w.alloc (.cells #[.int .i64 now, .slice (some ⟨B, 0, none⟩) rn rn, .slice (some ⟨T, 0, none⟩) tn tn, .slice (some ⟨S, 0, none⟩) sn sn, .string g, .int .i64 sf, .slice (some ⟨P, 0, none⟩) pn pn] 48)) (w.heap.size + 1) (.cells #[.int .i64 now, .slice (some ⟨B', 0, none⟩) rn rn, .slice (some ⟨T', 0, none⟩) tn tn, .slice (some ⟨S', 0, none⟩) sn sn, .string g, .int .i64 sf, .slice (some ⟨P', 0, none⟩) pn pn] 48) (by simp)
  go_enter Tryd.func9, Tryd.ntmps9
  go_upto_region 1 with fail
  generalize (w.alloc (.cells #[.int .i64 now, .slice (some ⟨B, 0, none⟩) rn rn, .slice (some ⟨T, 0, none⟩) tn tn, .slice (some ⟨S, 0, none⟩) sn sn, .string g, .int .i64 sf, .slice (some ⟨P, 0, none⟩) pn pn] 48)).alloc (.cells #[.int .i64 now, .slice (some ⟨B', 0, none⟩) rn rn, .slice (some ⟨T', 0, none⟩) tn tn, .slice (some ⟨S', 0, none⟩) sn sn, .string g, .int .i64 sf, .slice (some ⟨P', 0, none⟩) pn pn] 48) = W0 at *
  obtain ⟨⟨d0, d1, d2, d3, d4, d5, d6⟩, _⟩ := cellk7 g0
  obtain ⟨⟨f0, f1, f2, f3, f4, f5, f6⟩, _⟩ := cellk7 g1
  go_wp2_with fail
  refine (HE.out _ hB0).mono ?_
  rintro e w1 ⟨rfl, hb⟩
  replace g0 := keepheapO hb g0
  replace g1 := keepheapO hb g1
  replace hB0 := btrans hB0 hb
  clear hb d0 d1 d2 d3 d4 d5 d6 f0 f1 f2 f3 f4 f5 f6
  obtain ⟨⟨d0, d1, d2, d3, d4, d5, d6⟩, _⟩ := cellk7 g0
  obtain ⟨⟨f0, f1, f2, f3, f4, f5, f6⟩, _⟩ := cellk7 g1
  go_wp2_with fail
  refine (HI.out _ hB0).mono ?_
  rintro e w2 ⟨rfl, hb⟩
  replace hB0 := btrans hB0 hb
  clear hb
  go_wp2_with fail
  go_ret
  exact ⟨rfl, hB0⟩
end Go.Proofs.YtdhdfgobefapiaaDoor
