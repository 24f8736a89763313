/- SiteTile of both sides; the walk of FnExactSiteTile. -/
import Derived.Test.YtdhdfgobefapiaaDoorGd
import Derived.Test.YtdhdfgobefapiaaDoorKi
import Derived.Test.YtdhdfgobefapiaaDoorOf0
import Derived.ChangeSlices
namespace Go.Proofs.YtdhdfgobefapiaaDoor
open Go.RowKit
set_option linter.unusedSimpArgs false
set_option linter.unusedVariables false
set_option maxHeartbeats 4000000 in
theorem impl_SiteTile (now sf : Int) (g : ByteArray) (B T S P rn tn sn : Nat) (ps : List (Int × Int)) (l c r : Int) (w : World) (ht : Tab w) (hk : KsIn ps) (hpm : ps.length ≤ 1099511627776) (h : PtsOwn w P ps) : Calls Tryd.prog 8 #[.agg #[.int .i64 now, .slice (some ⟨B, 0, none⟩) rn rn, .slice (some ⟨T, 0, none⟩) tn tn, .slice (some ⟨S, 0, none⟩) sn sn, .string g, .int .i64 sf, .slice (some ⟨P, 0, none⟩) ps.length ps.length], .agg #[.int .i64 l, .int .i64 c, .int .i64 r]] w fun e w' => e = .returned (.int .i64 (pgv ps l c r)) ∧ Below w.heap.size w w' := by
  have HP := hid (fun (W : World) (hb : Below w.heap.size w W) => impl_PyramidGet (some ⟨P, 0, none⟩) ps.length ps l c r W (ht.below hb) hk hpm (Nat.le_refl _) (h.below hb).pts)
  clear h ht hk
  generalize pgv ps l c r = v at *
  generalize ps.length = pn at *
  have hB0 : Below w.heap.size w ((w.alloc (.cells #[.int .i64 now, .slice (some ⟨B, 0, none⟩) rn rn, .slice (some ⟨T, 0, none⟩) tn tn, .slice (some ⟨S, 0, none⟩) sn sn, .string g, .int .i64 sf, .slice (some ⟨P, 0, none⟩) pn pn] 48)).alloc (.cells #[.int .i64 l, .int .i64 c, .int .i64 r] 50)) := balloc (balloc (Below.refl _ _) _) _
  have g0 := old_alloc (o' := .cells #[.int .i64 l, .int .i64 c, .int .i64 r] 50) (new_alloc w w.heap.size (.cells #[.int .i64 now, .slice (some ⟨B, 0, none⟩) rn rn, .slice (some ⟨T, 0, none⟩) tn tn, .slice (some ⟨S, 0, none⟩) sn sn, .string g, .int .i64 sf, .slice (some ⟨P, 0, none⟩) pn pn] 48) rfl)
  have g1 := new_alloc (w.alloc (.cells #[.int .i64 now, .slice (some ⟨B, 0, none⟩) rn rn, .slice (some ⟨T, 0, none⟩) tn tn, .slice (some ⟨S, 0, none⟩) sn sn, .string g, .int .i64 sf, .slice (some ⟨P, 0, none⟩) pn pn] 48)) (w.heap.size + 1) (.cells #[.int .i64 l, .int .i64 c, .int .i64 r] 50) (by simp)
  go_enter Tryd.func8, Tryd.ntmps8
  go_upto_region 1 with fail
  generalize (w.alloc (.cells #[.int .i64 now, .slice (some ⟨B, 0, none⟩) rn rn, .slice (some ⟨T, 0, none⟩) tn tn, .slice (some ⟨S, 0, none⟩) sn sn, .string g, .int .i64 sf, .slice (some ⟨P, 0, none⟩) pn pn] 48)).alloc (.cells #[.int .i64 l, .int .i64 c, .int .i64 r] 50) = W0 at *
  obtain ⟨⟨d0, d1, d2, d3, d4, d5, d6⟩, _⟩ := cellk7 g0
  obtain ⟨t0, t1, t2, _⟩ := cellT g1
  go_wp2_with fail
  refine (HP.out _ hB0).mono ?_
  rintro e w1 ⟨rfl, hb⟩
  replace hB0 := btrans hB0 hb
  clear hb
  go_wp2_with fail
  go_ret
  exact ⟨rfl, hB0⟩
set_option maxHeartbeats 4000000 in
theorem spec_SiteTile (now sf : Int) (g : ByteArray) (B T S P rn tn sn : Nat) (ps : List (Int × Int)) (l c r : Int) (w : World) (hpm : ps.length ≤ 1099511627776) (h : PtsOwn w P ps) : Calls Tryd.prog 5 #[.agg #[.int .i64 now, .slice (some ⟨B, 0, none⟩) rn rn, .slice (some ⟨T, 0, none⟩) tn tn, .slice (some ⟨S, 0, none⟩) sn sn, .string g, .int .i64 sf, .slice (some ⟨P, 0, none⟩) ps.length ps.length], .agg #[.int .i64 l, .int .i64 c, .int .i64 r]] w fun e w' => e = .returned (.int .i64 (pgv ps l c r)) ∧ Below w.heap.size w w' := by
  have HP := hid (fun (W : World) (hb : Below w.heap.size w W) => spec_PyramidGet (some ⟨P, 0, none⟩) ps.length ps l c r W hpm (Nat.le_refl _) (h.below hb).pts)
  clear h
  generalize pgv ps l c r = v at *
  generalize ps.length = pn at *
  have hB0 : Below w.heap.size w ((w.alloc (.cells #[.int .i64 now, .slice (some ⟨B, 0, none⟩) rn rn, .slice (some ⟨T, 0, none⟩) tn tn, .slice (some ⟨S, 0, none⟩) sn sn, .string g, .int .i64 sf, .slice (some ⟨P, 0, none⟩) pn pn] 48)).alloc (.cells #[.int .i64 l, .int .i64 c, .int .i64 r] 50)) := balloc (balloc (Below.refl _ _) _) _
  have g0 := old_alloc (o' := .cells #[.int .i64 l, .int .i64 c, .int .i64 r] 50) (new_alloc w w.heap.size (.cells #[.int .i64 now, .slice (some ⟨B, 0, none⟩) rn rn, .slice (some ⟨T, 0, none⟩) tn tn, .slice (some ⟨S, 0, none⟩) sn sn, .string g, .int .i64 sf, .slice (some ⟨P, 0, none⟩) pn pn] 48) rfl)
  have g1 := new_alloc (w.alloc (.cells #[.int .i64 now, .slice (some ⟨B, 0, none⟩) rn rn, .slice (some ⟨T, 0, none⟩) tn tn, .slice (some ⟨S, 0, none⟩) sn sn, .string g, .int .i64 sf, .slice (some ⟨P, 0, none⟩) pn pn] 48)) (w.heap.size + 1) (.cells #[.int .i64 l, .int .i64 c, .int .i64 r] 50) (by simp)
  go_enter Tryd.func5, Tryd.ntmps5
  go_upto_region 1 with fail
  generalize (w.alloc (.cells #[.int .i64 now, .slice (some ⟨B, 0, none⟩) rn rn, .slice (some ⟨T, 0, none⟩) tn tn, .slice (some ⟨S, 0, none⟩) sn sn, .string g, .int .i64 sf, .slice (some ⟨P, 0, none⟩) pn pn] 48)).alloc (.cells #[.int .i64 l, .int .i64 c, .int .i64 r] 50) = W0 at *
  obtain ⟨⟨d0, d1, d2, d3, d4, d5, d6⟩, _⟩ := cellk7 g0
  obtain ⟨t0, t1, t2, _⟩ := cellT g1
  go_wp2_with fail
  refine (HP.out _ hB0).mono ?_
  rintro e w1 ⟨rfl, hb⟩
  replace hB0 := btrans hB0 hb
  clear hb
  go_wp2_with fail
  go_ret
  exact ⟨rfl, hB0⟩
theorem cellsSite : Tryd.prog.cellsOf 33 = 7 := by kernel_rfl
theorem cellsCount : Tryd.prog.cellsOf 70 = 2 := by kernel_rfl
set_option maxRecDepth 100000 in
theorem open_site {H : Type} {enc : TypeId × Value → H} {W : World} {base fuel : Nat} {cs : List Value} {x : DataW H × List MemPlace} (h : DataW.trod enc Tryd.prog W base (fun _ => true) true fuel 33 cs = some x) : ∃ (now : Int) (a : Option Addr) (cap : Nat) (rs : List Rw) (ta : Option Addr) (tcap : Nat) (ts : List Tx) (sa : Option Addr) (scap : Nat) (zs : List Int) (g : ByteArray) (sf : Int) (pa : Option Addr) (pcap : Nat) (ps : List (Int × Int)), cs = [.int .i64 now, .slice a rs.length cap, .slice ta ts.length tcap, .slice sa zs.length scap, .string g, .int .i64 sf, .slice pa ps.length pcap] ∧ rs.length ≤ 9223372036854775807 ∧ RwsL W a rs ∧ ts.length ≤ 9223372036854775807 ∧ Txs (fun _ => True) 9223372036854775807 W ta ts ∧ zs.length ≤ 9223372036854775807 ∧ InI W sa zs ∧ g.size ≤ maxLen ∧ CtsIn W pa pcap ps := by
  obtain ⟨xs, n, _, _, hlen, hxl, hf⟩ := DataW.trod_struct Tryd.underlying33 h
  rw [cellsSite] at hlen
  match xs, hxl, cs, hlen with
  | [y0, y1, y2, y3], _, [v0, v1, v2, v3, v4, v5, v6], _ =>
    have g0 : DataW.trod enc Tryd.prog W base (fun _ => true) true n 30 (([v0, v1, v2, v3, v4, v5, v6].drop 0).take (Tryd.prog.cellsOf 30)) = some y0 := hf 0 _ rfl
    have g1 : DataW.trod enc Tryd.prog W base (fun _ => true) true n 9 (([v0, v1, v2, v3, v4, v5, v6].drop 4).take (Tryd.prog.cellsOf 9)) = some y1 := hf 1 _ rfl
    have g2 : DataW.trod enc Tryd.prog W base (fun _ => true) true n 3 (([v0, v1, v2, v3, v4, v5, v6].drop 5).take (Tryd.prog.cellsOf 3)) = some y2 := hf 2 _ rfl
    have g3 : DataW.trod enc Tryd.prog W base (fun _ => true) true n 31 (([v0, v1, v2, v3, v4, v5, v6].drop 6).take (Tryd.prog.cellsOf 31)) = some y3 := hf 3 _ rfl
    rw [cellsDb] at g0
    rw [show Tryd.prog.cellsOf 9 = 1 by kernel_rfl] at g1
    rw [show Tryd.prog.cellsOf 3 = 1 by kernel_rfl] at g2
    rw [show Tryd.prog.cellsOf 31 = 1 by kernel_rfl] at g3
    simp at g0 g1 g2 g3
    obtain ⟨now, a, cap, rs, ta, tcap, ts, sa, scap, zs, e, h1, h2, h3, h4, h5, h6⟩ := open_db g0
    obtain ⟨g, eg, _, hg⟩ := DataW.trod_string Tryd.underlying9 g1
    obtain ⟨sf, ef, _, _⟩ := DataW.trod_int Tryd.underlying3 g2
    obtain ⟨pa, pcap, ps, ep, wp⟩ : ∃ (a : Option Addr) (cap : Nat) (ps : List (Int × Int)), v6 = .slice a ps.length cap ∧ CtsIn W a cap ps := by
      rcases Go.Deep.open_slice_pairs Tryd.underlying31 Tryd.underlying70 cellsCount rfl rfl (by kernel_rfl) (by kernel_rfl) g3 with ⟨hcs, _⟩ | ⟨x, l, c, m, n, V0, V1, D0, D1, P0, P1, hcs, _, hl, hm, hmm, _, hall⟩
      · simp at hcs
        exact ⟨none, 0, [], hcs, ctsIn_nil _ _⟩
      · simp at hcs
        obtain ⟨ps, hp, hw⟩ := ctsIn_of hl hm (fun j hj => by
          obtain ⟨h1, h2, h3, h4⟩ := hall j (by rw [hmm]; simp; omega)
          obtain ⟨z0, e0, _, y0⟩ := DataW.trod_int Tryd.underlying3 h3
          obtain ⟨z1, e1, _, y1⟩ := DataW.trod_int Tryd.underlying3 h4
          simp at e0 e1
          exact ⟨z0, z1, by rw [h1, e0], by rw [h2, e1], y0, y1⟩)
        exact ⟨some x, c, ps, by rw [hcs, hp], hw⟩
    simp at e eg ef
    exact ⟨now, a, cap, rs, ta, tcap, ts, sa, scap, zs, g, sf, pa, pcap, ps, by simp [e, eg, ef, ep], h1, h2, h3, h4, h5, h6, hg, wp⟩
set_option maxRecDepth 100000 in
set_option maxHeartbeats 16000000 in
theorem sitetile_w (now sf : Int) (g : ByteArray) (a ta sa pa : Option Addr) (cap tcap scap pcap : Nat) (rs : List Rw) (ts : List Tx) (zs : List Int) (ps : List (Int × Int)) (w : World) (l c r : Int) (hl : rs.length ≤ 9223372036854775807) (w0 : RwsL w a rs) (htl : ts.length ≤ 9223372036854775807) (wt : Txs (fun _ => True) 9223372036854775807 w ta ts) (hsl : zs.length ≤ 9223372036854775807) (ws : InI w sa zs) (hg : g.size ≤ maxLen) (wp : CtsIn w pa pcap ps) (hT : Tab w) : Calls Tryd.prog 3 #[.agg #[.int .i64 now, .slice a rs.length cap, .slice ta ts.length tcap, .slice sa zs.length scap, .string g, .int .i64 sf, .slice pa ps.length pcap], .agg #[.int .i64 l, .int .i64 c, .int .i64 r]] w fun e w' => e = .returned (.bool true) ∧ Below w.heap.size w w' := by
  obtain ⟨⟨hp, hc, hm⟩, hk⟩ := wp
  have hpl : ps.length ≤ 9223372036854775807 := by omega
  have HZ := hid (fun (W : World) (hb : Below w.heap.size w W) => sz_site now sf g a ta sa pa cap tcap scap pcap rs ts zs ps W hl htl hsl hg hpl (w0.below hb) (wt.below hb))
  have HTD : Hid (((((rs.length ≤ 1048576 ∧ ∀ m (h : m < rs.length), rs[m].2.2.2.2.length ≤ 1048576) ∧ txS ts) ∧ zs.length ≤ 1048576) ∧ ps.length ≤ 1048576) → (rs.length ≤ 1099511627776 ∧ ts.length ≤ 1099511627776 ∧ zs.length ≤ 1048576 ∧ ps.length ≤ 1099511627776) ∧ ∀ (W : World), Below w.heap.size w W → Calls Tryd.prog 6 #[.agg #[.int .i64 now, .slice a rs.length cap, .slice ta ts.length tcap, .slice sa zs.length scap, .string g, .int .i64 sf, .slice pa ps.length pcap]] W fun e w' => ∃ B T S P, e = .returned (.agg #[.int .i64 now, .slice (some ⟨B, 0, none⟩) rs.length rs.length, .slice (some ⟨T, 0, none⟩) ts.length ts.length, .slice (some ⟨S, 0, none⟩) zs.length zs.length, .string g, .int .i64 sf, .slice (some ⟨P, 0, none⟩) ps.length ps.length]) ∧ SITX W.heap.size w' B T S P rs ts zs ps ∧ Below W.heap.size W w') := hid (fun q => ⟨⟨by have := q.1.1.1.1; omega, by have := q.1.1.2.1; omega, q.1.2, by have := q.2; omega⟩, fun W hb => to_site now sf g a ta sa pa cap tcap scap pcap rs ts zs ps W (by have := q.1.1.1.1; omega) (by have := q.1.1.2.1; omega) q.1.2 (by have := q.2; omega) hc ((w0.rws q.1.1.1.2).below hb) ((wt.small q.1.1.2).below hb) (ws.below hb) (hp.below hb)⟩)
  have HSI : Hid ((rs.length ≤ 1099511627776 ∧ ts.length ≤ 1099511627776 ∧ zs.length ≤ 1048576 ∧ ps.length ≤ 1099511627776) → ∀ (lo B T S P : Nat) (W : World), Below w.heap.size w W → SITX lo W B T S P rs ts zs ps → (Calls Tryd.prog 5 #[.agg #[.int .i64 now, .slice (some ⟨B, 0, none⟩) rs.length rs.length, .slice (some ⟨T, 0, none⟩) ts.length ts.length, .slice (some ⟨S, 0, none⟩) zs.length zs.length, .string g, .int .i64 sf, .slice (some ⟨P, 0, none⟩) ps.length ps.length], .agg #[.int .i64 l, .int .i64 c, .int .i64 r]] W fun e w' => e = .returned (.int .i64 (pgv ps l c r)) ∧ Below W.heap.size W w') ∧ (Calls Tryd.prog 8 #[.agg #[.int .i64 now, .slice (some ⟨B, 0, none⟩) rs.length rs.length, .slice (some ⟨T, 0, none⟩) ts.length ts.length, .slice (some ⟨S, 0, none⟩) zs.length zs.length, .string g, .int .i64 sf, .slice (some ⟨P, 0, none⟩) ps.length ps.length], .agg #[.int .i64 l, .int .i64 c, .int .i64 r]] W fun e w' => e = .returned (.int .i64 (pgv ps l c r)) ∧ Below W.heap.size W w')) := hid (fun q lo B T S P W hb hd => ⟨spec_SiteTile now sf g B T S P _ _ _ ps l c r W q.2.2.2 hd.2.2, impl_SiteTile now sf g B T S P _ _ _ ps l c r W (hT.below hb) hk q.2.2.2 hd.2.2⟩)
  have HEQ : Hid ((rs.length ≤ 1099511627776 ∧ ts.length ≤ 1099511627776 ∧ zs.length ≤ 1048576 ∧ ps.length ≤ 1099511627776) → ∀ (B T S P B' T' S' P' lo lo' : Nat) (W : World), SITX lo W B T S P rs ts zs ps → SITX lo' W B' T' S' P' rs ts zs ps → Calls Tryd.prog 9 #[.agg #[.int .i64 now, .slice (some ⟨B, 0, none⟩) rs.length rs.length, .slice (some ⟨T, 0, none⟩) ts.length ts.length, .slice (some ⟨S, 0, none⟩) zs.length zs.length, .string g, .int .i64 sf, .slice (some ⟨P, 0, none⟩) ps.length ps.length], .agg #[.int .i64 now, .slice (some ⟨B', 0, none⟩) rs.length rs.length, .slice (some ⟨T', 0, none⟩) ts.length ts.length, .slice (some ⟨S', 0, none⟩) zs.length zs.length, .string g, .int .i64 sf, .slice (some ⟨P', 0, none⟩) ps.length ps.length]] W fun e w' => e = .returned (.bool true) ∧ Below W.heap.size W w') := hid (fun q B T S P B' T' S' P' lo lo' W d1 d2 => eq_site now sf g B T S P B' T' S' P' lo lo' rs ts zs ps W q.1 q.2.1 q.2.2.1 q.2.2.2 d1 d2)
  clear w0 wt ws hp hT hk hc hm hpl hl htl hsl
  generalize pgv ps l c r = pv at *
  generalize ((((rs.length ≤ 1048576 ∧ ∀ m (h : m < rs.length), rs[m].2.2.2.2.length ≤ 1048576) ∧ txS ts) ∧ zs.length ≤ 1048576) ∧ ps.length ≤ 1048576) = RR at *
  generalize (rs.length ≤ 1099511627776 ∧ ts.length ≤ 1099511627776 ∧ zs.length ≤ 1048576 ∧ ps.length ≤ 1099511627776) = BB at *
  generalize rs.length = rn at *
  generalize ts.length = tn at *
  generalize zs.length = sn at *
  generalize ps.length = pn at *
  have hdd : (pv != pv) = false := by simp
  have hB : Below w.heap.size w ((w.alloc (.cells #[.int .i64 now, .slice a rn cap, .slice ta tn tcap, .slice sa sn scap, .string g, .int .i64 sf, .slice pa pn pcap] 33)).alloc (.cells #[.int .i64 l, .int .i64 c, .int .i64 r] 35)) := balloc (balloc (Below.refl _ _) _) _
  have g0 := old_alloc (o' := .cells #[.int .i64 l, .int .i64 c, .int .i64 r] 35) (new_alloc w w.heap.size (.cells #[.int .i64 now, .slice a rn cap, .slice ta tn tcap, .slice sa sn scap, .string g, .int .i64 sf, .slice pa pn pcap] 33) rfl)
  have g1 := new_alloc (w.alloc (.cells #[.int .i64 now, .slice a rn cap, .slice ta tn tcap, .slice sa sn scap, .string g, .int .i64 sf, .slice pa pn pcap] 33)) (w.heap.size + 1) (.cells #[.int .i64 l, .int .i64 c, .int .i64 r] 35) (by simp)
  go_enter Tryd.func3, Tryd.ntmps3
  go_upto_region 1 with fail
  generalize (w.alloc (.cells #[.int .i64 now, .slice a rn cap, .slice ta tn tcap, .slice sa sn scap, .string g, .int .i64 sf, .slice pa pn pcap] 33)).alloc (.cells #[.int .i64 l, .int .i64 c, .int .i64 r] 35) = W at *
  obtain ⟨X, hX⟩ : ∃ X, X = w.heap.size := ⟨_, rfl⟩
  obtain ⟨Y, hY⟩ : ∃ Y, Y = w.heap.size + 1 := ⟨_, rfl⟩
  rw [← hX] at g0
  rw [← hY] at g1
  try rw [← hY]
  rw [← hX]
  clear hX hY
  obtain ⟨⟨d0, d1, d2, d3, d4, d5, d6⟩, _⟩ := cellk7 g0
  obtain ⟨t0, t1, t2, _⟩ := cellT g1
  go_wp2_with fail
  refine (HZ.out _ hB).mono ?_
  rintro e y ⟨⟨v, rfl, hv⟩, hy⟩
  replace g0 := keepheapO hy g0
  replace g1 := keepheapO hy g1
  replace hB := btrans hB hy
  clear hy d0 d1 d2 d3 d4 d5 d6 t0 t1 t2 HZ
  obtain ⟨⟨d0, d1, d2, d3, d4, d5, d6⟩, _⟩ := cellk7 g0
  obtain ⟨t0, t1, t2, _⟩ := cellT g1
  rcases hv with rfl | ⟨hv0, HV⟩
  · go_wp2_with fail
    go_ret
    exact ⟨rfl, hB⟩
  · have hv2 : ¬ v < 0 := by omega
    obtain ⟨hbb, htd⟩ := HTD.out HV.out
    have HT := hid htd
    have HS := hid (HSI.out hbb)
    have HE := hid (HEQ.out hbb)
    clear htd HTD HSI HEQ HV
    have HB := hid hB
    clear hB
    go_upto_region 5 with fail
    refine wp_region_held_drew (S := (fun w' => w'.cell? ⟨X, 0, none⟩ = some (.int .i64 now) ∧ w'.cell? ⟨X, 1, none⟩ = some (.slice a rn cap) ∧ w'.cell? ⟨X, 2, none⟩ = some (.slice ta tn tcap) ∧ w'.cell? ⟨X, 3, none⟩ = some (.slice sa sn scap) ∧ w'.cell? ⟨X, 4, none⟩ = some (.string g) ∧ w'.cell? ⟨X, 5, none⟩ = some (.int .i64 sf) ∧ w'.cell? ⟨X, 6, none⟩ = some (.slice pa pn pcap) ∧ w'.cell? ⟨Y, 0, none⟩ = some (.int .i64 l) ∧ w'.cell? ⟨Y, 1, none⟩ = some (.int .i64 c) ∧ w'.cell? ⟨Y, 2, none⟩ = some (.int .i64 r))) (by kernel_rfl) ?_ (fun hHeld => ?_)
    · (repeat' apply And.intro) <;> (repeat (first | with_reducible assumption | with_reducible refine keepdrew ?_ | with_reducible refine keepcell (by with_reducible assumption) ?_ | with_reducible refine keepalloc ?_ _))
    refine wpAnyH_take (i := 0) (v := ?_) rfl (by kernel_rfl) (by kernel_rfl) (by kernel_rfl) (fun _ _ _ h => h) (Or.inl ⟨by rfl, ?_⟩) hHeld ?_
    rotate_left
    · intro w hSw; (try dsimp only at hSw); go_simp; try (with_reducible rfl)
    try simp only [sq]
    refine wpAnyH_take (i := 2) (v := ?_) rfl (by kernel_rfl) (by kernel_rfl) (by kernel_rfl) (fun _ _ _ h => h) (Or.inl ⟨by rfl, ?_⟩) hHeld ?_
    rotate_left
    · intro w hSw; (try dsimp only at hSw); go_simp; try (with_reducible rfl)
    try simp only [sq]
    refine wpAnyH_ready (rs := [1]) (by kernel_rfl) (by simp) ?_
    refine AllReadyH.cons rfl (fun K hK => ?_) AllReadyH.nil
    try simp only [sq]
    go_simp
    (first
        | (go_at_call 6; refine (HT.out _ (bdrew HB.out)).mono ?_; rintro e ya ⟨B1, T1, S1, P1, rfl, hd1, hya⟩; have HBa := hid (btrans (bdrew HB.out) hya); have HD1 := hid hd1; clear hd1))
    go_wp2_with fail
    refine hK.out _ _ ?_ (fun hHeld => ?_)
    · (repeat' apply And.intro) <;> (repeat (first | with_reducible assumption | with_reducible refine keepdrew ?_ | with_reducible refine keepcell (by with_reducible assumption) ?_ | with_reducible refine keepalloc ?_ _))
    clear hK K
    try simp only [sq]
    refine wpAnyH_ready (rs := [3]) (by kernel_rfl) (by simp) ?_
    refine AllReadyH.cons rfl (fun K hK => ?_) AllReadyH.nil
    try simp only [sq]
    go_simp
    (first
        | (go_at_call 7; refine (to_tile l c r _).mono ?_; rintro e yb ⟨rfl, hyb⟩; have HBb := hid (btrans HBa.out hyb); have HD1b := hid (HD1.out.below hyb)))
    go_wp2_with fail
    refine hK.out _ _ ?_ (fun hHeld => ?_)
    · (repeat' apply And.intro) <;> (repeat (first | with_reducible assumption | with_reducible refine keepdrew ?_ | with_reducible refine keepcell (by with_reducible assumption) ?_ | with_reducible refine keepalloc ?_ _))
    clear hK K
    try simp only [sq]
    refine wpAnyH_ready (rs := [4]) (by kernel_rfl) (by simp) ?_
    refine AllReadyH.cons rfl (fun K hK => ?_) AllReadyH.nil
    try simp only [sq]
    go_simp
    (first
        | (go_at_call 5; refine (HS.out _ B1 T1 S1 P1 _ HBb.out HD1b.out).1.mono ?_; rintro e yc ⟨rfl, hyc⟩; have HBc := hid (btrans HBb.out hyc)))
    go_wp2_with fail
    refine hK.out _ _ ?_ (fun hHeld => ?_)
    · (repeat' apply And.intro) <;> (repeat (first | with_reducible assumption | with_reducible refine keepdrew ?_ | with_reducible refine keepcell (by with_reducible assumption) ?_ | with_reducible refine keepalloc ?_ _))
    clear hK K
    try simp only [sq]
    refine wpAnyH_take (i := 5) (v := ?_) rfl (by kernel_rfl) (by kernel_rfl) (by kernel_rfl) (fun _ _ _ h => h) (Or.inl ⟨by rfl, ?_⟩) hHeld ?_
    rotate_left
    · intro w hSw; (try dsimp only at hSw); go_simp; try (with_reducible rfl)
    try simp only [sq]
    refine wpAnyH_done (by kernel_rfl) ?_ _
    clear HD1 HD1b HBa HBb HB hya hyb hyc
    obtain ⟨e0, e1, e2, e3, e4, e5, e6, u0, u1, u2⟩ := hHeld
    clear d0 d1 d2 d3 d4 d5 d6 t0 t1 t2 g0 g1
    go_wp2_with fail
    refine (HT.out _ HBc.out).mono ?_
    rintro e y3 ⟨B3, T3, S3, P3, rfl, hd3, hy⟩
    replace e0 := keepcell hy e0
    replace e1 := keepcell hy e1
    replace e2 := keepcell hy e2
    replace e3 := keepcell hy e3
    replace e4 := keepcell hy e4
    replace e5 := keepcell hy e5
    replace e6 := keepcell hy e6
    replace u0 := keepcell hy u0
    replace u1 := keepcell hy u1
    replace u2 := keepcell hy u2
    have HB3 := hid (btrans HBc.out hy)
    have HD3 := hid hd3
    clear hy hd3 HBc
    go_upto_region 7 with fail
    have gX := new_alloc y3 y3.heap.size (.cells #[.int .i64 now, .slice (some ⟨B3, 0, none⟩) rn rn, .slice (some ⟨T3, 0, none⟩) tn tn, .slice (some ⟨S3, 0, none⟩) sn sn, .string g, .int .i64 sf, .slice (some ⟨P3, 0, none⟩) pn pn] 48) rfl
    have hal : Below y3.heap.size y3 (y3.alloc (.cells #[.int .i64 now, .slice (some ⟨B3, 0, none⟩) rn rn, .slice (some ⟨T3, 0, none⟩) tn tn, .slice (some ⟨S3, 0, none⟩) sn sn, .string g, .int .i64 sf, .slice (some ⟨P3, 0, none⟩) pn pn] 48)) := balloc (Below.refl _ _) _
    replace e0 := keepcell hal e0
    replace e1 := keepcell hal e1
    replace e2 := keepcell hal e2
    replace e3 := keepcell hal e3
    replace e4 := keepcell hal e4
    replace e5 := keepcell hal e5
    replace e6 := keepcell hal e6
    replace u0 := keepcell hal u0
    replace u1 := keepcell hal u1
    replace u2 := keepcell hal u2
    replace HB3 := hid (btrans HB3.out hal)
    replace HD3 := hid (HD3.out.below hal)
    clear hal
    generalize y3.alloc (.cells #[.int .i64 now, .slice (some ⟨B3, 0, none⟩) rn rn, .slice (some ⟨T3, 0, none⟩) tn tn, .slice (some ⟨S3, 0, none⟩) sn sn, .string g, .int .i64 sf, .slice (some ⟨P3, 0, none⟩) pn pn] 48) = Y3 at *
    generalize hZ : y3.heap.size = Z at *
    clear hZ
    obtain ⟨⟨x0, x1, x2, x3, x4, x5, x6⟩, _⟩ := cellk7 gX
    refine wp_region_held_drew (S := (fun w' => w'.cell? ⟨X, 0, none⟩ = some (.int .i64 now) ∧ w'.cell? ⟨X, 1, none⟩ = some (.slice a rn cap) ∧ w'.cell? ⟨X, 2, none⟩ = some (.slice ta tn tcap) ∧ w'.cell? ⟨X, 3, none⟩ = some (.slice sa sn scap) ∧ w'.cell? ⟨X, 4, none⟩ = some (.string g) ∧ w'.cell? ⟨X, 5, none⟩ = some (.int .i64 sf) ∧ w'.cell? ⟨X, 6, none⟩ = some (.slice pa pn pcap) ∧ w'.cell? ⟨Y, 0, none⟩ = some (.int .i64 l) ∧ w'.cell? ⟨Y, 1, none⟩ = some (.int .i64 c) ∧ w'.cell? ⟨Y, 2, none⟩ = some (.int .i64 r) ∧ w'.cell? ⟨Z, 0, none⟩ = some (.int .i64 now) ∧ w'.cell? ⟨Z, 1, none⟩ = some (.slice (some ⟨B3, 0, none⟩) rn rn) ∧ w'.cell? ⟨Z, 2, none⟩ = some (.slice (some ⟨T3, 0, none⟩) tn tn) ∧ w'.cell? ⟨Z, 3, none⟩ = some (.slice (some ⟨S3, 0, none⟩) sn sn) ∧ w'.cell? ⟨Z, 4, none⟩ = some (.string g) ∧ w'.cell? ⟨Z, 5, none⟩ = some (.int .i64 sf) ∧ w'.cell? ⟨Z, 6, none⟩ = some (.slice (some ⟨P3, 0, none⟩) pn pn))) (by kernel_rfl) ?_ (fun hHeld => ?_)
    · (repeat' apply And.intro) <;> (repeat (first | with_reducible assumption | with_reducible refine keepdrew ?_ | with_reducible refine keepcell (by with_reducible assumption) ?_ | with_reducible refine keepalloc ?_ _))
    refine wpAnyH_take (i := 0) (v := ?_) rfl (by kernel_rfl) (by kernel_rfl) (by kernel_rfl) (fun _ _ _ h => h) (Or.inl ⟨by rfl, ?_⟩) hHeld ?_
    rotate_left
    · intro w hSw; (try dsimp only at hSw); go_simp; try (with_reducible rfl)
    try simp only [sq]
    refine wpAnyH_take (i := 1) (v := ?_) rfl (by kernel_rfl) (by kernel_rfl) (by kernel_rfl) (fun _ _ _ h => h) (Or.inl ⟨by rfl, ?_⟩) hHeld ?_
    rotate_left
    · intro w hSw; (try dsimp only at hSw); go_simp; try (with_reducible rfl)
    try simp only [sq]
    refine wpAnyH_ready (rs := [2]) (by kernel_rfl) (by simp) ?_
    refine AllReadyH.cons rfl (fun K hK => ?_) AllReadyH.nil
    try simp only [sq]
    go_simp
    (first
        | (go_at_call 7; refine (to_tile l c r _).mono ?_; rintro e yd ⟨rfl, hyd⟩; have HBd := hid (btrans (bdrew HB3.out) hyd); have HD3d := hid ((HD3.out.below (bdrew (Below.refl _ _))).below hyd)))
    go_wp2_with fail
    refine hK.out _ _ ?_ (fun hHeld => ?_)
    · (repeat' apply And.intro) <;> (repeat (first | with_reducible assumption | with_reducible refine keepdrew ?_ | with_reducible refine keepcell (by with_reducible assumption) ?_ | with_reducible refine keepalloc ?_ _))
    clear hK K
    try simp only [sq]
    refine wpAnyH_ready (rs := [3]) (by kernel_rfl) (by simp) ?_
    refine AllReadyH.cons rfl (fun K hK => ?_) AllReadyH.nil
    try simp only [sq]
    go_simp
    (first
        | (go_at_call 8; refine (HS.out _ B3 T3 S3 P3 _ HBd.out HD3d.out).2.mono ?_; rintro e ye ⟨rfl, hye⟩; have HBe := hid (btrans HBd.out hye); have HD3e := hid (HD3d.out.below hye)))
    go_wp2_with fail
    refine hK.out _ _ ?_ (fun hHeld => ?_)
    · (repeat' apply And.intro) <;> (repeat (first | with_reducible assumption | with_reducible refine keepdrew ?_ | with_reducible refine keepcell (by with_reducible assumption) ?_ | with_reducible refine keepalloc ?_ _))
    clear hK K
    try simp only [sq]
    refine wpAnyH_take (i := 4) (v := ?_) rfl (by kernel_rfl) (by kernel_rfl) (by kernel_rfl) (fun _ _ _ h => h) (Or.inl ⟨by rfl, ?_⟩) hHeld ?_
    rotate_left
    · intro w hSw; (try dsimp only at hSw); go_simp; try (with_reducible rfl)
    try simp only [sq]
    refine wpAnyH_done (by kernel_rfl) ?_ _
    clear HD3 HD3d HB3 HBd hyd hye e0 e1 e2 e3 e4 e5 e6 u0 u1 u2 x0 x1 x2 x3 x4 x5 x6 gX
    obtain ⟨e0, e1, e2, e3, e4, e5, e6, u0, u1, u2, x0, x1, x2, x3, x4, x5, x6⟩ := hHeld
    go_upto_region 10 with fail
    refine wp_region_held_drew (S := (fun w' => w'.cell? ⟨X, 0, none⟩ = some (.int .i64 now) ∧ w'.cell? ⟨X, 1, none⟩ = some (.slice a rn cap) ∧ w'.cell? ⟨X, 2, none⟩ = some (.slice ta tn tcap) ∧ w'.cell? ⟨X, 3, none⟩ = some (.slice sa sn scap) ∧ w'.cell? ⟨X, 4, none⟩ = some (.string g) ∧ w'.cell? ⟨X, 5, none⟩ = some (.int .i64 sf) ∧ w'.cell? ⟨X, 6, none⟩ = some (.slice pa pn pcap) ∧ w'.cell? ⟨Y, 0, none⟩ = some (.int .i64 l) ∧ w'.cell? ⟨Y, 1, none⟩ = some (.int .i64 c) ∧ w'.cell? ⟨Y, 2, none⟩ = some (.int .i64 r) ∧ w'.cell? ⟨Z, 0, none⟩ = some (.int .i64 now) ∧ w'.cell? ⟨Z, 1, none⟩ = some (.slice (some ⟨B3, 0, none⟩) rn rn) ∧ w'.cell? ⟨Z, 2, none⟩ = some (.slice (some ⟨T3, 0, none⟩) tn tn) ∧ w'.cell? ⟨Z, 3, none⟩ = some (.slice (some ⟨S3, 0, none⟩) sn sn) ∧ w'.cell? ⟨Z, 4, none⟩ = some (.string g) ∧ w'.cell? ⟨Z, 5, none⟩ = some (.int .i64 sf) ∧ w'.cell? ⟨Z, 6, none⟩ = some (.slice (some ⟨P3, 0, none⟩) pn pn))) (by kernel_rfl) ?_ (fun hHeld => ?_)
    · (repeat' apply And.intro) <;> (repeat (first | with_reducible assumption | with_reducible refine keepdrew ?_ | with_reducible refine keepcell (by with_reducible assumption) ?_ | with_reducible refine keepalloc ?_ _))
    refine wpAnyH_take (i := 0) (v := ?_) rfl (by kernel_rfl) (by kernel_rfl) (by kernel_rfl) (fun _ _ _ h => h) (Or.inl ⟨by rfl, ?_⟩) hHeld ?_
    rotate_left
    · intro w hSw; (try dsimp only at hSw); go_simp; try (with_reducible rfl)
    try simp only [sq]
    refine wpAnyH_take (i := 1) (v := ?_) rfl (by kernel_rfl) (by kernel_rfl) (by kernel_rfl) (fun _ _ _ h => h) (Or.inl ⟨by rfl, ?_⟩) hHeld ?_
    rotate_left
    · intro w hSw; (try dsimp only at hSw); go_simp; try (with_reducible rfl)
    try simp only [sq]
    refine wpAnyH_ready (rs := [2]) (by kernel_rfl) (by simp) ?_
    refine AllReadyH.cons rfl (fun K hK => ?_) AllReadyH.nil
    try simp only [sq]
    go_simp
    (first
        | (go_at_call 6; refine (HT.out _ (bdrew HBe.out)).mono ?_; rintro e yf ⟨B5, T5, S5, P5, rfl, hd5, hyf⟩; have HBf := hid (btrans (bdrew HBe.out) hyf); have HD5 := hid hd5; have HD3f := hid ((HD3e.out.below (bdrew (Below.refl _ _))).below hyf); clear hd5))
    go_wp2_with fail
    refine hK.out _ _ ?_ (fun hHeld => ?_)
    · (repeat' apply And.intro) <;> (repeat (first | with_reducible assumption | with_reducible refine keepdrew ?_ | with_reducible refine keepcell (by with_reducible assumption) ?_ | with_reducible refine keepalloc ?_ _))
    clear hK K
    try simp only [sq]
    refine wpAnyH_ready (rs := [3]) (by kernel_rfl) (by simp) ?_
    refine AllReadyH.cons rfl (fun K hK => ?_) AllReadyH.nil
    try simp only [sq]
    go_simp
    (first
        | (go_at_call 9; refine (HE.out B3 T3 S3 P3 B5 T5 S5 P5 _ _ _ HD3f.out HD5.out).mono ?_; rintro e yg ⟨rfl, hyg⟩; have HBg := hid (btrans HBf.out hyg)))
    go_wp2_with fail
    refine hK.out _ _ ?_ (fun hHeld => ?_)
    · (repeat' apply And.intro) <;> (repeat (first | with_reducible assumption | with_reducible refine keepdrew ?_ | with_reducible refine keepcell (by with_reducible assumption) ?_ | with_reducible refine keepalloc ?_ _))
    clear hK K
    try simp only [sq]
    refine wpAnyH_take (i := 4) (v := ?_) rfl (by kernel_rfl) (by kernel_rfl) (by kernel_rfl) (fun _ _ _ h => h) (Or.inl ⟨by rfl, ?_⟩) hHeld ?_
    rotate_left
    · intro w hSw; (try dsimp only at hSw); go_simp; try (with_reducible rfl)
    try simp only [sq]
    refine wpAnyH_done (by kernel_rfl) ?_ _
    clear hHeld
    go_wp2_with fail
    go_ret
    exact ⟨rfl, HBg.out⟩
end Go.Proofs.YtdhdfgobefapiaaDoor
