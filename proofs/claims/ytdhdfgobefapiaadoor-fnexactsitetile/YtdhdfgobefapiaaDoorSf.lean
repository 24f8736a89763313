/- StoreOk of both sides, and a store as a law handles it. -/
import Derived.Test.YtdhdfgobefapiaaDoorSb
import Derived.Test.YtdhdfgobefapiaaDoorRwQ
import Derived.Shelf.SlSortCmp.NoneTotal
import Derived.Test.YtdhdfgobefapiaaDoorRwE
import Derived.Test.YtdhdfgobefapiaaDoorRw0
import Derived.Test.YtdhdfgobefapiaaDoorRows
import Derived.Deep.RegionHeld3
import Derived.Sort.Grow
import Derived.WalkLawsBesides
import Derived.Test.YtdhdfgobefapiaaDoorSide
import Derived.Deep.CutRange
namespace Go.Proofs.YtdhdfgobefapiaaDoor
open Go.RowKit
set_option linter.unusedSimpArgs false
set_option linter.unusedVariables false
set_option maxHeartbeats 1000000 in
theorem sz_store {N : Nat → Prop} (now : Int) (a ta : Option Addr) (cap tcap : Nat) (rs : List Rw) (ts : List Tx) (w : World) (hm : rs.length ≤ 9223372036854775807) (htm : ts.length ≤ 9223372036854775807) (hr : RwsL w a rs) (ht : Txs N 9223372036854775807 w ta ts) : Calls Tryd.prog 18 #[.agg #[.int .i64 now, .slice a rs.length cap, .slice ta ts.length tcap], .int .i64 1048576] w fun e w' => (∃ v : Int, e = .returned (.int .i64 v) ∧ (v = -1 ∨ (0 ≤ v ∧ v ≤ 1048576 ∧ Hid ((rs.length ≤ 1048576 ∧ ∀ m (h : m < rs.length), rs[m].2.2.2.2.length ≤ 1048576) ∧ txS ts)))) ∧ Below w.heap.size w w' := by
  have HR := hid (fun (W : World) (hb : Below w.heap.size w W) => sz_allL now a cap rs W hm (hr.below hb))
  have HT := hid (fun (W : World) (hb : Below w.heap.size w W) (l : Int) (h0 : 0 ≤ l) (h1 : l ≤ 1048576) => sz_txs ta tcap ts l W htm h0 h1 (ht.below hb))
  clear hr ht
  obtain ⟨G, hG⟩ : ∃ G : Prop, G = (rs.length ≤ 1048576 ∧ ∀ m (h : m < rs.length), rs[m].2.2.2.2.length ≤ 1048576) := ⟨_, rfl⟩
  obtain ⟨K, hK⟩ : ∃ K : Prop, K = txS ts := ⟨_, rfl⟩
  rw [← hG] at HR ⊢
  rw [← hK] at HT ⊢
  clear hG hK
  generalize rs.length = n at *
  generalize ts.length = tn at *
  have hB0 : Below w.heap.size w (w.alloc (.cells #[.int .i64 now, .slice a n cap, .slice ta tn tcap] 27)) := balloc (Below.refl _ _) _
  have g0 := new_alloc w w.heap.size (.cells #[.int .i64 now, .slice a n cap, .slice ta tn tcap] 27) rfl
  go_enter Tryd.func18, Tryd.ntmps18
  go_upto_region 1 with fail
  generalize w.alloc (.cells #[.int .i64 now, .slice a n cap, .slice ta tn tcap] 27) = W0 at *
  obtain ⟨⟨d0, d1, d2⟩, _⟩ := cellk3 g0
  go_wp2_with fail
  refine (HR.out _ hB0).mono ?_
  rintro e w1 ⟨⟨v, rfl, hv⟩, hb⟩
  have g1 := keepheap2 hb g0
  have hB := btrans hB0 hb
  clear g0 hB0 hb d0 d1 d2
  obtain ⟨⟨d0, d1, d2⟩, _⟩ := cellk3 g1
  rcases hv with rfl | ⟨hv0, hv1, HV⟩
  · go_wp2_with fail
    go_ret
    exact ⟨⟨_, rfl, .inl rfl⟩, hB⟩
  have hv2 : ¬ v < 0 := by omega
  go_wp2_with fail
  refine (HT.out _ hB v hv0 hv1).mono ?_
  rintro e w2 ⟨⟨u, rfl, hu⟩, hb⟩
  have hB2 := btrans hB hb
  clear hb d0 d1 d2
  rcases hu with rfl | ⟨hu0, hu1, HU⟩
  · go_wp2_with fail
    go_ret
    exact ⟨⟨_, rfl, .inl rfl⟩, hB2⟩
  · have hu2 : ¬ u < 0 := by omega
    go_wp2_with fail
    go_ret
    exact ⟨⟨_, rfl, .inr ⟨hu0, hu1, hid ⟨HV.out, HU.out⟩⟩⟩, hB2⟩
set_option maxHeartbeats 1000000 in
theorem eq_store {N1 N2 N3 N4 : Nat → Prop} (now : Int) (a1 a2 t1 t2 : Option Addr) (c1 c2 e1 e2 : Nat) (rs : List Rw) (ts : List Tx) (w : World) (hm : rs.length ≤ 1099511627776) (htm : ts.length ≤ 1099511627776) (r1 : Rws N1 w a1 rs) (r2 : Rws N2 w a2 rs) (x1 : Txs N3 1099511627776 w t1 ts) (x2 : Txs N4 1099511627776 w t2 ts) : Calls Tryd.prog 29 #[.agg #[.int .i64 now, .slice a1 rs.length c1, .slice t1 ts.length e1], .agg #[.int .i64 now, .slice a2 rs.length c2, .slice t2 ts.length e2]] w fun e w' => e = .returned (.bool true) ∧ Below w.heap.size w w' := by
  have HR := hid (fun (W : World) (hb : Below w.heap.size w W) => eq_rows now a1 a2 c1 c2 rs W hm (r1.below hb) (r2.below hb))
  have HT := hid (fun (W : World) (hb : Below w.heap.size w W) => eq_txs t1 t2 e1 e2 ts W htm (x1.below hb) (x2.below hb))
  clear r1 r2 x1 x2
  generalize rs.length = n at *
  generalize ts.length = tn at *
  have hB0 : Below w.heap.size w ((w.alloc (.cells #[.int .i64 now, .slice a1 n c1, .slice t1 tn e1] 43)).alloc (.cells #[.int .i64 now, .slice a2 n c2, .slice t2 tn e2] 43)) := balloc (balloc (Below.refl _ _) _) _
  have g0 := old_alloc (o' := .cells #[.int .i64 now, .slice a2 n c2, .slice t2 tn e2] 43) (new_alloc w w.heap.size (.cells #[.int .i64 now, .slice a1 n c1, .slice t1 tn e1] 43) rfl)
  have g1 := new_alloc (w.alloc (.cells #[.int .i64 now, .slice a1 n c1, .slice t1 tn e1] 43)) (w.heap.size + 1) (.cells #[.int .i64 now, .slice a2 n c2, .slice t2 tn e2] 43) (by simp)
  go_enter Tryd.func29, Tryd.ntmps29
  go_upto_region 1 with fail
  generalize (w.alloc (.cells #[.int .i64 now, .slice a1 n c1, .slice t1 tn e1] 43)).alloc (.cells #[.int .i64 now, .slice a2 n c2, .slice t2 tn e2] 43) = W0 at *
  obtain ⟨⟨d0, d1, d2⟩, _⟩ := cellk3 g0
  obtain ⟨⟨f0, f1, f2⟩, _⟩ := cellk3 g1
  go_wp2_with fail
  refine (HR.out _ hB0).mono ?_
  rintro e w1 ⟨rfl, hb⟩
  replace g0 := keepheap2 hb g0
  replace g1 := keepheap2 hb g1
  have hB := btrans hB0 hb
  clear hB0 hb d0 d1 d2 f0 f1 f2
  obtain ⟨⟨d0, d1, d2⟩, _⟩ := cellk3 g0
  obtain ⟨⟨f0, f1, f2⟩, _⟩ := cellk3 g1
  go_wp2_with fail
  refine (HT.out _ hB).mono ?_
  rintro e w2 ⟨rfl, hb⟩
  go_wp2_with fail
  go_ret
  exact ⟨rfl, btrans hB hb⟩
end Go.Proofs.YtdhdfgobefapiaaDoor
