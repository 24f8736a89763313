/- Texts of stores, joined: Oe, Of. -/
import Derived.Test.YtiocelhnmfadnaaGreatD4
import Derived.ChangeSlices
namespace Go.Proofs.YtiocelhnmfadnaaGreat
open Go.RowKit
set_option linter.unusedSimpArgs false
set_option linter.unusedVariables false
theorem Rws.up {w w' : World} {B : Nat} {rs : List Rw} (h : Rws (fun c => B < c) w (some ⟨B, 0, none⟩) rs) (hf : ∀ b, B ≤ b → w'.heap[b]? = w.heap[b]?) (hs : w.heap.size ≤ w'.heap.size) : Rws (fun c => B < c) w' (some ⟨B, 0, none⟩) rs := by
  rcases h with h | ⟨b, o, e, hb, h⟩
  · exact .inl h
  · cases e
    refine .inr ⟨B, 0, rfl, by omega, fun j hj => ?_⟩
    obtain ⟨a', cap', k0, k1, k2, k3, k4, k5, k6, k7, k8⟩ := h j hj
    have hc : ∀ k, w'.cell? ⟨B, k, none⟩ = w.cell? ⟨B, k, none⟩ := fun k => World.cell?_of_block (w := w) (hf B (Nat.le_refl _))
    refine ⟨a', cap', by rw [hc]; exact k0, by rw [hc]; exact k1, by rw [hc]; exact k2, by rw [hc]; exact k3, by rw [hc]; exact k4, k5, k6, ?_, k8⟩
    rcases k7 with k7 | ⟨c, off, e2, hc2, k7⟩
    · exact .inl k7
    · have hcB : B < c := k8 c off e2
      refine .inr ⟨c, off, e2, by omega, fun k hk => ?_⟩
      obtain ⟨m0, m1⟩ := k7 k hk
      have hcc : ∀ k, w'.cell? ⟨c, k, none⟩ = w.cell? ⟨c, k, none⟩ := fun k => World.cell?_of_block (w := w) (hf c (by omega))
      exact ⟨by rw [hcc]; exact m0, by rw [hcc]; exact m1⟩
theorem Txs.up {w w' : World} {T : Nat} {ts : List Tx} (h : Txs (fun c => T < c) 1099511627776 w (some ⟨T, 0, none⟩) ts) (hf : ∀ b, T ≤ b → w'.heap[b]? = w.heap[b]?) (hs : w.heap.size ≤ w'.heap.size) : Txs (fun c => T < c) 1099511627776 w' (some ⟨T, 0, none⟩) ts := by
  rcases h with h | ⟨b, o, e, hb, h⟩
  · exact .inl h
  · cases e
    exact .inr ⟨T, 0, rfl, by omega, fun j hj => (h j hj).blk (fun i _ => World.cell?_of_block (w := w) (hf T (Nat.le_refl _))) (fun c hc => hf c (by omega)) hs⟩
theorem setk4_012 {w : World} {p : Nat} {o0 o1 o2 o3 : Value} {t : TypeId} (h : w.heap[p]? = some (.cells #[o0, o1, o2, o3] t (0, 0))) (a b c : Value) : (((w.setCell ⟨p, 0, none⟩ a).setCell ⟨p, 1, none⟩ b).setCell ⟨p, 2, none⟩ c).heap[p]? = some (.cells #[a, b, c, o3] t (0, 0)) := by
  have e := set_at (k := 2) (u := c) (set_at (k := 1) (u := b) (set_at (k := 0) (u := a) h))
  simpa using e
/-- A database that a law's conversion has made. -/
def DBX (lo : Nat) (w : World) (B T S : Nat) (rs : List Rw) (ts : List Tx) (zs : List Int) : Prop := lo ≤ B ∧ lo ≤ T ∧ lo ≤ S ∧ Rws (fun c => B < c) w (some ⟨B, 0, none⟩) rs ∧ Txs (fun c => T < c) 1099511627776 w (some ⟨T, 0, none⟩) ts ∧ OwnI w (some ⟨S, 0, none⟩) zs
theorem DBX.below {lo : Nat} {w w' : World} {B T S : Nat} {rs : List Rw} {ts : List Tx} {zs : List Int} (h : DBX lo w B T S rs ts zs) (H : Below w.heap.size w w') : DBX lo w' B T S rs ts zs := ⟨h.1, h.2.1, h.2.2.1, h.2.2.2.1.below H, h.2.2.2.2.1.below H, h.2.2.2.2.2.below H⟩
set_option maxRecDepth 100000 in
set_option maxHeartbeats 4000000 in
theorem to_db {N1 N2 : Nat → Prop} (now : Int) (a ta sa : Option Addr) (cap tcap scap : Nat) (rs : List Rw) (ts : List Tx) (zs : List Int) (w : World) (hm : rs.length ≤ 1099511627776) (htm : ts.length ≤ 1099511627776) (hzm : zs.length ≤ 1048576) (hr : Rws N1 w a rs) (ht : Txs N2 1099511627776 w ta ts) (hs : InI w sa zs) : Calls Tryz.prog 14 #[.agg #[.int .i64 now, .slice a rs.length cap, .slice ta ts.length tcap, .slice sa zs.length scap]] w fun e w' => ∃ B T S, e = .returned (.agg #[.int .i64 now, .slice (some ⟨B, 0, none⟩) rs.length rs.length, .slice (some ⟨T, 0, none⟩) ts.length ts.length, .slice (some ⟨S, 0, none⟩) zs.length zs.length]) ∧ DBX w.heap.size w' B T S rs ts zs ∧ Below w.heap.size w w' := by
  have HR := hid (fun (W : World) (hb : Below w.heap.size w W) => to_storeO now a ta cap tcap rs ts W hm htm (hr.below hb) (ht.below hb))
  have HI := hid (fun (W : World) (hb : Below w.heap.size w W) => to_ints sa scap zs W (by omega) (hs.below hb))
  clear hr ht hs
  obtain ⟨rn, hrn⟩ : ∃ n, n = rs.length := ⟨_, rfl⟩
  obtain ⟨tn, htn⟩ : ∃ tn, tn = ts.length := ⟨_, rfl⟩
  obtain ⟨sn, hsn⟩ : ∃ sn, sn = zs.length := ⟨_, rfl⟩
  rw [← hrn, ← htn, ← hsn]
  rw [← hrn, ← htn] at HR
  rw [← hsn] at HI
  clear hrn htn hsn
  have hB : Below w.heap.size w (((w.alloc (.cells #[.int .i64 now, .slice a rn cap, .slice ta tn tcap, .slice sa sn scap] 43)).alloc (.cells #[.int .i64 0, .slice none 0 0, .slice none 0 0, .slice none 0 0] 47)).alloc (.cells #[.int .i64 0, .slice none 0 0, .slice none 0 0, .slice none 0 0] 47)) := balloc (balloc (balloc (Below.refl _ _) _) _) _
  have g0 := old_alloc (o' := .cells #[.int .i64 0, .slice none 0 0, .slice none 0 0, .slice none 0 0] 47) (old_alloc (o' := .cells #[.int .i64 0, .slice none 0 0, .slice none 0 0, .slice none 0 0] 47) (new_alloc w w.heap.size (.cells #[.int .i64 now, .slice a rn cap, .slice ta tn tcap, .slice sa sn scap] 43) rfl))
  have g1 := old_alloc (o' := .cells #[.int .i64 0, .slice none 0 0, .slice none 0 0, .slice none 0 0] 47) (new_alloc (w.alloc (.cells #[.int .i64 now, .slice a rn cap, .slice ta tn tcap, .slice sa sn scap] 43)) (w.heap.size + 1) (.cells #[.int .i64 0, .slice none 0 0, .slice none 0 0, .slice none 0 0] 47) (by simp))
  have g2 := new_alloc ((w.alloc (.cells #[.int .i64 now, .slice a rn cap, .slice ta tn tcap, .slice sa sn scap] 43)).alloc (.cells #[.int .i64 0, .slice none 0 0, .slice none 0 0, .slice none 0 0] 47)) (w.heap.size + 1 + 1) (.cells #[.int .i64 0, .slice none 0 0, .slice none 0 0, .slice none 0 0] 47) (by simp)
  go_enter Tryz.func14, Tryz.ntmps14
  go_upto_region 2 with fail
  generalize ((w.alloc (.cells #[.int .i64 now, .slice a rn cap, .slice ta tn tcap, .slice sa sn scap] 43)).alloc (.cells #[.int .i64 0, .slice none 0 0, .slice none 0 0, .slice none 0 0] 47)).alloc (.cells #[.int .i64 0, .slice none 0 0, .slice none 0 0, .slice none 0 0] 47) = W at *
  have hlW := lt_of_block g2
  obtain ⟨⟨d0, d1, d2, d3⟩, _⟩ := cellk4 g0
  go_wp2_with fail
  refine (HR.out _ hB).mono ?_
  rintro e y ⟨B, T, hR, rfl, hor, hot, ⟨q1, q2, q3, q4, _⟩, hy⟩
  replace g0 := keepheapO hy g0
  replace g1 := keepheapO hy g1
  replace g2 := keepheapO hy g2
  replace hB := btrans hB hy
  have HOR := hid hor
  have HOT := hid hot
  clear hy d0 d1 d2 d3 HR hor hot
  obtain ⟨⟨f0, f1, f2, f3⟩, p0, p1, p2, p3⟩ := cellk4 g2
  go_upto_region 3 with fail
  have hfar : ∀ c, c ≠ w.heap.size + 1 + 1 → ((((y.setCell ⟨w.heap.size + 1 + 1, 0, none⟩ (.int .i64 now)).setCell ⟨w.heap.size + 1 + 1, 1, none⟩ (.slice (some ⟨B, 0, none⟩) rn rn)).setCell ⟨w.heap.size + 1 + 1, 2, none⟩ (.slice (some ⟨T, 0, none⟩) tn tn))).heap[c]? = y.heap[c]? := fun c hc => by rw [Below.heap_setCell _ _ _ _ (by dsimp only; omega), Below.heap_setCell _ _ _ _ (by dsimp only; omega), Below.heap_setCell _ _ _ _ (by dsimp only; omega)]
  have hsz : ((((y.setCell ⟨w.heap.size + 1 + 1, 0, none⟩ (.int .i64 now)).setCell ⟨w.heap.size + 1 + 1, 1, none⟩ (.slice (some ⟨B, 0, none⟩) rn rn)).setCell ⟨w.heap.size + 1 + 1, 2, none⟩ (.slice (some ⟨T, 0, none⟩) tn tn))).heap.size = y.heap.size := by simp
  have G2 := setk4_012 g2 (.int .i64 now) (.slice (some ⟨B, 0, none⟩) rn rn) (.slice (some ⟨T, 0, none⟩) tn tn)
  replace g0 := (hfar _ (by omega)).trans g0
  replace g1 := (hfar _ (by omega)).trans g1
  have HB := hid (bset (bset (bset hB (q := w.heap.size + 1 + 1) (k := 0) (by omega) (.int .i64 now)) (q := w.heap.size + 1 + 1) (k := 1) (by omega) (.slice (some ⟨B, 0, none⟩) rn rn)) (q := w.heap.size + 1 + 1) (k := 2) (by omega) (.slice (some ⟨T, 0, none⟩) tn tn))
  replace HOR := hid (HOR.out.up (w' := (((y.setCell ⟨w.heap.size + 1 + 1, 0, none⟩ (.int .i64 now)).setCell ⟨w.heap.size + 1 + 1, 1, none⟩ (.slice (some ⟨B, 0, none⟩) rn rn)).setCell ⟨w.heap.size + 1 + 1, 2, none⟩ (.slice (some ⟨T, 0, none⟩) tn tn))) (fun b hb => hfar b (by omega)) (by omega))
  replace HOT := hid (HOT.out.up (w' := (((y.setCell ⟨w.heap.size + 1 + 1, 0, none⟩ (.int .i64 now)).setCell ⟨w.heap.size + 1 + 1, 1, none⟩ (.slice (some ⟨B, 0, none⟩) rn rn)).setCell ⟨w.heap.size + 1 + 1, 2, none⟩ (.slice (some ⟨T, 0, none⟩) tn tn))) (fun b hb => hfar b (by omega)) (by omega))
  have hsz1 := Nat.le_of_eq hsz.symm
  clear hfar hsz hB f0 f1 f2 f3 p0 p1 p2 p3 g2
  generalize (((y.setCell ⟨w.heap.size + 1 + 1, 0, none⟩ (.int .i64 now)).setCell ⟨w.heap.size + 1 + 1, 1, none⟩ (.slice (some ⟨B, 0, none⟩) rn rn)).setCell ⟨w.heap.size + 1 + 1, 2, none⟩ (.slice (some ⟨T, 0, none⟩) tn tn)) = V at *
  obtain ⟨⟨d0, d1, d2, d3⟩, _⟩ := cellk4 g0
  go_wp2_with fail
  refine (HI.out _ HB.out).mono ?_
  rintro e z ⟨rfl, hoz, hz⟩
  replace g1 := keepheapO hz g1
  replace G2 := keepheapO hz G2
  replace HB := hid (btrans HB.out hz)
  replace HOR := hid (HOR.out.below hz)
  replace HOT := hid (HOT.out.below hz)
  have HOZ := hid hoz
  have hzz := hz.size
  clear hz hoz d0 d1 d2 d3 HI g0
  generalize V.heap.size = S at *
  obtain ⟨⟨f0, f1, f2, f3⟩, p0, p1, p2, p3⟩ := cellk4 G2
  obtain ⟨⟨v0, v1, v2, v3⟩, s0, s1, s2, s3⟩ := cellk4 g1
  go_wp2_with fail
  have gF := setk4 (set_far (q := w.heap.size + 1 + 1) (k := 3) (u := (.slice (some ⟨S, 0, none⟩) sn sn)) g1 (by omega)) (.int .i64 now) (.slice (some ⟨B, 0, none⟩) rn rn) (.slice (some ⟨T, 0, none⟩) tn tn) (.slice (some ⟨S, 0, none⟩) sn sn)
  have bF := bset (bset (bset (bset (bset HB.out (q := w.heap.size + 1 + 1) (k := 3) (by omega) (.slice (some ⟨S, 0, none⟩) sn sn)) (q := w.heap.size + 1) (k := 0) (by omega) (.int .i64 now)) (q := w.heap.size + 1) (k := 1) (by omega) (.slice (some ⟨B, 0, none⟩) rn rn)) (q := w.heap.size + 1) (k := 2) (by omega) (.slice (some ⟨T, 0, none⟩) tn tn)) (q := w.heap.size + 1) (k := 3) (by omega) (.slice (some ⟨S, 0, none⟩) sn sn)
  have hfar : ∀ c, w.heap.size + 1 + 1 < c → ((((((z.setCell ⟨w.heap.size + 1 + 1, 3, none⟩ (.slice (some ⟨S, 0, none⟩) sn sn)).setCell ⟨w.heap.size + 1, 0, none⟩ (.int .i64 now)).setCell ⟨w.heap.size + 1, 1, none⟩ (.slice (some ⟨B, 0, none⟩) rn rn)).setCell ⟨w.heap.size + 1, 2, none⟩ (.slice (some ⟨T, 0, none⟩) tn tn)).setCell ⟨w.heap.size + 1, 3, none⟩ (.slice (some ⟨S, 0, none⟩) sn sn))).heap[c]? = z.heap[c]? := fun c hc => by rw [Below.heap_setCell _ _ _ _ (by dsimp only; omega), Below.heap_setCell _ _ _ _ (by dsimp only; omega), Below.heap_setCell _ _ _ _ (by dsimp only; omega), Below.heap_setCell _ _ _ _ (by dsimp only; omega), Below.heap_setCell _ _ _ _ (by dsimp only; omega)]
  have hsz : ((((((z.setCell ⟨w.heap.size + 1 + 1, 3, none⟩ (.slice (some ⟨S, 0, none⟩) sn sn)).setCell ⟨w.heap.size + 1, 0, none⟩ (.int .i64 now)).setCell ⟨w.heap.size + 1, 1, none⟩ (.slice (some ⟨B, 0, none⟩) rn rn)).setCell ⟨w.heap.size + 1, 2, none⟩ (.slice (some ⟨T, 0, none⟩) tn tn)).setCell ⟨w.heap.size + 1, 3, none⟩ (.slice (some ⟨S, 0, none⟩) sn sn))).heap.size = z.heap.size := by simp
  have o1 := HOR.out.up (w' := (((((z.setCell ⟨w.heap.size + 1 + 1, 3, none⟩ (.slice (some ⟨S, 0, none⟩) sn sn)).setCell ⟨w.heap.size + 1, 0, none⟩ (.int .i64 now)).setCell ⟨w.heap.size + 1, 1, none⟩ (.slice (some ⟨B, 0, none⟩) rn rn)).setCell ⟨w.heap.size + 1, 2, none⟩ (.slice (some ⟨T, 0, none⟩) tn tn)).setCell ⟨w.heap.size + 1, 3, none⟩ (.slice (some ⟨S, 0, none⟩) sn sn))) (fun b hb => hfar b (by omega)) (by omega)
  have o2 := HOT.out.up (w' := (((((z.setCell ⟨w.heap.size + 1 + 1, 3, none⟩ (.slice (some ⟨S, 0, none⟩) sn sn)).setCell ⟨w.heap.size + 1, 0, none⟩ (.int .i64 now)).setCell ⟨w.heap.size + 1, 1, none⟩ (.slice (some ⟨B, 0, none⟩) rn rn)).setCell ⟨w.heap.size + 1, 2, none⟩ (.slice (some ⟨T, 0, none⟩) tn tn)).setCell ⟨w.heap.size + 1, 3, none⟩ (.slice (some ⟨S, 0, none⟩) sn sn))) (fun b hb => hfar b (by omega)) (by omega)
  have o3 := HOZ.out.blk (w' := (((((z.setCell ⟨w.heap.size + 1 + 1, 3, none⟩ (.slice (some ⟨S, 0, none⟩) sn sn)).setCell ⟨w.heap.size + 1, 0, none⟩ (.int .i64 now)).setCell ⟨w.heap.size + 1, 1, none⟩ (.slice (some ⟨B, 0, none⟩) rn rn)).setCell ⟨w.heap.size + 1, 2, none⟩ (.slice (some ⟨T, 0, none⟩) tn tn)).setCell ⟨w.heap.size + 1, 3, none⟩ (.slice (some ⟨S, 0, none⟩) sn sn))) (by omega) (fun b off e => hfar b (by cases e; omega))
  clear hfar hsz
  generalize (((((z.setCell ⟨w.heap.size + 1 + 1, 3, none⟩ (.slice (some ⟨S, 0, none⟩) sn sn)).setCell ⟨w.heap.size + 1, 0, none⟩ (.int .i64 now)).setCell ⟨w.heap.size + 1, 1, none⟩ (.slice (some ⟨B, 0, none⟩) rn rn)).setCell ⟨w.heap.size + 1, 2, none⟩ (.slice (some ⟨T, 0, none⟩) tn tn)).setCell ⟨w.heap.size + 1, 3, none⟩ (.slice (some ⟨S, 0, none⟩) sn sn)) = wf at *
  obtain ⟨⟨z0, z1, z2, z3⟩, _⟩ := cellk4 gF
  exact bodyPost_ret (v := .agg #[.int .i64 now, .slice (some ⟨B, 0, none⟩) rn rn, .slice (some ⟨T, 0, none⟩) tn tn, .slice (some ⟨S, 0, none⟩) sn sn]) (by simp [results, Tryz.results14, go_sem, z0, z1, z2, z3]) rfl ⟨B, T, S, rfl, ⟨by omega, by omega, by omega, o1, o2, o3⟩, bF⟩
set_option maxHeartbeats 2000000 in
theorem eq_db (now : Int) (B T S B' T' S' lo lo' : Nat) (rs : List Rw) (ts : List Tx) (zs : List Int) (w : World) (hm : rs.length ≤ 1099511627776) (htm : ts.length ≤ 1099511627776) (hzm : zs.length ≤ 1048576) (h1 : DBX lo w B T S rs ts zs) (h2 : DBX lo' w B' T' S' rs ts zs) : Calls Tryz.prog 16 #[.agg #[.int .i64 now, .slice (some ⟨B, 0, none⟩) rs.length rs.length, .slice (some ⟨T, 0, none⟩) ts.length ts.length, .slice (some ⟨S, 0, none⟩) zs.length zs.length], .agg #[.int .i64 now, .slice (some ⟨B', 0, none⟩) rs.length rs.length, .slice (some ⟨T', 0, none⟩) ts.length ts.length, .slice (some ⟨S', 0, none⟩) zs.length zs.length]] w fun e w' => e = .returned (.bool true) ∧ Below w.heap.size w w' := by
  have HE := hid (fun (W : World) (hb : Below w.heap.size w W) => eq_store now (some ⟨B, 0, none⟩) (some ⟨B', 0, none⟩) (some ⟨T, 0, none⟩) (some ⟨T', 0, none⟩) rs.length rs.length ts.length ts.length rs ts W hm htm (h1.below hb).2.2.2.1 (h2.below hb).2.2.2.1 (h1.below hb).2.2.2.2.1 (h2.below hb).2.2.2.2.1)
  have HI := hid (fun (W : World) (hb : Below w.heap.size w W) => eq_ints (some ⟨S, 0, none⟩) (some ⟨S', 0, none⟩) zs.length zs.length zs W (by omega) (h1.below hb).2.2.2.2.2 (h2.below hb).2.2.2.2.2)
  clear h1 h2
  generalize rs.length = rn at *
  generalize ts.length = tn at *
  generalize zs.length = sn at *
  have hB0 : Below w.heap.size w ((w.alloc (.cells #[.int .i64 now, .slice (some ⟨B, 0, none⟩) rn rn, .slice (some ⟨T, 0, none⟩) tn tn, .slice (some ⟨S, 0, none⟩) sn sn] 47)).alloc (.cells #[.int .i64 now, .slice (some ⟨B', 0, none⟩) rn rn, .slice (some ⟨T', 0, none⟩) tn tn, .slice (some ⟨S', 0, none⟩) sn sn] 47)) := balloc (balloc (Below.refl _ _) _) _
  have g0 := old_alloc (o' := .cells #[.int .i64 now, .slice (some ⟨B', 0, none⟩) rn rn, .slice (some ⟨T', 0, none⟩) tn tn, .slice (some ⟨S', 0, none⟩) sn sn] 47) (new_alloc w w.heap.size (.cells #[.int .i64 now, .slice (some ⟨B, 0, none⟩) rn rn, .slice (some ⟨T, 0, none⟩) tn tn, .slice (some ⟨S, 0, none⟩) sn sn] 47) rfl)
  have g1 := new_alloc (w.alloc (.cells #[.int .i64 now, .slice (some ⟨B, 0, none⟩) rn rn, .slice (some ⟨T, 0, none⟩) tn tn, .slice (some ⟨S, 0, none⟩) sn sn] 47)) (w.heap.size + 1) (.cells #[.int .i64 now, .slice (some ⟨B', 0, none⟩) rn rn, .slice (some ⟨T', 0, none⟩) tn tn, .slice (some ⟨S', 0, none⟩) sn sn] 47) (by simp)
  go_enter Tryz.func16, Tryz.ntmps16
  go_upto_region 1 with fail
  generalize (w.alloc (.cells #[.int .i64 now, .slice (some ⟨B, 0, none⟩) rn rn, .slice (some ⟨T, 0, none⟩) tn tn, .slice (some ⟨S, 0, none⟩) sn sn] 47)).alloc (.cells #[.int .i64 now, .slice (some ⟨B', 0, none⟩) rn rn, .slice (some ⟨T', 0, none⟩) tn tn, .slice (some ⟨S', 0, none⟩) sn sn] 47) = W0 at *
  obtain ⟨⟨d0, d1, d2, d3⟩, _⟩ := cellk4 g0
  obtain ⟨⟨f0, f1, f2, f3⟩, _⟩ := cellk4 g1
  go_wp2_with fail
  refine (HE.out _ hB0).mono ?_
  rintro e w1 ⟨rfl, hb⟩
  replace g0 := keepheapO hb g0
  replace g1 := keepheapO hb g1
  replace hB0 := btrans hB0 hb
  clear hb d0 d1 d2 d3 f0 f1 f2 f3
  obtain ⟨⟨d0, d1, d2, d3⟩, _⟩ := cellk4 g0
  obtain ⟨⟨f0, f1, f2, f3⟩, _⟩ := cellk4 g1
  go_wp2_with fail
  refine (HI.out _ hB0).mono ?_
  rintro e w2 ⟨rfl, hb⟩
  replace hB0 := btrans hB0 hb
  clear hb
  go_wp2_with fail
  go_ret
  exact ⟨rfl, hB0⟩
set_option maxRecDepth 100000 in
set_option maxHeartbeats 8000000 in
theorem dbok_w (now : Int) (a ta sa : Option Addr) (cap tcap scap : Nat) (rs : List Rw) (ts : List Tx) (zs : List Int) (w : World) (hl : rs.length ≤ 9223372036854775807) (w0 : RwsL w a rs) (htl : ts.length ≤ 9223372036854775807) (wt : Txs (fun _ => True) 9223372036854775807 w ta ts) (hsl : zs.length ≤ 9223372036854775807) (ws : InI w sa zs) : Calls Tryz.prog 4 #[.agg #[.int .i64 now, .slice a rs.length cap, .slice ta ts.length tcap, .slice sa zs.length scap]] w fun e w' => e = .returned (.bool true) ∧ Below w.heap.size w w' := by
  have HZ := hid (fun (W : World) (hb : Below w.heap.size w W) => sz_db now a ta sa cap tcap scap zs.length rs ts W hl htl hsl (w0.below hb) (wt.below hb))
  have HTD : Hid (((rs.length ≤ 1048576 ∧ ∀ m (h : m < rs.length), rs[m].2.2.2.2.length ≤ 1048576) ∧ txS ts) ∧ zs.length ≤ 1048576 → (rs.length ≤ 1099511627776 ∧ ts.length ≤ 1099511627776 ∧ zs.length ≤ 1048576) ∧ ∀ (W : World), Below w.heap.size w W → Calls Tryz.prog 14 #[.agg #[.int .i64 now, .slice a rs.length cap, .slice ta ts.length tcap, .slice sa zs.length scap]] W fun e w' => ∃ B T S, e = .returned (.agg #[.int .i64 now, .slice (some ⟨B, 0, none⟩) rs.length rs.length, .slice (some ⟨T, 0, none⟩) ts.length ts.length, .slice (some ⟨S, 0, none⟩) zs.length zs.length]) ∧ DBX W.heap.size w' B T S rs ts zs ∧ Below W.heap.size W w') := hid (fun q => ⟨⟨by have := q.1.1.1; omega, by have := q.1.2.1; omega, q.2⟩, fun W hb => to_db now a ta sa cap tcap scap rs ts zs W (by have := q.1.1.1; omega) (by have := q.1.2.1; omega) q.2 ((w0.rws q.1.1.2).below hb) ((wt.small q.1.2).below hb) (ws.below hb)⟩)
  have HSI : Hid (rs.length ≤ 1099511627776 → ts.length ≤ 1099511627776 → zs.length ≤ 1048576 → ∀ (lo B T S : Nat) (W : World), DBX lo W B T S rs ts zs → (Calls Tryz.prog 13 #[.agg #[.int .i64 now, .slice (some ⟨B, 0, none⟩) rs.length rs.length, .slice (some ⟨T, 0, none⟩) ts.length ts.length, .slice (some ⟨S, 0, none⟩) zs.length zs.length]] W fun e w' => e = .returned (.bool (dbb now rs ts zs)) ∧ Below W.heap.size W w') ∧ (Calls Tryz.prog 15 #[.agg #[.int .i64 now, .slice (some ⟨B, 0, none⟩) rs.length rs.length, .slice (some ⟨T, 0, none⟩) ts.length ts.length, .slice (some ⟨S, 0, none⟩) zs.length zs.length]] W fun e w' => e = .returned (.bool (dbb now rs ts zs)) ∧ Below W.heap.size W w')) := hid (fun h1 h2 h3 lo B T S W hd => ⟨spec_DbOk now _ _ _ _ _ _ rs ts zs W h1 h2 h3 hd.2.2.2.1 hd.2.2.2.2.1 hd.2.2.2.2.2.inI, impl_DbOk now _ _ _ _ _ _ rs ts zs W h1 h2 h3 hd.2.2.2.1 hd.2.2.2.2.1 hd.2.2.2.2.2.inI⟩)
  have HEQ := hid (fun (B T S B' T' S' lo lo' : Nat) (W : World) h1 h2 h3 (d1 : DBX lo W B T S rs ts zs) (d2 : DBX lo' W B' T' S' rs ts zs) => eq_db now B T S B' T' S' lo lo' rs ts zs W h1 h2 h3 d1 d2)
  clear w0 wt ws
  generalize dbb now rs ts zs = db at *
  generalize (((rs.length ≤ 1048576 ∧ ∀ m (h : m < rs.length), rs[m].2.2.2.2.length ≤ 1048576) ∧ txS ts) ∧ zs.length ≤ 1048576) = RR at *
  generalize rs.length = rn at *
  generalize ts.length = tn at *
  generalize zs.length = sn at *
  have hdd : (db != db) = false := by cases db <;> rfl
  have hB : Below w.heap.size w (w.alloc (.cells #[.int .i64 now, .slice a rn cap, .slice ta tn tcap, .slice sa sn scap] 43)) := balloc (Below.refl _ _) _
  have g0 := new_alloc w w.heap.size (.cells #[.int .i64 now, .slice a rn cap, .slice ta tn tcap, .slice sa sn scap] 43) rfl
  go_enter Tryz.func4, Tryz.ntmps4
  go_upto_region 1 with fail
  generalize w.alloc (.cells #[.int .i64 now, .slice a rn cap, .slice ta tn tcap, .slice sa sn scap] 43) = W at *
  obtain ⟨⟨d0, d1, d2, d3⟩, _⟩ := cellk4 g0
  go_wp2_with fail
  refine (HZ.out _ hB).mono ?_
  rintro e y ⟨⟨v, rfl, hv⟩, hy⟩
  replace g0 := keepheapO hy g0
  replace hB := btrans hB hy
  clear hy d0 d1 d2 d3 HZ
  obtain ⟨⟨d0, d1, d2, d3⟩, _⟩ := cellk4 g0
  rcases hv with rfl | ⟨hv0, HV⟩
  · go_wp2_with fail
    go_ret
    exact ⟨rfl, hB⟩
  · have hv2 : ¬ v < 0 := by omega
    obtain ⟨⟨h1, h2, h3⟩, htd⟩ := HTD.out HV.out
    have HT := hid htd
    have HS := hid (HSI.out h1 h2 h3)
    have HE := hid (fun B T S B' T' S' lo lo' W d1 d2 => HEQ.out B T S B' T' S' lo lo' W h1 h2 h3 d1 d2)
    clear htd HTD HSI HEQ HV
    go_wp2_with fail
    refine (HT.out _ hB).mono ?_
    rintro e y1 ⟨B1, T1, S1, rfl, hd1, hy⟩
    replace g0 := keepheapO hy g0
    replace hB := btrans hB hy
    have HD1 := hid hd1
    clear hy hd1 d0 d1 d2 d3
    obtain ⟨⟨d0, d1, d2, d3⟩, _⟩ := cellk4 g0
    go_wp2_with fail
    refine (HS.out _ B1 T1 S1 _ HD1.out).1.mono ?_
    rintro e y2 ⟨rfl, hy⟩
    replace g0 := keepheapO hy g0
    replace hB := btrans hB hy
    clear hy HD1 d0 d1 d2 d3
    obtain ⟨⟨d0, d1, d2, d3⟩, _⟩ := cellk4 g0
    go_wp2_with fail
    refine (HT.out _ hB).mono ?_
    rintro e y3 ⟨B3, T3, S3, rfl, hd3, hy⟩
    replace g0 := keepheapO hy g0
    replace hB := btrans hB hy
    have HD3 := hid hd3
    clear hy hd3 d0 d1 d2 d3
    go_upto_region 7 with fail
    have gX := new_alloc y3 y3.heap.size (.cells #[.int .i64 now, .slice (some ⟨B3, 0, none⟩) rn rn, .slice (some ⟨T3, 0, none⟩) tn tn, .slice (some ⟨S3, 0, none⟩) sn sn] 47) rfl
    have hal : Below y3.heap.size y3 (y3.alloc (.cells #[.int .i64 now, .slice (some ⟨B3, 0, none⟩) rn rn, .slice (some ⟨T3, 0, none⟩) tn tn, .slice (some ⟨S3, 0, none⟩) sn sn] 47)) := balloc (Below.refl _ _) _
    replace g0 := keepheapO hal g0
    replace hB := btrans hB hal
    replace HD3 := hid (HD3.out.below hal)
    clear hal
    generalize y3.alloc (.cells #[.int .i64 now, .slice (some ⟨B3, 0, none⟩) rn rn, .slice (some ⟨T3, 0, none⟩) tn tn, .slice (some ⟨S3, 0, none⟩) sn sn] 47) = Y3 at *
    generalize y3.heap.size = X3 at *
    obtain ⟨⟨x0, x1, x2, x3⟩, _⟩ := cellk4 gX
    go_wp2_with fail
    refine (HS.out _ B3 T3 S3 _ HD3.out).2.mono ?_
    rintro e y4 ⟨rfl, hy⟩
    replace g0 := keepheapO hy g0
    replace gX := keepheapO hy gX
    replace hB := btrans hB hy
    replace HD3 := hid (HD3.out.below hy)
    clear hy x0 x1 x2 x3
    go_wp2_with fail
    refine wp_region_held_drew (S := (fun w' => w'.heap[w.heap.size]? = some (.cells #[.int .i64 now, .slice a rn cap, .slice ta tn tcap, .slice sa sn scap] 43 (0, 0)) ∧ w'.heap[X3]? = some (.cells #[.int .i64 now, .slice (some ⟨B3, 0, none⟩) rn rn, .slice (some ⟨T3, 0, none⟩) tn tn, .slice (some ⟨S3, 0, none⟩) sn sn] 47 (0, 0)))) (by kernel_rfl) ?_ (fun hHeld => ?_)
    · exact ⟨g0, gX⟩
    replace g0 : y4.drew.heap[w.heap.size]? = some (.cells #[.int .i64 now, .slice a rn cap, .slice ta tn tcap, .slice sa sn scap] 43 (0, 0)) := g0
    replace gX : y4.drew.heap[X3]? = some (.cells #[.int .i64 now, .slice (some ⟨B3, 0, none⟩) rn rn, .slice (some ⟨T3, 0, none⟩) tn tn, .slice (some ⟨S3, 0, none⟩) sn sn] 47 (0, 0)) := gX
    replace HD3 := hid (HD3.out.below (bdrew (Below.refl _ _)))
    replace hB := bdrew hB
    generalize y4.drew = Y4 at *
    refine wpAnyH_take (i := 0) (v := ?_) rfl (by kernel_rfl) (by kernel_rfl) (by kernel_rfl) (fun _ _ _ h => h) (Or.inl ⟨by rfl, ?_⟩) hHeld ?_
    rotate_left
    · intro w' hSw; (try dsimp only at hSw); obtain ⟨⟨_, _, _, _⟩, _⟩ := cellk4 hSw.1; obtain ⟨⟨_, _, _, _⟩, _⟩ := cellk4 hSw.2; go_simp; try (with_reducible rfl)
    try simp only [sq]
    refine wpAnyH_take (i := 1) (v := ?_) rfl (by kernel_rfl) (by kernel_rfl) (by kernel_rfl) (fun _ _ _ h => h) (Or.inl ⟨by rfl, ?_⟩) hHeld ?_
    rotate_left
    · intro w' hSw; (try dsimp only at hSw); obtain ⟨⟨_, _, _, _⟩, _⟩ := cellk4 hSw.1; obtain ⟨⟨_, _, _, _⟩, _⟩ := cellk4 hSw.2; go_simp; try (with_reducible rfl)
    try simp only [sq]
    refine wpAnyH_ready (rs := [2]) (by kernel_rfl) (by simp) ?_
    refine AllReadyH.cons rfl (fun K hK => ?_) AllReadyH.nil
    try simp only [sq]
    go_simp
    go_at_call 14
    refine (HT.out _ hB).mono ?_
    rintro e y5 ⟨B5, T5, S5, rfl, hd5, hy⟩
    replace g0 := keepheapO hy g0
    replace gX := keepheapO hy gX
    replace hB := btrans hB hy
    replace HD3 := hid (HD3.out.below hy)
    have HD5 := hid hd5
    clear hy hd5
    go_wp2_with fail
    refine hK.out _ _ ?_ (fun hHeld => ?_)
    · exact ⟨g0, gX⟩
    clear hK K
    try simp only [sq]
    refine wpAnyH_ready (rs := [3]) (by kernel_rfl) (by simp) ?_
    refine AllReadyH.cons rfl (fun K hK => ?_) AllReadyH.nil
    try simp only [sq]
    go_simp
    go_at_call 16
    refine (HE.out B3 T3 S3 B5 T5 S5 _ _ _ HD3.out HD5.out).mono ?_
    rintro e y6 ⟨rfl, hy⟩
    replace g0 := keepheapO hy g0
    replace gX := keepheapO hy gX
    replace hB := btrans hB hy
    clear hy
    go_wp2_with fail
    refine hK.out _ _ ?_ (fun hHeld => ?_)
    · exact ⟨g0, gX⟩
    clear hK K
    try simp only [sq]
    refine wpAnyH_take (i := 4) (v := ?_) rfl (by kernel_rfl) (by kernel_rfl) (by kernel_rfl) (fun _ _ _ h => h) (Or.inl ⟨by rfl, ?_⟩) hHeld ?_
    rotate_left
    · intro w' hSw; (try dsimp only at hSw); go_simp; try (with_reducible rfl)
    try simp only [sq]
    refine wpAnyH_done (by kernel_rfl) ?_ _
    go_wp2_with fail
    go_ret
    exact ⟨rfl, hB⟩
end Go.Proofs.YtiocelhnmfadnaaGreat
namespace Go.Proofs.YtiocelhnmfadnaaGreat
open Go.RowKit
set_option linter.unusedSimpArgs false
set_option linter.unusedVariables false
theorem cellsDb : Tryz.prog.cellsOf 43 = 4 := by kernel_rfl
theorem open_intsI {H : Type} {enc : TypeId × Value → H} {W : World} {base fuel : Nat} {cs : List Value} {x : DataW H × List MemPlace} (h : DataW.trod enc Tryz.prog W base (fun _ => true) true fuel 41 cs = some x) : ∃ (a : Option Addr) (cap : Nat) (zs : List Int), cs = [.slice a zs.length cap] ∧ zs.length ≤ 9223372036854775807 ∧ InI W a zs := by
  rcases Go.ChangeShapes.open_ints Tryz.underlying41 Tryz.underlying3 (by kernel_rfl) h with ⟨hcs, _⟩ | ⟨a, len, cap, zs, hcs, _, hl, hm, hz, _, hcell, _⟩
  · exact ⟨none, 0, [], by simpa using hcs, by simp, .inl rfl⟩
  · simp at hz
    have hlen : (zs.take len).length = len := by simp; omega
    refine ⟨some a, cap, zs.take len, by rw [hlen]; exact hcs, by rw [hlen]; unfold maxLen at hm; omega, ?_⟩
    by_cases h0 : len = 0
    · left; subst h0; simp
    · right
      obtain ⟨b, off, spot⟩ := a
      have hspot : spot = none := by simpa [Addr.add] using World.cell?_spot (hcell 0 (by omega))
      subst hspot
      have hb := World.block_lt_of_cell? W _ (hcell 0 (by omega))
      refine ⟨b, off, rfl, by simpa [Addr.add] using hb, fun k hk => ?_⟩
      rw [hlen] at hk
      have hc := hcell k (by omega)
      rw [Addr.add_lit] at hc
      rw [hc]
      simp [List.getD_eq_getElem?_getD, List.getElem?_take, hk]
set_option maxRecDepth 100000 in
theorem open_db {H : Type} {enc : TypeId × Value → H} {W : World} {base fuel : Nat} {cs : List Value} {x : DataW H × List MemPlace} (h : DataW.trod enc Tryz.prog W base (fun _ => true) true fuel 43 cs = some x) : ∃ (now : Int) (a : Option Addr) (cap : Nat) (rs : List Rw) (ta : Option Addr) (tcap : Nat) (ts : List Tx) (sa : Option Addr) (scap : Nat) (zs : List Int), cs = [.int .i64 now, .slice a rs.length cap, .slice ta ts.length tcap, .slice sa zs.length scap] ∧ rs.length ≤ 9223372036854775807 ∧ RwsL W a rs ∧ ts.length ≤ 9223372036854775807 ∧ Txs (fun _ => True) 9223372036854775807 W ta ts ∧ zs.length ≤ 9223372036854775807 ∧ InI W sa zs := by
  obtain ⟨xs, n, _, _, hlen, hxl, hf⟩ := DataW.trod_struct Tryz.underlying43 h
  rw [cellsDb] at hlen
  match xs, hxl, cs, hlen with
  | [y0, y1], _, [v0, v1, v2, v3], _ =>
    have g0 : DataW.trod enc Tryz.prog W base (fun _ => true) true n 27 (([v0, v1, v2, v3].drop 0).take (Tryz.prog.cellsOf 27)) = some y0 := hf 0 _ rfl
    have g1 : DataW.trod enc Tryz.prog W base (fun _ => true) true n 41 (([v0, v1, v2, v3].drop 3).take (Tryz.prog.cellsOf 41)) = some y1 := hf 1 _ rfl
    rw [show Tryz.prog.cellsOf 27 = 3 by kernel_rfl] at g0
    rw [show Tryz.prog.cellsOf 41 = 1 by kernel_rfl] at g1
    simp at g0 g1
    obtain ⟨now, a, cap, rs, ta, tcap, ts, e, h1, h2, h3, h4⟩ := open_store g0
    obtain ⟨sa, scap, zs, e2, h5, h6⟩ := open_intsI g1
    simp at e e2
    exact ⟨now, a, cap, rs, ta, tcap, ts, sa, scap, zs, by simp [e, e2], h1, h2, h3, h4, h5, h6⟩
end Go.Proofs.YtiocelhnmfadnaaGreat
