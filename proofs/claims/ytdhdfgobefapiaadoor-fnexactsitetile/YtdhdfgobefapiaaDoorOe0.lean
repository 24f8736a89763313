/- Databases as a law is given them: sizes, conversions, comparison. -/
import Derived.Test.YtdhdfgobefapiaaDoorOa
import Derived.Test.YtdhdfgobefapiaaDoorSh
namespace Go.Proofs.YtdhdfgobefapiaaDoor
open Go.RowKit
set_option linter.unusedSimpArgs false
set_option linter.unusedVariables false
theorem Rws.up {w w' : World} {B : Nat} {rs : List Rw} (h : Rws (fun c => B < c) w (some ⟨B, 0, none⟩) rs) (hf : ∀ b, B ≤ b → w'.heap[b]? = w.heap[b]?) (hs : w.heap.size ≤ w'.heap.size) : Rws (fun c => B < c) w' (some ⟨B, 0, none⟩) rs := by
  rcases h with h | ⟨b, o, e, hb, h⟩
  · exact .inl h
  · cases e
    refine .inr ⟨B, 0, rfl, by omega, fun j hj => ?_⟩
    obtain ⟨a', cap', k0, k1, k2, k3, k4, k5, k6, k7, k8⟩ := h j hj
    have hc : ∀ k, w'.cell? ⟨B, k, none⟩ = w.cell? ⟨B, k, none⟩ := fun k => World.cell?_of_block (w := w) (hf B (Nat.le_refl _))
    refine ⟨a', cap', by rw [hc]; exact k0, by rw [hc]; exact k1, by rw [hc]; exact k2, by rw [hc]; exact k3, by rw [hc]; exact k4, k5, k6, ?_, k8⟩
    rcases k7 with k7 | ⟨c, off, e2, hc2, k7⟩
    · exact .inl k7
    · have hcB : B < c := k8 c off e2
      refine .inr ⟨c, off, e2, by omega, fun k hk => ?_⟩
      obtain ⟨m0, m1⟩ := k7 k hk
      have hcc : ∀ k, w'.cell? ⟨c, k, none⟩ = w.cell? ⟨c, k, none⟩ := fun k => World.cell?_of_block (w := w) (hf c (by omega))
      exact ⟨by rw [hcc]; exact m0, by rw [hcc]; exact m1⟩
theorem Txs.up {w w' : World} {T : Nat} {ts : List Tx} (h : Txs (fun c => T < c) 1099511627776 w (some ⟨T, 0, none⟩) ts) (hf : ∀ b, T ≤ b → w'.heap[b]? = w.heap[b]?) (hs : w.heap.size ≤ w'.heap.size) : Txs (fun c => T < c) 1099511627776 w' (some ⟨T, 0, none⟩) ts := by
  rcases h with h | ⟨b, o, e, hb, h⟩
  · exact .inl h
  · cases e
    exact .inr ⟨T, 0, rfl, by omega, fun j hj => (h j hj).blk (fun i _ => World.cell?_of_block (w := w) (hf T (Nat.le_refl _))) (fun c hc => hf c (by omega)) hs⟩
theorem setk4_012 {w : World} {p : Nat} {o0 o1 o2 o3 : Value} {t : TypeId} (h : w.heap[p]? = some (.cells #[o0, o1, o2, o3] t (0, 0))) (a b c : Value) : (((w.setCell ⟨p, 0, none⟩ a).setCell ⟨p, 1, none⟩ b).setCell ⟨p, 2, none⟩ c).heap[p]? = some (.cells #[a, b, c, o3] t (0, 0)) := by
  have e := set_at (k := 2) (u := c) (set_at (k := 1) (u := b) (set_at (k := 0) (u := a) h))
  simpa using e
/-- A database that a law's conversion has made. -/
def DBX (lo : Nat) (w : World) (B T S : Nat) (rs : List Rw) (ts : List Tx) (zs : List Int) : Prop := lo ≤ B ∧ lo ≤ T ∧ lo ≤ S ∧ Rws (fun c => B < c) w (some ⟨B, 0, none⟩) rs ∧ Txs (fun c => T < c) 1099511627776 w (some ⟨T, 0, none⟩) ts ∧ OwnI w (some ⟨S, 0, none⟩) zs
theorem DBX.below {lo : Nat} {w w' : World} {B T S : Nat} {rs : List Rw} {ts : List Tx} {zs : List Int} (h : DBX lo w B T S rs ts zs) (H : Below w.heap.size w w') : DBX lo w' B T S rs ts zs := ⟨h.1, h.2.1, h.2.2.1, h.2.2.2.1.below H, h.2.2.2.2.1.below H, h.2.2.2.2.2.below H⟩
set_option maxRecDepth 100000 in
set_option maxHeartbeats 4000000 in
theorem to_db {N1 N2 : Nat → Prop} (now : Int) (a ta sa : Option Addr) (cap tcap scap : Nat) (rs : List Rw) (ts : List Tx) (zs : List Int) (w : World) (hm : rs.length ≤ 1099511627776) (htm : ts.length ≤ 1099511627776) (hzm : zs.length ≤ 1048576) (hr : Rws N1 w a rs) (ht : Txs N2 1099511627776 w ta ts) (hs : InI w sa zs) : Calls Tryd.prog 13 #[.agg #[.int .i64 now, .slice a rs.length cap, .slice ta ts.length tcap, .slice sa zs.length scap]] w fun e w' => ∃ B T S, e = .returned (.agg #[.int .i64 now, .slice (some ⟨B, 0, none⟩) rs.length rs.length, .slice (some ⟨T, 0, none⟩) ts.length ts.length, .slice (some ⟨S, 0, none⟩) zs.length zs.length]) ∧ DBX w.heap.size w' B T S rs ts zs ∧ Below w.heap.size w w' := by
  have HR := hid (fun (W : World) (hb : Below w.heap.size w W) => to_storeO now a ta cap tcap rs ts W hm htm (hr.below hb) (ht.below hb))
  have HI := hid (fun (W : World) (hb : Below w.heap.size w W) => to_ints sa scap zs W (by omega) (hs.below hb))
  clear hr ht hs
  obtain ⟨rn, hrn⟩ : ∃ n, n = rs.length := ⟨_, rfl⟩
  obtain ⟨tn, htn⟩ : ∃ tn, tn = ts.length := ⟨_, rfl⟩
  obtain ⟨sn, hsn⟩ : ∃ sn, sn = zs.length := ⟨_, rfl⟩
  rw [← hrn, ← htn, ← hsn]
  rw [← hrn, ← htn] at HR
  rw [← hsn] at HI
  clear hrn htn hsn
  have hB : Below w.heap.size w (((w.alloc (.cells #[.int .i64 now, .slice a rn cap, .slice ta tn tcap, .slice sa sn scap] 30)).alloc (.cells #[.int .i64 0, .slice none 0 0, .slice none 0 0, .slice none 0 0] 45)).alloc (.cells #[.int .i64 0, .slice none 0 0, .slice none 0 0, .slice none 0 0] 45)) := balloc (balloc (balloc (Below.refl _ _) _) _) _
  have g0 := old_alloc (o' := .cells #[.int .i64 0, .slice none 0 0, .slice none 0 0, .slice none 0 0] 45) (old_alloc (o' := .cells #[.int .i64 0, .slice none 0 0, .slice none 0 0, .slice none 0 0] 45) (new_alloc w w.heap.size (.cells #[.int .i64 now, .slice a rn cap, .slice ta tn tcap, .slice sa sn scap] 30) rfl))
  have g1 := old_alloc (o' := .cells #[.int .i64 0, .slice none 0 0, .slice none 0 0, .slice none 0 0] 45) (new_alloc (w.alloc (.cells #[.int .i64 now, .slice a rn cap, .slice ta tn tcap, .slice sa sn scap] 30)) (w.heap.size + 1) (.cells #[.int .i64 0, .slice none 0 0, .slice none 0 0, .slice none 0 0] 45) (by simp))
  have g2 := new_alloc ((w.alloc (.cells #[.int .i64 now, .slice a rn cap, .slice ta tn tcap, .slice sa sn scap] 30)).alloc (.cells #[.int .i64 0, .slice none 0 0, .slice none 0 0, .slice none 0 0] 45)) (w.heap.size + 1 + 1) (.cells #[.int .i64 0, .slice none 0 0, .slice none 0 0, .slice none 0 0] 45) (by simp)
  go_enter Tryd.func13, Tryd.ntmps13
  go_upto_region 2 with fail
  generalize ((w.alloc (.cells #[.int .i64 now, .slice a rn cap, .slice ta tn tcap, .slice sa sn scap] 30)).alloc (.cells #[.int .i64 0, .slice none 0 0, .slice none 0 0, .slice none 0 0] 45)).alloc (.cells #[.int .i64 0, .slice none 0 0, .slice none 0 0, .slice none 0 0] 45) = W at *
  have hlW := lt_of_block g2
  obtain ⟨⟨d0, d1, d2, d3⟩, _⟩ := cellk4 g0
  go_wp2_with fail
  refine (HR.out _ hB).mono ?_
  rintro e y ⟨B, T, hR, rfl, hor, hot, ⟨q1, q2, q3, q4, _⟩, hy⟩
  replace g0 := keepheapO hy g0
  replace g1 := keepheapO hy g1
  replace g2 := keepheapO hy g2
  replace hB := btrans hB hy
  have HOR := hid hor
  have HOT := hid hot
  clear hy d0 d1 d2 d3 HR hor hot
  obtain ⟨⟨f0, f1, f2, f3⟩, p0, p1, p2, p3⟩ := cellk4 g2
  go_upto_region 3 with fail
  have hfar : ∀ c, c ≠ w.heap.size + 1 + 1 → ((((y.setCell ⟨w.heap.size + 1 + 1, 0, none⟩ (.int .i64 now)).setCell ⟨w.heap.size + 1 + 1, 1, none⟩ (.slice (some ⟨B, 0, none⟩) rn rn)).setCell ⟨w.heap.size + 1 + 1, 2, none⟩ (.slice (some ⟨T, 0, none⟩) tn tn))).heap[c]? = y.heap[c]? := fun c hc => by rw [Below.heap_setCell _ _ _ _ (by dsimp only; omega), Below.heap_setCell _ _ _ _ (by dsimp only; omega), Below.heap_setCell _ _ _ _ (by dsimp only; omega)]
  have hsz : ((((y.setCell ⟨w.heap.size + 1 + 1, 0, none⟩ (.int .i64 now)).setCell ⟨w.heap.size + 1 + 1, 1, none⟩ (.slice (some ⟨B, 0, none⟩) rn rn)).setCell ⟨w.heap.size + 1 + 1, 2, none⟩ (.slice (some ⟨T, 0, none⟩) tn tn))).heap.size = y.heap.size := by simp
  have G2 := setk4_012 g2 (.int .i64 now) (.slice (some ⟨B, 0, none⟩) rn rn) (.slice (some ⟨T, 0, none⟩) tn tn)
  replace g0 := (hfar _ (by omega)).trans g0
  replace g1 := (hfar _ (by omega)).trans g1
  have HB := hid (bset (bset (bset hB (q := w.heap.size + 1 + 1) (k := 0) (by omega) (.int .i64 now)) (q := w.heap.size + 1 + 1) (k := 1) (by omega) (.slice (some ⟨B, 0, none⟩) rn rn)) (q := w.heap.size + 1 + 1) (k := 2) (by omega) (.slice (some ⟨T, 0, none⟩) tn tn))
  replace HOR := hid (HOR.out.up (w' := (((y.setCell ⟨w.heap.size + 1 + 1, 0, none⟩ (.int .i64 now)).setCell ⟨w.heap.size + 1 + 1, 1, none⟩ (.slice (some ⟨B, 0, none⟩) rn rn)).setCell ⟨w.heap.size + 1 + 1, 2, none⟩ (.slice (some ⟨T, 0, none⟩) tn tn))) (fun b hb => hfar b (by omega)) (by omega))
  replace HOT := hid (HOT.out.up (w' := (((y.setCell ⟨w.heap.size + 1 + 1, 0, none⟩ (.int .i64 now)).setCell ⟨w.heap.size + 1 + 1, 1, none⟩ (.slice (some ⟨B, 0, none⟩) rn rn)).setCell ⟨w.heap.size + 1 + 1, 2, none⟩ (.slice (some ⟨T, 0, none⟩) tn tn))) (fun b hb => hfar b (by omega)) (by omega))
  have hsz1 := Nat.le_of_eq hsz.symm
  clear hfar hsz hB f0 f1 f2 f3 p0 p1 p2 p3 g2
  generalize (((y.setCell ⟨w.heap.size + 1 + 1, 0, none⟩ (.int .i64 now)).setCell ⟨w.heap.size + 1 + 1, 1, none⟩ (.slice (some ⟨B, 0, none⟩) rn rn)).setCell ⟨w.heap.size + 1 + 1, 2, none⟩ (.slice (some ⟨T, 0, none⟩) tn tn)) = V at *
  obtain ⟨⟨d0, d1, d2, d3⟩, _⟩ := cellk4 g0
  go_wp2_with fail
  refine (HI.out _ HB.out).mono ?_
  rintro e z ⟨rfl, hoz, hz⟩
  replace g1 := keepheapO hz g1
  replace G2 := keepheapO hz G2
  replace HB := hid (btrans HB.out hz)
  replace HOR := hid (HOR.out.below hz)
  replace HOT := hid (HOT.out.below hz)
  have HOZ := hid hoz
  have hzz := hz.size
  clear hz hoz d0 d1 d2 d3 HI g0
  generalize V.heap.size = S at *
  obtain ⟨⟨f0, f1, f2, f3⟩, p0, p1, p2, p3⟩ := cellk4 G2
  obtain ⟨⟨v0, v1, v2, v3⟩, s0, s1, s2, s3⟩ := cellk4 g1
  go_wp2_with fail
  have gF := setk4 (set_far (q := w.heap.size + 1 + 1) (k := 3) (u := (.slice (some ⟨S, 0, none⟩) sn sn)) g1 (by omega)) (.int .i64 now) (.slice (some ⟨B, 0, none⟩) rn rn) (.slice (some ⟨T, 0, none⟩) tn tn) (.slice (some ⟨S, 0, none⟩) sn sn)
  have bF := bset (bset (bset (bset (bset HB.out (q := w.heap.size + 1 + 1) (k := 3) (by omega) (.slice (some ⟨S, 0, none⟩) sn sn)) (q := w.heap.size + 1) (k := 0) (by omega) (.int .i64 now)) (q := w.heap.size + 1) (k := 1) (by omega) (.slice (some ⟨B, 0, none⟩) rn rn)) (q := w.heap.size + 1) (k := 2) (by omega) (.slice (some ⟨T, 0, none⟩) tn tn)) (q := w.heap.size + 1) (k := 3) (by omega) (.slice (some ⟨S, 0, none⟩) sn sn)
  have hfar : ∀ c, w.heap.size + 1 + 1 < c → ((((((z.setCell ⟨w.heap.size + 1 + 1, 3, none⟩ (.slice (some ⟨S, 0, none⟩) sn sn)).setCell ⟨w.heap.size + 1, 0, none⟩ (.int .i64 now)).setCell ⟨w.heap.size + 1, 1, none⟩ (.slice (some ⟨B, 0, none⟩) rn rn)).setCell ⟨w.heap.size + 1, 2, none⟩ (.slice (some ⟨T, 0, none⟩) tn tn)).setCell ⟨w.heap.size + 1, 3, none⟩ (.slice (some ⟨S, 0, none⟩) sn sn))).heap[c]? = z.heap[c]? := fun c hc => by rw [Below.heap_setCell _ _ _ _ (by dsimp only; omega), Below.heap_setCell _ _ _ _ (by dsimp only; omega), Below.heap_setCell _ _ _ _ (by dsimp only; omega), Below.heap_setCell _ _ _ _ (by dsimp only; omega), Below.heap_setCell _ _ _ _ (by dsimp only; omega)]
  have hsz : ((((((z.setCell ⟨w.heap.size + 1 + 1, 3, none⟩ (.slice (some ⟨S, 0, none⟩) sn sn)).setCell ⟨w.heap.size + 1, 0, none⟩ (.int .i64 now)).setCell ⟨w.heap.size + 1, 1, none⟩ (.slice (some ⟨B, 0, none⟩) rn rn)).setCell ⟨w.heap.size + 1, 2, none⟩ (.slice (some ⟨T, 0, none⟩) tn tn)).setCell ⟨w.heap.size + 1, 3, none⟩ (.slice (some ⟨S, 0, none⟩) sn sn))).heap.size = z.heap.size := by simp
  have o1 := HOR.out.up (w' := (((((z.setCell ⟨w.heap.size + 1 + 1, 3, none⟩ (.slice (some ⟨S, 0, none⟩) sn sn)).setCell ⟨w.heap.size + 1, 0, none⟩ (.int .i64 now)).setCell ⟨w.heap.size + 1, 1, none⟩ (.slice (some ⟨B, 0, none⟩) rn rn)).setCell ⟨w.heap.size + 1, 2, none⟩ (.slice (some ⟨T, 0, none⟩) tn tn)).setCell ⟨w.heap.size + 1, 3, none⟩ (.slice (some ⟨S, 0, none⟩) sn sn))) (fun b hb => hfar b (by omega)) (by omega)
  have o2 := HOT.out.up (w' := (((((z.setCell ⟨w.heap.size + 1 + 1, 3, none⟩ (.slice (some ⟨S, 0, none⟩) sn sn)).setCell ⟨w.heap.size + 1, 0, none⟩ (.int .i64 now)).setCell ⟨w.heap.size + 1, 1, none⟩ (.slice (some ⟨B, 0, none⟩) rn rn)).setCell ⟨w.heap.size + 1, 2, none⟩ (.slice (some ⟨T, 0, none⟩) tn tn)).setCell ⟨w.heap.size + 1, 3, none⟩ (.slice (some ⟨S, 0, none⟩) sn sn))) (fun b hb => hfar b (by omega)) (by omega)
  have o3 := HOZ.out.blk (w' := (((((z.setCell ⟨w.heap.size + 1 + 1, 3, none⟩ (.slice (some ⟨S, 0, none⟩) sn sn)).setCell ⟨w.heap.size + 1, 0, none⟩ (.int .i64 now)).setCell ⟨w.heap.size + 1, 1, none⟩ (.slice (some ⟨B, 0, none⟩) rn rn)).setCell ⟨w.heap.size + 1, 2, none⟩ (.slice (some ⟨T, 0, none⟩) tn tn)).setCell ⟨w.heap.size + 1, 3, none⟩ (.slice (some ⟨S, 0, none⟩) sn sn))) (by omega) (fun b off e => hfar b (by cases e; omega))
  clear hfar hsz
  generalize (((((z.setCell ⟨w.heap.size + 1 + 1, 3, none⟩ (.slice (some ⟨S, 0, none⟩) sn sn)).setCell ⟨w.heap.size + 1, 0, none⟩ (.int .i64 now)).setCell ⟨w.heap.size + 1, 1, none⟩ (.slice (some ⟨B, 0, none⟩) rn rn)).setCell ⟨w.heap.size + 1, 2, none⟩ (.slice (some ⟨T, 0, none⟩) tn tn)).setCell ⟨w.heap.size + 1, 3, none⟩ (.slice (some ⟨S, 0, none⟩) sn sn)) = wf at *
  obtain ⟨⟨z0, z1, z2, z3⟩, _⟩ := cellk4 gF
  exact bodyPost_ret (v := .agg #[.int .i64 now, .slice (some ⟨B, 0, none⟩) rn rn, .slice (some ⟨T, 0, none⟩) tn tn, .slice (some ⟨S, 0, none⟩) sn sn]) (by simp [results, Tryd.results13, go_sem, z0, z1, z2, z3]) rfl ⟨B, T, S, rfl, ⟨by omega, by omega, by omega, o1, o2, o3⟩, bF⟩
set_option maxHeartbeats 2000000 in
theorem eq_db (now : Int) (B T S B' T' S' lo lo' : Nat) (rs : List Rw) (ts : List Tx) (zs : List Int) (w : World) (hm : rs.length ≤ 1099511627776) (htm : ts.length ≤ 1099511627776) (hzm : zs.length ≤ 1048576) (h1 : DBX lo w B T S rs ts zs) (h2 : DBX lo' w B' T' S' rs ts zs) : Calls Tryd.prog 16 #[.agg #[.int .i64 now, .slice (some ⟨B, 0, none⟩) rs.length rs.length, .slice (some ⟨T, 0, none⟩) ts.length ts.length, .slice (some ⟨S, 0, none⟩) zs.length zs.length], .agg #[.int .i64 now, .slice (some ⟨B', 0, none⟩) rs.length rs.length, .slice (some ⟨T', 0, none⟩) ts.length ts.length, .slice (some ⟨S', 0, none⟩) zs.length zs.length]] w fun e w' => e = .returned (.bool true) ∧ Below w.heap.size w w' := by
  have HE := hid (fun (W : World) (hb : Below w.heap.size w W) => eq_store now (some ⟨B, 0, none⟩) (some ⟨B', 0, none⟩) (some ⟨T, 0, none⟩) (some ⟨T', 0, none⟩) rs.length rs.length ts.length ts.length rs ts W hm htm (h1.below hb).2.2.2.1 (h2.below hb).2.2.2.1 (h1.below hb).2.2.2.2.1 (h2.below hb).2.2.2.2.1)
  have HI := hid (fun (W : World) (hb : Below w.heap.size w W) => eq_ints (some ⟨S, 0, none⟩) (some ⟨S', 0, none⟩) zs.length zs.length zs W (by omega) (h1.below hb).2.2.2.2.2 (h2.below hb).2.2.2.2.2)
  clear h1 h2
  generalize rs.length = rn at *
  generalize ts.length = tn at *
  generalize zs.length = sn at *
  have hB0 : Below w.heap.size w ((w.alloc (.cells #[.int .i64 now, .slice (some ⟨B, 0, none⟩) rn rn, .slice (some ⟨T, 0, none⟩) tn tn, .slice (some ⟨S, 0, none⟩) sn sn] 45)).alloc (.cells #[.int .i64 now, .slice (some ⟨B', 0, none⟩) rn rn, .slice (some ⟨T', 0, none⟩) tn tn, .slice (some ⟨S', 0, none⟩) sn sn] 45)) := balloc (balloc (Below.refl _ _) _) _
  have g0 := old_alloc (o' := .cells #[.int .i64 now, .slice (some ⟨B', 0, none⟩) rn rn, .slice (some ⟨T', 0, none⟩) tn tn, .slice (some ⟨S', 0, none⟩) sn sn] 45) (new_alloc w w.heap.size (.cells #[.int .i64 now, .slice (some ⟨B, 0, none⟩) rn rn, .slice (some ⟨T, 0, none⟩) tn tn, .slice (some ⟨S, 0, none⟩) sn sn] 45) rfl)
  have g1 := new_alloc (w.alloc (.cells #[.int .i64 now, .slice (some ⟨B, 0, none⟩) rn rn, .slice (some ⟨T, 0, none⟩) tn tn, .slice (some ⟨S, 0, none⟩) sn sn] 45)) (w.heap.size + 1) (.cells #[.int .i64 now, .slice (some ⟨B', 0, none⟩) rn rn, .slice (some ⟨T', 0, none⟩) tn tn, .slice (some ⟨S', 0, none⟩) sn sn] 45) (by simp)
  go_enter Tryd.func16, Tryd.ntmps16
  go_upto_region 1 with fail
  generalize (w.alloc (.cells #[.int .i64 now, .slice (some ⟨B, 0, none⟩) rn rn, .slice (some ⟨T, 0, none⟩) tn tn, .slice (some ⟨S, 0, none⟩) sn sn] 45)).alloc (.cells #[.int .i64 now, .slice (some ⟨B', 0, none⟩) rn rn, .slice (some ⟨T', 0, none⟩) tn tn, .slice (some ⟨S', 0, none⟩) sn sn] 45) = W0 at *
  obtain ⟨⟨d0, d1, d2, d3⟩, _⟩ := cellk4 g0
  obtain ⟨⟨f0, f1, f2, f3⟩, _⟩ := cellk4 g1
  go_wp2_with fail
  refine (HE.out _ hB0).mono ?_
  rintro e w1 ⟨rfl, hb⟩
  replace g0 := keepheapO hb g0
  replace g1 := keepheapO hb g1
  replace hB0 := btrans hB0 hb
  clear hb d0 d1 d2 d3 f0 f1 f2 f3
  obtain ⟨⟨d0, d1, d2, d3⟩, _⟩ := cellk4 g0
  obtain ⟨⟨f0, f1, f2, f3⟩, _⟩ := cellk4 g1
  go_wp2_with fail
  refine (HI.out _ hB0).mono ?_
  rintro e w2 ⟨rfl, hb⟩
  replace hB0 := btrans hB0 hb
  clear hb
  go_wp2_with fail
  go_ret
  exact ⟨rfl, hB0⟩
theorem DBX.off {lo : Nat} {w w' : World} {B T S : Nat} {rs : List Rw} {ts : List Tx} {zs : List Int} (h : DBX lo w B T S rs ts zs) (hf : ∀ b, lo ≤ b → w'.heap[b]? = w.heap[b]?) (hs : w.heap.size ≤ w'.heap.size) : DBX lo w' B T S rs ts zs :=
  ⟨h.1, h.2.1, h.2.2.1, h.2.2.2.1.up (fun b hb => hf b (Nat.le_trans h.1 hb)) hs, h.2.2.2.2.1.up (fun b hb => hf b (Nat.le_trans h.2.1 hb)) hs, h.2.2.2.2.2.blk hs (fun b o e => hf b (by cases e; exact h.2.2.1))⟩
set_option maxHeartbeats 1000000 in
theorem sz_ints2 (a : Option Addr) (cap n : Nat) (v : Int) (w : World) (hn : n ≤ 9223372036854775807) (h0 : 0 ≤ v) (h1 : v ≤ 1048576) : Calls Tryd.prog 19 #[.slice a n cap, .int .i64 v] w fun e w' => (∃ u : Int, e = .returned (.int .i64 u) ∧ (u = -1 ∨ (0 ≤ u ∧ u ≤ 1048576 ∧ n ≤ 1048576))) ∧ Below w.heap.size w w' := by
  have s0 : IntKind.i64.wrap (v - (n : Int)) = v - (n : Int) := by rw [IntKind.wrap_i64]; omega
  go_enter Tryd.func19, Tryd.ntmps19
  by_cases h2 : v - (n : Int) < 0
  · go_wp2_with fail
    go_ret
    exact ⟨⟨-1, rfl, .inl rfl⟩, Below.refl _ _⟩
  · go_wp2_with fail
    go_ret
    exact ⟨⟨v - (n : Int), rfl, .inr ⟨by omega, by omega, by omega⟩⟩, Below.refl _ _⟩
set_option maxHeartbeats 2000000 in
theorem sz_db2 {N : Nat → Prop} (now : Int) (a ta sa : Option Addr) (cap tcap scap sn : Nat) (rs : List Rw) (ts : List Tx) (w : World) (hm : rs.length ≤ 9223372036854775807) (htm : ts.length ≤ 9223372036854775807) (hsn : sn ≤ 9223372036854775807) (hr : RwsL w a rs) (ht : Txs N 9223372036854775807 w ta ts) : Calls Tryd.prog 10 #[.agg #[.int .i64 now, .slice a rs.length cap, .slice ta ts.length tcap, .slice sa sn scap], .int .i64 1048576] w fun e w' => (∃ v : Int, e = .returned (.int .i64 v) ∧ (v = -1 ∨ (0 ≤ v ∧ v ≤ 1048576 ∧ Hid (((rs.length ≤ 1048576 ∧ ∀ m (h : m < rs.length), rs[m].2.2.2.2.length ≤ 1048576) ∧ txS ts) ∧ sn ≤ 1048576)))) ∧ Below w.heap.size w w' := by
  have HS := hid (fun (W : World) (hb : Below w.heap.size w W) => sz_store now a ta cap tcap rs ts W hm htm (hr.below hb) (ht.below hb))
  clear hr ht
  generalize ((rs.length ≤ 1048576 ∧ ∀ m (h : m < rs.length), rs[m].2.2.2.2.length ≤ 1048576) ∧ txS ts) = R at *
  generalize rs.length = rn at *
  generalize ts.length = tn at *
  have hB : Below w.heap.size w (w.alloc (.cells #[.int .i64 now, .slice a rn cap, .slice ta tn tcap, .slice sa sn scap] 30)) := balloc (Below.refl _ _) _
  have g0 := new_alloc w w.heap.size (.cells #[.int .i64 now, .slice a rn cap, .slice ta tn tcap, .slice sa sn scap] 30) rfl
  go_enter Tryd.func10, Tryd.ntmps10
  go_upto_region 1 with fail
  generalize w.alloc (.cells #[.int .i64 now, .slice a rn cap, .slice ta tn tcap, .slice sa sn scap] 30) = W at *
  obtain ⟨⟨d0, d1, d2, d3⟩, _⟩ := cellk4 g0
  go_wp2_with fail
  refine (HS.out _ hB).mono ?_
  rintro e z ⟨⟨v, rfl, hv⟩, hz⟩
  replace g0 := keepheapO hz g0
  replace hB := btrans hB hz
  clear hz d0 d1 d2 d3
  obtain ⟨⟨d0, d1, d2, d3⟩, _⟩ := cellk4 g0
  rcases hv with rfl | ⟨hv0, hv1, HV⟩
  · go_wp2_with fail
    go_ret
    exact ⟨⟨-1, rfl, .inl rfl⟩, hB⟩
  · have hv2 : ¬ v < 0 := by omega
    go_wp2_with fail
    refine (sz_ints2 sa scap sn v _ hsn hv0 hv1).mono ?_
    rintro e y ⟨⟨u, rfl, hu⟩, hy⟩
    replace hB := btrans hB hy
    rcases hu with rfl | ⟨hu0, hu3, hu1⟩
    · go_wp2_with fail
      go_ret
      exact ⟨⟨-1, rfl, .inl rfl⟩, hB⟩
    · have hu2 : ¬ u < 0 := by omega
      go_wp2_with fail
      go_ret
      exact ⟨⟨u, rfl, .inr ⟨hu0, hu3, hid ⟨HV.out, hu1⟩⟩⟩, hB⟩
end Go.Proofs.YtdhdfgobefapiaaDoor
