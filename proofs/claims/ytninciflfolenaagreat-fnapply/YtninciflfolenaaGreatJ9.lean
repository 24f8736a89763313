/- Texts of stores, joined: RwA0, AreaM, RwG, RwH. -/
import Derived.Test.YtninciflfolenaaGreatJ2
import Derived.Test.YtninciflfolenaaGreatJ8
import Derived.OwnWalk
import Derived.Deep.AppendLies
import Derived.Test.YtninciflfolenaaGreatArea
import Derived.Maps.AppendAt
namespace Go.Proofs.YtninciflfolenaaGreat
open Go.RowKit
set_option linter.unusedSimpArgs false
set_option linter.unusedVariables false
theorem Tryz.infoPC : (Tryz.prog.info? 66).map (fun i => (i.zero, i.size, i.bytes)) = some (some (.agg #[.int .i64 0, .int .i64 0]), 2, 16) := by kernel_rfl
theorem cell2r {w : World} {p : Nat} {a b : Value} {t : TypeId} (h : w.heap[p]? = some (.cells #[a, b] t (0, 0))) : w.cell? ⟨p, 0, none⟩ = some a ∧ w.cell? ⟨p, 1, none⟩ = some b ∧ w.frozen? ⟨p, 0, none⟩ = false ∧ w.frozen? ⟨p, 1, none⟩ = false := by
  refine ⟨?_, ?_, ?_, ?_⟩ <;> simp [World.cell?, World.frozen?, h]
theorem own_blk {w w' : World} {b : Nat} {ps : List (Int × Int)} (h : PtsOwn w b ps) (e : w'.heap[b]? = w.heap[b]?) (hs : b < w'.heap.size) : PtsOwn w' b ps := by
  obtain ⟨h1, h2, h3⟩ := h
  refine ⟨hs, fun k hk => ?_, fun j hj => ?_⟩
  · simp only [World.cell?, e]; exact h2 k hk
  · simp only [World.cell?, World.frozen?, e]; exact h3 j hj
def fl2 (qs : List (Int × Int)) : List Value := qs.flatMap fun q => [.int .i64 q.1, .int .i64 q.2]
theorem fl2_len (qs : List (Int × Int)) : (fl2 qs).length = qs.length * 2 := by
  induction qs with
  | nil => rfl
  | cons q r ih => simp only [fl2, List.flatMap_cons, List.length_append, List.length_cons, List.length_nil] at ih ⊢; omega
theorem fl2_at (qs : List (Int × Int)) : ∀ k, k < qs.length → (fl2 qs)[k * 2]? = some (.int .i64 (qs.getD k (0, 0)).1) ∧ (fl2 qs)[k * 2 + 1]? = some (.int .i64 (qs.getD k (0, 0)).2) := by
  induction qs with
  | nil => intro k hk; simp at hk
  | cons q r ih =>
    intro k hk
    cases k with
    | zero => simp [fl2]
    | succ k =>
      have := ih k (by simpa using hk)
      simp only [fl2, List.flatMap_cons, List.getD_cons_succ] at this ⊢
      rw [show (k + 1) * 2 = k * 2 + 2 by omega]
      simpa [List.getElem?_append_right] using this
theorem fl2_one (qs : List (Int × Int)) : ∀ u ∈ fl2 qs, u.oneCell' = true := by
  intro u hu
  simp only [fl2, List.mem_flatMap] at hu
  obtain ⟨q, _, hu⟩ := hu
  simp at hu
  rcases hu with rfl | rfl <;> rfl
theorem fl2_news {w : World} {b off : Nat} {ps : List (Int × Int)} (h : PtsAt w b off ps) : ∀ j u, (fl2 ps)[j]? = some u → w.cell? ((⟨b, off, none⟩ : Addr).add j) = some u := by
  intro j u hu
  have hj : j < ps.length * 2 := by rw [← fl2_len]; exact (List.getElem?_eq_some_iff.1 hu).1
  rw [Addr.add_mid]
  have h2 := h (j / 2) (by omega)
  obtain ⟨f0, f1⟩ := fl2_at ps (j / 2) (by omega)
  rcases Nat.mod_two_eq_zero_or_one j with e | e
  · have ej : j = j / 2 * 2 := by omega
    rw [ej] at hu ⊢
    rw [f0] at hu
    rw [← hu]
    exact h2.1
  · have ej : j = j / 2 * 2 + 1 := by omega
    rw [ej] at hu ⊢
    rw [f1] at hu
    rw [← hu, ← Nat.add_assoc]
    exact h2.2
theorem own_pts {w : World} {B g cap n : Nat} {ps : List (Int × Int)} (h : w.ownsRow B 66 2 (.slice (some ⟨g, 0, none⟩) n cap) n (fl2 ps)) (hn : ps.length = n) : B ≤ g ∧ n ≤ cap ∧ PtsOwn w g ps := by
  subst hn
  have h' := h
  rcases h.2 with ⟨q, _⟩ | ⟨g', cap', cur, e, hb, hg, hc, _⟩
  · cases q
  · cases e
    refine ⟨hb, hc, (Array.getElem?_eq_some_iff.1 hg).1, fun k hk => ?_, fun j hj => ?_⟩
    · obtain ⟨f0, f1⟩ := fl2_at ps k hk
      have hcs := World.ownsRow.cells h' rfl
      have q0 := hcs _ _ f0
      have q1 := hcs _ _ f1
      rw [Addr.add_mid] at q0 q1
      exact ⟨q0, by rw [Nat.add_assoc]; exact q1⟩
    · simp only [Nat.zero_add]
      refine ⟨?_, World.ownsRow.frozenAt h' j⟩
      rw [World.ownsRow.cellAt h' j hj, List.getElem?_eq_getElem (by rw [fl2_len]; exact hj)]
      rfl
/-- A copy of a shape. -/
def CP (w : World) (kd : Int) (ps : List (Int × Int)) (e : Ending) (w' : World) : Prop :=
  ∃ g cap, e = .returned (.agg #[.int .i64 kd, .slice (some ⟨g, 0, none⟩) ps.length cap]) ∧ ps.length ≤ cap ∧ w.heap.size ≤ g ∧ PtsOwn w' g ps ∧ Below w.heap.size w w'
theorem own_new {w : World} {B : Nat} (hB : B ≤ w.heap.size) : (w.alloc (.cells #[] 66)).ownsRow B 66 2 (.slice (some ⟨w.heap.size, 0, none⟩) 0 0) 0 [] := by
  have := World.ownsRow_made (base := B) (e := 66) (size := 2) w #[] 0 hB (by decide) rfl
  simpa using this
set_option maxRecDepth 100000 in
set_option maxHeartbeats 2000000 in
theorem impl_copy (kd : Int) (a : Option Addr) (cap : Nat) (ps : List (Int × Int)) (w : World) (h0 : 0 < ps.length) (hm : ps.length ≤ 1099511627776) (h : Pts w a ps) : Calls Tryz.prog 34 #[.agg #[.int .i64 kd, .slice a ps.length cap]] w fun e w' => CP w kd ps e w' := by
  obtain ⟨i0, hi0, hz0, hz1, hz2⟩ := info_parts Tryz.infoPC
  obtain ⟨b, off, rfl, hbs, hp⟩ : ∃ b off, a = some ⟨b, off, none⟩ ∧ b < w.heap.size ∧ PtsAt w b off ps := by
    rcases h with h | h
    · rw [h] at h0; simp at h0
    · exact h
  have hN := fl2_len ps
  have HP := hid hp
  have HF1 := hid (fl2_one ps)
  clear hp h
  go_enter Tryz.func34, Tryz.ntmps34
  go_upto_region 1 with fail
  have hB : Below w.heap.size w ((w.alloc (.cells #[.int .i64 kd, .slice (some ⟨b, off, none⟩) ps.length cap] 37)).alloc (.cells #[.int .i64 0, .slice none 0 0] 37)) := balloc (balloc (Below.refl _ _) _) _
  have gA := old_alloc (o' := .cells #[.int .i64 0, .slice none 0 0] 37) (new_alloc w w.heap.size (.cells #[.int .i64 kd, .slice (some ⟨b, off, none⟩) ps.length cap] 37) rfl)
  have gB := new_alloc (w.alloc (.cells #[.int .i64 kd, .slice (some ⟨b, off, none⟩) ps.length cap] 37)) (w.heap.size + 1) (.cells #[.int .i64 0, .slice none 0 0] 37) (by simp)
  have hsz : ((w.alloc (.cells #[.int .i64 kd, .slice (some ⟨b, off, none⟩) ps.length cap] 37)).alloc (.cells #[.int .i64 0, .slice none 0 0] 37)).heap.size = w.heap.size + 2 := by simp
  generalize ((w.alloc (.cells #[.int .i64 kd, .slice (some ⟨b, off, none⟩) ps.length cap] 37)).alloc (.cells #[.int .i64 0, .slice none 0 0] 37)) = W at *
  have HNW := hid (fl2_news (HP.out.below hbs (balloc hB (.cells #[] 66))))
  have HOW := hid (own_new (w := W) (B := w.heap.size + 2) (by omega))
  rw [hsz] at HOW
  have HGB := hid (old_alloc (o' := .cells #[] 66) gB)
  have hs3 : (W.alloc (.cells #[] 66)).heap.size = w.heap.size + 3 := by simp [hsz]
  have HB3 := hid (balloc hB (.cells #[] 66))
  obtain ⟨a0, a1, f0, f1⟩ := cell2r gA
  obtain ⟨b0, b1, e0, e1⟩ := cell2r gB
  clear gA gB hB
  go_region_held3 (fun w' => w'.cell? ⟨w.heap.size, 0, none⟩ = some (.int .i64 kd) ∧ w'.cell? ⟨w.heap.size, 1, none⟩ = some (.slice (some ⟨b, off, none⟩) ps.length cap)) ((go_split_ands; (repeat' apply And.intro) <;> (repeat (first | with_reducible assumption | with_reducible refine keepset3 ?_ (by dsimp only; omega) | with_reducible refine keepdrew ?_ | with_reducible refine keepalloc ?_ _ | (refine hgrow.cell ?_ (by simp [Value.ownBlock]; try omega))))))
    ((refine step_append_lies _ (by rfl) _ _ _ (by rfl) (w.heap.size + 2) 66 i0 _ 2 16 Tryz.underlying35 hi0 hz0 hz1 hz2 rfl (by omega) _ 0 [] (by rw [← hsz]; rfl) (HOW.out.drew) ⟨b, off, none⟩ ps.length cap (fl2 ps) (by rfl) hN HNW.out HF1.out h0 (by unfold maxLen; omega) (by omega) (by show _ ≤ (W.alloc (.cells #[] 66)).heap.size; omega) (w.heap.size + 3) hs3 ?_; intro gg cp w2 hown1 hgrow hat hlt; have gB := grown_blk (p := w.heap.size + 2) hgrow HGB.out (by omega); obtain ⟨y0, y1, x0, x1⟩ := cell2r gB))
  have HO1 := hid (own_pts (ps := ps) (by simpa using hown1) (by omega))
  have HB4 := hid (bgrown (p := w.heap.size + 2) (bdrew HB3.out) hgrow (by omega))
  clear hown1 hgrow
  go_wp2_with fail
  obtain ⟨h1, h2, h3⟩ := HO1.out
  have gF := set2r gB (.int .i64 kd) (.slice (some ⟨gg, 0, none⟩) ps.length cp)
  have bF := bset (bset HB4.out (q := w.heap.size + 1) (k := 0) (by omega) (.int .i64 kd)) (q := w.heap.size + 1) (k := 1) (by omega) (.slice (some ⟨gg, 0, none⟩) ps.length cp)
  have oF : PtsOwn ((w2.setCell ⟨w.heap.size + 1, 0, none⟩ (.int .i64 kd)).setCell ⟨w.heap.size + 1, 1, none⟩ (.slice (some ⟨gg, 0, none⟩) ps.length cp)) gg ps := by
    refine own_blk h3 ?_ (by simp; exact h3.1)
    rw [Below.heap_setCell _ _ _ _ (by dsimp only; omega), Below.heap_setCell _ _ _ _ (by dsimp only; omega)]
  generalize (w2.setCell ⟨w.heap.size + 1, 0, none⟩ (.int .i64 kd)).setCell ⟨w.heap.size + 1, 1, none⟩ (.slice (some ⟨gg, 0, none⟩) ps.length cp) = wf at *
  obtain ⟨z0, z1, _, _⟩ := cell2r gF
  exact bodyPost_ret (v := .agg #[.int .i64 kd, .slice (some ⟨gg, 0, none⟩) ps.length cp]) (by simp [results, Tryz.results34, go_sem, z0, z1]) rfl ⟨gg, cp, rfl, by omega, by omega, oF, bF⟩
set_option maxRecDepth 100000 in
set_option maxHeartbeats 2000000 in
theorem impl_copy0 (kd : Int) (w : World) : Calls Tryz.prog 34 #[.agg #[.int .i64 kd, .slice none 0 0]] w fun e w' => CP w kd [] e w' := by
  obtain ⟨i0, hi0, hz0, hz1, hz2⟩ := info_parts Tryz.infoPC
  go_enter Tryz.func34, Tryz.ntmps34
  go_upto_region 1 with fail
  have hB : Below w.heap.size w ((w.alloc (.cells #[.int .i64 kd, .slice none 0 0] 37)).alloc (.cells #[.int .i64 0, .slice none 0 0] 37)) := balloc (balloc (Below.refl _ _) _) _
  have gA := old_alloc (o' := .cells #[.int .i64 0, .slice none 0 0] 37) (new_alloc w w.heap.size (.cells #[.int .i64 kd, .slice none 0 0] 37) rfl)
  have gB := new_alloc (w.alloc (.cells #[.int .i64 kd, .slice none 0 0] 37)) (w.heap.size + 1) (.cells #[.int .i64 0, .slice none 0 0] 37) (by simp)
  have hsz : ((w.alloc (.cells #[.int .i64 kd, .slice none 0 0] 37)).alloc (.cells #[.int .i64 0, .slice none 0 0] 37)).heap.size = w.heap.size + 2 := by simp
  generalize ((w.alloc (.cells #[.int .i64 kd, .slice none 0 0] 37)).alloc (.cells #[.int .i64 0, .slice none 0 0] 37)) = W at *
  obtain ⟨a0, a1, f0, f1⟩ := cell2r gA
  obtain ⟨b0, b1, e0, e1⟩ := cell2r gB
  go_region_held3 (fun w' => w'.cell? ⟨w.heap.size, 0, none⟩ = some (.int .i64 kd) ∧ w'.cell? ⟨w.heap.size, 1, none⟩ = some (.slice none 0 0)) ((go_split_ands; (repeat' apply And.intro) <;> (repeat (first | with_reducible assumption | with_reducible refine keepset3 ?_ (by dsimp only; omega) | with_reducible refine keepdrew ?_ | with_reducible refine keepalloc ?_ _))))
    (fail)
  go_wp2_with fail
  have gF : ((((W.setCell ⟨w.heap.size + 1, 0, none⟩ (.int .i64 kd)).setCell ⟨w.heap.size + 1, 1, none⟩ (.slice (some ⟨w.heap.size + 2, 0, none⟩) 0 0)).alloc (.cells #[] 66)).drew).heap[w.heap.size + 1]? = some (.cells #[.int .i64 kd, .slice (some ⟨w.heap.size + 2, 0, none⟩) 0 0] 37 (0, 0)) := old_alloc (o' := .cells #[] 66) (set2r gB (.int .i64 kd) (.slice (some ⟨w.heap.size + 2, 0, none⟩) 0 0))
  have bF := bdrew (balloc (bset (bset hB (q := w.heap.size + 1) (k := 0) (by omega) (.int .i64 kd)) (q := w.heap.size + 1) (k := 1) (by omega) (.slice (some ⟨w.heap.size + 2, 0, none⟩) 0 0)) (.cells #[] 66))
  have oF : PtsOwn ((((W.setCell ⟨w.heap.size + 1, 0, none⟩ (.int .i64 kd)).setCell ⟨w.heap.size + 1, 1, none⟩ (.slice (some ⟨w.heap.size + 2, 0, none⟩) 0 0)).alloc (.cells #[] 66)).drew) (w.heap.size + 2) [] := ⟨by show _ < ((((W.setCell ⟨w.heap.size + 1, 0, none⟩ (.int .i64 kd)).setCell ⟨w.heap.size + 1, 1, none⟩ (.slice (some ⟨w.heap.size + 2, 0, none⟩) 0 0)).alloc (.cells #[] 66))).heap.size; simp [hsz], fun k hk => by simp at hk, fun j hj => by simp at hj⟩
  generalize (((W.setCell ⟨w.heap.size + 1, 0, none⟩ (.int .i64 kd)).setCell ⟨w.heap.size + 1, 1, none⟩ (.slice (some ⟨w.heap.size + 2, 0, none⟩) 0 0)).alloc (.cells #[] 66)).drew = wf at *
  obtain ⟨z0, z1, _, _⟩ := cell2r gF
  exact bodyPost_ret (v := .agg #[.int .i64 kd, .slice (some ⟨w.heap.size + 2, 0, none⟩) 0 0]) (by simp [results, Tryz.results34, go_sem, z0, z1]) rfl ⟨w.heap.size + 2, 0, rfl, by simp, by omega, oF, bF⟩
end Go.Proofs.YtninciflfolenaaGreat
namespace Go.Proofs.YtninciflfolenaaGreat
open Go.RowKit
/-- The first i of a list that is told by its numbers. -/
def tk (f : Nat → Int × Int) (i : Nat) : List (Int × Int) := (List.range i).map f
end Go.Proofs.YtninciflfolenaaGreat
namespace Go.Proofs.YtninciflfolenaaGreat
open Go.RowKit
set_option linter.unusedSimpArgs false
set_option linter.unusedVariables false
theorem Tryz.infoI : (Tryz.prog.info? 3).map (fun i => (i.zero, i.size, i.bytes)) = some (some (.int .i64 0), 1, 8) := by kernel_rfl
def IAt (w : World) (b off : Nat) (zs : List Int) : Prop := ∀ k, k < zs.length → w.cell? ⟨b, off + k, none⟩ = some (.int .i64 (zs.getD k 0))
/-- A list of whole numbers that may be written into: nil, or a block of its own. -/
def OwnI (w : World) (a : Option Addr) (zs : List Int) : Prop := (a = none ∧ zs = []) ∨ ∃ b, a = some ⟨b, 0, none⟩ ∧ b < w.heap.size ∧ IAt w b 0 zs ∧ w.there b 0 zs.length
theorem OwnI.blk {w w' : World} {a : Option Addr} {zs : List Int} (h : OwnI w a zs) (hs : w.heap.size ≤ w'.heap.size) (e : ∀ b off, a = some ⟨b, off, none⟩ → w'.heap[b]? = w.heap[b]?) : OwnI w' a zs := by
  rcases h with ⟨rfl, rfl⟩ | ⟨b, rfl, h1, h2, h3⟩
  · exact .inl ⟨rfl, rfl⟩
  · have eb := e b 0 rfl
    refine .inr ⟨b, rfl, by omega, fun k hk => ?_, fun j hj => ?_⟩
    · simp only [World.cell?, eb]; exact h2 k hk
    · simp only [World.cell?, World.frozen?, eb]; exact h3 j hj
theorem OwnI.lt {w : World} {a : Option Addr} {zs : List Int} (h : OwnI w a zs) : ∀ c off, a = some ⟨c, off, none⟩ → c < w.heap.size := by
  intro c off e
  rcases h with ⟨rfl, rfl⟩ | ⟨b, rfl, h, _⟩
  · cases e
  · cases e; exact h
theorem OwnI.below {w w' : World} {a : Option Addr} {zs : List Int} (h : OwnI w a zs) (H : Below w.heap.size w w') : OwnI w' a zs := h.blk H.size (fun b off e => H.block b (h.lt b off e))
theorem OwnI.at {w : World} {a : Option Addr} {zs : List Int} (h : OwnI w a zs) {k : Nat} (hk : k < zs.length) : ∃ b, a = some ⟨b, 0, none⟩ ∧ w.cell? ⟨b, k, none⟩ = some (.int .i64 (zs.getD k 0)) ∧ w.frozen? ⟨b, k, none⟩ = false := by
  rcases h with ⟨rfl, rfl⟩ | ⟨b, rfl, h1, h2, h3⟩
  · simp at hk
  · refine ⟨b, rfl, by simpa using h2 k hk, ?_⟩
    simpa using (h3 k hk).2
end Go.Proofs.YtninciflfolenaaGreat
namespace Go.Proofs.YtninciflfolenaaGreat
open Go.RowKit
set_option linter.unusedSimpArgs false
set_option linter.unusedVariables false
def fli (zs : List Int) : List Value := zs.map (Value.int .i64)
theorem own_cell {w : World} {B g n cap : Nat} {zs : List Int} (h : w.ownsRow B 3 1 (.slice (some ⟨g, 0, none⟩) n cap) n (fli zs)) (hn : zs.length = n) {k : Nat} (hk : k < n) : w.cell? ⟨g, k, none⟩ = some (.int .i64 (zs.getD k 0)) := by
  rw [World.ownsRow.cellAt h k (by omega)]
  simp [fli, List.getD_eq_getElem?_getD, List.getElem?_eq_getElem (show k < zs.length by omega)]
theorem own_I {w : World} {B g n cap : Nat} {zs : List Int} (h : w.ownsRow B 3 1 (.slice (some ⟨g, 0, none⟩) n cap) n (fli zs)) (hn : zs.length = n) : B ≤ g ∧ n ≤ cap ∧ OwnI w (some ⟨g, 0, none⟩) zs := by
  have h' := h
  rcases h.2 with ⟨q, _⟩ | ⟨g', cap', cur, e, hb, hg, hc, _⟩
  · cases q
  · cases e
    refine ⟨hb, hc, .inr ⟨g, rfl, (Array.getElem?_eq_some_iff.1 hg).1, fun k hk => ?_, fun j hj => ?_⟩⟩
    · rw [Nat.zero_add]; exact own_cell h' hn (by omega)
    · simp only [Nat.zero_add]
      refine ⟨?_, World.ownsRow.frozenAt h' j⟩
      rw [own_cell h' hn (by omega)]; rfl
/-- An append to a list of its own that is no nil, at a step of a region that draws its order; the source may be empty. -/
theorem step_append_any {P : Program} {w : World} {ops : Array Oper} {o : Oper} {a : Act} {K : Act → World → Prop} {Q : Exit → Act → World → Prop} {E : Prop} (hgd : o.guard = none) (s x : Operand) (t : TypeId)
    (ho : o.op = .call { callee := .builtin .append, args := #[s, x], argTypes := #[t, t] })
    (base : Nat) (e : TypeId) (i : TypeInfo) (z : Value) (size bytes : Nat) (ht : P.underlying t = some (.slice e)) (hi : P.info? e = some i) (hz : i.zero = some z)
    (hsize : i.size = size) (hby : i.bytes = bytes) (hzs : z.cells.size = size) (hsz : 0 < size)
    (g0 n0 cap0 : Nat) (n : Nat) (xs : List Value) (hs : a.eval s = .slice (some ⟨g0, 0, none⟩) n0 cap0) (hown : w.ownsRow base e size (.slice (some ⟨g0, 0, none⟩) n0 cap0) n xs)
    (ad : Addr) (m c : Nat) (news : List Value) (hx : a.eval x = .slice (some ad) m c) (hl : news.length = m * size) (hnews : ∀ j u, news[j]? = some u → w.cell? (ad.add j) = some u) (h1 : ∀ u ∈ news, u.oneCell' = true)
    (h63 : n + m ≤ maxLen) (hbytes : (n + m) * bytes ≤ 140737488355328) (hbase : base ≤ w.heap.size)
    (h : ∀ g cap w', w'.ownsRow base e size (.slice (some ⟨g, 0, none⟩) (n + m) cap) (n + m) (xs ++ news) → w.grownBy w' (some g0) → (g = g0 ∨ g = w.heap.size) → K (a.put o.dst (.slice (some ⟨g, 0, none⟩) (n + m) cap)) w') :
    if Region.wanted o (yielded ops a.tmps) = true then Oper.wp P o a w K Q else E := by
  have hw : Region.wanted o (yielded ops a.tmps) = true := by simp [Region.wanted, hgd]
  rw [if_pos hw]
  obtain ⟨v', w', hr, h2, h3, h4, h5⟩ := run_append_own_at (P := P) w base t o.type e i z size bytes ht hi hz hsize hby hzs hsz _ n xs hown ad m c news hl hnews h1 h63 hbytes hbase
  have hne : v' ≠ .slice none 0 0 := fun e => by have := (h4.1 e).1; cases this
  obtain ⟨g, cap, cur, rfl, _⟩ : ∃ g cap cur, v' = .slice (some ⟨g, 0, none⟩) (n + m) cap ∧ cur = () := by
    rcases h2.2 with ⟨q, _⟩ | ⟨g, cap, cur, e, _⟩
    · exact absurd q hne
    · exact ⟨g, cap, (), e, rfl⟩
  unfold Oper.wp execOp
  simp only [ho, resolve, invoke, builtin, Sem.run_bind, Sem.run_pure, Result.andThen_ok, List.map_toArray, List.map_cons, List.map_nil, hs, hx, hr]
  refine h g cap w' h2 h3 ?_
  rcases h5 with h5 | h5
  · left; simpa [Value.ownBlock] using h5
  · right; simpa [Value.ownBlock] using h5
end Go.Proofs.YtninciflfolenaaGreat
