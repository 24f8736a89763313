/- Texts of stores, joined: RwO, Sa. -/
import Derived.Test.YtenlhgnobfadgaaGreatDoorJ36
import Derived.Deep.SlicePairs
namespace Go.Proofs.YtenlhgnobfadgaaGreatDoor
open Go.RowKit
set_option linter.unusedSimpArgs false
set_option linter.unusedVariables false
/-- A row at a place, of any length. -/
def RwL (w : World) (b o : Nat) (r : Rw) : Prop :=
  ∃ a cap, w.cell? ⟨b, o, none⟩ = some (.int .i64 r.1) ∧ w.cell? ⟨b, o + 1, none⟩ = some (.int .i64 r.2.1) ∧ w.cell? ⟨b, o + 2, none⟩ = some (.int .i64 r.2.2.1) ∧ w.cell? ⟨b, o + 3, none⟩ = some (.int .i64 r.2.2.2.1) ∧ w.cell? ⟨b, o + 4, none⟩ = some (.slice a r.2.2.2.2.length cap) ∧ r.2.2.2.2.length ≤ cap ∧ r.2.2.2.2.length ≤ 9223372036854775807 ∧ Pts w a r.2.2.2.2
def RwsL (w : World) (a : Option Addr) (rs : List Rw) : Prop := rs = [] ∨ ∃ b o, a = some ⟨b, o, none⟩ ∧ b < w.heap.size ∧ ∀ j (h : j < rs.length), RwL w b (o + j * 5) rs[j]
theorem RwL.below {w w' : World} {b o : Nat} {r : Rw} (hb : b < w.heap.size) (h : RwL w b o r) (H : Below w.heap.size w w') : RwL w' b o r := by
  obtain ⟨a, cap, h0, h1, h2, h3, h4, h5, h6, h7⟩ := h
  exact ⟨a, cap, keepcell H h0, keepcell H h1, keepcell H h2, keepcell H h3, keepcell H h4, h5, h6, h7.below H⟩
theorem RwsL.below {w w' : World} {a : Option Addr} {rs : List Rw} (h : RwsL w a rs) (H : Below w.heap.size w w') : RwsL w' a rs := by
  rcases h with h | ⟨b, o, h1, h2, h3⟩
  · exact .inl h
  · exact .inr ⟨b, o, h1, Nat.lt_of_lt_of_le h2 H.size, fun j hj => (h3 j hj).below h2 H⟩
theorem RwsL.at {w : World} {a : Option Addr} {rs : List Rw} (h : RwsL w a rs) (j : Nat) (hj : j < rs.length) : ∃ b o, a = some ⟨b, o, none⟩ ∧ b < w.heap.size ∧ RwL w b (o + j * 5) rs[j] := by
  rcases h with h | ⟨b, o, h1, h2, h3⟩
  · subst h; exact absurd hj (by simp)
  · exact ⟨b, o, h1, h2, h3 j hj⟩
theorem RwsL.rws {w : World} {a : Option Addr} {rs : List Rw} (h : RwsL w a rs) (hl : ∀ m (h : m < rs.length), rs[m].2.2.2.2.length ≤ 1048576) : Rws (fun _ => True) w a rs := by
  rcases h with h | ⟨b, o, h1, h2, h3⟩
  · exact .inl h
  · refine .inr ⟨b, o, h1, h2, fun j hj => ?_⟩
    obtain ⟨a, cap, k0, k1, k2, k3, k4, k5, k6, k7⟩ := h3 j hj
    have := hl j hj
    exact ⟨a, cap, k0, k1, k2, k3, k4, k5, by omega, k7, fun _ _ _ => trivial⟩
end Go.Proofs.YtenlhgnobfadgaaGreatDoor
namespace Go.Proofs.YtenlhgnobfadgaaGreatDoor
open Go.RowKit
set_option linter.unusedSimpArgs false
set_option linter.unusedVariables false
theorem cellk3 {w : World} {p : Nat} {a b c : Value} {t : TypeId} (h : w.heap[p]? = some (.cells #[a, b, c] t (0, 0))) : (w.cell? ⟨p, 0, none⟩ = some a ∧ w.cell? ⟨p, 1, none⟩ = some b ∧ w.cell? ⟨p, 2, none⟩ = some c) ∧ w.frozen? ⟨p, 0, none⟩ = false ∧ w.frozen? ⟨p, 1, none⟩ = false ∧ w.frozen? ⟨p, 2, none⟩ = false := by
  refine ⟨⟨?_, ?_, ?_⟩, ?_, ?_, ?_⟩ <;> simp [World.cell?, World.frozen?, h]
theorem setk3 {w : World} {p : Nat} {o0 o1 o2 : Value} {t : TypeId} (h : w.heap[p]? = some (.cells #[o0, o1, o2] t (0, 0))) (a b c : Value) : (((w.setCell ⟨p, 0, none⟩ a).setCell ⟨p, 1, none⟩ b).setCell ⟨p, 2, none⟩ c).heap[p]? = some (.cells #[a, b, c] t (0, 0)) := by
  have st : ∀ (W : World) (cs : Array Value) (k : Nat) (u : Value), W.heap[p]? = some (.cells cs t (0, 0)) → (W.setCell ⟨p, k, none⟩ u).heap[p]? = some (.cells (cs.setIfInBounds k u) t (0, 0)) := by
    intro W cs k u h
    have hlt := lt_of_block h
    have h' : W.heap[p] = .cells cs t (0, 0) := by simpa [Array.getElem?_eq_getElem hlt] using h
    show (W.heap.modify p _)[p]? = _
    rw [Array.getElem?_eq_getElem (by simpa using hlt), Array.getElem_modify_self, h']
    rfl
  have e4 := (st _ _ 2 c (st _ _ 1 b (st _ _ 0 a h)))
  simpa using e4
theorem cellk4 {w : World} {p : Nat} {a b c d : Value} {t : TypeId} (h : w.heap[p]? = some (.cells #[a, b, c, d] t (0, 0))) : (w.cell? ⟨p, 0, none⟩ = some a ∧ w.cell? ⟨p, 1, none⟩ = some b ∧ w.cell? ⟨p, 2, none⟩ = some c ∧ w.cell? ⟨p, 3, none⟩ = some d) ∧ w.frozen? ⟨p, 0, none⟩ = false ∧ w.frozen? ⟨p, 1, none⟩ = false ∧ w.frozen? ⟨p, 2, none⟩ = false ∧ w.frozen? ⟨p, 3, none⟩ = false := by
  refine ⟨⟨?_, ?_, ?_, ?_⟩, ?_, ?_, ?_, ?_⟩ <;> simp [World.cell?, World.frozen?, h]
theorem setk4 {w : World} {p : Nat} {o0 o1 o2 o3 : Value} {t : TypeId} (h : w.heap[p]? = some (.cells #[o0, o1, o2, o3] t (0, 0))) (a b c d : Value) : ((((w.setCell ⟨p, 0, none⟩ a).setCell ⟨p, 1, none⟩ b).setCell ⟨p, 2, none⟩ c).setCell ⟨p, 3, none⟩ d).heap[p]? = some (.cells #[a, b, c, d] t (0, 0)) := by
  have st : ∀ (W : World) (cs : Array Value) (k : Nat) (u : Value), W.heap[p]? = some (.cells cs t (0, 0)) → (W.setCell ⟨p, k, none⟩ u).heap[p]? = some (.cells (cs.setIfInBounds k u) t (0, 0)) := by
    intro W cs k u h
    have hlt := lt_of_block h
    have h' : W.heap[p] = .cells cs t (0, 0) := by simpa [Array.getElem?_eq_getElem hlt] using h
    show (W.heap.modify p _)[p]? = _
    rw [Array.getElem?_eq_getElem (by simpa using hlt), Array.getElem_modify_self, h']
    rfl
  have e4 := (st _ _ 3 d (st _ _ 2 c (st _ _ 1 b (st _ _ 0 a h))))
  simpa using e4
abbrev Ch : Type := Int × Bool × Int × List (Int × Int)
def chv (x : Ch) (a : Option Addr) (cap : Nat) : Value := .agg #[.int .i64 x.1, .bool x.2.1, .int .i64 x.2.2.1, .slice a x.2.2.2.length cap]
def ChAt (N : Nat → Prop) (M : Nat) (w : World) (b o : Nat) (x : Ch) : Prop :=
  ∃ a cap, w.cell? ⟨b, o, none⟩ = some (.int .i64 x.1) ∧ w.cell? ⟨b, o + 1, none⟩ = some (.bool x.2.1) ∧ w.cell? ⟨b, o + 2, none⟩ = some (.int .i64 x.2.2.1) ∧ w.cell? ⟨b, o + 3, none⟩ = some (.slice a x.2.2.2.length cap) ∧ x.2.2.2.length ≤ cap ∧ x.2.2.2.length ≤ M ∧ Pts w a x.2.2.2 ∧ (∀ c off, a = some ⟨c, off, none⟩ → N c)
def ChsAt (N : Nat → Prop) (M : Nat) (w : World) (b o : Nat) (xs : List Ch) : Prop := ∀ j (h : j < xs.length), ChAt N M w b (o + j * 4) xs[j]
def Chs (N : Nat → Prop) (M : Nat) (w : World) (a : Option Addr) (xs : List Ch) : Prop := xs = [] ∨ ∃ b o, a = some ⟨b, o, none⟩ ∧ b < w.heap.size ∧ ChsAt N M w b o xs
theorem ChAt.below {N : Nat → Prop} {M : Nat} {w w' : World} {b o : Nat} {x : Ch} (h : ChAt N M w b o x) (H : Below w.heap.size w w') : ChAt N M w' b o x := by
  obtain ⟨a, cap, k0, k1, k2, q1, q2, q3, q4, q5⟩ := h
  exact ⟨a, cap, keepcell H k0, keepcell H k1, keepcell H k2, keepcell H q1, q2, q3, q4.below H, q5⟩
theorem Chs.below {N : Nat → Prop} {M : Nat} {w w' : World} {a : Option Addr} {xs : List Ch} (h : Chs N M w a xs) (H : Below w.heap.size w w') : Chs N M w' a xs := by
  rcases h with h | ⟨b, o, e, hb, h⟩
  · exact .inl h
  · exact .inr ⟨b, o, e, Nat.lt_of_lt_of_le hb H.size, fun j hj => (h j hj).below H⟩
theorem Chs.at {N : Nat → Prop} {M : Nat} {w : World} {a : Option Addr} {xs : List Ch} (h : Chs N M w a xs) (j : Nat) (hj : j < xs.length) : ∃ b o, a = some ⟨b, o, none⟩ ∧ b < w.heap.size ∧ ChAt N M w b (o + j * 4) xs[j] := by
  rcases h with h | ⟨b, o, e, hb, h⟩
  · subst h; simp at hj
  · exact ⟨b, o, e, hb, h j hj⟩
theorem ChAt.blk {N : Nat → Prop} {M : Nat} {w w' : World} {b o : Nat} {x : Ch} (h : ChAt N M w b o x) (hc : ∀ i, i < 4 → w'.cell? ⟨b, o + i, none⟩ = w.cell? ⟨b, o + i, none⟩) (hb : ∀ c, N c → w'.heap[c]? = w.heap[c]?) (hs : w.heap.size ≤ w'.heap.size) : ChAt N M w' b o x := by
  obtain ⟨a, cap, k0, k1, k2, q1, q2, q3, q4, q5⟩ := h
  refine ⟨a, cap, (hc 0 (by omega)).trans k0, (hc 1 (by omega)).trans k1, (hc 2 (by omega)).trans k2, (hc 3 (by omega)).trans q1, q2, q3, ?_, q5⟩
  rcases q4 with q4 | ⟨c, off, e, hb', hp⟩
  · exact .inl q4
  · refine .inr ⟨c, off, e, by omega, fun k hk => ?_⟩
    have := hb c (q5 c off e)
    simp only [World.cell?, this]
    exact hp k hk
def chS (xs : List Ch) : Prop := xs.length ≤ 1048576 ∧ ∀ m (h : m < xs.length), xs[m].2.2.2.length ≤ 1048576
theorem Chs.small {N : Nat → Prop} {M : Nat} {w : World} {a : Option Addr} {xs : List Ch} (h : Chs N M w a xs) (hs : chS xs) : Chs N 1099511627776 w a xs := by
  rcases h with h | ⟨b, o, e, hb, h⟩
  · exact .inl h
  · refine .inr ⟨b, o, e, hb, fun j hj => ?_⟩
    obtain ⟨a, cap, k0, k1, k2, q1, q2, q3, q4, q5⟩ := h j hj
    have hj2 := hs.2 j hj
    exact ⟨a, cap, k0, k1, k2, q1, q2, by omega, q4, q5⟩
theorem Tryz.infoCh : (Tryz.prog.info? 50).map (fun i => (i.zero, i.size, i.bytes)) = some (some (.agg #[.int .i64 0, .bool false, .int .i64 0, .slice none 0 0]), 4, 48) := by kernel_rfl
theorem make_chs (n : Nat) (hn : n ≤ 1099511627776) (w : World) : (Instr.makeSlice 22 (.int .i64 n) (.int .i64 n)).run Tryz.prog w = .ok (.slice (some ⟨w.heap.size, 0, none⟩) n n) (w.alloc (.cells (madeCells #[.int .i64 0, .bool false, .int .i64 0, .slice none 0 0] (n * 4)) 50)) := by
  obtain ⟨i0, hi, hz0, hz1, hz2⟩ := info_parts Tryz.infoCh
  have := run_make (P := Tryz.prog) w 22 50 i0 _ Tryz.underlying22 hi hz0 .i64 .i64 n n (by omega) (by omega) (by rw [hz2]; omega) (by omega)
  rw [hz1] at this
  exact this
theorem made_ownch (w : World) (n : Nat) : (w.alloc (.cells (madeCells #[.int .i64 0, .bool false, .int .i64 0, .slice none 0 0] (n * 4)) 50)).there w.heap.size 0 (n * 4) := by
  intro j hj
  simp only [Nat.zero_add]
  refine ⟨?_, World.frozen?_alloc_new w _ _ j⟩
  rw [World.cell?_alloc_new]
  have hs := size_madeCells #[.int .i64 0, .bool false, .int .i64 0, .slice none 0 0] (n * 4)
  rw [Array.getElem?_eq_getElem (by rw [hs]; exact hj)]
  rfl
theorem put_ch {w : World} {B k n b : Nat} {xs : List Ch} (hk : k < xs.length) (hn : xs.length = n) (h : ∀ j (hj : j < xs.length), j < k → ChAt (fun c => B < c) 1099511627776 w B (j * 4) xs[j]) (ht : w.there B 0 (n * 4)) (hb : B < b) (hm : xs[k].2.2.2.length ≤ 1099511627776) (ho : PtsOwn w b xs[k].2.2.2) :
    (∀ j (hj : j < xs.length), j < k + 1 → ChAt (fun c => B < c) 1099511627776 ((((w.setCell ⟨B, k * 4, none⟩ (.int .i64 xs[k].1)).setCell ⟨B, k * 4 + 1, none⟩ (.bool xs[k].2.1)).setCell ⟨B, k * 4 + 2, none⟩ (.int .i64 xs[k].2.2.1)).setCell ⟨B, k * 4 + 3, none⟩ (.slice (some ⟨b, 0, none⟩) xs[k].2.2.2.length xs[k].2.2.2.length)) B (j * 4) xs[j]) ∧ ((((w.setCell ⟨B, k * 4, none⟩ (.int .i64 xs[k].1)).setCell ⟨B, k * 4 + 1, none⟩ (.bool xs[k].2.1)).setCell ⟨B, k * 4 + 2, none⟩ (.int .i64 xs[k].2.2.1)).setCell ⟨B, k * 4 + 3, none⟩ (.slice (some ⟨b, 0, none⟩) xs[k].2.2.2.length xs[k].2.2.2.length)).there B 0 (n * 4) := by
  subst hn
  have e : ((((w.setCell ⟨B, k * 4, none⟩ (.int .i64 xs[k].1)).setCell ⟨B, k * 4 + 1, none⟩ (.bool xs[k].2.1)).setCell ⟨B, k * 4 + 2, none⟩ (.int .i64 xs[k].2.2.1)).setCell ⟨B, k * 4 + 3, none⟩ (.slice (some ⟨b, 0, none⟩) xs[k].2.2.2.length xs[k].2.2.2.length)) = w.setCells B (k * 4) [.int .i64 xs[k].1, .bool xs[k].2.1, .int .i64 xs[k].2.2.1, .slice (some ⟨b, 0, none⟩) xs[k].2.2.2.length xs[k].2.2.2.length] := rfl
  have hblk : ∀ c, B < c → (w.setCells B (k * 4) [.int .i64 xs[k].1, .bool xs[k].2.1, .int .i64 xs[k].2.2.1, .slice (some ⟨b, 0, none⟩) xs[k].2.2.2.length xs[k].2.2.2.length]).heap[c]? = w.heap[c]? := by
    intro c hc
    rw [← e]
    rw [Below.heap_setCell _ _ _ _ (by dsimp only; omega), Below.heap_setCell _ _ _ _ (by dsimp only; omega), Below.heap_setCell _ _ _ _ (by dsimp only; omega), Below.heap_setCell _ _ _ _ (by dsimp only; omega)]
  have hsz : (w.setCells B (k * 4) [.int .i64 xs[k].1, .bool xs[k].2.1, .int .i64 xs[k].2.2.1, .slice (some ⟨b, 0, none⟩) xs[k].2.2.2.length xs[k].2.2.2.length]).heap.size = w.heap.size := by
    rw [← e]; simp
  rw [e]
  have hth : w.there B (k * 4) 4 := by
    intro j hj
    have := ht (k * 4 + j) (by omega)
    rwa [Nat.zero_add] at this
  have hr := World.rangeAt_setCells_same w B (k * 4) [.int .i64 xs[k].1, .bool xs[k].2.1, .int .i64 xs[k].2.2.1, .slice (some ⟨b, 0, none⟩) xs[k].2.2.2.length xs[k].2.2.2.length] hth
  refine ⟨?_, World.there_setCells ht _ _ _⟩
  intro j hj hjk
  by_cases ej : j = k
  · subst ej
    refine ⟨some ⟨b, 0, none⟩, xs[j].2.2.2.length, by simpa using hr 0 _ rfl, hr 1 _ rfl, hr 2 _ rfl, hr 3 _ rfl, Nat.le_refl _, hm, (ho.of_block (hblk b hb) (by omega)).pts, fun c off e => (by cases e; exact hb)⟩
  · exact (h j hj (by omega)).blk (fun i hi => World.cell?_setCells_out B _ (k * 4) w ⟨B, j * 4 + i, none⟩ (fun _ _ => by left; show j * 4 + i < k * 4; omega)) (fun c hc => hblk c hc) (by omega)
theorem eq_ch {N1 N2 : Nat → Prop} (x : Ch) (a1 a2 : Option Addr) (c1 c2 : Nat) (w : World) (hm : x.2.2.2.length ≤ 1099511627776) (h1 : x.2.2.2.length ≤ c1) (h2 : x.2.2.2.length ≤ c2) (p1 : Pts w a1 x.2.2.2) (p2 : Pts w a2 x.2.2.2) : Calls Tryz.prog 25 #[chv x a1 c1, chv x a2 c2] w fun e w' => e = .returned (.bool true) ∧ Below w.heap.size w w' := by
  obtain ⟨id, go, kd, ps⟩ := x
  unfold chv
  simp only at *
  have EQ := hid (fun (W : World) (hb : Below w.heap.size w W) => eq_shape kd a1 a2 c1 c2 ps W hm h1 h2 (p1.below hb) (p2.below hb))
  unfold shv at EQ
  clear p1 p2
  generalize ps.length = n at *
  go_enter Tryz.func25, Tryz.ntmps25
  go_wp2_with fail
  refine (EQ.out _ (balloc (balloc (Below.refl _ _) _) _)).mono ?_
  rintro e w1 ⟨rfl, hb⟩
  go_wp2_with fail
  go_ret
  exact ⟨rfl, btrans (balloc (balloc (Below.refl _ _) _) _) hb⟩
set_option maxHeartbeats 2000000 in
theorem eq_chs {N1 N2 : Nat → Prop} (a b : Option Addr) (cap cap' : Nat) (xs : List Ch) (w : World) (hm : xs.length ≤ 1099511627776) (p1 : Chs N1 1099511627776 w a xs) (p2 : Chs N2 1099511627776 w b xs) : Calls Tryz.prog 7 #[.slice a xs.length cap, .slice b xs.length cap'] w fun e w' => e = .returned (.bool true) ∧ Below w.heap.size w w' := by
  have H1 := hid p1
  have H2 := hid p2
  clear p1 p2
  obtain ⟨n, hn⟩ : ∃ n, n = xs.length := ⟨_, rfl⟩
  have HN := hid hn.symm
  rw [← hn] at hm ⊢
  clear hn
  go_enter Tryz.func7, Tryz.ntmps7
  go_wp2_with fail
  go_loopw [5] (fun ti wr => ∃ j : Nat, ti = .int .i64 j ∧ j ≤ n ∧ Hid (Below w.heap.size w wr)) (fun ti _ => n - (intOf ti).toNat)
  case atStart => exact ⟨0, rfl, Nat.zero_le _, hid (Below.refl _ _)⟩
  case round =>
    obtain ⟨j, rfl, hj, HBW⟩ := hrel
    by_cases hlt : j < n
    · have c1 : (j : Int) < (n : Int) := by omega
      have hjr : j < xs.length := by rw [HN.out]; exact hlt
      obtain ⟨b1, o1, rfl, hb1, a1, c1', k0, k1, k2, q1, q2, q3, q4, q5⟩ := (H1.out.below HBW.out).at j hjr
      obtain ⟨b2, o2, rfl, hb2, a2, c2', l0, l1, l2, r1, r2, r3, r4, r5⟩ := (H2.out.below HBW.out).at j hjr
      have EQ := hid (fun (W : World) (hb : Below wr.heap.size wr W) => eq_ch (N1 := N1) (N2 := N2) xs[j] a1 a2 c1' c2' W q3 q2 r2 (q4.below hb) (r4.below hb))
      unfold chv at EQ
      clear q2 q3 q4 q5 r2 r3 r4 r5
      generalize xs[j].1 = id at *
      generalize xs[j].2.1 = go at *
      generalize xs[j].2.2.1 = kd at *
      generalize xs[j].2.2.2.length = np at *
      have HB0 : Hid (Below wr.heap.size wr wr.drew) := hid (bdrew (Below.refl _ _))
      go_wp2_with fail
      refine wp_region_held_drew (S := (fun w' => w'.cell? ⟨b1, o1 + j * 4, none⟩ = some (.int .i64 id) ∧ w'.cell? ⟨b1, o1 + j * 4 + 1, none⟩ = some (.bool go) ∧ w'.cell? ⟨b1, o1 + j * 4 + 2, none⟩ = some (.int .i64 kd) ∧ w'.cell? ⟨b1, o1 + j * 4 + 3, none⟩ = some (.slice a1 np c1') ∧ w'.cell? ⟨b2, o2 + j * 4, none⟩ = some (.int .i64 id) ∧ w'.cell? ⟨b2, o2 + j * 4 + 1, none⟩ = some (.bool go) ∧ w'.cell? ⟨b2, o2 + j * 4 + 2, none⟩ = some (.int .i64 kd) ∧ w'.cell? ⟨b2, o2 + j * 4 + 3, none⟩ = some (.slice a2 np c2'))) (by kernel_rfl) ?_ (fun hHeld => ?_)
      · (repeat' apply And.intro) <;> (repeat (first | with_reducible assumption | with_reducible refine keepdrew ?_ | with_reducible refine keepcell (by with_reducible assumption) ?_))
      refine wpAnyH_take (i := 0) (v := ?_) rfl (by kernel_rfl) (by kernel_rfl) (by kernel_rfl) (fun _ _ _ h => h) (Or.inl ⟨by rfl, ?_⟩) hHeld ?_
      rotate_left
      · intro w hSw; (try dsimp only at hSw); go_simp; try (with_reducible rfl)
      try simp only [sq]
      refine wpAnyH_take (i := 1) (v := ?_) rfl (by kernel_rfl) (by kernel_rfl) (by kernel_rfl) (fun _ _ _ h => h) (Or.inl ⟨by rfl, ?_⟩) hHeld ?_
      rotate_left
      · intro w hSw; (try dsimp only at hSw); go_simp; try (with_reducible rfl)
      try simp only [sq]
      refine wpAnyH_take (i := 2) (v := ?_) rfl (by kernel_rfl) (by kernel_rfl) (by kernel_rfl) (fun _ _ _ h => h) (Or.inl ⟨by rfl, ?_⟩) hHeld ?_
      rotate_left
      · intro w hSw; (try dsimp only at hSw); go_simp; try (with_reducible rfl)
      try simp only [sq]
      refine wpAnyH_take (i := 3) (v := ?_) rfl (by kernel_rfl) (by kernel_rfl) (by kernel_rfl) (fun _ _ _ h => h) (Or.inl ⟨by rfl, ?_⟩) hHeld ?_
      rotate_left
      · intro w hSw; (try dsimp only at hSw); go_simp; try (with_reducible rfl)
      try simp only [sq]
      refine wpAnyH_take (i := 4) (v := ?_) rfl (by kernel_rfl) (by kernel_rfl) (by kernel_rfl) (fun _ _ _ h => h) (Or.inl ⟨by rfl, ?_⟩) hHeld ?_
      rotate_left
      · intro w hSw; (try dsimp only at hSw); go_simp; try (with_reducible rfl)
      try simp only [sq]
      refine wpAnyH_take (i := 5) (v := ?_) rfl (by kernel_rfl) (by kernel_rfl) (by kernel_rfl) (fun _ _ _ h => h) (Or.inl ⟨by rfl, ?_⟩) hHeld ?_
      rotate_left
      · intro w hSw; (try dsimp only at hSw); go_simp; try (with_reducible rfl)
      try simp only [sq]
      refine wpAnyH_take (i := 6) (v := ?_) rfl (by kernel_rfl) (by kernel_rfl) (by kernel_rfl) (fun _ _ _ h => h) (Or.inl ⟨by rfl, ?_⟩) hHeld ?_
      rotate_left
      · intro w hSw; (try dsimp only at hSw); go_simp; try (with_reducible rfl)
      try simp only [sq]
      refine wpAnyH_take (i := 7) (v := ?_) rfl (by kernel_rfl) (by kernel_rfl) (by kernel_rfl) (fun _ _ _ h => h) (Or.inl ⟨by rfl, ?_⟩) hHeld ?_
      rotate_left
      · intro w hSw; (try dsimp only at hSw); go_simp; try (with_reducible rfl)
      try simp only [sq]
      refine wpAnyH_ready (rs := [8]) (by kernel_rfl) (by simp) ?_
      refine AllReadyH.cons rfl (fun K hK => ?_) AllReadyH.nil
      try simp only [sq]
      go_simp
      (first
          | (go_at_call 25; refine (EQ.out _ HB0.out).mono ?_; rintro e z1 ⟨rfl, hz⟩))
      go_wp2_with fail
      refine hK.out _ _ ?_ (fun hHeld => ?_)
      · (repeat' apply And.intro) <;> (repeat (first | with_reducible assumption | with_reducible refine keepdrew ?_ | with_reducible refine keepcell (by with_reducible assumption) ?_))
      clear hK K
      try simp only [sq]
      refine wpAnyH_take (i := 9) (v := ?_) rfl (by kernel_rfl) (by kernel_rfl) (by kernel_rfl) (fun _ _ _ h => h) (Or.inl ⟨by rfl, ?_⟩) hHeld ?_
      rotate_left
      · intro w hSw; (try dsimp only at hSw); go_simp; try (with_reducible rfl)
      try simp only [sq]
      refine wpAnyH_done (by kernel_rfl) ?_ _
      go_wp2_with fail
      go_roundw
      case rel => exact ⟨j + 1, by go_num, by omega, hid (btrans (bdrew HBW.out) hz)⟩
      case measure => simp [intOf]; omega
    · have c1 : (n : Int) ≤ (j : Int) := by omega
      go_wp2_with fail
      go_ret
      exact ⟨rfl, HBW.out⟩
end Go.Proofs.YtenlhgnobfadgaaGreatDoor
