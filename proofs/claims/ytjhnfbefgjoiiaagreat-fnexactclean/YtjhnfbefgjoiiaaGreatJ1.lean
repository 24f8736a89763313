/- Texts of stores, joined: Sa, Sb, Sh0, Si, Xl. -/
import Derived.Test.YtjhnfbefgjoiiaaGreatRwK
import Derived.Test.YtjhnfbefgjoiiaaGreatRwO
import Derived.Test.YtjhnfbefgjoiiaaGreatVb
namespace Go.Proofs.YtjhnfbefgjoiiaaGreat
open Go.RowKit
set_option linter.unusedSimpArgs false
set_option linter.unusedVariables false
theorem cellk3 {w : World} {p : Nat} {a b c : Value} {t : TypeId} (h : w.heap[p]? = some (.cells #[a, b, c] t (0, 0))) : (w.cell? ⟨p, 0, none⟩ = some a ∧ w.cell? ⟨p, 1, none⟩ = some b ∧ w.cell? ⟨p, 2, none⟩ = some c) ∧ w.frozen? ⟨p, 0, none⟩ = false ∧ w.frozen? ⟨p, 1, none⟩ = false ∧ w.frozen? ⟨p, 2, none⟩ = false := by
  refine ⟨⟨?_, ?_, ?_⟩, ?_, ?_, ?_⟩ <;> simp [World.cell?, World.frozen?, h]
theorem setk3 {w : World} {p : Nat} {o0 o1 o2 : Value} {t : TypeId} (h : w.heap[p]? = some (.cells #[o0, o1, o2] t (0, 0))) (a b c : Value) : (((w.setCell ⟨p, 0, none⟩ a).setCell ⟨p, 1, none⟩ b).setCell ⟨p, 2, none⟩ c).heap[p]? = some (.cells #[a, b, c] t (0, 0)) := by
  have st : ∀ (W : World) (cs : Array Value) (k : Nat) (u : Value), W.heap[p]? = some (.cells cs t (0, 0)) → (W.setCell ⟨p, k, none⟩ u).heap[p]? = some (.cells (cs.setIfInBounds k u) t (0, 0)) := by
    intro W cs k u h
    have hlt := lt_of_block h
    have h' : W.heap[p] = .cells cs t (0, 0) := by simpa [Array.getElem?_eq_getElem hlt] using h
    show (W.heap.modify p _)[p]? = _
    rw [Array.getElem?_eq_getElem (by simpa using hlt), Array.getElem_modify_self, h']
    rfl
  have e4 := (st _ _ 2 c (st _ _ 1 b (st _ _ 0 a h)))
  simpa using e4
theorem cellk4 {w : World} {p : Nat} {a b c d : Value} {t : TypeId} (h : w.heap[p]? = some (.cells #[a, b, c, d] t (0, 0))) : (w.cell? ⟨p, 0, none⟩ = some a ∧ w.cell? ⟨p, 1, none⟩ = some b ∧ w.cell? ⟨p, 2, none⟩ = some c ∧ w.cell? ⟨p, 3, none⟩ = some d) ∧ w.frozen? ⟨p, 0, none⟩ = false ∧ w.frozen? ⟨p, 1, none⟩ = false ∧ w.frozen? ⟨p, 2, none⟩ = false ∧ w.frozen? ⟨p, 3, none⟩ = false := by
  refine ⟨⟨?_, ?_, ?_, ?_⟩, ?_, ?_, ?_, ?_⟩ <;> simp [World.cell?, World.frozen?, h]
theorem setk4 {w : World} {p : Nat} {o0 o1 o2 o3 : Value} {t : TypeId} (h : w.heap[p]? = some (.cells #[o0, o1, o2, o3] t (0, 0))) (a b c d : Value) : ((((w.setCell ⟨p, 0, none⟩ a).setCell ⟨p, 1, none⟩ b).setCell ⟨p, 2, none⟩ c).setCell ⟨p, 3, none⟩ d).heap[p]? = some (.cells #[a, b, c, d] t (0, 0)) := by
  have st : ∀ (W : World) (cs : Array Value) (k : Nat) (u : Value), W.heap[p]? = some (.cells cs t (0, 0)) → (W.setCell ⟨p, k, none⟩ u).heap[p]? = some (.cells (cs.setIfInBounds k u) t (0, 0)) := by
    intro W cs k u h
    have hlt := lt_of_block h
    have h' : W.heap[p] = .cells cs t (0, 0) := by simpa [Array.getElem?_eq_getElem hlt] using h
    show (W.heap.modify p _)[p]? = _
    rw [Array.getElem?_eq_getElem (by simpa using hlt), Array.getElem_modify_self, h']
    rfl
  have e4 := (st _ _ 3 d (st _ _ 2 c (st _ _ 1 b (st _ _ 0 a h))))
  simpa using e4
abbrev Ch : Type := Int × Bool × Int × List (Int × Int)
def chv (x : Ch) (a : Option Addr) (cap : Nat) : Value := .agg #[.int .i64 x.1, .bool x.2.1, .int .i64 x.2.2.1, .slice a x.2.2.2.length cap]
def ChAt (N : Nat → Prop) (M : Nat) (w : World) (b o : Nat) (x : Ch) : Prop :=
  ∃ a cap, w.cell? ⟨b, o, none⟩ = some (.int .i64 x.1) ∧ w.cell? ⟨b, o + 1, none⟩ = some (.bool x.2.1) ∧ w.cell? ⟨b, o + 2, none⟩ = some (.int .i64 x.2.2.1) ∧ w.cell? ⟨b, o + 3, none⟩ = some (.slice a x.2.2.2.length cap) ∧ x.2.2.2.length ≤ cap ∧ x.2.2.2.length ≤ M ∧ Pts w a x.2.2.2 ∧ (∀ c off, a = some ⟨c, off, none⟩ → N c)
def ChsAt (N : Nat → Prop) (M : Nat) (w : World) (b o : Nat) (xs : List Ch) : Prop := ∀ j (h : j < xs.length), ChAt N M w b (o + j * 4) xs[j]
def Chs (N : Nat → Prop) (M : Nat) (w : World) (a : Option Addr) (xs : List Ch) : Prop := xs = [] ∨ ∃ b o, a = some ⟨b, o, none⟩ ∧ b < w.heap.size ∧ ChsAt N M w b o xs
theorem ChAt.below {N : Nat → Prop} {M : Nat} {w w' : World} {b o : Nat} {x : Ch} (h : ChAt N M w b o x) (H : Below w.heap.size w w') : ChAt N M w' b o x := by
  obtain ⟨a, cap, k0, k1, k2, q1, q2, q3, q4, q5⟩ := h
  exact ⟨a, cap, keepcell H k0, keepcell H k1, keepcell H k2, keepcell H q1, q2, q3, q4.below H, q5⟩
theorem Chs.below {N : Nat → Prop} {M : Nat} {w w' : World} {a : Option Addr} {xs : List Ch} (h : Chs N M w a xs) (H : Below w.heap.size w w') : Chs N M w' a xs := by
  rcases h with h | ⟨b, o, e, hb, h⟩
  · exact .inl h
  · exact .inr ⟨b, o, e, Nat.lt_of_lt_of_le hb H.size, fun j hj => (h j hj).below H⟩
theorem Chs.at {N : Nat → Prop} {M : Nat} {w : World} {a : Option Addr} {xs : List Ch} (h : Chs N M w a xs) (j : Nat) (hj : j < xs.length) : ∃ b o, a = some ⟨b, o, none⟩ ∧ b < w.heap.size ∧ ChAt N M w b (o + j * 4) xs[j] := by
  rcases h with h | ⟨b, o, e, hb, h⟩
  · subst h; simp at hj
  · exact ⟨b, o, e, hb, h j hj⟩
theorem ChAt.blk {N : Nat → Prop} {M : Nat} {w w' : World} {b o : Nat} {x : Ch} (h : ChAt N M w b o x) (hc : ∀ i, i < 4 → w'.cell? ⟨b, o + i, none⟩ = w.cell? ⟨b, o + i, none⟩) (hb : ∀ c, N c → w'.heap[c]? = w.heap[c]?) (hs : w.heap.size ≤ w'.heap.size) : ChAt N M w' b o x := by
  obtain ⟨a, cap, k0, k1, k2, q1, q2, q3, q4, q5⟩ := h
  refine ⟨a, cap, (hc 0 (by omega)).trans k0, (hc 1 (by omega)).trans k1, (hc 2 (by omega)).trans k2, (hc 3 (by omega)).trans q1, q2, q3, ?_, q5⟩
  rcases q4 with q4 | ⟨c, off, e, hb', hp⟩
  · exact .inl q4
  · refine .inr ⟨c, off, e, by omega, fun k hk => ?_⟩
    have := hb c (q5 c off e)
    simp only [World.cell?, this]
    exact hp k hk
def chS (xs : List Ch) : Prop := xs.length ≤ 1048576 ∧ ∀ m (h : m < xs.length), xs[m].2.2.2.length ≤ 1048576
theorem Chs.small {N : Nat → Prop} {M : Nat} {w : World} {a : Option Addr} {xs : List Ch} (h : Chs N M w a xs) (hs : chS xs) : Chs N 1099511627776 w a xs := by
  rcases h with h | ⟨b, o, e, hb, h⟩
  · exact .inl h
  · refine .inr ⟨b, o, e, hb, fun j hj => ?_⟩
    obtain ⟨a, cap, k0, k1, k2, q1, q2, q3, q4, q5⟩ := h j hj
    have hj2 := hs.2 j hj
    exact ⟨a, cap, k0, k1, k2, q1, q2, by omega, q4, q5⟩
set_option maxHeartbeats 1000000 in
theorem sz_ch {N : Nat → Prop} (x : Ch) (a : Option Addr) (cap : Nat) (left : Int) (w : World) (hm : x.2.2.2.length ≤ 9223372036854775807) (h0 : 0 ≤ left) (h1 : left ≤ 1048576) : Calls Tryz.prog 121 #[chv x a cap, .int .i64 left] w fun e w' => (∃ v : Int, e = .returned (.int .i64 v) ∧ (v = -1 ∨ (0 ≤ v ∧ v ≤ 1048576 ∧ Hid (x.2.2.2.length ≤ 1048576)))) ∧ Below w.heap.size w w' := by
  obtain ⟨id, go, kd, ps⟩ := x
  unfold chv
  simp only at *
  by_cases h : left < (ps.length : Int)
  · go_enter Tryz.func121, Tryz.ntmps121
    go_wp2_with fail
    refine (szs_big kd a ps.length cap left _ (by omega) h0 h1 h).mono ?_
    rintro e w1 ⟨rfl, hb⟩
    go_wp2_with fail
    go_ret
    exact ⟨⟨_, rfl, .inl rfl⟩, btrans (balloc (Below.refl _ _) _) hb⟩
  · have h2 : ¬ (left - (ps.length : Int) < 0) := by omega
    go_enter Tryz.func121, Tryz.ntmps121
    go_wp2_with fail
    refine (szs_ok kd a ps.length cap left _ h0 h1 (by omega)).mono ?_
    rintro e w1 ⟨rfl, hb⟩
    go_wp2_with fail
    go_ret
    exact ⟨⟨_, rfl, .inr ⟨by omega, by omega, hid (by omega)⟩⟩, btrans (balloc (Below.refl _ _) _) hb⟩
set_option maxHeartbeats 1000000 in
theorem sz_chs {N : Nat → Prop} (a : Option Addr) (cap : Nat) (xs : List Ch) (left : Int) (w : World) (hm : xs.length ≤ 9223372036854775807) (h0 : 0 ≤ left) (h1 : left ≤ 1048576) (h : Chs N 9223372036854775807 w a xs) : Calls Tryz.prog 101 #[.slice a xs.length cap, .int .i64 left] w fun e w' => (∃ v : Int, e = .returned (.int .i64 v) ∧ (v = -1 ∨ (0 ≤ v ∧ v ≤ 1048576 ∧ Hid (chS xs)))) ∧ Below w.heap.size w w' := by
  have HR := hid h
  clear h
  by_cases hb : left < (xs.length : Int)
  · have h2 : left - (xs.length : Int) < 0 := by omega
    go_enter Tryz.func101, Tryz.ntmps101
    go_wp2_with fail
    go_ret
    exact ⟨⟨_, rfl, .inl rfl⟩, Below.refl _ _⟩
  · have h2 : ¬ (left - (xs.length : Int) < 0) := by omega
    have HF : Hid ((∀ m (h : m < xs.length), xs[m].2.2.2.length ≤ 1048576) → chS xs) := hid (fun h => ⟨by omega, h⟩)
    go_enter Tryz.func101, Tryz.ntmps101
    go_wp2_with fail
    go_loopw [5, 1] (fun ti tl wr => ∃ j : Nat, ∃ l : Int, ti = .int .i64 j ∧ tl = .int .i64 l ∧ j ≤ xs.length ∧ 0 ≤ l ∧ l ≤ 1048576 ∧ Hid (∀ m (h : m < xs.length), m < j → xs[m].2.2.2.length ≤ 1048576) ∧ Hid (Below w.heap.size w wr)) (fun ti _ _ => xs.length - (intOf ti).toNat)
    case atStart => exact ⟨0, _, rfl, rfl, Nat.zero_le _, by omega, by omega, hid (fun m h hh => absurd hh (by omega)), hid (Below.refl _ _)⟩
    case round =>
      obtain ⟨j, l, rfl, rfl, hj, hl0, hl1, HM, HB⟩ := hrel
      by_cases hlt : j < xs.length
      · have c1 : (j : Int) < (xs.length : Int) := by omega
        obtain ⟨b, o, rfl, hbs, hr⟩ := (HR.out.below HB.out).at j hlt
        obtain ⟨a', cap', k0, k1, k2, q1, q2, q3, q4, q5⟩ := hr
        have HX : Hid ((xs[j].2.2.2.length ≤ 1048576) → ∀ m (h : m < xs.length), m < j + 1 → xs[m].2.2.2.length ≤ 1048576) := hid (fun hx m h hm => by
          by_cases e : m = j
          · subst e; exact hx
          · exact HM.out m h (by omega))
        have S := hid (fun w' => sz_ch (N := N) xs[j] a' cap' l w' q3 hl0 hl1)
        unfold chv at S
        obtain ⟨Q, hQ⟩ : ∃ Q : Prop, Q = (xs[j].2.2.2.length ≤ 1048576) := ⟨_, rfl⟩
        rw [← hQ] at HX S
        clear hQ q2 q3 q4 q5
        generalize xs[j].1 = id at *
        generalize xs[j].2.1 = go at *
        generalize xs[j].2.2.1 = kd at *
        generalize xs[j].2.2.2.length = np at *
        go_wp2_with fail
        refine (S.out _).mono ?_
        rintro e w1 ⟨⟨v, rfl, hv⟩, hb1⟩
        have hB := btrans HB.out hb1
        rcases hv with rfl | ⟨hv0, hv1, hv3⟩
        · go_wp2_with fail
          go_ret
          exact ⟨⟨_, rfl, .inl rfl⟩, hB⟩
        · have hv2 : ¬ v < 0 := by omega
          have HX2 := hid (HX.out hv3.out)
          clear hv3
          go_wp2_with fail
          go_roundw
          case rel => exact ⟨j + 1, v, by go_num, rfl, by omega, hv0, hv1, HX2, hid hB⟩
          case measure => simp [intOf]; omega
      · have c1 : (xs.length : Int) ≤ (j : Int) := by omega
        have HF2 := hid (HF.out (fun m h => HM.out m h (by omega)))
        go_wp2_with fail
        go_ret
        exact ⟨⟨_, rfl, .inr ⟨hl0, hl1, HF2⟩⟩, HB.out⟩
set_option maxHeartbeats 2000000 in
theorem to_ch {N : Nat → Prop} (x : Ch) (a : Option Addr) (cap : Nat) (w : World) (hm : x.2.2.2.length ≤ 1099511627776) (hc : x.2.2.2.length ≤ cap) (h : Pts w a x.2.2.2) : Calls Tryz.prog 122 #[chv x a cap] w fun e w' => ∃ b, e = .returned (chv x (some ⟨b, 0, none⟩) x.2.2.2.length) ∧ w.heap.size ≤ b ∧ (PtsOwn w' b x.2.2.2) ∧ Below w.heap.size w w' := by
  obtain ⟨id, go, kd, ps⟩ := x
  unfold chv
  simp only at *
  have TS := hid (fun (W : World) (hb : Below w.heap.size w W) => to_shape kd a cap ps W hm hc (h.below hb))
  unfold shv at TS
  clear h
  generalize hn : ps.length = n at *
  have HN := hid hn
  clear hn
  go_enter Tryz.func122, Tryz.ntmps122
  go_wp2_with fail
  have hB0 : Below w.heap.size w (((w.alloc (.cells #[.int .i64 id, .bool go, .int .i64 kd, .slice a n cap] 159)).alloc (.cells #[.int .i64 0, .bool false, .int .i64 0, .slice none 0 0] 73)).alloc (.cells #[.int .i64 id, .bool go, .int .i64 0, .slice none 0 0] 73)) := balloc (balloc (balloc (Below.refl _ _) _) _) _
  have g2 := old_alloc (o' := .cells #[.int .i64 id, .bool go, .int .i64 0, .slice none 0 0] 73) (new_alloc (w.alloc (.cells #[.int .i64 id, .bool go, .int .i64 kd, .slice a n cap] 159)) (w.heap.size + 1) (.cells #[.int .i64 0, .bool false, .int .i64 0, .slice none 0 0] 73) (by simp))
  have g3 := new_alloc ((w.alloc (.cells #[.int .i64 id, .bool go, .int .i64 kd, .slice a n cap] 159)).alloc (.cells #[.int .i64 0, .bool false, .int .i64 0, .slice none 0 0] 73)) (w.heap.size + 1 + 1) (.cells #[.int .i64 id, .bool go, .int .i64 0, .slice none 0 0] 73) (by simp)
  generalize ((w.alloc (.cells #[.int .i64 id, .bool go, .int .i64 kd, .slice a n cap] 159)).alloc (.cells #[.int .i64 0, .bool false, .int .i64 0, .slice none 0 0] 73)).alloc (.cells #[.int .i64 id, .bool go, .int .i64 0, .slice none 0 0] 73) = W at *
  have hlW := lt_of_block g3
  refine (TS.out _ hB0).mono ?_
  rintro e w1 ⟨b, rfl, hbb, ho, hb1⟩
  replace g2 := keepheap2 hb1 g2
  replace g3 := keepheap2 hb1 g3
  have hB := btrans hB0 hb1
  have HO := hid ho
  clear hb1 hB0 ho
  obtain ⟨⟨x0, x1, x2, x3⟩, xf0, xf1, xf2, xf3⟩ := cellk4 g2
  obtain ⟨⟨y0, y1, y2, y3⟩, yf0, yf1, yf2, yf3⟩ := cellk4 g3
  go_wp2_with fail
  have gF := setk4 (set_far (q := w.heap.size + 1 + 1) (k := 3) (u := .slice (some ⟨b, 0, none⟩) n n) (set_far (q := w.heap.size + 1 + 1) (k := 2) (u := .int .i64 kd) g2 (by omega)) (by omega)) (.int .i64 id) (.bool go) (.int .i64 kd) (.slice (some ⟨b, 0, none⟩) n n)
  have bF := (bset (bset (bset (bset (bset (bset hB (q := w.heap.size + 1 + 1) (k := 2) (by omega) (.int .i64 kd)) (q := w.heap.size + 1 + 1) (k := 3) (by omega) (.slice (some ⟨b, 0, none⟩) n n)) (q := w.heap.size + 1) (k := 0) (by omega) (.int .i64 id)) (q := w.heap.size + 1) (k := 1) (by omega) (.bool go)) (q := w.heap.size + 1) (k := 2) (by omega) (.int .i64 kd)) (q := w.heap.size + 1) (k := 3) (by omega) (.slice (some ⟨b, 0, none⟩) n n))
  have hfar : ∀ c, w.heap.size + 1 + 1 < c → ((((((w1.setCell ⟨w.heap.size + 1 + 1, 2, none⟩ (.int .i64 kd)).setCell ⟨w.heap.size + 1 + 1, 3, none⟩ (.slice (some ⟨b, 0, none⟩) n n)).setCell ⟨w.heap.size + 1, 0, none⟩ (.int .i64 id)).setCell ⟨w.heap.size + 1, 1, none⟩ (.bool go)).setCell ⟨w.heap.size + 1, 2, none⟩ (.int .i64 kd)).setCell ⟨w.heap.size + 1, 3, none⟩ (.slice (some ⟨b, 0, none⟩) n n)).heap[c]? = w1.heap[c]? := fun c hc => by rw [Below.heap_setCell _ _ _ _ (by dsimp only; omega), Below.heap_setCell _ _ _ _ (by dsimp only; omega), Below.heap_setCell _ _ _ _ (by dsimp only; omega), Below.heap_setCell _ _ _ _ (by dsimp only; omega), Below.heap_setCell _ _ _ _ (by dsimp only; omega), Below.heap_setCell _ _ _ _ (by dsimp only; omega)]
  have hsz : w1.heap.size ≤ ((((((w1.setCell ⟨w.heap.size + 1 + 1, 2, none⟩ (.int .i64 kd)).setCell ⟨w.heap.size + 1 + 1, 3, none⟩ (.slice (some ⟨b, 0, none⟩) n n)).setCell ⟨w.heap.size + 1, 0, none⟩ (.int .i64 id)).setCell ⟨w.heap.size + 1, 1, none⟩ (.bool go)).setCell ⟨w.heap.size + 1, 2, none⟩ (.int .i64 kd)).setCell ⟨w.heap.size + 1, 3, none⟩ (.slice (some ⟨b, 0, none⟩) n n)).heap.size := by simp
  generalize ((((((w1.setCell ⟨w.heap.size + 1 + 1, 2, none⟩ (.int .i64 kd)).setCell ⟨w.heap.size + 1 + 1, 3, none⟩ (.slice (some ⟨b, 0, none⟩) n n)).setCell ⟨w.heap.size + 1, 0, none⟩ (.int .i64 id)).setCell ⟨w.heap.size + 1, 1, none⟩ (.bool go)).setCell ⟨w.heap.size + 1, 2, none⟩ (.int .i64 kd)).setCell ⟨w.heap.size + 1, 3, none⟩ (.slice (some ⟨b, 0, none⟩) n n)) = wf at *
  have oF : PtsOwn wf b ps := HO.out.of_block (hfar b (by omega)) hsz
  obtain ⟨⟨z0, z1, z2, z3⟩, _⟩ := cellk4 gF
  exact bodyPost_ret (v := .agg #[.int .i64 id, .bool go, .int .i64 kd, .slice (some ⟨b, 0, none⟩) n n]) (by simp [results, Tryz.results122, go_sem, z0, z1, z2, z3]) rfl ⟨b, rfl, by omega, oF, bF⟩
theorem Tryz.infoCh : (Tryz.prog.info? 73).map (fun i => (i.zero, i.size, i.bytes)) = some (some (.agg #[.int .i64 0, .bool false, .int .i64 0, .slice none 0 0]), 4, 48) := by kernel_rfl
theorem make_chs (n : Nat) (hn : n ≤ 1099511627776) (w : World) : (Instr.makeSlice 46 (.int .i64 n) (.int .i64 n)).run Tryz.prog w = .ok (.slice (some ⟨w.heap.size, 0, none⟩) n n) (w.alloc (.cells (madeCells #[.int .i64 0, .bool false, .int .i64 0, .slice none 0 0] (n * 4)) 73)) := by
  obtain ⟨i0, hi, hz0, hz1, hz2⟩ := info_parts Tryz.infoCh
  have := run_make (P := Tryz.prog) w 46 73 i0 _ Tryz.underlying46 hi hz0 .i64 .i64 n n (by omega) (by omega) (by rw [hz2]; omega) (by omega)
  rw [hz1] at this
  exact this
theorem made_ownch (w : World) (n : Nat) : (w.alloc (.cells (madeCells #[.int .i64 0, .bool false, .int .i64 0, .slice none 0 0] (n * 4)) 73)).there w.heap.size 0 (n * 4) := by
  intro j hj
  simp only [Nat.zero_add]
  refine ⟨?_, World.frozen?_alloc_new w _ _ j⟩
  rw [World.cell?_alloc_new]
  have hs := size_madeCells #[.int .i64 0, .bool false, .int .i64 0, .slice none 0 0] (n * 4)
  rw [Array.getElem?_eq_getElem (by rw [hs]; exact hj)]
  rfl
theorem put_ch {w : World} {B k n b : Nat} {xs : List Ch} (hk : k < xs.length) (hn : xs.length = n) (h : ∀ j (hj : j < xs.length), j < k → ChAt (fun c => B < c) 1099511627776 w B (j * 4) xs[j]) (ht : w.there B 0 (n * 4)) (hb : B < b) (hm : xs[k].2.2.2.length ≤ 1099511627776) (ho : PtsOwn w b xs[k].2.2.2) :
    (∀ j (hj : j < xs.length), j < k + 1 → ChAt (fun c => B < c) 1099511627776 ((((w.setCell ⟨B, k * 4, none⟩ (.int .i64 xs[k].1)).setCell ⟨B, k * 4 + 1, none⟩ (.bool xs[k].2.1)).setCell ⟨B, k * 4 + 2, none⟩ (.int .i64 xs[k].2.2.1)).setCell ⟨B, k * 4 + 3, none⟩ (.slice (some ⟨b, 0, none⟩) xs[k].2.2.2.length xs[k].2.2.2.length)) B (j * 4) xs[j]) ∧ ((((w.setCell ⟨B, k * 4, none⟩ (.int .i64 xs[k].1)).setCell ⟨B, k * 4 + 1, none⟩ (.bool xs[k].2.1)).setCell ⟨B, k * 4 + 2, none⟩ (.int .i64 xs[k].2.2.1)).setCell ⟨B, k * 4 + 3, none⟩ (.slice (some ⟨b, 0, none⟩) xs[k].2.2.2.length xs[k].2.2.2.length)).there B 0 (n * 4) := by
  subst hn
  have e : ((((w.setCell ⟨B, k * 4, none⟩ (.int .i64 xs[k].1)).setCell ⟨B, k * 4 + 1, none⟩ (.bool xs[k].2.1)).setCell ⟨B, k * 4 + 2, none⟩ (.int .i64 xs[k].2.2.1)).setCell ⟨B, k * 4 + 3, none⟩ (.slice (some ⟨b, 0, none⟩) xs[k].2.2.2.length xs[k].2.2.2.length)) = w.setCells B (k * 4) [.int .i64 xs[k].1, .bool xs[k].2.1, .int .i64 xs[k].2.2.1, .slice (some ⟨b, 0, none⟩) xs[k].2.2.2.length xs[k].2.2.2.length] := rfl
  have hblk : ∀ c, B < c → (w.setCells B (k * 4) [.int .i64 xs[k].1, .bool xs[k].2.1, .int .i64 xs[k].2.2.1, .slice (some ⟨b, 0, none⟩) xs[k].2.2.2.length xs[k].2.2.2.length]).heap[c]? = w.heap[c]? := by
    intro c hc
    rw [← e]
    rw [Below.heap_setCell _ _ _ _ (by dsimp only; omega), Below.heap_setCell _ _ _ _ (by dsimp only; omega), Below.heap_setCell _ _ _ _ (by dsimp only; omega), Below.heap_setCell _ _ _ _ (by dsimp only; omega)]
  have hsz : (w.setCells B (k * 4) [.int .i64 xs[k].1, .bool xs[k].2.1, .int .i64 xs[k].2.2.1, .slice (some ⟨b, 0, none⟩) xs[k].2.2.2.length xs[k].2.2.2.length]).heap.size = w.heap.size := by
    rw [← e]; simp
  rw [e]
  have hth : w.there B (k * 4) 4 := by
    intro j hj
    have := ht (k * 4 + j) (by omega)
    rwa [Nat.zero_add] at this
  have hr := World.rangeAt_setCells_same w B (k * 4) [.int .i64 xs[k].1, .bool xs[k].2.1, .int .i64 xs[k].2.2.1, .slice (some ⟨b, 0, none⟩) xs[k].2.2.2.length xs[k].2.2.2.length] hth
  refine ⟨?_, World.there_setCells ht _ _ _⟩
  intro j hj hjk
  by_cases ej : j = k
  · subst ej
    refine ⟨some ⟨b, 0, none⟩, xs[j].2.2.2.length, by simpa using hr 0 _ rfl, hr 1 _ rfl, hr 2 _ rfl, hr 3 _ rfl, Nat.le_refl _, hm, (ho.of_block (hblk b hb) (by omega)).pts, fun c off e => (by cases e; exact hb)⟩
  · exact (h j hj (by omega)).blk (fun i hi => World.cell?_setCells_out B _ (k * 4) w ⟨B, j * 4 + i, none⟩ (fun _ _ => by left; show j * 4 + i < k * 4; omega)) (fun c hc => hblk c hc) (by omega)
set_option maxHeartbeats 2000000 in
theorem to_chs {N : Nat → Prop} (a : Option Addr) (cap : Nat) (xs : List Ch) (w : World) (hm : xs.length ≤ 1099511627776) (h : Chs N 1099511627776 w a xs) : Calls Tryz.prog 102 #[.slice a xs.length cap] w fun e w' => ∃ B, e = .returned (.slice (some ⟨B, 0, none⟩) xs.length xs.length) ∧ w.heap.size ≤ B ∧ (B < w'.heap.size ∧ ChsAt (fun c => B < c) 1099511627776 w' B 0 xs) ∧ Below w.heap.size w w' := by
  have HR := hid h
  clear h
  have hmk := make_chs xs.length hm
  obtain ⟨n, hn⟩ : ∃ n, n = xs.length := ⟨_, rfl⟩
  have HN := hid hn.symm
  rw [← hn] at hmk hm ⊢
  clear hn
  go_enter Tryz.func102, Tryz.ntmps102
  go_wp2_with fail
  have hB : Below w.heap.size w (w.alloc (.cells (madeCells #[.int .i64 0, .bool false, .int .i64 0, .slice none 0 0] (n * 4)) 73)) := balloc (Below.refl _ _) _
  have hT := made_ownch w n
  have hl : w.heap.size < (w.alloc (.cells (madeCells #[.int .i64 0, .bool false, .int .i64 0, .slice none 0 0] (n * 4)) 73)).heap.size := by simp
  generalize w.alloc (.cells (madeCells #[.int .i64 0, .bool false, .int .i64 0, .slice none 0 0] (n * 4)) 73) = W at *
  clear hmk
  go_loopw [4] (fun ti wr => ∃ j : Nat, ti = .int .i64 j ∧ j ≤ n ∧ Hid (w.heap.size < wr.heap.size) ∧ Hid (∀ i (hi : i < xs.length), i < j → ChAt (fun c => w.heap.size < c) 1099511627776 wr w.heap.size (i * 4) xs[i]) ∧ Hid (wr.there w.heap.size 0 (n * 4)) ∧ Hid (Below w.heap.size w wr)) (fun ti _ => n - (intOf ti).toNat)
  case atStart => exact ⟨0, rfl, Nat.zero_le _, hid hl, hid (fun i hi h => absurd h (by omega)), hid hT, hid hB⟩
  case round =>
    clear hB hT hl
    obtain ⟨j, rfl, hj, HL, HP, HT, HBW⟩ := hrel
    by_cases hlt : j < n
    · have c1 : (j : Int) < (n : Int) := by omega
      have hjr : j < xs.length := by rw [HN.out]; exact hlt
      obtain ⟨b, o, rfl, hbs, hr⟩ := (HR.out.below HBW.out).at j hjr
      obtain ⟨a', cap', k0, k1, k2, q1, q2, q3, q4, q5⟩ := hr
      have TR := hid (to_ch (N := N) xs[j] a' cap' wr q3 q2 q4)
      have HPR := hid (fun (W : World) (bb : Nat) => put_ch (w := W) (B := w.heap.size) (k := j) (n := n) (b := bb) (xs := xs) hjr HN.out)
      have HK6 := hid q3
      unfold chv at TR
      clear q2 q3 q4 q5
      generalize xs[j].1 = id at *
      generalize xs[j].2.1 = go at *
      generalize xs[j].2.2.1 = kd at *
      generalize xs[j].2.2.2 = inn at *
      go_wp2_with fail
      refine TR.out.mono ?_
      rintro e w1 ⟨bb, rfl, hbb, ho, hb1⟩
      have hP := fun i (hi : i < xs.length) (h : i < j) => (HP.out i hi h).below hb1
      have hT := there_below HT.out HL.out hb1
      have hB := btrans HBW.out hb1
      have hL : w.heap.size < w1.heap.size := Nat.lt_of_lt_of_le HL.out hb1.size
      have hbl : w.heap.size < bb := Nat.lt_of_lt_of_le HL.out hbb
      have HPUT := hid (HPR.out w1 bb hP hT hbl HK6.out ho)
      have q := fun i (hi : i < n * 4) => hT i hi
      obtain ⟨v0, s0, r0⟩ := there_at hT (show j * 4 < n * 4 by omega)
      obtain ⟨v1, s1, r1⟩ := there_at hT (show j * 4 + 1 < n * 4 by omega)
      obtain ⟨v2, s2, r2⟩ := there_at hT (show j * 4 + 2 < n * 4 by omega)
      obtain ⟨v3, s3, r3⟩ := there_at hT (show j * 4 + 3 < n * 4 by omega)
      clear q hP HPR hb1 ho TR
      have HL1 := hid hL
      have HB1 := hid hB
      clear hT
      go_wp2_with fail
      go_roundw
      case rel => exact ⟨j + 1, by go_num, by omega, hid (by simpa using hL), hid HPUT.out.1, hid HPUT.out.2, hid ((bset (bset (bset (bset hB (by omega) _) (by omega) _) (by omega) _) (by omega) _))⟩
      case measure => simp [intOf]; omega
    · obtain rfl : n = j := by omega
      have c1 : (n : Int) ≤ (n : Int) := by omega
      go_wp2_with fail
      go_ret
      exact ⟨w.heap.size, rfl, Nat.le_refl _, ⟨HL.out, fun i hi => by have := HP.out i hi (by rw [HN.out] at hi; exact hi); simpa using this⟩, HBW.out⟩
theorem eq_ch {N1 N2 : Nat → Prop} (x : Ch) (a1 a2 : Option Addr) (c1 c2 : Nat) (w : World) (hm : x.2.2.2.length ≤ 1099511627776) (h1 : x.2.2.2.length ≤ c1) (h2 : x.2.2.2.length ≤ c2) (p1 : Pts w a1 x.2.2.2) (p2 : Pts w a2 x.2.2.2) : Calls Tryz.prog 49 #[chv x a1 c1, chv x a2 c2] w fun e w' => e = .returned (.bool true) ∧ Below w.heap.size w w' := by
  obtain ⟨id, go, kd, ps⟩ := x
  unfold chv
  simp only at *
  have EQ := hid (fun (W : World) (hb : Below w.heap.size w W) => eq_shape kd a1 a2 c1 c2 ps W hm h1 h2 (p1.below hb) (p2.below hb))
  unfold shv at EQ
  clear p1 p2
  generalize ps.length = n at *
  go_enter Tryz.func49, Tryz.ntmps49
  go_wp2_with fail
  refine (EQ.out _ (balloc (balloc (Below.refl _ _) _) _)).mono ?_
  rintro e w1 ⟨rfl, hb⟩
  go_wp2_with fail
  go_ret
  exact ⟨rfl, btrans (balloc (balloc (Below.refl _ _) _) _) hb⟩
set_option maxHeartbeats 2000000 in
theorem eq_chs {N1 N2 : Nat → Prop} (a b : Option Addr) (cap cap' : Nat) (xs : List Ch) (w : World) (hm : xs.length ≤ 1099511627776) (p1 : Chs N1 1099511627776 w a xs) (p2 : Chs N2 1099511627776 w b xs) : Calls Tryz.prog 22 #[.slice a xs.length cap, .slice b xs.length cap'] w fun e w' => e = .returned (.bool true) ∧ Below w.heap.size w w' := by
  have H1 := hid p1
  have H2 := hid p2
  clear p1 p2
  obtain ⟨n, hn⟩ : ∃ n, n = xs.length := ⟨_, rfl⟩
  have HN := hid hn.symm
  rw [← hn] at hm ⊢
  clear hn
  go_enter Tryz.func22, Tryz.ntmps22
  go_wp2_with fail
  go_loopw [5] (fun ti wr => ∃ j : Nat, ti = .int .i64 j ∧ j ≤ n ∧ Hid (Below w.heap.size w wr)) (fun ti _ => n - (intOf ti).toNat)
  case atStart => exact ⟨0, rfl, Nat.zero_le _, hid (Below.refl _ _)⟩
  case round =>
    obtain ⟨j, rfl, hj, HBW⟩ := hrel
    by_cases hlt : j < n
    · have c1 : (j : Int) < (n : Int) := by omega
      have hjr : j < xs.length := by rw [HN.out]; exact hlt
      obtain ⟨b1, o1, rfl, hb1, a1, c1', k0, k1, k2, q1, q2, q3, q4, q5⟩ := (H1.out.below HBW.out).at j hjr
      obtain ⟨b2, o2, rfl, hb2, a2, c2', l0, l1, l2, r1, r2, r3, r4, r5⟩ := (H2.out.below HBW.out).at j hjr
      have EQ := hid (fun (W : World) (hb : Below wr.heap.size wr W) => eq_ch (N1 := N1) (N2 := N2) xs[j] a1 a2 c1' c2' W q3 q2 r2 (q4.below hb) (r4.below hb))
      unfold chv at EQ
      clear q2 q3 q4 q5 r2 r3 r4 r5
      generalize xs[j].1 = id at *
      generalize xs[j].2.1 = go at *
      generalize xs[j].2.2.1 = kd at *
      generalize xs[j].2.2.2.length = np at *
      have HB0 : Hid (Below wr.heap.size wr wr.drew) := hid (bdrew (Below.refl _ _))
      go_wp2_with fail
      refine wp_region_held_drew (S := (fun w' => w'.cell? ⟨b1, o1 + j * 4, none⟩ = some (.int .i64 id) ∧ w'.cell? ⟨b1, o1 + j * 4 + 1, none⟩ = some (.bool go) ∧ w'.cell? ⟨b1, o1 + j * 4 + 2, none⟩ = some (.int .i64 kd) ∧ w'.cell? ⟨b1, o1 + j * 4 + 3, none⟩ = some (.slice a1 np c1') ∧ w'.cell? ⟨b2, o2 + j * 4, none⟩ = some (.int .i64 id) ∧ w'.cell? ⟨b2, o2 + j * 4 + 1, none⟩ = some (.bool go) ∧ w'.cell? ⟨b2, o2 + j * 4 + 2, none⟩ = some (.int .i64 kd) ∧ w'.cell? ⟨b2, o2 + j * 4 + 3, none⟩ = some (.slice a2 np c2'))) (by kernel_rfl) ?_ (fun hHeld => ?_)
      · (repeat' apply And.intro) <;> (repeat (first | with_reducible assumption | with_reducible refine keepdrew ?_ | with_reducible refine keepcell (by with_reducible assumption) ?_))
      refine wpAnyH_take (i := 0) (v := ?_) rfl (by kernel_rfl) (by kernel_rfl) (by kernel_rfl) (fun _ _ _ h => h) (Or.inl ⟨by rfl, ?_⟩) hHeld ?_
      rotate_left
      · intro w hSw; (try dsimp only at hSw); go_simp; try (with_reducible rfl)
      try simp only [sq]
      refine wpAnyH_take (i := 1) (v := ?_) rfl (by kernel_rfl) (by kernel_rfl) (by kernel_rfl) (fun _ _ _ h => h) (Or.inl ⟨by rfl, ?_⟩) hHeld ?_
      rotate_left
      · intro w hSw; (try dsimp only at hSw); go_simp; try (with_reducible rfl)
      try simp only [sq]
      refine wpAnyH_take (i := 2) (v := ?_) rfl (by kernel_rfl) (by kernel_rfl) (by kernel_rfl) (fun _ _ _ h => h) (Or.inl ⟨by rfl, ?_⟩) hHeld ?_
      rotate_left
      · intro w hSw; (try dsimp only at hSw); go_simp; try (with_reducible rfl)
      try simp only [sq]
      refine wpAnyH_take (i := 3) (v := ?_) rfl (by kernel_rfl) (by kernel_rfl) (by kernel_rfl) (fun _ _ _ h => h) (Or.inl ⟨by rfl, ?_⟩) hHeld ?_
      rotate_left
      · intro w hSw; (try dsimp only at hSw); go_simp; try (with_reducible rfl)
      try simp only [sq]
      refine wpAnyH_take (i := 4) (v := ?_) rfl (by kernel_rfl) (by kernel_rfl) (by kernel_rfl) (fun _ _ _ h => h) (Or.inl ⟨by rfl, ?_⟩) hHeld ?_
      rotate_left
      · intro w hSw; (try dsimp only at hSw); go_simp; try (with_reducible rfl)
      try simp only [sq]
      refine wpAnyH_take (i := 5) (v := ?_) rfl (by kernel_rfl) (by kernel_rfl) (by kernel_rfl) (fun _ _ _ h => h) (Or.inl ⟨by rfl, ?_⟩) hHeld ?_
      rotate_left
      · intro w hSw; (try dsimp only at hSw); go_simp; try (with_reducible rfl)
      try simp only [sq]
      refine wpAnyH_take (i := 6) (v := ?_) rfl (by kernel_rfl) (by kernel_rfl) (by kernel_rfl) (fun _ _ _ h => h) (Or.inl ⟨by rfl, ?_⟩) hHeld ?_
      rotate_left
      · intro w hSw; (try dsimp only at hSw); go_simp; try (with_reducible rfl)
      try simp only [sq]
      refine wpAnyH_take (i := 7) (v := ?_) rfl (by kernel_rfl) (by kernel_rfl) (by kernel_rfl) (fun _ _ _ h => h) (Or.inl ⟨by rfl, ?_⟩) hHeld ?_
      rotate_left
      · intro w hSw; (try dsimp only at hSw); go_simp; try (with_reducible rfl)
      try simp only [sq]
      refine wpAnyH_ready (rs := [8]) (by kernel_rfl) (by simp) ?_
      refine AllReadyH.cons rfl (fun K hK => ?_) AllReadyH.nil
      try simp only [sq]
      go_simp
      (first
          | (go_at_call 49; refine (EQ.out _ HB0.out).mono ?_; rintro e z1 ⟨rfl, hz⟩))
      go_wp2_with fail
      refine hK.out _ _ ?_ (fun hHeld => ?_)
      · (repeat' apply And.intro) <;> (repeat (first | with_reducible assumption | with_reducible refine keepdrew ?_ | with_reducible refine keepcell (by with_reducible assumption) ?_))
      clear hK K
      try simp only [sq]
      refine wpAnyH_take (i := 9) (v := ?_) rfl (by kernel_rfl) (by kernel_rfl) (by kernel_rfl) (fun _ _ _ h => h) (Or.inl ⟨by rfl, ?_⟩) hHeld ?_
      rotate_left
      · intro w hSw; (try dsimp only at hSw); go_simp; try (with_reducible rfl)
      try simp only [sq]
      refine wpAnyH_done (by kernel_rfl) ?_ _
      go_wp2_with fail
      go_roundw
      case rel => exact ⟨j + 1, by go_num, by omega, hid (btrans (bdrew HBW.out) hz)⟩
      case measure => simp [intOf]; omega
    · have c1 : (n : Int) ≤ (j : Int) := by omega
      go_wp2_with fail
      go_ret
      exact ⟨rfl, HBW.out⟩
end Go.Proofs.YtjhnfbefgjoiiaaGreat
namespace Go.Proofs.YtjhnfbefgjoiiaaGreat
open Go.RowKit
set_option linter.unusedSimpArgs false
set_option linter.unusedVariables false
abbrev Tx : Type := Int × Bool × List Ch
def txv (x : Tx) (a : Option Addr) (cap : Nat) : Value := .agg #[.int .i64 x.1, .bool x.2.1, .slice a x.2.2.length cap]
def TxAt (N : Nat → Prop) (M : Nat) (w : World) (b o : Nat) (x : Tx) : Prop :=
  ∃ a cap, w.cell? ⟨b, o, none⟩ = some (.int .i64 x.1) ∧ w.cell? ⟨b, o + 1, none⟩ = some (.bool x.2.1) ∧ w.cell? ⟨b, o + 2, none⟩ = some (.slice a x.2.2.length cap) ∧ x.2.2.length ≤ cap ∧ x.2.2.length ≤ M ∧ Chs N M w a x.2.2 ∧ (∀ c off, a = some ⟨c, off, none⟩ → N c)
def TxsAt (N : Nat → Prop) (M : Nat) (w : World) (b o : Nat) (xs : List Tx) : Prop := ∀ j (h : j < xs.length), TxAt N M w b (o + j * 3) xs[j]
def Txs (N : Nat → Prop) (M : Nat) (w : World) (a : Option Addr) (xs : List Tx) : Prop := xs = [] ∨ ∃ b o, a = some ⟨b, o, none⟩ ∧ b < w.heap.size ∧ TxsAt N M w b o xs
theorem TxAt.below {N : Nat → Prop} {M : Nat} {w w' : World} {b o : Nat} {x : Tx} (h : TxAt N M w b o x) (H : Below w.heap.size w w') : TxAt N M w' b o x := by
  obtain ⟨a, cap, k0, k1, q1, q2, q3, q4, q5⟩ := h
  exact ⟨a, cap, keepcell H k0, keepcell H k1, keepcell H q1, q2, q3, q4.below H, q5⟩
theorem Txs.below {N : Nat → Prop} {M : Nat} {w w' : World} {a : Option Addr} {xs : List Tx} (h : Txs N M w a xs) (H : Below w.heap.size w w') : Txs N M w' a xs := by
  rcases h with h | ⟨b, o, e, hb, h⟩
  · exact .inl h
  · exact .inr ⟨b, o, e, Nat.lt_of_lt_of_le hb H.size, fun j hj => (h j hj).below H⟩
theorem Txs.at {N : Nat → Prop} {M : Nat} {w : World} {a : Option Addr} {xs : List Tx} (h : Txs N M w a xs) (j : Nat) (hj : j < xs.length) : ∃ b o, a = some ⟨b, o, none⟩ ∧ b < w.heap.size ∧ TxAt N M w b (o + j * 3) xs[j] := by
  rcases h with h | ⟨b, o, e, hb, h⟩
  · subst h; simp at hj
  · exact ⟨b, o, e, hb, h j hj⟩
theorem TxAt.blk {N : Nat → Prop} {M : Nat} {w w' : World} {b o : Nat} {x : Tx} (h : TxAt N M w b o x) (hc : ∀ i, i < 3 → w'.cell? ⟨b, o + i, none⟩ = w.cell? ⟨b, o + i, none⟩) (hb : ∀ c, N c → w'.heap[c]? = w.heap[c]?) (hs : w.heap.size ≤ w'.heap.size) : TxAt N M w' b o x := by
  obtain ⟨a, cap, k0, k1, q1, q2, q3, q4, q5⟩ := h
  refine ⟨a, cap, (hc 0 (by omega)).trans k0, (hc 1 (by omega)).trans k1, (hc 2 (by omega)).trans q1, q2, q3, ?_, q5⟩
  rcases q4 with q4 | ⟨c, off, e, hb', hp⟩
  · exact .inl q4
  · have hcc := hb c (q5 c off e)
    refine .inr ⟨c, off, e, by omega, fun k hk => (hp k hk).blk (fun i _ => by simp only [World.cell?, hcc]) hb hs⟩
def txS (xs : List Tx) : Prop := xs.length ≤ 1048576 ∧ ∀ m (h : m < xs.length), chS xs[m].2.2
theorem Txs.small {N : Nat → Prop} {M : Nat} {w : World} {a : Option Addr} {xs : List Tx} (h : Txs N M w a xs) (hs : txS xs) : Txs N 1099511627776 w a xs := by
  rcases h with h | ⟨b, o, e, hb, h⟩
  · exact .inl h
  · refine .inr ⟨b, o, e, hb, fun j hj => ?_⟩
    obtain ⟨a, cap, k0, k1, q1, q2, q3, q4, q5⟩ := h j hj
    have hj2 := hs.2 j hj
    exact ⟨a, cap, k0, k1, q1, q2, by have := hj2.1; omega, q4.small hj2, q5⟩
set_option maxHeartbeats 1000000 in
theorem sz_tx {N : Nat → Prop} (x : Tx) (a : Option Addr) (cap : Nat) (left : Int) (w : World) (hm : x.2.2.length ≤ 9223372036854775807) (h0 : 0 ≤ left) (h1 : left ≤ 1048576) (h : Chs N 9223372036854775807 w a x.2.2) : Calls Tryz.prog 67 #[txv x a cap, .int .i64 left] w fun e w' => (∃ v : Int, e = .returned (.int .i64 v) ∧ (v = -1 ∨ (0 ≤ v ∧ v ≤ 1048576 ∧ Hid (chS x.2.2)))) ∧ Below w.heap.size w w' := by
  obtain ⟨st, op, cs⟩ := x
  unfold txv
  simp only at *
  have SZ := hid (fun (W : World) (hb : Below w.heap.size w W) => sz_chs a cap cs left W hm h0 h1 (h.below hb))
  clear h
  obtain ⟨B, hB⟩ : ∃ B : Prop, B = chS cs := ⟨_, rfl⟩
  rw [← hB] at SZ ⊢
  clear hB
  generalize cs.length = n at *
  go_enter Tryz.func67, Tryz.ntmps67
  go_wp2_with fail
  refine (SZ.out _ (balloc (Below.refl _ _) _)).mono ?_
  rintro e w1 ⟨⟨v, rfl, hv⟩, hb⟩
  have hB := btrans (balloc (Below.refl _ w) _) hb
  rcases hv with rfl | ⟨hv0, hv1, HV⟩
  · go_wp2_with fail
    go_ret
    exact ⟨⟨_, rfl, .inl rfl⟩, hB⟩
  · have hv2 : ¬ v < 0 := by omega
    go_wp2_with fail
    go_ret
    exact ⟨⟨_, rfl, .inr ⟨hv0, hv1, HV⟩⟩, hB⟩
set_option maxHeartbeats 1000000 in
theorem sz_txs {N : Nat → Prop} (a : Option Addr) (cap : Nat) (xs : List Tx) (left : Int) (w : World) (hm : xs.length ≤ 9223372036854775807) (h0 : 0 ≤ left) (h1 : left ≤ 1048576) (h : Txs N 9223372036854775807 w a xs) : Calls Tryz.prog 35 #[.slice a xs.length cap, .int .i64 left] w fun e w' => (∃ v : Int, e = .returned (.int .i64 v) ∧ (v = -1 ∨ (0 ≤ v ∧ v ≤ 1048576 ∧ Hid (txS xs)))) ∧ Below w.heap.size w w' := by
  have HR := hid h
  clear h
  by_cases hb : left < (xs.length : Int)
  · have h2 : left - (xs.length : Int) < 0 := by omega
    go_enter Tryz.func35, Tryz.ntmps35
    go_wp2_with fail
    go_ret
    exact ⟨⟨_, rfl, .inl rfl⟩, Below.refl _ _⟩
  · have h2 : ¬ (left - (xs.length : Int) < 0) := by omega
    have HF : Hid ((∀ m (h : m < xs.length), chS xs[m].2.2) → txS xs) := hid (fun h => ⟨by omega, h⟩)
    go_enter Tryz.func35, Tryz.ntmps35
    go_wp2_with fail
    go_loopw [5, 1] (fun ti tl wr => ∃ j : Nat, ∃ l : Int, ti = .int .i64 j ∧ tl = .int .i64 l ∧ j ≤ xs.length ∧ 0 ≤ l ∧ l ≤ 1048576 ∧ Hid (∀ m (h : m < xs.length), m < j → chS xs[m].2.2) ∧ Hid (Below w.heap.size w wr)) (fun ti _ _ => xs.length - (intOf ti).toNat)
    case atStart => exact ⟨0, _, rfl, rfl, Nat.zero_le _, by omega, by omega, hid (fun m h hh => absurd hh (by omega)), hid (Below.refl _ _)⟩
    case round =>
      obtain ⟨j, l, rfl, rfl, hj, hl0, hl1, HM, HB⟩ := hrel
      by_cases hlt : j < xs.length
      · have c1 : (j : Int) < (xs.length : Int) := by omega
        obtain ⟨b, o, rfl, hbs, hr⟩ := (HR.out.below HB.out).at j hlt
        obtain ⟨a', cap', k0, k1, q1, q2, q3, q4, q5⟩ := hr
        have HX : Hid ((chS xs[j].2.2) → ∀ m (h : m < xs.length), m < j + 1 → chS xs[m].2.2) := hid (fun hx m h hm => by
          by_cases e : m = j
          · subst e; exact hx
          · exact HM.out m h (by omega))
        have S := hid (sz_tx (N := N) xs[j] a' cap' l wr q3 hl0 hl1 q4)
        unfold txv at S
        obtain ⟨Q, hQ⟩ : ∃ Q : Prop, Q = (chS xs[j].2.2) := ⟨_, rfl⟩
        rw [← hQ] at HX S
        clear hQ q2 q3 q4 q5
        generalize xs[j].1 = st at *
        generalize xs[j].2.1 = op at *
        generalize xs[j].2.2.length = np at *
        go_wp2_with fail
        refine (S.out).mono ?_
        rintro e w1 ⟨⟨v, rfl, hv⟩, hb1⟩
        have hB := btrans HB.out hb1
        rcases hv with rfl | ⟨hv0, hv1, hv3⟩
        · go_wp2_with fail
          go_ret
          exact ⟨⟨_, rfl, .inl rfl⟩, hB⟩
        · have hv2 : ¬ v < 0 := by omega
          have HX2 := hid (HX.out hv3.out)
          clear hv3
          go_wp2_with fail
          go_roundw
          case rel => exact ⟨j + 1, v, by go_num, rfl, by omega, hv0, hv1, HX2, hid hB⟩
          case measure => simp [intOf]; omega
      · have c1 : (xs.length : Int) ≤ (j : Int) := by omega
        have HF2 := hid (HF.out (fun m h => HM.out m h (by omega)))
        go_wp2_with fail
        go_ret
        exact ⟨⟨_, rfl, .inr ⟨hl0, hl1, HF2⟩⟩, HB.out⟩
set_option maxHeartbeats 2000000 in
theorem to_tx {N : Nat → Prop} (x : Tx) (a : Option Addr) (cap : Nat) (w : World) (hm : x.2.2.length ≤ 1099511627776) (hc : x.2.2.length ≤ cap) (h : Chs N 1099511627776 w a x.2.2) : Calls Tryz.prog 70 #[txv x a cap] w fun e w' => ∃ b, e = .returned (txv x (some ⟨b, 0, none⟩) x.2.2.length) ∧ w.heap.size ≤ b ∧ (b < w'.heap.size ∧ ChsAt (fun c => b < c) 1099511627776 w' b 0 x.2.2) ∧ Below w.heap.size w w' := by
  obtain ⟨st, op, cs⟩ := x
  unfold txv
  simp only at *
  have TS := hid (fun (W : World) (hb : Below w.heap.size w W) => to_chs a cap cs W hm (h.below hb))
  clear h
  generalize hn : cs.length = n at *
  have HN := hid hn
  clear hn
  go_enter Tryz.func70, Tryz.ntmps70
  go_wp2_with fail
  have hB0 : Below w.heap.size w (((w.alloc (.cells #[.int .i64 st, .bool op, .slice a n cap] 99)).alloc (.cells #[.int .i64 0, .bool false, .slice none 0 0] 101)).alloc (.cells #[.int .i64 st, .bool op, .slice none 0 0] 101)) := balloc (balloc (balloc (Below.refl _ _) _) _) _
  have g2 := old_alloc (o' := .cells #[.int .i64 st, .bool op, .slice none 0 0] 101) (new_alloc (w.alloc (.cells #[.int .i64 st, .bool op, .slice a n cap] 99)) (w.heap.size + 1) (.cells #[.int .i64 0, .bool false, .slice none 0 0] 101) (by simp))
  have g3 := new_alloc ((w.alloc (.cells #[.int .i64 st, .bool op, .slice a n cap] 99)).alloc (.cells #[.int .i64 0, .bool false, .slice none 0 0] 101)) (w.heap.size + 1 + 1) (.cells #[.int .i64 st, .bool op, .slice none 0 0] 101) (by simp)
  generalize ((w.alloc (.cells #[.int .i64 st, .bool op, .slice a n cap] 99)).alloc (.cells #[.int .i64 0, .bool false, .slice none 0 0] 101)).alloc (.cells #[.int .i64 st, .bool op, .slice none 0 0] 101) = W at *
  have hlW := lt_of_block g3
  refine (TS.out _ hB0).mono ?_
  rintro e w1 ⟨b, rfl, hbb, ho, hb1⟩
  replace g2 := keepheap2 hb1 g2
  replace g3 := keepheap2 hb1 g3
  have hB := btrans hB0 hb1
  have HO := hid ho
  clear hb1 hB0 ho
  obtain ⟨⟨x0, x1, x2⟩, xf0, xf1, xf2⟩ := cellk3 g2
  obtain ⟨⟨y0, y1, y2⟩, yf0, yf1, yf2⟩ := cellk3 g3
  go_wp2_with fail
  have gF := setk3 (set_far (q := w.heap.size + 1 + 1) (k := 2) (u := .slice (some ⟨b, 0, none⟩) n n) g2 (by omega)) (.int .i64 st) (.bool op) (.slice (some ⟨b, 0, none⟩) n n)
  have bF := (bset (bset (bset (bset hB (q := w.heap.size + 1 + 1) (k := 2) (by omega) (.slice (some ⟨b, 0, none⟩) n n)) (q := w.heap.size + 1) (k := 0) (by omega) (.int .i64 st)) (q := w.heap.size + 1) (k := 1) (by omega) (.bool op)) (q := w.heap.size + 1) (k := 2) (by omega) (.slice (some ⟨b, 0, none⟩) n n))
  have hfar : ∀ c, w.heap.size + 1 + 1 < c → ((((w1.setCell ⟨w.heap.size + 1 + 1, 2, none⟩ (.slice (some ⟨b, 0, none⟩) n n)).setCell ⟨w.heap.size + 1, 0, none⟩ (.int .i64 st)).setCell ⟨w.heap.size + 1, 1, none⟩ (.bool op)).setCell ⟨w.heap.size + 1, 2, none⟩ (.slice (some ⟨b, 0, none⟩) n n)).heap[c]? = w1.heap[c]? := fun c hc => by rw [Below.heap_setCell _ _ _ _ (by dsimp only; omega), Below.heap_setCell _ _ _ _ (by dsimp only; omega), Below.heap_setCell _ _ _ _ (by dsimp only; omega), Below.heap_setCell _ _ _ _ (by dsimp only; omega)]
  have hsz : w1.heap.size ≤ ((((w1.setCell ⟨w.heap.size + 1 + 1, 2, none⟩ (.slice (some ⟨b, 0, none⟩) n n)).setCell ⟨w.heap.size + 1, 0, none⟩ (.int .i64 st)).setCell ⟨w.heap.size + 1, 1, none⟩ (.bool op)).setCell ⟨w.heap.size + 1, 2, none⟩ (.slice (some ⟨b, 0, none⟩) n n)).heap.size := by simp
  generalize ((((w1.setCell ⟨w.heap.size + 1 + 1, 2, none⟩ (.slice (some ⟨b, 0, none⟩) n n)).setCell ⟨w.heap.size + 1, 0, none⟩ (.int .i64 st)).setCell ⟨w.heap.size + 1, 1, none⟩ (.bool op)).setCell ⟨w.heap.size + 1, 2, none⟩ (.slice (some ⟨b, 0, none⟩) n n)) = wf at *
  have oF : b < wf.heap.size ∧ ChsAt (fun c => b < c) 1099511627776 wf b 0 cs := ⟨Nat.lt_of_lt_of_le HO.out.1 hsz, fun j hj => (HO.out.2 j hj).blk (fun i _ => by simp only [World.cell?, hfar b (by omega)]) (fun c hc => hfar c (by omega)) hsz⟩
  obtain ⟨⟨z0, z1, z2⟩, _⟩ := cellk3 gF
  exact bodyPost_ret (v := .agg #[.int .i64 st, .bool op, .slice (some ⟨b, 0, none⟩) n n]) (by simp [results, Tryz.results70, go_sem, z0, z1, z2]) rfl ⟨b, rfl, by omega, oF, bF⟩
theorem Tryz.infoTx : (Tryz.prog.info? 101).map (fun i => (i.zero, i.size, i.bytes)) = some (some (.agg #[.int .i64 0, .bool false, .slice none 0 0]), 3, 40) := by kernel_rfl
theorem make_txs (n : Nat) (hn : n ≤ 1099511627776) (w : World) : (Instr.makeSlice 38 (.int .i64 n) (.int .i64 n)).run Tryz.prog w = .ok (.slice (some ⟨w.heap.size, 0, none⟩) n n) (w.alloc (.cells (madeCells #[.int .i64 0, .bool false, .slice none 0 0] (n * 3)) 101)) := by
  obtain ⟨i0, hi, hz0, hz1, hz2⟩ := info_parts Tryz.infoTx
  have := run_make (P := Tryz.prog) w 38 101 i0 _ Tryz.underlying38 hi hz0 .i64 .i64 n n (by omega) (by omega) (by rw [hz2]; omega) (by omega)
  rw [hz1] at this
  exact this
theorem made_owntx (w : World) (n : Nat) : (w.alloc (.cells (madeCells #[.int .i64 0, .bool false, .slice none 0 0] (n * 3)) 101)).there w.heap.size 0 (n * 3) := by
  intro j hj
  simp only [Nat.zero_add]
  refine ⟨?_, World.frozen?_alloc_new w _ _ j⟩
  rw [World.cell?_alloc_new]
  have hs := size_madeCells #[.int .i64 0, .bool false, .slice none 0 0] (n * 3)
  rw [Array.getElem?_eq_getElem (by rw [hs]; exact hj)]
  rfl
theorem put_tx {w : World} {B k n b : Nat} {xs : List Tx} (hk : k < xs.length) (hn : xs.length = n) (h : ∀ j (hj : j < xs.length), j < k → TxAt (fun c => B < c) 1099511627776 w B (j * 3) xs[j]) (ht : w.there B 0 (n * 3)) (hb : B < b) (hm : xs[k].2.2.length ≤ 1099511627776) (ho : b < w.heap.size ∧ ChsAt (fun c => b < c) 1099511627776 w b 0 xs[k].2.2) :
    (∀ j (hj : j < xs.length), j < k + 1 → TxAt (fun c => B < c) 1099511627776 (((w.setCell ⟨B, k * 3, none⟩ (.int .i64 xs[k].1)).setCell ⟨B, k * 3 + 1, none⟩ (.bool xs[k].2.1)).setCell ⟨B, k * 3 + 2, none⟩ (.slice (some ⟨b, 0, none⟩) xs[k].2.2.length xs[k].2.2.length)) B (j * 3) xs[j]) ∧ (((w.setCell ⟨B, k * 3, none⟩ (.int .i64 xs[k].1)).setCell ⟨B, k * 3 + 1, none⟩ (.bool xs[k].2.1)).setCell ⟨B, k * 3 + 2, none⟩ (.slice (some ⟨b, 0, none⟩) xs[k].2.2.length xs[k].2.2.length)).there B 0 (n * 3) := by
  subst hn
  have e : (((w.setCell ⟨B, k * 3, none⟩ (.int .i64 xs[k].1)).setCell ⟨B, k * 3 + 1, none⟩ (.bool xs[k].2.1)).setCell ⟨B, k * 3 + 2, none⟩ (.slice (some ⟨b, 0, none⟩) xs[k].2.2.length xs[k].2.2.length)) = w.setCells B (k * 3) [.int .i64 xs[k].1, .bool xs[k].2.1, .slice (some ⟨b, 0, none⟩) xs[k].2.2.length xs[k].2.2.length] := rfl
  have hblk : ∀ c, B < c → (w.setCells B (k * 3) [.int .i64 xs[k].1, .bool xs[k].2.1, .slice (some ⟨b, 0, none⟩) xs[k].2.2.length xs[k].2.2.length]).heap[c]? = w.heap[c]? := by
    intro c hc
    rw [← e]
    rw [Below.heap_setCell _ _ _ _ (by dsimp only; omega), Below.heap_setCell _ _ _ _ (by dsimp only; omega), Below.heap_setCell _ _ _ _ (by dsimp only; omega)]
  have hsz : (w.setCells B (k * 3) [.int .i64 xs[k].1, .bool xs[k].2.1, .slice (some ⟨b, 0, none⟩) xs[k].2.2.length xs[k].2.2.length]).heap.size = w.heap.size := by
    rw [← e]; simp
  rw [e]
  have hth : w.there B (k * 3) 3 := by
    intro j hj
    have := ht (k * 3 + j) (by omega)
    rwa [Nat.zero_add] at this
  have hr := World.rangeAt_setCells_same w B (k * 3) [.int .i64 xs[k].1, .bool xs[k].2.1, .slice (some ⟨b, 0, none⟩) xs[k].2.2.length xs[k].2.2.length] hth
  refine ⟨?_, World.there_setCells ht _ _ _⟩
  intro j hj hjk
  by_cases ej : j = k
  · subst ej
    refine ⟨some ⟨b, 0, none⟩, xs[j].2.2.length, by simpa using hr 0 _ rfl, hr 1 _ rfl, hr 2 _ rfl, Nat.le_refl _, hm, .inr ⟨b, 0, rfl, by rw [hsz]; exact ho.1, fun i hi => by
      obtain ⟨a', cap', p0, p1, p2, p3, p4, p5, p6, p7⟩ := (ho.2 i hi).blk (w' := w.setCells B (j * 3) [.int .i64 xs[j].1, .bool xs[j].2.1, .slice (some ⟨b, 0, none⟩) xs[j].2.2.length xs[j].2.2.length]) (fun i _ => by simp only [World.cell?, hblk b hb]) (fun c hc => hblk c (by omega)) (by omega)
      exact ⟨a', cap', p0, p1, p2, p3, p4, p5, p6, fun c off e => (by have := p7 c off e; omega)⟩⟩, fun c off e => (by cases e; exact hb)⟩
  · exact (h j hj (by omega)).blk (fun i hi => World.cell?_setCells_out B _ (k * 3) w ⟨B, j * 3 + i, none⟩ (fun _ _ => by left; show j * 3 + i < k * 3; omega)) (fun c hc => hblk c hc) (by omega)
set_option maxHeartbeats 2000000 in
theorem to_txs {N : Nat → Prop} (a : Option Addr) (cap : Nat) (xs : List Tx) (w : World) (hm : xs.length ≤ 1099511627776) (h : Txs N 1099511627776 w a xs) : Calls Tryz.prog 39 #[.slice a xs.length cap] w fun e w' => ∃ B, e = .returned (.slice (some ⟨B, 0, none⟩) xs.length xs.length) ∧ w.heap.size ≤ B ∧ (B < w'.heap.size ∧ TxsAt (fun c => B < c) 1099511627776 w' B 0 xs) ∧ Below w.heap.size w w' := by
  have HR := hid h
  clear h
  have hmk := make_txs xs.length hm
  obtain ⟨n, hn⟩ : ∃ n, n = xs.length := ⟨_, rfl⟩
  have HN := hid hn.symm
  rw [← hn] at hmk hm ⊢
  clear hn
  go_enter Tryz.func39, Tryz.ntmps39
  go_wp2_with fail
  have hB : Below w.heap.size w (w.alloc (.cells (madeCells #[.int .i64 0, .bool false, .slice none 0 0] (n * 3)) 101)) := balloc (Below.refl _ _) _
  have hT := made_owntx w n
  have hl : w.heap.size < (w.alloc (.cells (madeCells #[.int .i64 0, .bool false, .slice none 0 0] (n * 3)) 101)).heap.size := by simp
  generalize w.alloc (.cells (madeCells #[.int .i64 0, .bool false, .slice none 0 0] (n * 3)) 101) = W at *
  clear hmk
  go_loopw [4] (fun ti wr => ∃ j : Nat, ti = .int .i64 j ∧ j ≤ n ∧ Hid (w.heap.size < wr.heap.size) ∧ Hid (∀ i (hi : i < xs.length), i < j → TxAt (fun c => w.heap.size < c) 1099511627776 wr w.heap.size (i * 3) xs[i]) ∧ Hid (wr.there w.heap.size 0 (n * 3)) ∧ Hid (Below w.heap.size w wr)) (fun ti _ => n - (intOf ti).toNat)
  case atStart => exact ⟨0, rfl, Nat.zero_le _, hid hl, hid (fun i hi h => absurd h (by omega)), hid hT, hid hB⟩
  case round =>
    clear hB hT hl
    obtain ⟨j, rfl, hj, HL, HP, HT, HBW⟩ := hrel
    by_cases hlt : j < n
    · have c1 : (j : Int) < (n : Int) := by omega
      have hjr : j < xs.length := by rw [HN.out]; exact hlt
      obtain ⟨b, o, rfl, hbs, hr⟩ := (HR.out.below HBW.out).at j hjr
      obtain ⟨a', cap', k0, k1, q1, q2, q3, q4, q5⟩ := hr
      have TR := hid (to_tx (N := N) xs[j] a' cap' wr q3 q2 q4)
      have HPR := hid (fun (W : World) (bb : Nat) => put_tx (w := W) (B := w.heap.size) (k := j) (n := n) (b := bb) (xs := xs) hjr HN.out)
      have HK6 := hid q3
      unfold txv at TR
      clear q2 q3 q4 q5
      generalize xs[j].1 = st at *
      generalize xs[j].2.1 = op at *
      generalize xs[j].2.2 = inn at *
      go_wp2_with fail
      refine TR.out.mono ?_
      rintro e w1 ⟨bb, rfl, hbb, ho, hb1⟩
      have hP := fun i (hi : i < xs.length) (h : i < j) => (HP.out i hi h).below hb1
      have hT := there_below HT.out HL.out hb1
      have hB := btrans HBW.out hb1
      have hL : w.heap.size < w1.heap.size := Nat.lt_of_lt_of_le HL.out hb1.size
      have hbl : w.heap.size < bb := Nat.lt_of_lt_of_le HL.out hbb
      have HPUT := hid (HPR.out w1 bb hP hT hbl HK6.out ho)
      have q := fun i (hi : i < n * 3) => hT i hi
      obtain ⟨v0, s0, r0⟩ := there_at hT (show j * 3 < n * 3 by omega)
      obtain ⟨v1, s1, r1⟩ := there_at hT (show j * 3 + 1 < n * 3 by omega)
      obtain ⟨v2, s2, r2⟩ := there_at hT (show j * 3 + 2 < n * 3 by omega)
      clear q hP HPR hb1 ho TR
      have HL1 := hid hL
      have HB1 := hid hB
      clear hT
      go_wp2_with fail
      go_roundw
      case rel => exact ⟨j + 1, by go_num, by omega, hid (by simpa using hL), hid HPUT.out.1, hid HPUT.out.2, hid ((bset (bset (bset hB (by omega) _) (by omega) _) (by omega) _))⟩
      case measure => simp [intOf]; omega
    · obtain rfl : n = j := by omega
      have c1 : (n : Int) ≤ (n : Int) := by omega
      go_wp2_with fail
      go_ret
      exact ⟨w.heap.size, rfl, Nat.le_refl _, ⟨HL.out, fun i hi => by have := HP.out i hi (by rw [HN.out] at hi; exact hi); simpa using this⟩, HBW.out⟩
theorem eq_tx {N1 N2 : Nat → Prop} (x : Tx) (a1 a2 : Option Addr) (c1 c2 : Nat) (w : World) (hm : x.2.2.length ≤ 1099511627776) (h1 : x.2.2.length ≤ c1) (h2 : x.2.2.length ≤ c2) (p1 : Chs N1 1099511627776 w a1 x.2.2) (p2 : Chs N2 1099511627776 w a2 x.2.2) : Calls Tryz.prog 78 #[txv x a1 c1, txv x a2 c2] w fun e w' => e = .returned (.bool true) ∧ Below w.heap.size w w' := by
  obtain ⟨st, op, cs⟩ := x
  unfold txv
  simp only at *
  have EQ := hid (fun (W : World) (hb : Below w.heap.size w W) => eq_chs a1 a2 c1 c2 cs W hm (p1.below hb) (p2.below hb))
  clear p1 p2
  generalize cs.length = n at *
  go_enter Tryz.func78, Tryz.ntmps78
  go_wp2_with fail
  refine (EQ.out _ (balloc (balloc (Below.refl _ _) _) _)).mono ?_
  rintro e w1 ⟨rfl, hb⟩
  go_wp2_with fail
  go_ret
  exact ⟨rfl, btrans (balloc (balloc (Below.refl _ _) _) _) hb⟩
set_option maxHeartbeats 2000000 in
theorem eq_txs {N1 N2 : Nat → Prop} (a b : Option Addr) (cap cap' : Nat) (xs : List Tx) (w : World) (hm : xs.length ≤ 1099511627776) (p1 : Txs N1 1099511627776 w a xs) (p2 : Txs N2 1099511627776 w b xs) : Calls Tryz.prog 43 #[.slice a xs.length cap, .slice b xs.length cap'] w fun e w' => e = .returned (.bool true) ∧ Below w.heap.size w w' := by
  have H1 := hid p1
  have H2 := hid p2
  clear p1 p2
  obtain ⟨n, hn⟩ : ∃ n, n = xs.length := ⟨_, rfl⟩
  have HN := hid hn.symm
  rw [← hn] at hm ⊢
  clear hn
  go_enter Tryz.func43, Tryz.ntmps43
  go_wp2_with fail
  go_loopw [5] (fun ti wr => ∃ j : Nat, ti = .int .i64 j ∧ j ≤ n ∧ Hid (Below w.heap.size w wr)) (fun ti _ => n - (intOf ti).toNat)
  case atStart => exact ⟨0, rfl, Nat.zero_le _, hid (Below.refl _ _)⟩
  case round =>
    obtain ⟨j, rfl, hj, HBW⟩ := hrel
    by_cases hlt : j < n
    · have c1 : (j : Int) < (n : Int) := by omega
      have hjr : j < xs.length := by rw [HN.out]; exact hlt
      obtain ⟨b1, o1, rfl, hb1, a1, c1', k0, k1, q1, q2, q3, q4, q5⟩ := (H1.out.below HBW.out).at j hjr
      obtain ⟨b2, o2, rfl, hb2, a2, c2', l0, l1, r1, r2, r3, r4, r5⟩ := (H2.out.below HBW.out).at j hjr
      have EQ := hid (fun (W : World) (hb : Below wr.heap.size wr W) => eq_tx (N1 := N1) (N2 := N2) xs[j] a1 a2 c1' c2' W q3 q2 r2 (q4.below hb) (r4.below hb))
      unfold txv at EQ
      clear q2 q3 q4 q5 r2 r3 r4 r5
      generalize xs[j].1 = st at *
      generalize xs[j].2.1 = op at *
      generalize xs[j].2.2.length = np at *
      have HB0 : Hid (Below wr.heap.size wr wr.drew) := hid (bdrew (Below.refl _ _))
      go_wp2_with fail
      refine wp_region_held_drew (S := (fun w' => w'.cell? ⟨b1, o1 + j * 3, none⟩ = some (.int .i64 st) ∧ w'.cell? ⟨b1, o1 + j * 3 + 1, none⟩ = some (.bool op) ∧ w'.cell? ⟨b1, o1 + j * 3 + 2, none⟩ = some (.slice a1 np c1') ∧ w'.cell? ⟨b2, o2 + j * 3, none⟩ = some (.int .i64 st) ∧ w'.cell? ⟨b2, o2 + j * 3 + 1, none⟩ = some (.bool op) ∧ w'.cell? ⟨b2, o2 + j * 3 + 2, none⟩ = some (.slice a2 np c2'))) (by kernel_rfl) ?_ (fun hHeld => ?_)
      · (repeat' apply And.intro) <;> (repeat (first | with_reducible assumption | with_reducible refine keepdrew ?_ | with_reducible refine keepcell (by with_reducible assumption) ?_))
      refine wpAnyH_take (i := 0) (v := ?_) rfl (by kernel_rfl) (by kernel_rfl) (by kernel_rfl) (fun _ _ _ h => h) (Or.inl ⟨by rfl, ?_⟩) hHeld ?_
      rotate_left
      · intro w hSw; (try dsimp only at hSw); go_simp; try (with_reducible rfl)
      try simp only [sq]
      refine wpAnyH_take (i := 1) (v := ?_) rfl (by kernel_rfl) (by kernel_rfl) (by kernel_rfl) (fun _ _ _ h => h) (Or.inl ⟨by rfl, ?_⟩) hHeld ?_
      rotate_left
      · intro w hSw; (try dsimp only at hSw); go_simp; try (with_reducible rfl)
      try simp only [sq]
      refine wpAnyH_take (i := 2) (v := ?_) rfl (by kernel_rfl) (by kernel_rfl) (by kernel_rfl) (fun _ _ _ h => h) (Or.inl ⟨by rfl, ?_⟩) hHeld ?_
      rotate_left
      · intro w hSw; (try dsimp only at hSw); go_simp; try (with_reducible rfl)
      try simp only [sq]
      refine wpAnyH_take (i := 3) (v := ?_) rfl (by kernel_rfl) (by kernel_rfl) (by kernel_rfl) (fun _ _ _ h => h) (Or.inl ⟨by rfl, ?_⟩) hHeld ?_
      rotate_left
      · intro w hSw; (try dsimp only at hSw); go_simp; try (with_reducible rfl)
      try simp only [sq]
      refine wpAnyH_take (i := 4) (v := ?_) rfl (by kernel_rfl) (by kernel_rfl) (by kernel_rfl) (fun _ _ _ h => h) (Or.inl ⟨by rfl, ?_⟩) hHeld ?_
      rotate_left
      · intro w hSw; (try dsimp only at hSw); go_simp; try (with_reducible rfl)
      try simp only [sq]
      refine wpAnyH_take (i := 5) (v := ?_) rfl (by kernel_rfl) (by kernel_rfl) (by kernel_rfl) (fun _ _ _ h => h) (Or.inl ⟨by rfl, ?_⟩) hHeld ?_
      rotate_left
      · intro w hSw; (try dsimp only at hSw); go_simp; try (with_reducible rfl)
      try simp only [sq]
      refine wpAnyH_take (i := 6) (v := ?_) rfl (by kernel_rfl) (by kernel_rfl) (by kernel_rfl) (fun _ _ _ h => h) (Or.inl ⟨by rfl, ?_⟩) hHeld ?_
      rotate_left
      · intro w hSw; (try dsimp only at hSw); go_simp; try (with_reducible rfl)
      try simp only [sq]
      refine wpAnyH_take (i := 7) (v := ?_) rfl (by kernel_rfl) (by kernel_rfl) (by kernel_rfl) (fun _ _ _ h => h) (Or.inl ⟨by rfl, ?_⟩) hHeld ?_
      rotate_left
      · intro w hSw; (try dsimp only at hSw); go_simp; try (with_reducible rfl)
      try simp only [sq]
      refine wpAnyH_ready (rs := [8]) (by kernel_rfl) (by simp) ?_
      refine AllReadyH.cons rfl (fun K hK => ?_) AllReadyH.nil
      try simp only [sq]
      go_simp
      (first
          | (go_at_call 78; refine (EQ.out _ HB0.out).mono ?_; rintro e z1 ⟨rfl, hz⟩))
      go_wp2_with fail
      refine hK.out _ _ ?_ (fun hHeld => ?_)
      · (repeat' apply And.intro) <;> (repeat (first | with_reducible assumption | with_reducible refine keepdrew ?_ | with_reducible refine keepcell (by with_reducible assumption) ?_))
      clear hK K
      try simp only [sq]
      refine wpAnyH_take (i := 9) (v := ?_) rfl (by kernel_rfl) (by kernel_rfl) (by kernel_rfl) (fun _ _ _ h => h) (Or.inl ⟨by rfl, ?_⟩) hHeld ?_
      rotate_left
      · intro w hSw; (try dsimp only at hSw); go_simp; try (with_reducible rfl)
      try simp only [sq]
      refine wpAnyH_done (by kernel_rfl) ?_ _
      go_wp2_with fail
      go_roundw
      case rel => exact ⟨j + 1, by go_num, by omega, hid (btrans (bdrew HBW.out) hz)⟩
      case measure => simp [intOf]; omega
    · have c1 : (n : Int) ≤ (j : Int) := by omega
      go_wp2_with fail
      go_ret
      exact ⟨rfl, HBW.out⟩
end Go.Proofs.YtjhnfbefgjoiiaaGreat
namespace Go.Proofs.YtjhnfbefgjoiiaaGreat
open Go.RowKit
set_option linter.unusedSimpArgs false
set_option linter.unusedVariables false
def ChO (hi : Nat) (w : World) (B o : Nat) (x : Ch) : Prop := ∃ c, w.cell? ⟨B, o + 3, none⟩ = some (.slice (some ⟨c, 0, none⟩) x.2.2.2.length x.2.2.2.length) ∧ B < c ∧ c < hi ∧ w.there c 0 (x.2.2.2.length * 2)
def ChsO (hi : Nat) (w : World) (B : Nat) (xs : List Ch) : Prop := w.there B 0 (xs.length * 4) ∧ ∀ j (h : j < xs.length), ChO hi w B (j * 4) xs[j]
def TxO (hi : Nat) (w : World) (B o : Nat) (x : Tx) (c : Nat) : Prop := w.cell? ⟨B, o + 2, none⟩ = some (.slice (some ⟨c, 0, none⟩) x.2.2.length x.2.2.length) ∧ B < c ∧ c < hi ∧ ChsO hi w c x.2.2
/-- Transactions whose lists may be written into: those of each lie from its block on, below its bound, one behind the other. -/
def TxsO (hi : Nat) (w : World) (B : Nat) (xs : List Tx) : Prop := w.there B 0 (xs.length * 3) ∧ ∃ c h : Nat → Nat, (∀ j (hj : j < xs.length), TxO (h j) w B (j * 3) xs[j] (c j) ∧ h j ≤ hi) ∧ ∀ i j, i < j → j < xs.length → h i ≤ c j
theorem ChO.below {hi : Nat} {w w' : World} {B o : Nat} {x : Ch} (h : ChO hi w B o x) (hh : hi ≤ w.heap.size) (H : Below w.heap.size w w') : ChO hi w' B o x := by
  obtain ⟨c, h0, h1, h2, h3⟩ := h
  exact ⟨c, keepcell H h0, h1, h2, there_below h3 (by omega) H⟩
theorem ChO.mono {hi hi' : Nat} {w : World} {B o : Nat} {x : Ch} (h : ChO hi w B o x) (hh : hi ≤ hi') : ChO hi' w B o x := by
  obtain ⟨c, h0, h1, h2, h3⟩ := h
  exact ⟨c, h0, h1, by omega, h3⟩
theorem ChO.set {hi : Nat} {w : World} {B o q k : Nat} {x : Ch} (h : ChO hi w B o x) (hq : q ≠ B ∨ k ≠ o + 3) (u : Value) : ChO hi (w.setCell ⟨q, k, none⟩ u) B o x := by
  obtain ⟨c, h0, h1, h2, h3⟩ := h
  refine ⟨c, ?_, h1, h2, there_set h3 _⟩
  rw [World.cell?_setCell_other _ _ _ _ (by intro e; injection e; omega)]
  exact h0
theorem ChsO.below {hi : Nat} {w w' : World} {B : Nat} {xs : List Ch} (h : ChsO hi w B xs) (hb : B < w.heap.size) (hh : hi ≤ w.heap.size) (H : Below w.heap.size w w') : ChsO hi w' B xs := ⟨there_below h.1 hb H, fun j hj => (h.2 j hj).below hh H⟩
theorem ChsO.mono {hi hi' : Nat} {w : World} {B : Nat} {xs : List Ch} (h : ChsO hi w B xs) (hh : hi ≤ hi') : ChsO hi' w B xs := ⟨h.1, fun j hj => (h.2 j hj).mono hh⟩
theorem ChsO.set {hi : Nat} {w : World} {B q k : Nat} {xs : List Ch} (h : ChsO hi w B xs) (hq : q ≠ B) (u : Value) : ChsO hi (w.setCell ⟨q, k, none⟩ u) B xs := ⟨there_set h.1 _, fun j hj => (h.2 j hj).set (.inl hq) u⟩
theorem TxO.below {hi : Nat} {w w' : World} {B o c : Nat} {x : Tx} (h : TxO hi w B o x c) (hh : hi ≤ w.heap.size) (H : Below w.heap.size w w') : TxO hi w' B o x c := by
  obtain ⟨h0, h1, h2, h3⟩ := h
  exact ⟨keepcell H h0, h1, h2, h3.below (by omega) hh H⟩
theorem TxO.set {hi : Nat} {w : World} {B o q k c : Nat} {x : Tx} (h : TxO hi w B o x c) (hq : q < B ∨ (q = B ∧ k ≠ o + 2)) (u : Value) : TxO hi (w.setCell ⟨q, k, none⟩ u) B o x c := by
  obtain ⟨h0, h1, h2, h3⟩ := h
  refine ⟨?_, h1, h2, h3.set (by omega) _⟩
  rw [World.cell?_setCell_other _ _ _ _ (by intro e; injection e; omega)]
  exact h0
theorem TxsO.below {hi : Nat} {w w' : World} {B : Nat} {xs : List Tx} (h : TxsO hi w B xs) (hb : B < w.heap.size) (hh : hi ≤ w.heap.size) (H : Below w.heap.size w w') : TxsO hi w' B xs := by
  obtain ⟨h1, c, f, h2, h3⟩ := h
  exact ⟨there_below h1 hb H, c, f, fun j hj => ⟨(h2 j hj).1.below (by have := (h2 j hj).2; omega) H, (h2 j hj).2⟩, h3⟩
theorem TxsO.set {hi : Nat} {w : World} {B q k : Nat} {xs : List Tx} (h : TxsO hi w B xs) (hq : q < B) (u : Value) : TxsO hi (w.setCell ⟨q, k, none⟩ u) B xs := by
  obtain ⟨h1, c, f, h2, h3⟩ := h
  exact ⟨there_set h1 _, c, f, fun j hj => ⟨(h2 j hj).1.set (.inl hq) u, (h2 j hj).2⟩, h3⟩
theorem TxsO.mono {hi hi' : Nat} {w : World} {B : Nat} {xs : List Tx} (h : TxsO hi w B xs) (hh : hi ≤ hi') : TxsO hi' w B xs := by
  obtain ⟨h1, c, f, h2, h3⟩ := h
  exact ⟨h1, c, f, fun j hj => ⟨(h2 j hj).1, by have := (h2 j hj).2; omega⟩, h3⟩
end Go.Proofs.YtjhnfbefgjoiiaaGreat
namespace Go.Proofs.YtjhnfbefgjoiiaaGreat
open Go.RowKit
set_option linter.unusedSimpArgs false
set_option linter.unusedVariables false
theorem grown_cell {w w' : World} {c B k : Nat} (g : w.grownBy w' (some c)) (hB : B < w.heap.size) (h : c ≠ B) : w'.cell? ⟨B, k, none⟩ = w.cell? ⟨B, k, none⟩ := by
  have := g.block B hB (by intro e; injection e; omega)
  simp only [World.cell?, this]
theorem mid_wide {lo hi lo' hi' : Nat} {w w' : World} (h : Mid lo' hi' w w') (h1 : lo ≤ lo') (h2 : hi' ≤ hi) : Mid lo hi w w' := ⟨h.1, h.2.1, h.2.2.1, h.2.2.2.1, fun k hk h3 => h.2.2.2.2 k hk (by omega)⟩
theorem ChO.mid {lo' hi' hi : Nat} {w w' : World} {B o : Nat} {x : Ch} (h : ChO hi w B o x) (k : Mid lo' hi' w w') (ht : ∀ d m, d < w.heap.size → w.there d 0 m → w'.there d 0 m) (hh : hi ≤ w.heap.size) (hB : hi' ≤ B) : ChO hi w' B o x := by
  obtain ⟨c, h0, h1, h2, h3⟩ := h
  exact ⟨c, mid_cell k h0 (.inr hB), h1, h2, ht _ _ (by omega) h3⟩
theorem ChsO.mid {lo' hi' hi : Nat} {w w' : World} {B : Nat} {xs : List Ch} (h : ChsO hi w B xs) (k : Mid lo' hi' w w') (ht : ∀ d m, d < w.heap.size → w.there d 0 m → w'.there d 0 m) (hb : B < w.heap.size) (hh : hi ≤ w.heap.size) (hB : hi' ≤ B) : ChsO hi w' B xs := ⟨ht _ _ hb h.1, fun j hj => (h.2 j hj).mid k ht hh hB⟩
theorem TxO.mid {lo' hi' hi : Nat} {w w' : World} {B o c : Nat} {x : Tx} (h : TxO hi w B o x c) (k : Mid lo' hi' w w') (ht : ∀ d m, d < w.heap.size → w.there d 0 m → w'.there d 0 m) (hh : hi ≤ w.heap.size) (hB : B < lo' ∨ hi' ≤ B) (hc : hi' ≤ c) : TxO hi w' B o x c := by
  obtain ⟨h0, h1, h2, h3⟩ := h
  exact ⟨mid_cell k h0 hB, h1, h2, h3.mid k ht (by omega) hh hc⟩
theorem TxsO.mid {lo' hi' hi : Nat} {w w' : World} {B : Nat} {xs : List Tx} (h : TxsO hi w B xs) (k : Mid lo' hi' w w') (ht : ∀ d m, d < w.heap.size → w.there d 0 m → w'.there d 0 m) (hb : B < w.heap.size) (hh : hi ≤ w.heap.size) (hB : hi' ≤ B) : TxsO hi w' B xs := by
  obtain ⟨h1, c, f, h2, h3⟩ := h
  exact ⟨ht _ _ hb h1, c, f, fun j hj => ⟨(h2 j hj).1.mid k ht (by have := (h2 j hj).2; omega) (.inr hB) (by have := (h2 j hj).1.2.1; omega), (h2 j hj).2⟩, h3⟩
set_option maxRecDepth 100000 in
set_option maxHeartbeats 2000000 in
theorem mark_chs (lo hi B : Nat) (xs : List Ch) (k0 : Int) (w : World) (hlo : lo ≤ B) (hBh : B < hi) (hih : hi ≤ w.heap.size) (hs : chS xs) (h0 : 0 ≤ k0) (h1 : k0 ≤ 4000000000000000000) (ho : ChsO hi w B xs) : Calls Tryz.prog 23 #[.slice (some ⟨B, 0, none⟩) xs.length xs.length, .int .i64 k0] w fun e w' => (∃ v : Int, e = .returned (.int .i64 v) ∧ 0 ≤ v ∧ v ≤ k0 + 2199026401280) ∧ Mid lo hi w w' ∧ (∀ d m, d < w.heap.size → w.there d 0 m → w'.there d 0 m) := by
  have HL := hid hs.2
  have HO := hid ho.2
  have hm := hs.1
  have HTT := hid ho.1
  clear hs ho
  obtain ⟨n, hn⟩ : ∃ n, n = xs.length := ⟨_, rfl⟩
  have HN := hid hn.symm
  rw [← hn] at hm HTT ⊢
  clear hn
  go_enter Tryz.func23, Tryz.ntmps23
  go_wp2_with fail
  go_loopw [1, 5] (fun tk' ti wr => ∃ j : Nat, ∃ k : Int, ti = .int .i64 j ∧ tk' = .int .i64 k ∧ j ≤ n ∧ 0 ≤ k ∧ k ≤ k0 + (j : Int) * 2097155 ∧ Hid (Mid lo hi w wr) ∧ Hid (∀ d m, w.there d 0 m → wr.there d 0 m) ∧ Hid (∀ i, j ≤ i → i < n → wr.cell? ⟨B, i * 4 + 3, none⟩ = w.cell? ⟨B, i * 4 + 3, none⟩)) (fun _ ti _ => n - (intOf ti).toNat)
  case atStart => exact ⟨0, k0, rfl, rfl, Nat.zero_le _, by omega, by omega, hid (mid_refl _ _ _), hid (fun _ _ h => h), hid (fun _ _ _ => rfl)⟩
  case round =>
    obtain ⟨j, k, rfl, rfl, hj, hk0, hk1, HM, HT, HC⟩ := hrel
    by_cases hlt : j < n
    · have c1 : (j : Int) < (n : Int) := by omega
      have hjr : j < xs.length := by rw [HN.out]; exact hlt
      obtain ⟨c, q0, q1, q2, q3⟩ := HO.out j hjr
      have hnp := HL.out j hjr
      generalize xs[j].2.2.2.length = np at *
      have hk2 : k ≤ 4000002199026401280 := by omega
      have hT := HT.out _ _ HTT.out
      rw [← HC.out j (Nat.le_refl _) hlt] at q0
      obtain ⟨u0, z0, y0⟩ := there_at hT (show j * 4 < n * 4 by omega)
      obtain ⟨u1, z1, y1⟩ := there_at hT (show j * 4 + 1 < n * 4 by omega)
      obtain ⟨u2, z2, y2⟩ := there_at hT (show j * 4 + 2 < n * 4 by omega)
      have z1' : ∀ a0, (wr.setCell ⟨B, j * 4, none⟩ a0).cell? ⟨B, j * 4 + 1, none⟩ = some u1 := fun a0 => by rw [World.cell?_setCell_other _ _ _ _ (by simp)]; exact z1
      have z2' : ∀ a0 a1, ((wr.setCell ⟨B, j * 4, none⟩ a0).setCell ⟨B, j * 4 + 1, none⟩ a1).cell? ⟨B, j * 4 + 2, none⟩ = some u2 := fun a0 a1 => by rw [World.cell?_setCell_other _ _ _ _ (by simp), World.cell?_setCell_other _ _ _ _ (by simp)]; exact z2
      have z3' : ∀ a0 a1 a2, (((wr.setCell ⟨B, j * 4, none⟩ a0).setCell ⟨B, j * 4 + 1, none⟩ a1).setCell ⟨B, j * 4 + 2, none⟩ a2).cell? ⟨B, j * 4 + 3, none⟩ = some (.slice (some ⟨c, 0, none⟩) np np) := fun a0 a1 a2 => by rw [World.cell?_setCell_other _ _ _ _ (by simp), World.cell?_setCell_other _ _ _ _ (by simp), World.cell?_setCell_other _ _ _ _ (by simp)]; exact q0
      have y1' : ∀ a0, (wr.setCell ⟨B, j * 4, none⟩ a0).frozen? ⟨B, j * 4 + 1, none⟩ = false := fun a0 => by rw [World.frozen?_setCell]; exact y1
      have y2' : ∀ a0 a1, ((wr.setCell ⟨B, j * 4, none⟩ a0).setCell ⟨B, j * 4 + 1, none⟩ a1).frozen? ⟨B, j * 4 + 2, none⟩ = false := fun a0 a1 => by rw [World.frozen?_setCell, World.frozen?_setCell]; exact y2
      have HM3 := hid (fun a0 a1 a2 => (mid_set (mid_set (mid_set HM.out hlo hBh a0) hlo hBh a1) hlo hBh a2 : Mid lo hi w (((wr.setCell ⟨B, j * 4, none⟩ a0).setCell ⟨B, j * 4 + 1, none⟩ a1).setCell ⟨B, j * 4 + 2, none⟩ a2)))
      have HT3 := hid (fun a0 a1 a2 d m (h : w.there d 0 m) => (there_set (there_set (there_set (HT.out d m h) a0) a1) a2 : (((wr.setCell ⟨B, j * 4, none⟩ a0).setCell ⟨B, j * 4 + 1, none⟩ a1).setCell ⟨B, j * 4 + 2, none⟩ a2).there d 0 m))
      have HC3 := hid (fun a0 a1 a2 i (h1 : j + 1 ≤ i) (h2 : i < n) => (by
        rw [World.cell?_setCell_other _ _ _ _ (by intro e; injection e; omega), World.cell?_setCell_other _ _ _ _ (by intro e; injection e; omega), World.cell?_setCell_other _ _ _ _ (by intro e; injection e; omega)]
        exact HC.out i (by omega) h2 : (((wr.setCell ⟨B, j * 4, none⟩ a0).setCell ⟨B, j * 4 + 1, none⟩ a1).setCell ⟨B, j * 4 + 2, none⟩ a2).cell? ⟨B, i * 4 + 3, none⟩ = w.cell? ⟨B, i * 4 + 3, none⟩))
      have HQ3 := hid q3
      have hws := HM.out.2.2.2.1
      clear hT z1 z2 y1 y2 HM HT HC q3 q0
      go_wp2_with fail
      refine (mark_ptsN _ c np (k + 1 + 1 + 1) (by omega) (by omega) hnp (by simp only [World.size_setCell]; omega) (HT3.out _ _ _ _ _ HQ3.out)).mono ?_
      rintro e w1 ⟨rfl, hg, hth⟩
      have HM5 := hid (mid_grown (HM3.out _ _ _) hg (by omega) q2)
      have HT5 := hid (fun d m (h : w.there d 0 m) => hth d m (HT3.out _ _ _ d m h))
      have HC5 : Hid (∀ i, j + 1 ≤ i → i < n → w1.cell? ⟨B, i * 4 + 3, none⟩ = w.cell? ⟨B, i * 4 + 3, none⟩) := hid (fun i h1 h2 => (grown_cell hg (by simp only [World.size_setCell]; omega) (by omega)).trans (HC3.out _ _ _ i h1 h2))
      clear hg hth HM3 HT3 HC3 z0 z1' z2' z3' y0 y1' y2'
      go_wp2_with fail
      go_roundw
      case rel => exact ⟨j + 1, _, by go_num, rfl, by omega, by omega, by omega, HM5, HT5, HC5⟩
      case measure => simp [intOf]; omega
    · have c1 : (n : Int) ≤ (j : Int) := by omega
      go_wp2_with fail
      go_ret
      exact ⟨⟨_, rfl, hk0, by omega⟩, HM.out, fun d m _ h => HT.out d m h⟩
set_option maxRecDepth 100000 in
set_option maxHeartbeats 2000000 in
theorem mark_txs (lo hi B : Nat) (xs : List Tx) (k0 : Int) (w : World) (hlo : lo ≤ B) (hBh : B < hi) (hih : hi ≤ w.heap.size) (hs : txS xs) (h0 : 0 ≤ k0) (h1 : k0 ≤ 1000000000000000000) (ho : TxsO hi w B xs) : Calls Tryz.prog 44 #[.slice (some ⟨B, 0, none⟩) xs.length xs.length, .int .i64 k0] w fun e w' => (∃ v : Int, e = .returned (.int .i64 v) ∧ 0 ≤ v) ∧ Mid lo hi w w' ∧ (∀ d m, d < w.heap.size → w.there d 0 m → w'.there d 0 m) := by
  have HL := hid hs.2
  have hm := hs.1
  have HTT := hid ho.1
  obtain ⟨cf, hf, hw1, hw2⟩ := ho.2
  have HW1 := hid hw1
  have HW2 := hid hw2
  clear hs ho hw1 hw2
  obtain ⟨n, hn⟩ : ∃ n, n = xs.length := ⟨_, rfl⟩
  have HN := hid hn.symm
  rw [← hn] at hm HTT ⊢
  clear hn
  go_enter Tryz.func44, Tryz.ntmps44
  go_wp2_with fail
  go_loopw [1, 5] (fun tk' ti wr => ∃ j : Nat, ∃ k : Int, ti = .int .i64 j ∧ tk' = .int .i64 k ∧ j ≤ n ∧ 0 ≤ k ∧ k ≤ k0 + (j : Int) * 2199026401282 ∧ Hid (Mid lo hi w wr) ∧ Hid (∀ d m, d < w.heap.size → w.there d 0 m → wr.there d 0 m) ∧ Hid (∀ i (hi : i < xs.length), j ≤ i → TxO (hf i) wr B (i * 3) xs[i] (cf i))) (fun _ ti _ => n - (intOf ti).toNat)
  case atStart => exact ⟨0, k0, rfl, rfl, Nat.zero_le _, by omega, by omega, hid (mid_refl _ _ _), hid (fun _ _ _ h => h), hid (fun i hi _ => (HW1.out i hi).1)⟩
  case round =>
    obtain ⟨j, k, rfl, rfl, hj, hk0, hk1, HM, HT, HX⟩ := hrel
    by_cases hlt : j < n
    · have c1 : (j : Int) < (n : Int) := by omega
      have hjr : j < xs.length := by rw [HN.out]; exact hlt
      obtain ⟨q0, q1, q2, q3⟩ := HX.out j hjr (Nat.le_refl _)
      have hle := (HW1.out j hjr).2
      have HLJ := hid (HL.out j hjr)
      have HW3 : Hid (∀ i (h : i < xs.length), j + 1 ≤ i → hf i ≤ hi ∧ hf j ≤ cf i) := hid (fun i h h' => ⟨(HW1.out i h).2, HW2.out j i (by omega) h⟩)
      generalize hxc : xs[j].2.2 = xc at *
      generalize cf j = cj at *
      generalize hf j = hj' at *
      have hk2 : k ≤ 3400000000000000000 := by omega
      have hT := HT.out _ _ (by omega) HTT.out
      obtain ⟨u0, z0, y0⟩ := there_at hT (show j * 3 < n * 3 by omega)
      obtain ⟨u1, z1, y1⟩ := there_at hT (show j * 3 + 1 < n * 3 by omega)
      have z1' : ∀ a0, (wr.setCell ⟨B, j * 3, none⟩ a0).cell? ⟨B, j * 3 + 1, none⟩ = some u1 := fun a0 => by rw [World.cell?_setCell_other _ _ _ _ (by simp)]; exact z1
      have z2' : ∀ a0 a1, ((wr.setCell ⟨B, j * 3, none⟩ a0).setCell ⟨B, j * 3 + 1, none⟩ a1).cell? ⟨B, j * 3 + 2, none⟩ = some (.slice (some ⟨cj, 0, none⟩) xc.length xc.length) := fun a0 a1 => by rw [World.cell?_setCell_other _ _ _ _ (by simp), World.cell?_setCell_other _ _ _ _ (by simp)]; exact q0
      have y1' : ∀ a0, (wr.setCell ⟨B, j * 3, none⟩ a0).frozen? ⟨B, j * 3 + 1, none⟩ = false := fun a0 => by rw [World.frozen?_setCell]; exact y1
      have HM3 := hid (fun a0 a1 => (mid_set (mid_set HM.out hlo hBh a0) hlo hBh a1 : Mid lo hi w ((wr.setCell ⟨B, j * 3, none⟩ a0).setCell ⟨B, j * 3 + 1, none⟩ a1)))
      have HT3 := hid (fun a0 a1 d m (h' : d < w.heap.size) (h : w.there d 0 m) => (there_set (there_set (HT.out d m h' h) a0) a1 : ((wr.setCell ⟨B, j * 3, none⟩ a0).setCell ⟨B, j * 3 + 1, none⟩ a1).there d 0 m))
      have HQ3 := hid (fun a0 a1 => ((q3.set (by omega) a0).set (by omega) a1 : ChsO hj' ((wr.setCell ⟨B, j * 3, none⟩ a0).setCell ⟨B, j * 3 + 1, none⟩ a1) cj xc))
      have HX3 := hid (fun a0 a1 i (h : i < xs.length) (h' : j + 1 ≤ i) => (((HX.out i h (by omega)).set (.inr ⟨rfl, by omega⟩) a0).set (.inr ⟨rfl, by omega⟩) a1 : TxO (hf i) ((wr.setCell ⟨B, j * 3, none⟩ a0).setCell ⟨B, j * 3 + 1, none⟩ a1) B (i * 3) xs[i] (cf i)))
      have hws := HM.out.2.2.2.1
      clear hT z1 y1 HM HT HX q3 q0
      go_wp2_with fail
      refine (mark_chs cj hj' cj xc (k + 1 + 1) _ (Nat.le_refl _) q2 (by simp only [World.size_setCell]; omega) HLJ.out (by omega) (by omega) (HQ3.out _ _)).mono ?_
      rintro e w1 ⟨⟨v, rfl, hv0, hv1⟩, hg, hth⟩
      have HM5 := hid (mid_trans (HM3.out _ _) (mid_wide hg (by omega) hle))
      have HT5 := hid (fun d m (h' : d < w.heap.size) (h : w.there d 0 m) => hth d m (by simp only [World.size_setCell]; omega) (HT3.out _ _ d m h' h))
      have HX5 : Hid (∀ i (h : i < xs.length), j + 1 ≤ i → TxO (hf i) w1 B (i * 3) xs[i] (cf i)) := hid (fun i h h' => by
        have e1 := HW3.out i h h'
        exact (HX3.out _ _ i h h').mid hg hth (by simp only [World.size_setCell]; omega) (.inl q1) e1.2)
      clear hg hth HM3 HT3 HX3 HQ3 z0 z1' z2' y0 y1'
      go_wp2_with fail
      go_roundw
      case rel => exact ⟨j + 1, _, by go_num, rfl, by omega, by omega, by omega, HM5, HT5, HX5⟩
      case measure => simp [intOf]; omega
    · have c1 : (n : Int) ≤ (j : Int) := by omega
      go_wp2_with fail
      go_ret
      exact ⟨⟨_, rfl, hk0⟩, HM.out, HT.out⟩
set_option maxRecDepth 100000 in
set_option maxHeartbeats 2000000 in
theorem mark_rowSB (lo hi B : Nat) (rs : List Rw) (w : World) (hlo : lo ≤ B) (hBh : B < hi) (hih : hi ≤ w.heap.size) (hm : rs.length ≤ 1048576) (hl : ∀ m (h : m < rs.length), rs[m].2.2.2.2.length ≤ 1048576) (ht : w.there B 0 (rs.length * 5)) (ho : RwsO hi w B rs) : Calls Tryz.prog 33 #[.slice (some ⟨B, 0, none⟩) rs.length rs.length, .int .i64 1] w fun e w' => (∃ v : Int, e = .returned (.int .i64 v) ∧ 0 ≤ v ∧ v ≤ 2199027449858) ∧ Mid lo hi w w' ∧ (∀ d m, d < w.heap.size → w.there d 0 m → w'.there d 0 m) := by
  have HL := hid hl
  have HO := hid ho
  clear hl ho
  obtain ⟨n, hn⟩ : ∃ n, n = rs.length := ⟨_, rfl⟩
  have HN := hid hn.symm
  rw [← hn] at hm ht ⊢
  clear hn
  have HTT := hid ht
  clear ht
  go_enter Tryz.func33, Tryz.ntmps33
  go_wp2_with fail
  go_loopw [1, 5] (fun tk' ti wr => ∃ j : Nat, ∃ k : Int, ti = .int .i64 j ∧ tk' = .int .i64 k ∧ j ≤ n ∧ 0 ≤ k ∧ k ≤ 1 + (j : Int) * 2097156 ∧ Hid (Mid lo hi w wr) ∧ Hid (∀ d m, w.there d 0 m → wr.there d 0 m) ∧ Hid (∀ i, j ≤ i → i < n → wr.cell? ⟨B, i * 5 + 4, none⟩ = w.cell? ⟨B, i * 5 + 4, none⟩)) (fun _ ti _ => n - (intOf ti).toNat)
  case atStart => exact ⟨0, 1, rfl, rfl, Nat.zero_le _, by omega, by omega, hid (mid_refl _ _ _), hid (fun _ _ h => h), hid (fun _ _ _ => rfl)⟩
  case round =>
    obtain ⟨j, k, rfl, rfl, hj, hk0, hk1, HM, HT, HC⟩ := hrel
    by_cases hlt : j < n
    · have c1 : (j : Int) < (n : Int) := by omega
      have hjr : j < rs.length := by rw [HN.out]; exact hlt
      obtain ⟨c, q0, q1, q2, q3⟩ := HO.out j hjr
      have hnp := HL.out j hjr
      generalize rs[j].2.2.2.2.length = np at *
      have hk2 : k ≤ 2199027449858 := by omega
      have hT := HT.out _ _ HTT.out
      rw [← HC.out j (Nat.le_refl _) hlt] at q0
      obtain ⟨u0, z0, y0⟩ := there_at hT (show j * 5 < n * 5 by omega)
      obtain ⟨u1, z1, y1⟩ := there_at hT (show j * 5 + 1 < n * 5 by omega)
      obtain ⟨u2, z2, y2⟩ := there_at hT (show j * 5 + 2 < n * 5 by omega)
      obtain ⟨u3, z3, y3⟩ := there_at hT (show j * 5 + 3 < n * 5 by omega)
      have z1' : (wr.setCell ⟨B, j * 5, none⟩ (.int .i64 k)).cell? ⟨B, j * 5 + 1, none⟩ = some u1 := by
        rw [World.cell?_setCell_other _ _ _ _ (by simp)]; exact z1
      have z2' : ((wr.setCell ⟨B, j * 5, none⟩ (.int .i64 k)).setCell ⟨B, j * 5 + 1, none⟩ (.int .i64 (k + 1))).cell? ⟨B, j * 5 + 2, none⟩ = some u2 := by
        rw [World.cell?_setCell_other _ _ _ _ (by simp), World.cell?_setCell_other _ _ _ _ (by simp)]; exact z2
      have z3' : (((wr.setCell ⟨B, j * 5, none⟩ (.int .i64 k)).setCell ⟨B, j * 5 + 1, none⟩ (.int .i64 (k + 1))).setCell ⟨B, j * 5 + 2, none⟩ (.int .i64 (k + 1 + 1))).cell? ⟨B, j * 5 + 3, none⟩ = some u3 := by
        rw [World.cell?_setCell_other _ _ _ _ (by simp), World.cell?_setCell_other _ _ _ _ (by simp), World.cell?_setCell_other _ _ _ _ (by simp)]; exact z3
      have z4' : ((((wr.setCell ⟨B, j * 5, none⟩ (.int .i64 k)).setCell ⟨B, j * 5 + 1, none⟩ (.int .i64 (k + 1))).setCell ⟨B, j * 5 + 2, none⟩ (.int .i64 (k + 1 + 1))).setCell ⟨B, j * 5 + 3, none⟩ (.int .i64 (k + 1 + 1 + 1))).cell? ⟨B, j * 5 + 4, none⟩ = some (.slice (some ⟨c, 0, none⟩) np np) := by
        rw [World.cell?_setCell_other _ _ _ _ (by simp), World.cell?_setCell_other _ _ _ _ (by simp), World.cell?_setCell_other _ _ _ _ (by simp), World.cell?_setCell_other _ _ _ _ (by simp)]; exact q0
      have y1' : (wr.setCell ⟨B, j * 5, none⟩ (.int .i64 k)).frozen? ⟨B, j * 5 + 1, none⟩ = false := by rw [World.frozen?_setCell]; exact y1
      have y2' : ((wr.setCell ⟨B, j * 5, none⟩ (.int .i64 k)).setCell ⟨B, j * 5 + 1, none⟩ (.int .i64 (k + 1))).frozen? ⟨B, j * 5 + 2, none⟩ = false := by rw [World.frozen?_setCell, World.frozen?_setCell]; exact y2
      have y3' : (((wr.setCell ⟨B, j * 5, none⟩ (.int .i64 k)).setCell ⟨B, j * 5 + 1, none⟩ (.int .i64 (k + 1))).setCell ⟨B, j * 5 + 2, none⟩ (.int .i64 (k + 1 + 1))).frozen? ⟨B, j * 5 + 3, none⟩ = false := by rw [World.frozen?_setCell, World.frozen?_setCell, World.frozen?_setCell]; exact y3
      have hsz : c < ((((wr.setCell ⟨B, j * 5, none⟩ (.int .i64 k)).setCell ⟨B, j * 5 + 1, none⟩ (.int .i64 (k + 1))).setCell ⟨B, j * 5 + 2, none⟩ (.int .i64 (k + 1 + 1))).setCell ⟨B, j * 5 + 3, none⟩ (.int .i64 (k + 1 + 1 + 1))).heap.size := by
        have := HM.out.2.2.2.1
        simp only [World.size_setCell]; omega
      have hM4 : Mid lo hi w ((((wr.setCell ⟨B, j * 5, none⟩ (.int .i64 k)).setCell ⟨B, j * 5 + 1, none⟩ (.int .i64 (k + 1))).setCell ⟨B, j * 5 + 2, none⟩ (.int .i64 (k + 1 + 1))).setCell ⟨B, j * 5 + 3, none⟩ (.int .i64 (k + 1 + 1 + 1))) := mid_set (mid_set (mid_set (mid_set HM.out hlo hBh _) hlo hBh _) hlo hBh _) hlo hBh _
      have hT4 : ∀ d m, w.there d 0 m → ((((wr.setCell ⟨B, j * 5, none⟩ (.int .i64 k)).setCell ⟨B, j * 5 + 1, none⟩ (.int .i64 (k + 1))).setCell ⟨B, j * 5 + 2, none⟩ (.int .i64 (k + 1 + 1))).setCell ⟨B, j * 5 + 3, none⟩ (.int .i64 (k + 1 + 1 + 1))).there d 0 m := fun d m h => there_set (there_set (there_set (there_set (HT.out d m h) _) _) _) _
      have hC4 : ∀ i, j + 1 ≤ i → i < n → ((((wr.setCell ⟨B, j * 5, none⟩ (.int .i64 k)).setCell ⟨B, j * 5 + 1, none⟩ (.int .i64 (k + 1))).setCell ⟨B, j * 5 + 2, none⟩ (.int .i64 (k + 1 + 1))).setCell ⟨B, j * 5 + 3, none⟩ (.int .i64 (k + 1 + 1 + 1))).cell? ⟨B, i * 5 + 4, none⟩ = w.cell? ⟨B, i * 5 + 4, none⟩ := fun i h1 h2 => by
        rw [World.cell?_setCell_other _ _ _ _ (by intro e; injection e; omega), World.cell?_setCell_other _ _ _ _ (by intro e; injection e; omega), World.cell?_setCell_other _ _ _ _ (by intro e; injection e; omega), World.cell?_setCell_other _ _ _ _ (by intro e; injection e; omega)]
        exact HC.out i (by omega) h2
      have HM4 := hid hM4
      have HT4 := hid hT4
      have HC4 := hid hC4
      have MP := hid (mark_ptsN _ c np (k + 1 + 1 + 1 + 1) (by omega) (by omega) hnp hsz (hT4 _ _ q3))
      clear hM4 hT4 hC4 q0 q3 hT z1 z2 z3 y1 y2 y3 HM HT HC
      go_wp2_with fail
      refine MP.out.mono ?_
      rintro e w1 ⟨rfl, hg, hth⟩
      have HM5 := hid (mid_grown HM4.out hg (by omega) q2)
      have HT5 := hid (fun d m (h : w.there d 0 m) => hth d m (HT4.out d m h))
      have HC5 : Hid (∀ i, j + 1 ≤ i → i < n → w1.cell? ⟨B, i * 5 + 4, none⟩ = w.cell? ⟨B, i * 5 + 4, none⟩) := hid (fun i h1 h2 => by
        rw [← HC4.out i h1 h2]
        have hBs : B < ((((wr.setCell ⟨B, j * 5, none⟩ (.int .i64 k)).setCell ⟨B, j * 5 + 1, none⟩ (.int .i64 (k + 1))).setCell ⟨B, j * 5 + 2, none⟩ (.int .i64 (k + 1 + 1))).setCell ⟨B, j * 5 + 3, none⟩ (.int .i64 (k + 1 + 1 + 1))).heap.size := by omega
        have := hg.block B hBs (by intro e; injection e; omega)
        simp only [World.cell?, this])
      clear hg hth MP HM4 HT4 HC4 hsz
      go_wp2_with fail
      go_roundw
      case rel => exact ⟨j + 1, _, by go_num, rfl, by omega, by omega, by omega, HM5, HT5, HC5⟩
      case measure => simp [intOf]; omega
    · have c1 : (n : Int) ≤ (j : Int) := by omega
      go_wp2_with fail
      go_ret
      exact ⟨⟨_, rfl, hk0, by omega⟩, HM.out, fun d m _ h => HT.out d m h⟩
set_option maxHeartbeats 400000 in
theorem mark_rowsB (lo hi B : Nat) (now : Int) (rs : List Rw) (w : World) (hlo : lo ≤ B) (hBh : B < hi) (hih : hi ≤ w.heap.size) (hm : rs.length ≤ 1048576) (hl : ∀ m (h : m < rs.length), rs[m].2.2.2.2.length ≤ 1048576) (ht : w.there B 0 (rs.length * 5)) (ho : RwsO hi w B rs) : Calls Tryz.prog 11 #[.agg #[.int .i64 now, .slice (some ⟨B, 0, none⟩) rs.length rs.length], .int .i64 1] w fun e w' => (∃ v : Int, e = .returned (.int .i64 v) ∧ 0 ≤ v ∧ v ≤ 2199027449858) ∧ Mid lo hi w w' ∧ (∀ d m, d < w.heap.size → w.there d 0 m → w'.there d 0 m) := by
  have hB : Below w.heap.size w (w.alloc (.cells #[.int .i64 now, .slice (some ⟨B, 0, none⟩) rs.length rs.length] 28)) := balloc (Below.refl _ _) _
  have HM := hid (mark_rowSB lo hi B rs _ hlo hBh (Nat.le_trans hih hB.size) hm hl (there_below ht (by omega) hB) (ho.below hih hB))
  clear ht ho hl
  go_enter Tryz.func11, Tryz.ntmps11
  go_wp2_with fail
  refine HM.out.mono ?_
  rintro e w1 ⟨⟨v, rfl, hv, hv'⟩, hmid, hth⟩
  have HTH := hid (fun d m (h' : d < w.heap.size) (h : w.there d 0 m) => hth d m (Nat.lt_of_lt_of_le h' hB.size) (there_below h h' hB))
  have HMM := hid (mid_trans (mid_below hB) hmid)
  clear hmid hth
  go_wp2_with fail
  go_ret
  exact ⟨⟨_, rfl, hv, hv'⟩, HMM.out, HTH.out⟩
set_option maxRecDepth 100000 in
set_option maxHeartbeats 2000000 in
theorem mark_store (lo hi hR B T : Nat) (now : Int) (rs : List Rw) (ts : List Tx) (w : World) (hlo : lo ≤ B) (hB1 : B < hR) (hB2 : hR ≤ T) (hTh : T < hi) (hih : hi ≤ w.heap.size) (hm : rs.length ≤ 1048576) (hl : ∀ m (h : m < rs.length), rs[m].2.2.2.2.length ≤ 1048576) (hs : txS ts) (hth : w.there B 0 (rs.length * 5)) (hro : RwsO hR w B rs) (hto : TxsO hi w T ts) : Calls Tryz.prog 18 #[.agg #[.int .i64 now, .slice (some ⟨B, 0, none⟩) rs.length rs.length, .slice (some ⟨T, 0, none⟩) ts.length ts.length], .int .i64 1] w fun e w' => (∃ v : Int, e = .returned (.int .i64 v) ∧ 0 ≤ v) ∧ Mid lo hi w w' := by
  have HR := hid (fun (W : World) (hb : Below w.heap.size w W) => mark_rowsB lo hR B now rs W hlo hB1 (by have := hb.size; omega) hm hl (there_below hth (by omega) hb) (hro.below (by omega) hb))
  have HT := hid (fun (W W' : World) (v : Int) (hb : Below w.heap.size w W) (hd : Mid lo hR W W') (ht : ∀ d m, d < W.heap.size → W.there d 0 m → W'.there d 0 m) (hv0 : 0 ≤ v) (hv1 : v ≤ 2199027449858) => mark_txs lo hi T ts v W' (by omega) hTh (by have := hb.size; have := hd.2.2.2.1; omega) hs hv0 (by omega) ((hto.below (by omega) hih hb).mid hd ht (by have := hb.size; omega) (by have := hb.size; omega) hB2))
  clear hth hro hto hl hs
  generalize rs.length = n at *
  generalize ts.length = tn at *
  have hB0 : Below w.heap.size w (w.alloc (.cells #[.int .i64 now, .slice (some ⟨B, 0, none⟩) n n, .slice (some ⟨T, 0, none⟩) tn tn] 40)) := balloc (Below.refl _ _) _
  have g0 := new_alloc w w.heap.size (.cells #[.int .i64 now, .slice (some ⟨B, 0, none⟩) n n, .slice (some ⟨T, 0, none⟩) tn tn] 40) rfl
  have hsz : w.heap.size < (w.alloc (.cells #[.int .i64 now, .slice (some ⟨B, 0, none⟩) n n, .slice (some ⟨T, 0, none⟩) tn tn] 40)).heap.size := by simp
  go_enter Tryz.func18, Tryz.ntmps18
  go_upto_region 1 with fail
  generalize w.alloc (.cells #[.int .i64 now, .slice (some ⟨B, 0, none⟩) n n, .slice (some ⟨T, 0, none⟩) tn tn] 40) = W0 at *
  obtain ⟨⟨d0, d1, d2⟩, _⟩ := cellk3 g0
  have HR0 := hid (HR.out W0 hB0)
  clear g0 HR
  go_wp2_with fail
  refine HR0.out.mono ?_
  rintro e w1 ⟨⟨v, rfl, hv0, hv1⟩, hmid, hth⟩
  have d2' := mid_cell hmid d2 (.inr (by omega))
  have HT0 := hid (HT.out W0 w1 v hB0 hmid hth hv0 hv1)
  have HM1 := hid (mid_trans (mid_below hB0 : Mid lo hi w W0) (mid_wide hmid (Nat.le_refl _) (by omega)))
  clear d0 d1 d2 HT HR0 hmid hth hB0
  go_wp2_with fail
  refine HT0.out.mono ?_
  rintro e w2 ⟨⟨v2, rfl, hv2⟩, hmid2, _⟩
  have HM2 := hid (mid_trans HM1.out hmid2)
  clear hmid2 HM1 HT0 d2'
  go_wp2_with fail
  go_ret
  exact ⟨⟨_, rfl, hv2⟩, HM2.out⟩
end Go.Proofs.YtjhnfbefgjoiiaaGreat
namespace Go.Proofs.YtjhnfbefgjoiiaaGreat
open Go.RowKit
set_option linter.unusedSimpArgs false
set_option linter.unusedVariables false
/-- A kind of element: its cells, with the value in the last one, and what is said of that value and its blocks. -/
structure Kd (α : Type) where
  sz : Nat
  vals : α → Value → List Value
  sub : Nat → Nat → World → Value → α → Prop
  len : ∀ x v, (vals x v).length = sz
  one : ∀ {lo up : Nat} {w : World} {v : Value} {x : α}, sub lo up w v x → ∀ u ∈ vals x v, u.oneCell' = true
  frame : ∀ {lo up : Nat} {w w' : World} {v : Value} {x : α}, sub lo up w v x → (∀ c, lo ≤ c → c < up → w'.heap[c]? = w.heap[c]?) → w.heap.size ≤ w'.heap.size → sub lo up w' v x
  top : ∀ {lo up : Nat} {w : World} {v : Value} {x : α}, sub lo up w v x → up ≤ w.heap.size
def flatK {α : Type} (K : Kd α) (ps : List (α × Value)) : List Value := ps.flatMap (fun p => K.vals p.1 p.2)
theorem flatK_snoc {α : Type} (K : Kd α) (ps : List (α × Value)) (p : α × Value) : flatK K (ps ++ [p]) = flatK K ps ++ K.vals p.1 p.2 := by simp [flatK]
theorem flatK_len {α : Type} (K : Kd α) (ps : List (α × Value)) : (flatK K ps).length = ps.length * K.sz := by
  induction ps with
  | nil => simp [flatK]
  | cons x r ih =>
    show (K.vals x.1 x.2 ++ flatK K r).length = _
    rw [List.length_append, ih, K.len, List.length_cons, Nat.succ_mul]
    omega
theorem flatX_at {α : Type} (K : Kd α) : ∀ (ps : List (α × Value)) (j t : Nat) (h : j < ps.length), t < K.sz → (flatK K ps)[j * K.sz + t]? = (K.vals ps[j].1 ps[j].2)[t]?
  | [], j, t, h, _ => by simp at h
  | x :: r, 0, t, h, ht => by
    show (K.vals x.1 x.2 ++ flatK K r)[0 * K.sz + t]? = _
    rw [Nat.zero_mul, Nat.zero_add, List.getElem?_append_left (by rw [K.len]; exact ht)]
    rfl
  | x :: r, j + 1, t, h, ht => by
    have ih := flatX_at K r j t (by simpa using h) ht
    show (K.vals x.1 x.2 ++ flatK K r)[(j + 1) * K.sz + t]? = _
    rw [List.getElem?_append_right (by rw [K.len, Nat.succ_mul]; omega), K.len, show (j + 1) * K.sz + t - K.sz = j * K.sz + t by rw [Nat.succ_mul]; omega, ih]
    rfl
/-- A list as the call makes it. -/
def LX {α : Type} (K : Kd α) (t : TypeId) (base hi : Nat) (w : World) (v : Value) (xs : List α) (ps : List (α × Value)) : Prop :=
  ps.map Prod.fst = xs ∧ w.ownsRow base t K.sz v xs.length (flatK K ps) ∧ (∀ g, v.ownBlock = some g → g < hi) ∧ hi ≤ w.heap.size ∧
  ∃ lo up : Nat → Nat, (∀ j (h : j < ps.length), K.sub (lo j) (up j) w ps[j].2 ps[j].1 ∧ base ≤ lo j ∧ up j ≤ hi ∧ (∀ g, v.ownBlock = some g → g < lo j ∨ up j ≤ g)) ∧ (∀ i j, i < j → j < ps.length → up i ≤ lo j)
theorem LX.plen {α : Type} {K : Kd α} {t : TypeId} {base hi : Nat} {w : World} {v : Value} {xs : List α} {ps : List (α × Value)} (h : LX K t base hi w v xs ps) : ps.length = xs.length := by
  have := congrArg List.length h.1
  simpa using this
theorem LX.frame {α : Type} {K : Kd α} {t : TypeId} {base hi : Nat} {w w' : World} {v : Value} {xs : List α} {ps : List (α × Value)} (h : LX K t base hi w v xs ps) (hb : ∀ c, base ≤ c → c < hi → w'.heap[c]? = w.heap[c]?) (hs : w.heap.size ≤ w'.heap.size) : LX K t base hi w' v xs ps := by
  obtain ⟨h1, h2, h3, h4, lo, up, h5, h6⟩ := h
  refine ⟨h1, own_frame h2 (fun g e => hb g (h2.lt g e).1 (h3 g e)), h3, by omega, lo, up, fun j hj => ?_, h6⟩
  obtain ⟨a1, a2, a3, a4⟩ := h5 j hj
  exact ⟨K.frame a1 (fun c c1 c2 => hb c (by omega) (by omega)) hs, a2, a3, a4⟩
theorem LX.below {α : Type} {K : Kd α} {t : TypeId} {base hi : Nat} {w w' : World} {v : Value} {xs : List α} {ps : List (α × Value)} (h : LX K t base hi w v xs ps) (H : Below w.heap.size w w') : LX K t base hi w' v xs ps :=
  h.frame (fun c _ h2 => H.block c (by have := h.2.2.2.1; omega)) H.size
theorem LX.mono {α : Type} {K : Kd α} {t : TypeId} {base base' hi hi' : Nat} {w : World} {v : Value} {xs : List α} {ps : List (α × Value)} (h : LX K t base hi w v xs ps) (hb : base' ≤ base) (hh : hi ≤ hi') (hs : hi' ≤ w.heap.size) : LX K t base' hi' w v xs ps := by
  obtain ⟨h1, h2, h3, h4, lo, up, h5, h6⟩ := h
  refine ⟨h1, ⟨h2.1, ?_⟩, fun g e => by have := h3 g e; omega, hs, lo, up, fun j hj => ?_, h6⟩
  · rcases h2.2 with q | ⟨g, cc, cur, e1, q1, q2, q3⟩
    · exact .inl q
    · exact .inr ⟨g, cc, cur, e1, by omega, q2, q3⟩
  · obtain ⟨a1, a2, a3, a4⟩ := h5 j hj
    exact ⟨a1, by omega, by omega, a4⟩
theorem LX.nil {α : Type} {K : Kd α} {t : TypeId} {base hi : Nat} {w : World} {v : Value} (h : w.ownsRow base t K.sz v 0 []) (h3 : ∀ g, v.ownBlock = some g → g < hi) (h4 : hi ≤ w.heap.size) : LX K t base hi w v [] [] :=
  ⟨rfl, by simpa [flatK] using h, h3, h4, fun _ => 0, fun _ => 0, fun j hj => absurd hj (by simp), fun i j _ hj => absurd hj (by simp)⟩
theorem LX.snoc {α : Type} {K : Kd α} {t : TypeId} {base hi : Nat} {W w' : World} {v : Value} {xs : List α} {ps : List (α × Value)} {x : α} {sv : Value} {l u g cap : Nat} (h : LX K t base hi W v xs ps) (hl : hi ≤ l) (hbl : base ≤ l) (hsub : K.sub l u W sv x)
    (hown : w'.ownsRow base t K.sz (.slice (some ⟨g, 0, none⟩) (xs.length + 1) cap) (xs.length + 1) (flatK K ps ++ K.vals x sv)) (hg : W.grownBy w' v.ownBlock) (hat : v.ownBlock = some g ∨ g = W.heap.size) (hlt : g < w'.heap.size) :
    LX K t base w'.heap.size w' (.slice (some ⟨g, 0, none⟩) (xs.length + 1) cap) (xs ++ [x]) (ps ++ [(x, sv)]) := by
  have hpl := h.plen
  obtain ⟨h1, h2, h3, h4, lo, up, h5, h6⟩ := h
  have hu := K.top hsub
  have hsz := hg.size
  have hfr : ∀ c, c < W.heap.size → v.ownBlock ≠ some c → w'.heap[c]? = W.heap[c]? := fun c hc hne => hg.block c hc (fun e => hne e.symm)
  refine ⟨by simp [h1], by rw [flatK_snoc, List.length_append]; exact hown, fun g' e => by simp [Value.ownBlock] at e; omega, Nat.le_refl _, fun j => if j = ps.length then l else lo j, fun j => if j = ps.length then u else up j, fun j hj => ?_, fun i j hij hj => ?_⟩
  · by_cases e : j = ps.length
    · subst e
      simp only [if_true]
      have er : (ps ++ [(x, sv)])[ps.length]'(by simp) = (x, sv) := by simp
      rw [er]
      refine ⟨K.frame hsub (fun c c1 c2 => hfr c (by omega) (fun e => by have := h3 c e; omega)) hsz, hbl, by omega, fun g' e => ?_⟩
      simp [Value.ownBlock] at e
      rcases hat with q | q
      · have := h3 g q; omega
      · omega
    · have hjl : j < ps.length := by simp at hj; omega
      simp only [if_neg e]
      have er : (ps ++ [(x, sv)])[j]'(by simpa using hj) = ps[j] := by rw [List.getElem_append_left hjl]
      rw [er]
      obtain ⟨a1, a2, a3, a4⟩ := h5 j hjl
      refine ⟨K.frame a1 (fun c c1 c2 => hfr c (by omega) (fun e => by have := a4 c e; omega)) hsz, a2, by omega, fun g' e => ?_⟩
      simp [Value.ownBlock] at e
      rcases hat with q | q
      · have := a4 g q; omega
      · omega
  · have hil : i < ps.length := by simp at hj; omega
    simp only [if_neg (show i ≠ ps.length by omega)]
    by_cases e : j = ps.length
    · simp only [if_pos e]
      obtain ⟨_, _, a3, _⟩ := h5 i hil
      omega
    · simp only [if_neg e]
      exact h6 i j hij (by simp at hj; omega)
/-- An element at its place. -/
def ElX {α : Type} (K : Kd α) (w : World) (g i : Nat) (x : α) (s : Value) (lo up : Nat) : Prop :=
  (∀ t, t < K.sz → w.cell? ⟨g, i * K.sz + t, none⟩ = (K.vals x s)[t]?) ∧ K.sub lo up w s x
/-- A list in memory of its own, cell by cell. -/
def LC {α : Type} (K : Kd α) (base hi : Nat) (w : World) (v : Value) (xs : List α) : Prop :=
  hi ≤ w.heap.size ∧ ((xs = [] ∧ v = .slice none 0 0) ∨ ∃ (g cap : Nat) (ss : Nat → Value) (lo up : Nat → Nat), v = .slice (some ⟨g, 0, none⟩) xs.length cap ∧ xs.length ≤ cap ∧ base ≤ g ∧ g < hi ∧ w.there g 0 (xs.length * K.sz) ∧
  (∀ j (h : j < xs.length), ElX K w g j xs[j] (ss j) (lo j) (up j) ∧ base ≤ lo j ∧ up j ≤ hi ∧ (g < lo j ∨ up j ≤ g)) ∧ (∀ i j, i ≠ j → i < xs.length → j < xs.length → up i ≤ lo j ∨ up j ≤ lo i))
theorem LX.lc {α : Type} {K : Kd α} {t : TypeId} {base hi : Nat} {w : World} {v : Value} {xs : List α} {ps : List (α × Value)} (h : LX K t base hi w v xs ps) : LC K base hi w v xs := by
  have hpl := h.plen
  obtain ⟨h1, h2, h3, h4, lo, up, h5, h6⟩ := h
  refine ⟨h4, ?_⟩
  have h2' := h2
  rcases h2.2 with ⟨q, hn⟩ | ⟨g, cap, cur, rfl, hb, hg, hc, _⟩
  · left
    exact ⟨List.length_eq_zero_iff.1 hn, q⟩
  · right
    refine ⟨g, cap, fun j => if h : j < ps.length then (ps[j]'h).2 else .bool false, lo, up, rfl, hc, hb, h3 g rfl, fun j hj => ?_, fun j hj => ?_, fun i j hne hi' hj => (Nat.lt_or_gt_of_ne hne).elim (fun q => .inl (h6 i j q (by omega))) (fun q => .inr (h6 j i q (by omega)))⟩
    · simp only [Nat.zero_add]
      refine ⟨?_, World.ownsRow.frozenAt h2' j⟩
      rw [World.ownsRow.cellAt h2' j hj, List.getElem?_eq_getElem (by rw [flatK_len, hpl]; exact hj)]
      rfl
    · have hjp : j < ps.length := by omega
      obtain ⟨a1, a2, a3, a4⟩ := h5 j hjp
      have ex : xs[j] = (ps[j]).1 := by
        have : xs[j]? = (ps.map Prod.fst)[j]? := by rw [h1]
        rw [List.getElem?_map, List.getElem?_eq_getElem hj, List.getElem?_eq_getElem hjp] at this
        exact Option.some.inj this
      simp only [dif_pos hjp, ex]
      refine ⟨⟨fun t ht => ?_, a1⟩, a2, a3, a4 g rfl⟩
      have hlt : j * K.sz + t < xs.length * K.sz := by
        have : (j + 1) * K.sz ≤ xs.length * K.sz := Nat.mul_le_mul_right _ (by omega)
        rw [Nat.succ_mul] at this
        omega
      rw [World.ownsRow.cellAt h2' _ hlt, flatX_at K ps j t hjp ht]
theorem ElX.blk {α : Type} {K : Kd α} {w w' : World} {g i : Nat} {x : α} {s : Value} {lo up : Nat} (h : ElX K w g i x s lo up) (hg : w'.heap[g]? = w.heap[g]?) (hb : ∀ c, lo ≤ c → c < up → w'.heap[c]? = w.heap[c]?) (hs : w.heap.size ≤ w'.heap.size) : ElX K w' g i x s lo up :=
  ⟨fun t ht => by rw [World.cell?_of_block (w := w) hg]; exact h.1 t ht, K.frame h.2 hb hs⟩
theorem ElX.set {α : Type} {K : Kd α} {w : World} {g i k : Nat} {x : α} {s : Value} {lo up : Nat} (h : ElX K w g i x s lo up) (hg : g < lo ∨ up ≤ g) (hk : k < i * K.sz ∨ i * K.sz + K.sz ≤ k) (u : Value) : ElX K (w.setCell ⟨g, k, none⟩ u) g i x s lo up := by
  refine ⟨fun t ht => ?_, K.frame h.2 (fun c c1 c2 => Below.heap_setCell _ _ _ _ (by dsimp only; omega)) (by simp)⟩
  rw [World.cell?_setCell_other _ _ _ _ (by intro e; injection e; omega)]
  exact h.1 t ht
theorem ElX.mid {α : Type} {K : Kd α} {w w' : World} {g i : Nat} {x : α} {s : Value} {lo up l u : Nat} (h : ElX K w g i x s lo up) (m : Mid l u w w') (hgs : g < w.heap.size) (hg : g < l ∨ u ≤ g) (hd : up ≤ l ∨ u ≤ lo) : ElX K w' g i x s lo up := by
  have ht := K.top h.2
  exact h.blk (mid_blk m hgs hg) (fun c c1 c2 => mid_blk m (by omega) (by omega)) m.2.2.2.1
theorem LC.frame {α : Type} {K : Kd α} {base hi : Nat} {w w' : World} {v : Value} {xs : List α} (h : LC K base hi w v xs) (hb : ∀ c, base ≤ c → c < hi → w'.heap[c]? = w.heap[c]?) (hs : w.heap.size ≤ w'.heap.size) : LC K base hi w' v xs := by
  obtain ⟨h0, h⟩ := h
  refine ⟨by omega, ?_⟩
  rcases h with h | ⟨g, cap, ss, lo, up, e, h1, h2, h3, h4, h5, h6⟩
  · exact .inl h
  · have hg := hb g h2 h3
    refine .inr ⟨g, cap, ss, lo, up, e, h1, h2, h3, fun i hi' => ?_, fun j hj => ?_, h6⟩
    · have := h4 i hi'
      simp only [World.cell?, World.frozen?, hg] at this ⊢
      exact this
    · obtain ⟨a1, a2, a3, a4⟩ := h5 j hj
      exact ⟨a1.blk hg (fun c c1 c2 => hb c (by omega) (by omega)) hs, a2, a3, a4⟩
theorem LC.below {α : Type} {K : Kd α} {base hi : Nat} {w w' : World} {v : Value} {xs : List α} (h : LC K base hi w v xs) (H : Below w.heap.size w w') : LC K base hi w' v xs :=
  h.frame (fun c _ h2 => H.block c (by have := h.1; omega)) H.size
theorem LC.form {α : Type} {K : Kd α} {base hi : Nat} {w : World} {v : Value} {xs : List α} (h : LC K base hi w v xs) : ∃ a cap, v = .slice a xs.length cap ∧ xs.length ≤ cap ∧ (∀ c off, a = some ⟨c, off, none⟩ → base ≤ c ∧ c < hi) := by
  rcases h.2 with ⟨rfl, e⟩ | ⟨g, cap, ss, lo, up, e, h1, h2, h3, h4, h5, h6⟩
  · exact ⟨none, 0, e, by simp, fun c off e => by cases e⟩
  · exact ⟨_, cap, e, h1, fun c off e => by cases e; exact ⟨h2, h3⟩⟩
/-- The points of a change, in a block of their own. -/
def subC (lo up : Nat) (w : World) (v : Value) (x : Ch) : Prop := up ≤ w.heap.size ∧ ∃ c cp, v = .slice (some ⟨c, 0, none⟩) x.2.2.2.length cp ∧ x.2.2.2.length ≤ cp ∧ x.2.2.2.length ≤ 1099511627776 ∧ lo ≤ c ∧ c < up ∧ PtsOwn w c x.2.2.2
def KC : Kd Ch where
  sz := 4
  vals := fun x v => [.int .i64 x.1, .bool x.2.1, .int .i64 x.2.2.1, v]
  sub := subC
  len := fun _ _ => rfl
  one := by
    rintro lo up w v x ⟨_, c, cp, rfl, _⟩ u hu
    simp at hu
    rcases hu with rfl | rfl | rfl | rfl <;> rfl
  frame := by
    rintro lo up w w' v x ⟨h0, c, cp, e, h1, h2, h3, h4, h5⟩ hb hs
    exact ⟨by omega, c, cp, e, h1, h2, h3, h4, own_blk h5 (hb c h3 h4) (by omega)⟩
  top := fun h => h.1
def KT : Kd Tx where
  sz := 3
  vals := fun x v => [.int .i64 x.1, .bool x.2.1, v]
  sub := fun lo up w v x => LC KC lo up w v x.2.2
  len := fun _ _ => rfl
  one := by
    intro lo up w v x h u hu
    obtain ⟨a, cap, rfl, _⟩ := h.form
    simp at hu
    rcases hu with rfl | rfl | rfl <;> rfl
  frame := fun h hb hs => h.frame hb hs
  top := fun h => h.1
theorem LC.chs {base hi : Nat} {w : World} {a : Option Addr} {n cap : Nat} {xs : List Ch} (h : LC KC base hi w (.slice a n cap) xs) : Chs (fun c => base ≤ c ∧ c < hi) 1099511627776 w a xs := by
  obtain ⟨h0, h⟩ := h
  rcases h with ⟨rfl, _⟩ | ⟨g, cp, ss, lo, up, e, h1, h2, h3, h4, h5, h6⟩
  · exact .inl rfl
  · cases e
    refine .inr ⟨g, 0, rfl, by omega, fun j hj => ?_⟩
    obtain ⟨⟨b1, _, c, cq, e, b2, b3, b4, b5, b6⟩, a2, a3, a4⟩ := h5 j hj
    have k0 := b1 0 (by decide)
    have k1 := b1 1 (by decide)
    have k2 := b1 2 (by decide)
    have k3 := b1 3 (by decide)
    simp only [KC, e] at k0 k1 k2 k3
    rw [Nat.zero_add]
    exact ⟨_, _, k0, k1, k2, k3, b2, b3, b6.pts, fun c' off e' => by cases e'; omega⟩
theorem LC.txs {base hi : Nat} {w : World} {a : Option Addr} {n cap : Nat} {xs : List Tx} (h : LC KT base hi w (.slice a n cap) xs) (hm : ∀ j (h : j < xs.length), xs[j].2.2.length ≤ 1099511627776) : Txs (fun c => base ≤ c ∧ c < hi) 1099511627776 w a xs := by
  obtain ⟨h0, h⟩ := h
  rcases h with ⟨rfl, _⟩ | ⟨g, cp, ss, lo, up, e, h1, h2, h3, h4, h5, h6⟩
  · exact .inl rfl
  · cases e
    refine .inr ⟨g, 0, rfl, by omega, fun j hj => ?_⟩
    obtain ⟨⟨b1, b2⟩, a2, a3, a4⟩ := h5 j hj
    obtain ⟨a', cap', e, f1, f2⟩ := LC.form b2
    have k0 := b1 0 (by decide)
    have k1 := b1 1 (by decide)
    have k2 := b1 2 (by decide)
    simp only [KT, e] at k0 k1 k2
    rw [Nat.zero_add]
    rw [e] at b2
    have hc := LC.chs b2
    refine ⟨a', cap', k0, k1, k2, f1, hm j hj, ?_, fun c' off e' => by have := f2 c' off e'; omega⟩
    rcases hc with hc | ⟨b, o, e2, hb, hc⟩
    · exact .inl hc
    · refine .inr ⟨b, o, e2, hb, fun i hi' => ?_⟩
      obtain ⟨a4', cap4, q0, q1, q2, q3, q4, q5, q6, q7⟩ := hc i hi'
      exact ⟨a4', cap4, q0, q1, q2, q3, q4, q5, q6, fun c' off e' => by have := q7 c' off e'; omega⟩
def subR (lo up : Nat) (w : World) (v : Value) (x : Rw) : Prop := up ≤ w.heap.size ∧ ∃ c cp, v = .slice (some ⟨c, 0, none⟩) x.2.2.2.2.length cp ∧ x.2.2.2.2.length ≤ cp ∧ x.2.2.2.2.length ≤ 1099511627776 ∧ lo ≤ c ∧ c < up ∧ PtsOwn w c x.2.2.2.2
def KR : Kd Rw where
  sz := 5
  vals := fun x v => [.int .i64 x.1, .int .i64 x.2.1, .int .i64 x.2.2.1, .int .i64 x.2.2.2.1, v]
  sub := subR
  len := fun _ _ => rfl
  one := by
    rintro lo up w v x ⟨_, c, cp, rfl, _⟩ u hu
    simp at hu
    rcases hu with rfl | rfl | rfl | rfl | rfl <;> rfl
  frame := by
    rintro lo up w w' v x ⟨h0, c, cp, e, h1, h2, h3, h4, h5⟩ hb hs
    exact ⟨by omega, c, cp, e, h1, h2, h3, h4, own_blk h5 (hb c h3 h4) (by omega)⟩
  top := fun h => h.1
theorem LC.rws {base hi : Nat} {w : World} {a : Option Addr} {n cap : Nat} {xs : List Rw} (h : LC KR base hi w (.slice a n cap) xs) : Rws (fun _ => True) w a xs := by
  obtain ⟨h0, h⟩ := h
  rcases h with ⟨rfl, _⟩ | ⟨g, cp, ss, lo, up, e, h1, h2, h3, h4, h5, h6⟩
  · exact .inl rfl
  · cases e
    refine .inr ⟨g, 0, rfl, by omega, fun j hj => ?_⟩
    obtain ⟨⟨b1, _, c, cq, e, b2, b3, b4, b5, b6⟩, a2, a3, a4⟩ := h5 j hj
    have k0 := b1 0 (by decide)
    have k1 := b1 1 (by decide)
    have k2 := b1 2 (by decide)
    have k3 := b1 3 (by decide)
    have k4 := b1 4 (by decide)
    simp only [KR, e] at k0 k1 k2 k3 k4
    rw [Nat.zero_add]
    exact ⟨_, _, k0, k1, k2, k3, k4, b2, b3, b6.pts, fun c' off e' => trivial⟩
theorem RowsX.lc {base hi : Nat} {w : World} {v : Value} {rs : List Rw} {xs : List El} (h : RowsX base hi w v rs xs) : LC KR base hi w v rs := by
  have h0 := h.2.2.2.1
  refine ⟨h0, ?_⟩
  rcases h.rows with ⟨rfl, _, e⟩ | ⟨g, cp, e, h1, h2, h3, h4, h5, c, cpf, h6, h7⟩
  · exact .inl ⟨rfl, e⟩
  · refine .inr ⟨g, cp, fun j => if hj : j < rs.length then .slice (some ⟨c j, 0, none⟩) (rs[j]'hj).2.2.2.2.length (cpf j) else .bool false, c, fun j => c j + 1, e, h4, h1, h2, h5, fun j hj => ?_, fun i j hne hi' hj => ?_⟩
    · obtain ⟨⟨a0, a1, a2, a3, a4, a5⟩, b1, b2, b3, b4, b5⟩ := h6 j hj
      simp only [dif_pos hj]
      refine ⟨⟨fun t ht => ?_, by have := a5.1; omega, c j, cpf j, rfl, b1, b2, Nat.le_refl _, by omega, a5⟩, b3, by omega, by omega⟩
      rcases (show t = 0 ∨ t = 1 ∨ t = 2 ∨ t = 3 ∨ t = 4 by have : KR.sz = 5 := rfl; omega) with e | e | e | e | e <;> subst e
      · exact a0
      · exact a1
      · exact a2
      · exact a3
      · exact a4
    · rcases Nat.lt_or_gt_of_ne hne with q | q
      · have := h7 i j q hj; show c i + 1 ≤ c j ∨ c j + 1 ≤ c i; omega
      · have := h7 j i q hi'; show c i + 1 ≤ c j ∨ c j + 1 ≤ c i; omega
end Go.Proofs.YtjhnfbefgjoiiaaGreat
