/- The landed TreeSeen. -/
import Derived.Test.YtmdnelgnpponpaaFy
import Derived.Test.YtmdnelgnpponpaaIc
import Derived.Test.YtmdnelgnpponpaaGeo2
namespace Go.Proofs.Ytmdnelgnpponpaa
open Go.RowKit Go.Shelf
set_option linter.unusedSimpArgs false
set_option linter.unusedVariables false
attribute [local go_sem] Oper.semAt_some
theorem kns_gd (p : KT → Bool) : ∀ (d n : Nat) (top : Bool) (t : KT), gd d top t = true → d ≤ n + 1 → kns p n t = kns p (d - 1) t
  | 0, n, top, t, h, _ => by cases h
  | d + 1, n, top, t, h, hd => by
    obtain ⟨g1, g2, g3, g4⟩ := gd_parts h
    rcases g4 with ⟨hl, hk, h0, ha⟩ | ⟨hl, hi, hk, ha⟩
    · subst h0
      cases n with
      | zero => rfl
      | succ n =>
        show t :: (t.kids.filter p).flatMap (kns p n) = [t]
        rw [hk]; rfl
    · have hd0 : d ≠ 0 := fun e => by
        subst e
        cases hkk : t.kids with
        | nil => rw [hkk] at hk; exact absurd hk (by simp)
        | cons k r => rw [hkk] at ha; cases ha
      obtain ⟨d', rfl⟩ : ∃ d', d = d' + 1 := ⟨d - 1, by omega⟩
      obtain ⟨n', rfl⟩ : ∃ n', n = n' + 1 := ⟨n - 1, by omega⟩
      show t :: (t.kids.filter p).flatMap (kns p n') = t :: (t.kids.filter p).flatMap (kns p d')
      congr 1
      have hsame : ∀ k ∈ t.kids.filter p, kns p n' k = kns p d' k := fun k hk' => by
        have hm := (List.mem_filter.1 hk').1
        rw [List.all_eq_true] at ha
        exact kns_gd p (d' + 1) n' false k (ha k hm) (by omega)
      generalize t.kids.filter p = l at *
      clear ha hk hi
      induction l with
      | nil => rfl
      | cons x r ih =>
        rw [List.flatMap_cons, List.flatMap_cons, hsame x (by simp), ih (fun k hk => hsame k (by simp [hk]))]
theorem gd_kn {lo : Nat} : ∀ (d m : Nat) (top : Bool) {w : World} {ia ka : Option Addr} {t : KT}, gd d top t = true → Kn lo m w ia ka t → d ≤ m
  | 0, m, top, _, _, _, _, h, _ => Nat.zero_le _
  | d + 1, 0, top, _, _, _, _, _, h => h.elim
  | d + 1, m + 1, top, _, _, _, t, h, hk => by
    obtain ⟨g1, g2, g3, g4⟩ := gd_parts h
    obtain ⟨bi, bk, _, _, _, _, _, _, _, h8⟩ := hk
    rcases g4 with ⟨hl, hk, h0, ha⟩ | ⟨hl, hi, hk, ha⟩
    · omega
    · obtain ⟨ia', ka', _, q⟩ := h8 0 (by omega)
      rw [List.all_eq_true] at ha
      have := gd_kn d m false (ha _ (List.getElem_mem (by omega : 0 < t.kids.length))) q
      omega
theorem kns_tok {lo m : Nat} {w : World} {ia ka : Option Addr} {t : KT} (p : KT → Bool) (h : tokS t = true) (hk : Kn lo (m + 1) w ia ka t) : kns p m t = kns p 20 t := by
  obtain ⟨d, hg, h8, _, _⟩ := tok_gd h
  rw [kns_gd p d m true t hg (gd_kn d (m + 1) true hg hk), kns_gd p d 20 true t hg (by omega)]
/-- Where a round that uses nothing of its knot stands. -/
def SnAx (I : Nat → World → Prop) (TM : Value → Array Value) (k : Nat) (a' : Act) (X : World) : Prop := ∃ v : Value, I k X ∧ a' = { tmps := TM v, defers := [] }
set_option maxRecDepth 100000 in
set_option maxHeartbeats 8000000 in
theorem impl_TreeSeen (b : Bx) (m lo : Nat) (t : KT) (ia ka : Option Addr) (w : World) (h : Kn lo m w ia ka t) (hz : ksz m t ≤ 1048576) : Calls Try.prog 26 #[kvo t ia ka, .agg #[.int .i64 b.1, .int .i64 b.2.1, .int .i64 b.2.2.1, .int .i64 b.2.2.2]] w fun e w' => e = .returned (.int .i64 (if tokS t && bkb b then ((kns (pw b) 20 t).length : Int) else 0)) ∧ Below w.heap.size w w' := by
  have CT := hid (fun (W : World) (hb : Below w.heap.size w W) => impl_TreeOk m lo t ia ka W (h.below hb) hz)
  have CB := hid (fun (W : World) => impl_boxok b.1 b.2.1 b.2.2.1 b.2.2.2 W)
  change Hid (∀ W, Calls _ _ _ W (fun e w' => e = .returned (.bool (bkb b)) ∧ Below W.heap.size W w')) at CB
  have CL := hid (fun (W : World) => looked_c t ia t.its.length ka t.kids.length b W)
  change Hid (∀ W, Calls _ _ #[kvo t ia ka, _] W _) at CL
  have hnl := (kns_len b m 20 h).1
  have HSQ := hid (fun (W : World) (Bt Bb : Nat) (hb : Below w.heap.size w W) (hB : W.heap[Bt]? = some (.cells (ck t ia t.its.length ka t.kids.length).toArray 34 (0, 0))) => looked_seq 9 lo m b Bb (by omega) t ia ka w W Bt h hz hb hB)
  change Hid (∀ (W : World) (Bt Bb : Nat), Below w.heap.size w W → W.heap[Bt]? = _ → SeqN _ _ _ _ _ _ _ _ (kns (pw b) 20 t).length (KW lo w (kns (pw b) 20 t)) _ _) at HSQ
  obtain ⟨b0, b1, b2, b3, b4, ni, nk, hf⟩ := kf t
  have hck : ck t ia t.its.length ka t.kids.length = [.int .i64 b0, .int .i64 b1, .int .i64 b2, .int .i64 b3, .bool b4, .slice ia ni ni, .slice ka nk nk] := by
    obtain ⟨rfl, rfl, rfl, rfl, rfl, rfl, rfl⟩ := hf
    rfl
  rw [kvo_of hf] at CT CL ⊢
  rw [hck] at CL HSQ
  have hnk : (kns (pw b) 20 t).length ≤ 1048577 := by omega
  clear h hf hz hck hnl
  generalize tokS t = ok at *
  generalize hbo : bkb b = bo at *
  have HNK := hid hnk
  clear hnk hbo
  obtain ⟨e0, e1, e2, e3⟩ := b
  simp only [] at CB CL ⊢
  have gT := hid (old_alloc (o' := (.cells #[.int .i64 e0, .int .i64 e1, .int .i64 e2, .int .i64 e3] 30)) (new_alloc w w.heap.size (.cells #[.int .i64 b0, .int .i64 b1, .int .i64 b2, .int .i64 b3, .bool b4, .slice ia ni ni, .slice ka nk nk] 34) rfl))
  have gB := hid (new_alloc (w.alloc (.cells #[.int .i64 b0, .int .i64 b1, .int .i64 b2, .int .i64 b3, .bool b4, .slice ia ni ni, .slice ka nk nk] 34)) (w.heap.size + 1) (.cells #[.int .i64 e0, .int .i64 e1, .int .i64 e2, .int .i64 e3] 30) (by simp))
  have B0 := hid (balloc (balloc (Below.refl w.heap.size w) (.cells #[.int .i64 b0, .int .i64 b1, .int .i64 b2, .int .i64 b3, .bool b4, .slice ia ni ni, .slice ka nk nk] 34)) (.cells #[.int .i64 e0, .int .i64 e1, .int .i64 e2, .int .i64 e3] 30))
  rw [← callsIn_wide (n := 10)]
  refine callsIn_of_wp_marks Try.func26 rfl trivial ?_ rfl
  simp only [Try.ntmps26, List.size_toArray, List.length_cons, List.length_nil, Nat.reduceAdd, Nat.reduceSub, Array.replicate_succ, Array.replicate_zero, List.push_toArray, List.append_toArray, List.nil_append, List.cons_append]
  gi_wp2
  generalize (w.alloc (.cells #[.int .i64 b0, .int .i64 b1, .int .i64 b2, .int .i64 b3, .bool b4, .slice ia ni ni, .slice ka nk nk] 34)).alloc (.cells #[.int .i64 e0, .int .i64 e1, .int .i64 e2, .int .i64 e3] 30) = v0 at *
  refine ⟨trivial, ((callsIn_wide (n := 9)).2 (CT.out _ B0.out)).mono ?_⟩
  rintro e v1 ⟨rfl, hb1⟩
  replace gT := hid (keepheap hb1 gT.out)
  replace gB := hid (keepheap hb1 gB.out)
  replace B0 := hid (btrans B0.out hb1)
  clear hb1 CT
  obtain ⟨a0, a1, a2, a3, a4, a5, a6, _, _, _, _, _, _, _⟩ := cell7k gT.out
  obtain ⟨y0, y1, y2, y3, _, _, _, _⟩ := cell4b gB.out
  cases ok
  · gi_wp2
    refine ⟨trivial, ?_⟩
    gi_wp2
    exact ⟨_, results_tmp rfl _ _ _, rfl, B0.out⟩
  · gi_wp2
    refine ⟨trivial, ((callsIn_wide (n := 9)).2 (CB.out _)).mono ?_⟩
    rintro e v2 ⟨rfl, hb2⟩
    replace gT := hid (keepheap hb2 gT.out)
    replace gB := hid (keepheap hb2 gB.out)
    replace B0 := hid (btrans B0.out hb2)
    clear hb2 CB a0 a1 a2 a3 a4 a5 a6 y0 y1 y2 y3
    cases bo
    · gi_wp2
      exact ⟨_, results_tmp rfl _ _ _, rfl, B0.out⟩
    · replace gT := hid (old_alloc (o' := .cells #[.int .i64 0] 3) gT.out)
      replace gB := hid (old_alloc (o' := .cells #[.int .i64 0] 3) gB.out)
      have hw2 := B0.out.size
      replace B0 := hid (balloc B0.out (.cells #[.int .i64 0] 3))
      have gS := hid (new_alloc v2 v2.heap.size (.cells #[.int .i64 0] 3) rfl)
      obtain ⟨a0, a1, a2, a3, a4, a5, a6, _, _, _, _, _, _, _⟩ := cell7k gT.out
      obtain ⟨y0, y1, y2, y3, _, _, _, _⟩ := cell4b gB.out
      gi_wp2
      generalize v2.alloc (.cells #[.int .i64 0] 3) = v3 at *
      refine ⟨trivial, ((callsIn_wide (n := 9)).2 (CL.out v3)).mono ?_⟩
      rintro e v4 ⟨rfl, hv4⟩
      have hBt : v4.heap[v3.heap.size]? = some (.cells #[.int .i64 b0, .int .i64 b1, .int .i64 b2, .int .i64 b3, .bool b4, .slice ia ni ni, .slice ka nk nk] 34 (0, 0)) := by rw [hv4]; exact old_alloc (new_alloc _ _ _ rfl)
      have hBb : BxAt (v3.heap.size + 1) (e0, e1, e2, e3) v4 := by rw [hv4]; exact new_alloc _ _ _ (by simp)
      have hb4 : Below v3.heap.size v3 v4 := by rw [hv4]; exact balloc (balloc (Below.refl _ _) _) _
      replace B0 := hid (btrans B0.out hb4)
      have gS4 := hid (keepheap hb4 gS.out)
      have hS3 := lt_of_heap gS.out
      have hs4 : v3.heap.size + 2 ≤ v4.heap.size := by rw [hv4]; simp
      have hB4 := B0.out
      clear hv4 CL gS gT gB a0 a1 a2 a3 a4 a5 a6 y0 y1 y2 y3 hb4 B0
      have HS4 := gS4
      clear gS4
      generalize v2.heap.size = qs at *
      generalize hq3 : v3.heap.size = q3 at *
      clear hq3
      gi_wp2
      have hsz4 : w.heap.size ≤ v4.heap.size := hB4.size
      have hqs : w.heap.size ≤ qs := hw2
      have HSEQ := hid (HSQ.out v4 q3 (q3 + 1) hB4 hBt)
      clear HSQ hBt
      generalize hNN : (kns (pw (e0, e1, e2, e3)) 20 t).length = NN at *
      have HNN := hid hNN
      clear hNN
      refine wpIn_rangeN rfl (fun h => by cases h) (first := #[]) (by rfl) trivial (enters_of Try.func66 (by kernel_rfl) rfl) (fun _ => rfl) (fun _ => rfl) HSEQ.out (Below.refl _ v4) hsz4
        (fun k X => X.heap[qs]? = some (.cells #[.int .i64 (k : Int)] 3 (0, 0)) ∧ BxAt (q3 + 1) (e0, e1, e2, e3) X ∧ Below w.heap.size w X)
        (fun c k X => False)
        (fun k X h => h.2.1) ?hI ?hIx ?h0
        (SnAx (fun k X => X.heap[qs]? = some (.cells #[.int .i64 (k : Int)] 3 (0, 0)) ∧ BxAt (q3 + 1) (e0, e1, e2, e3) X ∧ Below w.heap.size w X) (fun vv => #[.agg #[.int .i64 b0, .int .i64 b1, .int .i64 b2, .int .i64 b3, .bool b4, .slice ia ni ni, .slice ka nk nk], .agg #[.int .i64 e0, .int .i64 e1, .int .i64 e2, .int .i64 e3], .pointer (some ⟨w.heap.size, 0, none⟩), .pointer (some ⟨w.heap.size + 1, 0, none⟩), .int .i64 0, .pointer (some ⟨qs, 0, none⟩), .agg #[.int .i64 b0, .int .i64 b1, .int .i64 b2, .int .i64 b3, .bool b4, .slice ia ni ni, .slice ka nk nk], .bool true, .bool false, .bool false, .agg #[.int .i64 e0, .int .i64 e1, .int .i64 e2, .int .i64 e3], .bool true, .bool false, .bool false, .agg #[.int .i64 b0, .int .i64 b1, .int .i64 b2, .int .i64 b3, .bool b4, .slice ia ni ni, .slice ka nk nk], .agg #[.int .i64 e0, .int .i64 e1, .int .i64 e2, .int .i64 e3], .func (.func 66) #[] #[.pointer (some ⟨q3, 0, none⟩), .pointer (some ⟨q3 + 1, 0, none⟩)], vv, undef, undef, undef]))
        ?hAx ?assign ?body ?done ?stop
      case hI =>
        rintro k X Y ⟨h1, h2, h3⟩ ht
        exact ⟨(ht.old _ (lt_of_heap h1) (.inl (by omega))).trans h1, (ht.old _ (lt_of_heap h2) (.inl (by omega))).trans h2, h3.trans (ht.below hsz4 h3.size)⟩
      case hIx => exact fun c k X Y h _ => h.elim
      case h0 => exact ⟨HS4.out, hBb, hB4⟩
      case hAx =>
        rintro k a' X l' r r' ⟨vv, ⟨h1, h2, h3⟩, ha⟩ hl' hle'
        have ht : Tn MT v4.heap.size X (X.putObj l' (.loop r')) := Tn.put _ hl' rfl hle'
        exact ⟨vv, ⟨(ht.old _ (lt_of_heap h1) (.inl (by omega))).trans h1, (ht.old _ (lt_of_heap h2) (.inl (by omega))).trans h2, h3.trans (ht.below hsz4 h3.size)⟩, ha⟩
      case assign =>
        rintro l' k v X hk hI hE hsX hbX
        gi_wp2
        exact ⟨Kp.refl _ _ _ _, v, hI, rfl⟩
      case body =>
        rintro l' k a' X hk ⟨vv, ⟨h1, h2, h3⟩, rfl⟩
        obtain ⟨z0, zf⟩ := cell1k h1
        have hkb : k ≤ 1048577 := by have := HNK.out; omega
        have hadd : IntKind.i64.wrap ((k : Int) + 1) = ((k + 1 : Nat) : Int) := by rw [IntKind.wrap_i64] <;> omega
        have hx := set_at (k := 0) (u := .int .i64 ((k + 1 : Nat) : Int)) h1
        have HX := hid hx
        have H2 := hid h2
        have H3 := hid h3
        have hs1 := lt_of_heap h1
        clear hx h1 h2 h3
        simp only []
        generalize hk1 : ((k + 1 : Nat) : Int) = k1 at *
        have HK1 := hid hk1
        clear hk1
        gi_wp2
        refine ⟨(Kp.refl _ _ _ _).set _ (by dsimp only; omega) (.inl (by dsimp only; omega)), by rw [HK1.out]; exact HX.out, (Below.heap_setCell _ _ _ _ (by dsimp only; omega)).trans H2.out, H3.out.setCell (by dsimp only; omega) _⟩
      case done =>
        rintro X ⟨h1, h2, h3⟩ hD hbX
        obtain ⟨z0, zf⟩ := cell1k h1
        gi_wp2
        refine ⟨by simp, .inl ⟨_, _, rfl, run_takeDeferred hD, ?_⟩⟩
        have ht : Tn MT v4.heap.size X (X.putObj v4.heap.size (.deferred none)) := Tn.put _ hD rfl (Nat.le_refl _)
        exact ⟨_, results_tmp rfl _ _ _, by rw [HNN.out]; rfl, h3.trans (ht.below hsz4 h3.size)⟩
      case stop => exact fun c k X _ h => h.elim
end Go.Proofs.Ytmdnelgnpponpaa
