/- The landed TreeFind, and the law of what is found: the walk. -/
import Derived.Test.YtmdnelgnpponpaaIf
import Derived.Test.YtmdnelgnpponpaaIe
import Derived.Test.YtmdnelgnpponpaaIa
import Derived.Test.YtmdnelgnpponpaaFz
namespace Go.Proofs.Ytmdnelgnpponpaa
open Go.RowKit Go.Shelf
set_option linter.unusedSimpArgs false
set_option linter.unusedVariables false
attribute [local go_sem] Oper.semAt_some
theorem kns_its (b : Bx) {lo : Nat} : ∀ (m n : Nat) {w : World} {ia ka : Option Addr} {t : KT}, Kn lo m w ia ka t → (kns (pw b) n t).length ≤ 1 + ksz m t ∧ ((kns (pw b) n t).flatMap KT.its).length ≤ ksz m t
  | 0, n, _, _, _, _, h => h.elim
  | m + 1, n, w, ia, ka, t, h => by
    obtain ⟨bi, bk, h1, h2, h3, h4, h5, h6, h7, h8⟩ := h
    cases n with
    | zero =>
      refine ⟨by show 1 ≤ _; omega, ?_⟩
      show (List.flatMap KT.its [t]).length ≤ t.its.length + t.kids.length + (t.kids.map (ksz m)).sum
      simp; try omega
    | succ n =>
      have hk : ∀ k ∈ t.kids, (kns (pw b) n k).length ≤ 1 + ksz m k ∧ ((kns (pw b) n k).flatMap KT.its).length ≤ ksz m k := by
        intro k hk
        obtain ⟨j, hj, rfl⟩ := List.getElem_of_mem hk
        obtain ⟨ia', ka', _, k2⟩ := h8 j hj
        exact kns_its b m n k2
      have e1 : ksz (m + 1) t = t.its.length + (t.kids.map (fun k => 1 + ksz m k)).sum := by
        show t.its.length + t.kids.length + (t.kids.map (ksz m)).sum = _
        have : ∀ l : List KT, (l.map (fun k => 1 + ksz m k)).sum = l.length + (l.map (ksz m)).sum := by
          intro l
          induction l with
          | nil => rfl
          | cons x r ih => simp only [List.map_cons, List.sum_cons, List.length_cons]; rw [ih]; omega
        rw [this]; omega
      have s1 := sum_filter_le (fun k => (kns (pw b) n k).length) (fun k => 1 + ksz m k) (pw b) t.kids (fun k hk' => (hk k hk').1)
      have s2 := sum_filter_le (fun k => ((kns (pw b) n k).flatMap KT.its).length) (fun k => 1 + ksz m k) (pw b) t.kids (fun k hk' => Nat.le_trans (hk k hk').2 (by omega))
      have l1 : (kns (pw b) (n + 1) t).length = 1 + ((t.kids.filter (pw b)).map (fun k => (kns (pw b) n k).length)).sum := by
        show (t :: (t.kids.filter (pw b)).flatMap (kns (pw b) n)).length = _
        rw [List.length_cons, List.length_flatMap]; omega
      have l2 : ((kns (pw b) (n + 1) t).flatMap KT.its).length = t.its.length + ((t.kids.filter (pw b)).map (fun k => ((kns (pw b) n k).flatMap KT.its).length)).sum := by
        show (List.flatMap KT.its (t :: (t.kids.filter (pw b)).flatMap (kns (pw b) n))).length = _
        rw [List.flatMap_cons, List.length_append, List.flatMap_assoc, List.length_flatMap]
      rw [l1, l2, e1]
      omega
theorem fnd_next (b : Bx) (L : List KT) (k : Nat) (h : k < L.length) : fnd b (L.take (k + 1)) = fnd b (L.take k) ++ met b L[k] := by
  unfold fnd
  rw [List.take_add_one, List.getElem?_eq_getElem h, Option.toList_some, List.flatMap_append]
  simp
theorem fnd_le (b : Bx) (L : List KT) (k : Nat) : (fnd b (L.take k)).length ≤ (fnd b L).length := by
  unfold fnd
  conv => rhs; rw [← List.take_append_drop k L]
  rw [List.flatMap_append, List.length_append]; omega
theorem met_next (b : Bx) (l : List It) (j : Nat) (h : j < l.length) : (l.take (j + 1)).filter (fun x => btb x.2 b) = (l.take j).filter (fun x => btb x.2 b) ++ (if btb l[j].2 b = true then [l[j]] else []) := by
  rw [List.take_add_one, List.getElem?_eq_getElem h, Option.toList_some, List.filter_append]
  by_cases hp : btb l[j].2 b = true
  · simp [List.filter_cons, hp]
  · simp [List.filter_cons, hp]
set_option maxRecDepth 100000 in
set_option maxHeartbeats 8000000 in
theorem impl_TreeFind (b : Bx) (m lo : Nat) (t : KT) (ia ka : Option Addr) (w : World) (h : Kn lo m w ia ka t) (hz : ksz m t ≤ 1048576) : Calls Try.prog 21 #[kvo t ia ka, .agg #[.int .i64 b.1, .int .i64 b.2.1, .int .i64 b.2.2.1, .int .i64 b.2.2.2]] w fun e w' => ∃ g c zs, e = .returned (.slice (some ⟨g, 0, none⟩) zs.length c) ∧ zs = (if tokS t && bkb b then srt ((fnd b (kns (pw b) 20 t)).map Prod.fst) else []) ∧ OwnI w' (some ⟨g, 0, none⟩) zs ∧ w.heap.size ≤ g ∧ Below w.heap.size w w' := by
  obtain ⟨i0, hi0, hz0, hz1, hzz⟩ := info_parts Try.infoIt
  have CT := hid (fun (W : World) (hb : Below w.heap.size w W) => impl_TreeOk m lo t ia ka W (h.below hb) hz)
  have CB := hid (fun (W : World) => impl_boxok b.1 b.2.1 b.2.2.1 b.2.2.2 W)
  change Hid (∀ W, Calls _ _ _ W (fun e w' => e = .returned (.bool (bkb b)) ∧ Below W.heap.size W w')) at CB
  have CL := hid (fun (W : World) => looked_c t ia t.its.length ka t.kids.length b W)
  change Hid (∀ W, Calls _ _ #[kvo t ia ka, _] W _) at CL
  have hnl := (kns_len b m 20 h).2
  have hni := (kns_its b m 20 h).2
  have HSQ := hid (fun (W : World) (Bt Bb : Nat) (hb : Below w.heap.size w W) (hB : W.heap[Bt]? = some (.cells (ck t ia t.its.length ka t.kids.length).toArray 34 (0, 0))) => looked_seq 9 lo m b Bb (by omega) t ia ka w W Bt h hz hb hB)
  change Hid (∀ (W : World) (Bt Bb : Nat), Below w.heap.size w W → W.heap[Bt]? = _ → SeqN _ _ _ _ _ _ _ _ (kns (pw b) 20 t).length (KW lo w (kns (pw b) 20 t)) _ _) at HSQ
  obtain ⟨b0, b1, b2, b3, b4, ni, nk, hf⟩ := kf t
  have hck : ck t ia t.its.length ka t.kids.length = [.int .i64 b0, .int .i64 b1, .int .i64 b2, .int .i64 b3, .bool b4, .slice ia ni ni, .slice ka nk nk] := by
    obtain ⟨rfl, rfl, rfl, rfl, rfl, rfl, rfl⟩ := hf
    rfl
  rw [kvo_of hf] at CT CL ⊢
  rw [hck] at CL HSQ
  have hnk : (fnd b (kns (pw b) 20 t)).length ≤ 1048576 := by omega
  have hniv : ((kns (pw b) 20 t).flatMap KT.its).length ≤ 1048576 := by omega
  have HNI := hid hniv
  clear hni hniv
  clear h hf hz hck hnl
  generalize tokS t = ok at *
  generalize hbo : bkb b = bo at *
  have HNK := hid hnk
  clear hnk hbo
  obtain ⟨e0, e1, e2, e3⟩ := b
  simp only [] at CB CL ⊢
  have gT := hid (old_alloc (o' := (.cells #[.int .i64 e0, .int .i64 e1, .int .i64 e2, .int .i64 e3] 30)) (new_alloc w w.heap.size (.cells #[.int .i64 b0, .int .i64 b1, .int .i64 b2, .int .i64 b3, .bool b4, .slice ia ni ni, .slice ka nk nk] 34) rfl))
  have gB := hid (new_alloc (w.alloc (.cells #[.int .i64 b0, .int .i64 b1, .int .i64 b2, .int .i64 b3, .bool b4, .slice ia ni ni, .slice ka nk nk] 34)) (w.heap.size + 1) (.cells #[.int .i64 e0, .int .i64 e1, .int .i64 e2, .int .i64 e3] 30) (by simp))
  have B0 := hid (balloc (balloc (Below.refl w.heap.size w) (.cells #[.int .i64 b0, .int .i64 b1, .int .i64 b2, .int .i64 b3, .bool b4, .slice ia ni ni, .slice ka nk nk] 34)) (.cells #[.int .i64 e0, .int .i64 e1, .int .i64 e2, .int .i64 e3] 30))
  rw [← callsIn_wide (n := 10)]
  refine callsIn_of_wp_marks Try.func21 rfl trivial ?_ rfl
  simp only [Try.ntmps21, List.size_toArray, List.length_cons, List.length_nil, Nat.reduceAdd, Nat.reduceSub, Array.replicate_succ, Array.replicate_zero, List.push_toArray, List.append_toArray, List.nil_append, List.cons_append]
  gi_wp2
  generalize (w.alloc (.cells #[.int .i64 b0, .int .i64 b1, .int .i64 b2, .int .i64 b3, .bool b4, .slice ia ni ni, .slice ka nk nk] 34)).alloc (.cells #[.int .i64 e0, .int .i64 e1, .int .i64 e2, .int .i64 e3] 30) = v0 at *
  refine ⟨trivial, ((callsIn_wide (n := 9)).2 (CT.out _ B0.out)).mono ?_⟩
  rintro e v1 ⟨rfl, hb1⟩
  replace gT := hid (keepheap hb1 gT.out)
  replace gB := hid (keepheap hb1 gB.out)
  replace B0 := hid (btrans B0.out hb1)
  clear hb1 CT
  obtain ⟨a0, a1, a2, a3, a4, a5, a6, _, _, _, _, _, _, _⟩ := cell7k gT.out
  obtain ⟨y0, y1, y2, y3, _, _, _, _⟩ := cell4b gB.out
  cases ok
  · have hO0 := World.ownsRow_made (base := w.heap.size) (e := 3) (size := 1) v1 #[] 0 B0.out.size (by decide) rfl
    have HO0 := hid (own_I (zs := []) hO0 rfl).2.2
    have hsB := B0.out.size
    replace B0 := hid (balloc B0.out (.cells #[] 3))
    clear hO0
    gi_wp2
    refine ⟨trivial, ?_⟩
    gi_wp2
    exact ⟨_, results_tmp rfl _ _ _, v1.heap.size, 0, [], rfl, by simp, HO0.out, hsB, B0.out⟩
  · gi_wp2
    refine ⟨trivial, ((callsIn_wide (n := 9)).2 (CB.out _)).mono ?_⟩
    rintro e v2 ⟨rfl, hb2⟩
    replace gT := hid (keepheap hb2 gT.out)
    replace gB := hid (keepheap hb2 gB.out)
    replace B0 := hid (btrans B0.out hb2)
    clear hb2 CB a0 a1 a2 a3 a4 a5 a6 y0 y1 y2 y3
    cases bo
    · have hO0 := World.ownsRow_made (base := w.heap.size) (e := 3) (size := 1) v2 #[] 0 B0.out.size (by decide) rfl
      have HO0 := hid (own_I (zs := []) hO0 rfl).2.2
      have hsB := B0.out.size
      replace B0 := hid (balloc B0.out (.cells #[] 3))
      clear hO0
      gi_wp2
      exact ⟨_, results_tmp rfl _ _ _, v2.heap.size, 0, [], rfl, by simp, HO0.out, hsB, B0.out⟩
    · have hG0 := World.ownsRow_made (base := w.heap.size) (e := 54) (size := 5) v2 #[] 0 B0.out.size (by decide) rfl
      have hw2 := B0.out.size
      have hG1 : ItG ((v2.alloc (.cells #[] 54)).alloc (.cells #[.slice (some ⟨v2.heap.size, 0, none⟩) 0 0] 31)) w.heap.size v2.heap.size 0 [] := hG0.alloc _
      have gS := hid (new_alloc (v2.alloc (.cells #[] 54)) (v2.heap.size + 1) (.cells #[.slice (some ⟨v2.heap.size, 0, none⟩) 0 0] 31) (by simp))
      replace gT := hid (old_alloc (o' := .cells #[.slice (some ⟨v2.heap.size, 0, none⟩) 0 0] 31) (old_alloc (o' := .cells #[] 54) gT.out))
      replace gB := hid (old_alloc (o' := .cells #[.slice (some ⟨v2.heap.size, 0, none⟩) 0 0] 31) (old_alloc (o' := .cells #[] 54) gB.out))
      replace B0 := hid (balloc (balloc B0.out (.cells #[] 54)) (.cells #[.slice (some ⟨v2.heap.size, 0, none⟩) 0 0] 31))
      have HG1 := hid hG1
      clear hG0 hG1
      obtain ⟨a0, a1, a2, a3, a4, a5, a6, _, _, _, _, _, _, _⟩ := cell7k gT.out
      obtain ⟨y0, y1, y2, y3, _, _, _, _⟩ := cell4b gB.out
      gi_wp2
      generalize (v2.alloc (.cells #[] 54)).alloc (.cells #[.slice (some ⟨v2.heap.size, 0, none⟩) 0 0] 31) = v3 at *
      refine ⟨trivial, ((callsIn_wide (n := 9)).2 (CL.out v3)).mono ?_⟩
      rintro e v4 ⟨rfl, hv4⟩
      have hBt : v4.heap[v3.heap.size]? = some (.cells #[.int .i64 b0, .int .i64 b1, .int .i64 b2, .int .i64 b3, .bool b4, .slice ia ni ni, .slice ka nk nk] 34 (0, 0)) := by rw [hv4]; exact old_alloc (new_alloc _ _ _ rfl)
      have hBb : BxAt (v3.heap.size + 1) (e0, e1, e2, e3) v4 := by rw [hv4]; exact new_alloc _ _ _ (by simp)
      have hb4 : Below v3.heap.size v3 v4 := by rw [hv4]; exact balloc (balloc (Below.refl _ _) _) _
      replace B0 := hid (btrans B0.out hb4)
      have HS4 := hid (keepheap hb4 gS.out)
      have HG4 := hid (HG1.out.below hb4)
      have HE4 := hid (keepheap hb4 gB.out)
      have hS3 := lt_of_heap gS.out
      have hE3 := lt_of_heap gB.out
      have hs4 : v3.heap.size + 2 ≤ v4.heap.size := by rw [hv4]; simp
      have hB4 := B0.out
      clear hv4 CL gS gT gB HG1 a0 a1 a2 a3 a4 a5 a6 y0 y1 y2 y3 hb4 B0
      generalize v2.heap.size = qs at *
      generalize hq3 : v3.heap.size = q3 at *
      clear hq3
      gi_wp2
      have hsz4 : w.heap.size ≤ v4.heap.size := hB4.size
      have HSEQ := hid (HSQ.out v4 q3 (q3 + 1) hB4 hBt)
      clear HSQ hBt
      refine wpIn_rangeN rfl (fun h => by cases h) (first := #[]) (by rfl) trivial (enters_of Try.func66 (by kernel_rfl) rfl) (fun _ => rfl) (fun _ => rfl) HSEQ.out (Below.refl _ v4) hsz4
        (fun k X => ItB X (qs + 1) w.heap.size (fnd (e0, e1, e2, e3) ((kns (pw (e0, e1, e2, e3)) 20 t).take k)) ∧ BxAt (q3 + 1) (e0, e1, e2, e3) X ∧ BxAt (w.heap.size + 1) (e0, e1, e2, e3) X ∧ Below w.heap.size w X)
        (fun c k X => False)
        (fun k X h => h.2.1) ?hI ?hIx ?h0
        (RdAx lo v4.heap.size w (kns (pw (e0, e1, e2, e3)) 20 t) (fun k X => ItB X (qs + 1) w.heap.size (fnd (e0, e1, e2, e3) ((kns (pw (e0, e1, e2, e3)) 20 t).take k)) ∧ BxAt (q3 + 1) (e0, e1, e2, e3) X ∧ BxAt (w.heap.size + 1) (e0, e1, e2, e3) X ∧ Below w.heap.size w X) (fun Bx vv => #[.agg #[.int .i64 b0, .int .i64 b1, .int .i64 b2, .int .i64 b3, .bool b4, .slice ia ni ni, .slice ka nk nk], .agg #[.int .i64 e0, .int .i64 e1, .int .i64 e2, .int .i64 e3], .pointer (some ⟨w.heap.size, 0, none⟩), .pointer (some ⟨w.heap.size + 1, 0, none⟩), .slice none 0 0, .pointer (some ⟨qs + 1, 0, none⟩), .pointer (some ⟨Bx, 0, none⟩), undef, undef, .agg #[.int .i64 b0, .int .i64 b1, .int .i64 b2, .int .i64 b3, .bool b4, .slice ia ni ni, .slice ka nk nk], .bool true, .bool false, .bool false, .agg #[.int .i64 e0, .int .i64 e1, .int .i64 e2, .int .i64 e3], .bool true, .bool false, .bool false, undef, .slice (some ⟨qs, 0, none⟩) 0 0, .agg #[.int .i64 b0, .int .i64 b1, .int .i64 b2, .int .i64 b3, .bool b4, .slice ia ni ni, .slice ka nk nk], .agg #[.int .i64 e0, .int .i64 e1, .int .i64 e2, .int .i64 e3], .func (.func 66) #[] #[.pointer (some ⟨q3, 0, none⟩), .pointer (some ⟨q3 + 1, 0, none⟩)], vv, undef, undef, undef, undef, undef, undef, undef, undef, undef, undef, undef, undef, undef, undef, undef, undef, undef, undef]))
        ?hAx ?assign ?body ?done ?stop
      case hI =>
        rintro k X Y ⟨h1, h2, h3, h4⟩ ht
        exact ⟨h1.tn ht (by omega), (ht.old _ (lt_of_heap h2) (.inl (by omega))).trans h2, (ht.old _ (lt_of_heap h3) (.inl (by omega))).trans h3, h4.trans (ht.below hsz4 h4.size)⟩
      case hIx => exact fun c k X Y h _ => h.elim
      case h0 => exact ⟨⟨qs, 0, HS4.out, HG4.out⟩, hBb, HE4.out, hB4⟩
      case hAx =>
        rintro k a' X l' r r' HH hl' hle'
        refine RdAx.putR (M := MT) (fun _ => rfl) ?_ HH hl' hle'
        rintro k X Y ⟨h1, h2, h3, h4⟩ ht
        exact ⟨h1.tn ht (by omega), (ht.old _ (lt_of_heap h2) (.inl (by omega))).trans h2, (ht.old _ (lt_of_heap h3) (.inl (by omega))).trans h3, h4.trans (ht.below hsz4 h4.size)⟩
      case assign =>
        rintro l' k v X hk ⟨h1, h2, h3, h4⟩ ⟨hk', m', ia', ka', rfl, hkn⟩ hsX hbX
        obtain ⟨c0, c1, c2, c3, c4, mi, mk, hf⟩ := kf (kns (pw (e0, e1, e2, e3)) 20 t)[k]
        rw [kvo_of hf]
        gi_wp2
        have hBA : Below X.heap.size X (X.alloc (.cells #[.int .i64 c0, .int .i64 c1, .int .i64 c2, .int .i64 c3, .bool c4, .slice ia' mi mi, .slice ka' mk mk] 34)) := balloc (Below.refl X.heap.size X) _
        have ht := Tn.of_below (M := MT) (B := v4.heap.size) hBA
        exact ⟨Kp.of_below hBA h4.size, X.heap.size, m', ia', ka', hk', c0, c1, c2, c3, c4, mi, mk, hf, new_alloc _ _ _ rfl, hsX, hkn, ⟨h1.tn ht (by omega), keepheap hBA h2, keepheap hBA h3, btrans h4 hBA⟩, rfl⟩
      case body =>
        rintro l' k a' X hk ⟨Bx, m', ia', ka', hk', c0, c1, c2, c3, c4, mi, mk, hf, hbx, hle, hkn, ⟨h1, h2, h3, h4⟩, rfl⟩
        cases m' with
        | zero => exact hkn.elim
        | succ m' =>
        obtain ⟨bi', bk', rfl, rfl, _, _, hIO, _⟩ := hkn
        have HNX := hid (fnd_next (e0, e1, e2, e3) (kns (pw (e0, e1, e2, e3)) 20 t) k hk')
        have hfl := fnd_le (e0, e1, e2, e3) (kns (pw (e0, e1, e2, e3)) 20 t) (k + 1)
        rw [HNX.out, List.length_append] at hfl
        have hNK := HNK.out
        have hml : (met (e0, e1, e2, e3) (kns (pw (e0, e1, e2, e3)) 20 t)[k]).length ≤ 1048576 := by omega
        have hpl : (fnd (e0, e1, e2, e3) ((kns (pw (e0, e1, e2, e3)) 20 t).take k)).length + (met (e0, e1, e2, e3) (kns (pw (e0, e1, e2, e3)) 20 t)[k]).length ≤ 1048576 := by omega
        have HPL := hid hpl
        have HIO := hid hIO
        have HMI := hid hf.its
        have hmib : mi ≤ 1048576 := by
          have h5 := its_le (kns (pw (e0, e1, e2, e3)) 20 t) (k + 1)
          rw [its_next (kns (pw (e0, e1, e2, e3)) 20 t) k hk', List.length_append, hf.its] at h5
          have := HNI.out
          omega
        have hsX := h4.size
        obtain ⟨z0, z1, z2, z3, z4, z5, z6, _, _, _, _, _, _, _⟩ := cell7k hbx
        have HH1 : Hid (ItB X (qs + 1) w.heap.size (fnd (e0, e1, e2, e3) ((kns (pw (e0, e1, e2, e3)) 20 t).take k) ++ ((kns (pw (e0, e1, e2, e3)) 20 t)[k].its.take 0).filter (fun x => btb x.2 (e0, e1, e2, e3)))) := hid (by simpa using h1)
        have HH2 := hid h2
        have HH3 := hid h3
        have HH4 := hid h4
        clear h1 h2 h3 h4 hfl hNK hml hpl hIO hf
        simp only []
        gi_wp2
        gi_loopw [26] (fun i Y => ∃ j : Nat, j ≤ mi ∧ i = .int .i64 j ∧ Hid (ItB Y (qs + 1) w.heap.size (fnd (e0, e1, e2, e3) ((kns (pw (e0, e1, e2, e3)) 20 t).take k) ++ ((kns (pw (e0, e1, e2, e3)) 20 t)[k].its.take j).filter (fun x => btb x.2 (e0, e1, e2, e3)))) ∧ Hid (BxAt (q3 + 1) (e0, e1, e2, e3) Y) ∧ Hid (BxAt (w.heap.size + 1) (e0, e1, e2, e3) Y) ∧ Hid (Below w.heap.size w Y) ∧ Hid (Kp MT v4.heap.size w.heap.size X Y)) (fun i _ => mi - (intOf i).toNat)
        case atStart => exact ⟨0, Nat.zero_le _, rfl, HH1, HH2, HH3, HH4, hid (Kp.refl _ _ _ _)⟩
        case round =>
          clear HH1 HH2 HH3 HH4 z0 z1 z2 z3 z4 z5 z6
          obtain ⟨j, hj, rfl, HH1, HH2, HH3, HH4, HKP⟩ := hrel
          by_cases hltj : j < mi
          · have c1' : (j : Int) < (mi : Int) := by omega
            have hjt : j < (kns (pw (e0, e1, e2, e3)) 20 t)[k].its.length := by rw [HMI.out]; exact hltj
            obtain ⟨y0, y1, y2, y3, y4⟩ := ((HIO.out.2.1 j hjt).below HIO.out.1 HH4.out).item
            have hmn := met_next (e0, e1, e2, e3) (kns (pw (e0, e1, e2, e3)) 20 t)[k].its j hjt
            have hpb : (fnd (e0, e1, e2, e3) ((kns (pw (e0, e1, e2, e3)) 20 t).take k)).length + (((kns (pw (e0, e1, e2, e3)) 20 t)[k].its.take j).filter (fun x => btb x.2 (e0, e1, e2, e3))).length ≤ 2097152 := by
              have h5 := HPL.out
              have h6 := List.length_filter_le (fun x : It => btb x.2 (e0, e1, e2, e3)) ((kns (pw (e0, e1, e2, e3)) 20 t)[k].its.take j)
              rw [List.length_take] at h6
              omega
            have HMN := hid hmn
            have HPB := hid hpb
            clear hmn hpb
            have hHI := hid hjt
            generalize (kns (pw (e0, e1, e2, e3)) 20 t)[k].its[j] = xx at *
            obtain ⟨iid, x0, x1, x2, x3⟩ := xx
            simp only [] at y0 y1 y2 y3 y4 HMN
            have CO := hid (fun (W : World) => impl_BoxMeets x0 x1 x2 x3 e0 e1 e2 e3 W)
            change Hid (∀ W, Calls _ _ _ W (fun e' w' => e' = .returned (.bool (btb (x0, x1, x2, x3) (e0, e1, e2, e3))) ∧ Below W.heap.size W w')) at CO
            generalize btb (x0, x1, x2, x3) (e0, e1, e2, e3) = mt at *
            have hbA := balloc (Below.refl wr.heap.size wr) (.cells #[.int .i64 iid, .int .i64 x0, .int .i64 x1, .int .i64 x2, .int .i64 x3] 54)
            have hIA := new_alloc wr wr.heap.size (.cells #[.int .i64 iid, .int .i64 x0, .int .i64 x1, .int .i64 x2, .int .i64 x3] 54) rfl
            have h3A := old_alloc (o' := (.cells #[.int .i64 iid, .int .i64 x0, .int .i64 x1, .int .i64 x2, .int .i64 x3] 54)) HH3.out
            obtain ⟨u0, u1, u2, u3, _, _, _, _⟩ := cell4b h3A
            have HBA := hid hbA
            have HIA := hid hIA
            clear hbA hIA h3A
            gi_wp2
            generalize wr.alloc (.cells #[.int .i64 iid, .int .i64 x0, .int .i64 x1, .int .i64 x2, .int .i64 x3] 54) = YA at *
            refine ⟨trivial, ((callsIn_wide (n := 7)).2 (CO.out _)).mono ?_⟩
            rintro e Y1 ⟨rfl, hb1⟩
            have hY1 := btrans HBA.out hb1
            have gIT := hid (keepheap hb1 HIA.out)
            obtain ⟨g, c, hb1', hg1⟩ := HH1.out
            have HH1n := hid (keepheap hY1 hb1')
            have HG1n := hid (hg1.below hY1)
            replace HH2 := hid (keepheap hY1 HH2.out)
            replace HH3 := hid (keepheap hY1 HH3.out)
            have hsYw := HH4.out.size
            replace HKP := hid (HKP.out.belowR hY1 hsX)
            replace HH4 := hid (btrans HH4.out hY1)
            clear u0 u1 u2 u3 y0 y1 y2 y3 y4 hb1 hY1 HBA HIA CO hb1' hg1 HH1
            have hbl := HPB.out
            generalize hP : fnd (e0, e1, e2, e3) ((kns (pw (e0, e1, e2, e3)) 20 t).take k) = P1 at *
            generalize hP2 : ((kns (pw (e0, e1, e2, e3)) 20 t)[k].its.take j).filter (fun x => btb x.2 (e0, e1, e2, e3)) = P2 at *
            have hPl : (P1 ++ P2).length ≤ 2097152 := by rw [List.length_append]; exact hbl
            have HP1 := hid hP
            clear hP hP2 hbl
            generalize hPP : P1 ++ P2 = P at *
            have HPP := hid hPP
            clear hPP
            have hwr := lt_of_heap gIT.out
            cases mt
            · gi_wp2
              go_roundw
              case rel => exact ⟨j + 1, by omega, by go_num, hid (by rw [HMN.out]; simp only [Bool.false_eq_true, if_false, List.append_nil]; rw [HP1.out, HPP.out]; exact ⟨g, c, HH1n.out, HG1n.out⟩), HH2, HH3, HH4, HKP⟩
              case measure => simp [intOf]; omega
            · obtain ⟨q0, qf⟩ := cell1k HH1n.out
              have r0 : Y1.cell? ⟨wr.heap.size, 0, none⟩ = some (.int .i64 iid) := by simp [World.cell?, gIT.out]
              have r1 : Y1.cell? ⟨wr.heap.size, 1, none⟩ = some (.int .i64 x0) := by simp [World.cell?, gIT.out]
              have r2 : Y1.cell? ⟨wr.heap.size, 2, none⟩ = some (.int .i64 x1) := by simp [World.cell?, gIT.out]
              have r3 : Y1.cell? ⟨wr.heap.size, 3, none⟩ = some (.int .i64 x2) := by simp [World.cell?, gIT.out]
              have r4 : Y1.cell? ⟨wr.heap.size, 4, none⟩ = some (.int .i64 x3) := by simp [World.cell?, gIT.out]
              obtain ⟨hgl, cur, hgt⟩ := HG1n.out.typ
              have hgc := hgt
              have hneq : g ≠ qs + 1 := fun e => by rw [e, HH1n.out] at hgt; cases hgt
              have hne3 : g ≠ q3 + 1 := fun e => by rw [e, show Y1.heap[q3 + 1]? = _ from HH2.out] at hgt; cases hgt
              have hneb : g ≠ w.heap.size + 1 := fun e => by rw [e, show Y1.heap[w.heap.size + 1]? = _ from HH3.out] at hgt; cases hgt
              have HGW : Hid ((Y1.alloc (.cells #[.int .i64 iid, .int .i64 x0, .int .i64 x1, .int .i64 x2, .int .i64 x3] 54)).ownsRow w.heap.size 54 5 (.slice (some ⟨g, 0, none⟩) P.length c) P.length (flI P)) := hid (HG1n.out.alloc _)
              have HNW := hid (new_alloc Y1 Y1.heap.size (.cells #[.int .i64 iid, .int .i64 x0, .int .i64 x1, .int .i64 x2, .int .i64 x3] 54) rfl)
              have HBL0 := hid (old_alloc (o' := (.cells #[.int .i64 iid, .int .i64 x0, .int .i64 x1, .int .i64 x2, .int .i64 x3] 54)) HH1n.out)
              have HB20 : Hid ((Y1.alloc (.cells #[.int .i64 iid, .int .i64 x0, .int .i64 x1, .int .i64 x2, .int .i64 x3] 54)).heap[q3 + 1]? = _) := hid (old_alloc (o' := (.cells #[.int .i64 iid, .int .i64 x0, .int .i64 x1, .int .i64 x2, .int .i64 x3] 54)) HH2.out)
              have HB30 : Hid ((Y1.alloc (.cells #[.int .i64 iid, .int .i64 x0, .int .i64 x1, .int .i64 x2, .int .i64 x3] 54)).heap[w.heap.size + 1]? = _) := hid (old_alloc (o' := (.cells #[.int .i64 iid, .int .i64 x0, .int .i64 x1, .int .i64 x2, .int .i64 x3] 54)) HH3.out)
              have HB0 := hid (balloc (Below.refl Y1.heap.size Y1) (.cells #[.int .i64 iid, .int .i64 x0, .int .i64 x1, .int .i64 x2, .int .i64 x3] 54))
              have hsY : w.heap.size ≤ Y1.heap.size := HH4.out.size
              have hsY2 : w.heap.size ≤ (Y1.alloc (.cells #[.int .i64 iid, .int .i64 x0, .int .i64 x1, .int .i64 x2, .int .i64 x3] 54)).heap.size := Nat.le_trans hsY HB0.out.size
              have HGT := hid (old_alloc (o' := (.cells #[.int .i64 iid, .int .i64 x0, .int .i64 x1, .int .i64 x2, .int .i64 x3] 54)) hgt)
              clear hgt hgc
              gi_wp2_with (gi_at_builtin; refine wpListIn_append_own _ rfl (.tmp 34) (.tmp 36) 31 rfl w.heap.size 54 i0 _ 5 40 Try.underlying31 hi0 hz0 hz1 hzz rfl (by decide) (.slice (some ⟨g, 0, none⟩) P.length c) P.length (flI P) (by rfl) HGW.out ⟨Y1.heap.size, 0, none⟩ 1 1 [.int .i64 iid, .int .i64 x0, .int .i64 x1, .int .i64 x2, .int .i64 x3] (by rfl) (by rfl) (World.news_of_block (cs := #[.int .i64 iid, .int .i64 x0, .int .i64 x1, .int .i64 x2, .int .i64 x3]) (t := 54) (fr := (0, 0)) HNW.out) (by simp [Value.oneCell']) (by unfold maxLen; omega) (by omega) hsY2 ?_; intro v' w1 hown hgrow hiff; obtain ⟨g', c', rfl⟩ := owned_at hown hiff; have hbl1 : w1.heap[qs + 1]? = some (.cells #[.slice (some ⟨g, 0, none⟩) P.length c] 31 (0, 0)) := (hgrow.block _ (lt_of_heap HBL0.out) (by simp [Value.ownBlock]; omega)).trans HBL0.out; obtain ⟨u1, uf1⟩ := cell1k hbl1)
              have hg2 : ItG w1 w.heap.size g' c' (P ++ [(iid, x0, x1, x2, x3)]) := ofG hown (by rw [List.length_append]; rfl) (by rw [flI_app]; rfl)
              have hk1 : Kp MT v4.heap.size w.heap.size X w1 := (HKP.out.belowR HB0.out hsX).grown hgrow hsY2 (fun r e => by
                cases e
                exact ⟨hgl, .inr (fun o ho => by rw [HGT.out] at ho; cases ho; rfl)⟩)
              have hb20 := (hgrow.block _ (lt_of_heap HB20.out) (by simp [Value.ownBlock]; omega)).trans HB20.out
              have hb30 := (hgrow.block _ (lt_of_heap HB30.out) (by simp [Value.ownBlock]; omega)).trans HB30.out
              have hb40 : Below w.heap.size w w1 := (btrans HH4.out HB0.out).grown hgrow hsY2 (fun r e => by cases e; exact hgl)
              have hg3 : ItG (w1.setCell ⟨qs + 1, 0, none⟩ (.slice (some ⟨g', 0, none⟩) (P.length + 1) c')) w.heap.size g' c' (P ++ [(iid, x0, x1, x2, x3)]) := World.ownsRow.kept hg2 (grownBy_setCell' w1 _ _) (.inr (by
                obtain ⟨_, cur', hgt'⟩ := hg2.typ
                simp only [Value.ownBlock, ne_eq, Option.some.injEq]
                intro e
                rw [e, hbl1] at hgt'; cases hgt'))
              have hs3 : (w1.setCell ⟨qs + 1, 0, none⟩ (.slice (some ⟨g', 0, none⟩) (P.length + 1) c')).heap[qs + 1]? = some (.cells #[.slice (some ⟨g', 0, none⟩) (P.length + 1) c'] 31 (0, 0)) := set_at hbl1
              have hqa : q3 + 1 ≠ qs + 1 := fun e => by have h5 := hb20; rw [e, hbl1] at h5; cases h5
              have hqb : w.heap.size + 1 ≠ qs + 1 := fun e => by have h5 := hb30; rw [e, hbl1] at h5; cases h5
              have hPn : P1 ++ (P2 ++ [(iid, x0, x1, x2, x3)]) = P ++ [(iid, x0, x1, x2, x3)] := by rw [← List.append_assoc, HPP.out]
              go_roundw
              case rel =>
                refine ⟨j + 1, by omega, by go_num, hid ?_, hid ((Below.heap_setCell _ _ _ _ (by dsimp only; omega)).trans hb20), hid ((Below.heap_setCell _ _ _ _ (by dsimp only; omega)).trans hb30), hid (hb40.setCell (by dsimp only; omega) _), hid (hk1.set _ (by dsimp only; omega) (.inl (by dsimp only; omega)))⟩
                rw [HMN.out]
                simp only [if_true]
                rw [HP1.out, hPn]
                exact ⟨g', c', by rw [List.length_append]; exact hs3, hg3⟩
              case measure => simp [intOf]; omega
          · have c1' : (mi : Int) ≤ (j : Int) := by omega
            have hall : (kns (pw (e0, e1, e2, e3)) 20 t)[k].its.take j = (kns (pw (e0, e1, e2, e3)) 20 t)[k].its := List.take_of_length_le (by rw [HMI.out]; omega)
            have hfin := HH1.out
            rw [hall] at hfin
            have HFI : Hid (ItB wr (qs + 1) w.heap.size (fnd (e0, e1, e2, e3) ((kns (pw (e0, e1, e2, e3)) 20 t).take (k + 1)))) := hid (by rw [HNX.out]; exact hfin)
            clear hall hfin HH1
            gi_wp2
            exact ⟨HKP.out, HFI.out, HH2.out, HH3.out, HH4.out⟩
      case done =>
        rintro X ⟨h1, h2, h3, h4⟩ hD hbX
        rw [List.take_length] at h1
        obtain ⟨g, c, hb1, hg1⟩ := h1
        obtain ⟨q0, qf⟩ := cell1k hb1
        have CI := hid (impl_idsOf g c _ X hg1.r HNK.out)
        have hsX := h4.size
        gi_wp2
        refine ⟨trivial, ((callsIn_wide (n := 9)).2 CI.out).mono ?_⟩
        rintro e v ⟨bi, rfl, hle, hO, hbl⟩
        have hDv := keepheap hbl hD
        gi_wp2
        refine ⟨by simp, .inl ⟨_, _, rfl, run_takeDeferred hDv, ?_⟩⟩
        have ht : Tn MT v4.heap.size v (v.putObj v4.heap.size (.deferred none)) := Tn.put _ hDv rfl (Nat.le_refl _)
        have hn : bi ≠ v4.heap.size := by have := lt_of_heap hD; omega
        refine ⟨_, results_tmp rfl _ _ _, bi, (fnd (e0, e1, e2, e3) (kns (pw (e0, e1, e2, e3)) 20 t)).length, srt ((fnd (e0, e1, e2, e3) (kns (pw (e0, e1, e2, e3)) 20 t)).map Prod.fst), ?_, ?_, ?_, Nat.le_trans hsX hle, (btrans h4 hbl).trans (ht.below hsz4 (btrans h4 hbl).size)⟩
        · rw [srt_len, List.length_map]; rfl
        · rfl
        · refine hO.blk (by simp [World.putObj]) ?_
          intro b' off e'
          cases e'
          simp [World.putObj, Array.getElem?_setIfInBounds, hn, hn.symm]
      case stop => exact fun c k X _ h => h.elim
theorem Mf.bk {lo hi b : Nat} {w w' : World} {o : Obj} (M : Mf lo hi w w') (h : w.heap[b]? = some o) (hb : b < lo ∨ hi ≤ b) : w'.heap[b]? = some o := (M.out b (lt_of_heap h) hb).trans h
theorem Mf.bl {lo hi n : Nat} {w0 w w' : World} (h : Below n w0 w) (M : Mf lo hi w w') (hn : n ≤ lo) (hs : n ≤ w.heap.size) : Below n w0 w' :=
  h.trans ⟨M.os, M.tape, M.output, M.size, fun k hk => M.out k (by omega) (.inl (by omega))⟩
/-- What is found: the answer. -/
def zfd (b : Bx) (n : Nat) (t : KT) : List Int := if tokS t && bkb b then srt ((fnd b (kns (pw b) n t)).map Prod.fst) else []
theorem zfd_len (b : Bx) (m n : Nat) {lo : Nat} {w : World} {ia ka : Option Addr} {t : KT} (h : Kn lo m w ia ka t) : (zfd b n t).length ≤ ksz m t := by
  unfold zfd
  split
  · rw [srt_len, List.length_map]; exact (kns_len b m n h).2
  · exact Nat.zero_le _
set_option maxRecDepth 100000 in
set_option maxHeartbeats 8000000 in
theorem treefind_w (t : KT) (ia : Option Addr) (ic : Nat) (ka : Option Addr) (kc n : Nat) (e0 e1 e2 e3 : Int) (w : World) (h : KnL n w ia ic ka kc t) : Calls Try.prog 5 #[kv t ia ic ka kc, .agg #[.int .i64 e0, .int .i64 e1, .int .i64 e2, .int .i64 e3]] w fun e w' => e = .returned (.bool true) ∧ Below w.heap.size w w' := by
  cases n with
  | zero => exact h.elim
  | succ n =>
  have CZ := hid (fun (W : World) (hb : Below w.heap.size w W) => sz_knot (n + 1) t ia ic ka kc 1048576 W (h.below hb) (by omega) (by omega))
  have CT := hid (fun (W : World) (hb : Below w.heap.size w W) (hz : ksz (n + 1) t ≤ 1048576) => to_knot (n + 1) t ia ic ka kc W (h.below hb) hz)
  have CS : Hid (∀ (W : World) (lo : Nat) (i k : Option Addr), Kn lo (n + 1) W i k t → ksz (n + 1) t ≤ 1048576 → Calls Try.prog 19 #[kvo t i k, .agg #[.int .i64 e0, .int .i64 e1, .int .i64 e2, .int .i64 e3]] W fun e w' => ∃ g c, e = .returned (.slice (some ⟨g, 0, none⟩) (zfd (e0, e1, e2, e3) n t).length c) ∧ OwnI w' (some ⟨g, 0, none⟩) (zfd (e0, e1, e2, e3) n t) ∧ W.heap.size ≤ g ∧ Below W.heap.size W w' ∧ (zfd (e0, e1, e2, e3) n t).length ≤ 1048576) := hid (fun W lo i k hk hz => by
    refine (spec_TreeFind (e0, e1, e2, e3) n lo t i k W hk hz).mono ?_
    rintro e w' ⟨g, c, zs, rfl, rfl, hO, hb⟩
    exact ⟨g, c, rfl, hO.own, (own_I hO rfl).1, hb, Nat.le_trans (zfd_len _ _ _ hk) hz⟩)
  have CI : Hid (∀ (W : World) (lo : Nat) (i k : Option Addr), Kn lo (n + 1) W i k t → ksz (n + 1) t ≤ 1048576 → Calls Try.prog 21 #[kvo t i k, .agg #[.int .i64 e0, .int .i64 e1, .int .i64 e2, .int .i64 e3]] W fun e w' => ∃ g c, e = .returned (.slice (some ⟨g, 0, none⟩) (zfd (e0, e1, e2, e3) n t).length c) ∧ OwnI w' (some ⟨g, 0, none⟩) (zfd (e0, e1, e2, e3) n t) ∧ W.heap.size ≤ g ∧ Below W.heap.size W w' ∧ (zfd (e0, e1, e2, e3) n t).length ≤ 1048576) := hid (fun W lo i k hk hz => by
    have hE : zfd (e0, e1, e2, e3) 20 t = zfd (e0, e1, e2, e3) n t := by
      unfold zfd
      cases hok : tokS t
      · rfl
      · rw [kns_tok (pw (e0, e1, e2, e3)) hok hk]
    rw [← hE]
    refine (impl_TreeFind (e0, e1, e2, e3) (n + 1) lo t i k W hk hz).mono ?_
    rintro e w' ⟨g, c, zs, rfl, rfl, hO, hg, hb⟩
    exact ⟨g, c, rfl, hO, hg, hb, Nat.le_trans (zfd_len _ _ _ hk) hz⟩)
  have CE := hid (fun (W : World) (lo lo' : Nat) (i k i' k' : Option Addr) (hz : ksz (n + 1) t ≤ 1048576) (hk : Kn lo (n + 1) W i k t) (hk' : Kn lo' (n + 1) W i' k' t) => eq_knot lo lo' (n + 1) t i k i' k' W hz hk hk')
  have CM := hid (fun (lo : Nat) (i k : Option Addr) (wk W : World) (hk : Kn lo (n + 1) wk i k t) (hz : ksz (n + 1) t ≤ 1048576) (hb : Below wk.heap.size wk W) => mark_knot lo (n + 1) t i k wk W hk hz hb)
  have CX := hid (fun (W : World) => to_boxb e0 e1 e2 e3 W)
  obtain ⟨b0, b1, b2, b3, b4, ni, nk, hf⟩ := kf t
  rw [kv_of hf] at CZ CT ⊢
  simp only [kvo_of hf] at CT CS CI CE CM
  have gL := hid (old_alloc (o' := (.cells #[.int .i64 e0, .int .i64 e1, .int .i64 e2, .int .i64 e3] 23)) (new_alloc w w.heap.size (.cells #[.int .i64 b0, .int .i64 b1, .int .i64 b2, .int .i64 b3, .bool b4, .slice ia ni ic, .slice ka nk kc] 27) rfl))
  have gE := hid (new_alloc (w.alloc (.cells #[.int .i64 b0, .int .i64 b1, .int .i64 b2, .int .i64 b3, .bool b4, .slice ia ni ic, .slice ka nk kc] 27)) (w.heap.size + 1) (.cells #[.int .i64 e0, .int .i64 e1, .int .i64 e2, .int .i64 e3] 23) (by simp))
  have B0 := hid (balloc (balloc (Below.refl w.heap.size w) (.cells #[.int .i64 b0, .int .i64 b1, .int .i64 b2, .int .i64 b3, .bool b4, .slice ia ni ic, .slice ka nk kc] 27)) (.cells #[.int .i64 e0, .int .i64 e1, .int .i64 e2, .int .i64 e3] 23))
  clear h hf
  generalize zfd (e0, e1, e2, e3) n t = Z at *
  by_cases hz : ksz (n + 1) t ≤ 1048576
  · have hle : ¬ (szr 1048576 (ksz (n + 1) t)) < 0 := by unfold szr; split <;> omega
    generalize szr 1048576 (ksz (n + 1) t) = zz at *
    go_enter Try.func5, Try.ntmps5
    go_wp2_with fail
    generalize (w.alloc (.cells #[.int .i64 b0, .int .i64 b1, .int .i64 b2, .int .i64 b3, .bool b4, .slice ia ni ic, .slice ka nk kc] 27)).alloc (.cells #[.int .i64 e0, .int .i64 e1, .int .i64 e2, .int .i64 e3] 23) = v0 at *
    refine (CZ.out _ B0.out).mono ?_
    rintro e v1 ⟨rfl, hb1⟩
    replace gL := hid (keepheap hb1 gL.out)
    replace gE := hid (keepheap hb1 gE.out)
    replace B0 := hid (btrans B0.out hb1)
    clear hb1 CZ
    go_upto_region 5 with fail
    have BF := hid (fun (X : World) (hb : Below v1.heap.size v1 X) => btrans B0.out hb)
    obtain ⟨a0, a1, a2, a3, a4, a5, a6, _, _, _, _, _, _, _⟩ := cell7k gL.out
    obtain ⟨y0, y1, y2, y3, _, _, _, _⟩ := cell4b gE.out
    go_region_held3 (fun w' => w'.cell? ⟨w.heap.size, 0, none⟩ = some (.int .i64 b0) ∧ w'.cell? ⟨w.heap.size, 1, none⟩ = some (.int .i64 b1) ∧ w'.cell? ⟨w.heap.size, 2, none⟩ = some (.int .i64 b2) ∧ w'.cell? ⟨w.heap.size, 3, none⟩ = some (.int .i64 b3) ∧ w'.cell? ⟨w.heap.size, 4, none⟩ = some (.bool b4) ∧ w'.cell? ⟨w.heap.size, 5, none⟩ = some (.slice ia ni ic) ∧ w'.cell? ⟨w.heap.size, 6, none⟩ = some (.slice ka nk kc) ∧ w'.cell? ⟨w.heap.size + 1, 0, none⟩ = some (.int .i64 e0) ∧ w'.cell? ⟨w.heap.size + 1, 1, none⟩ = some (.int .i64 e1) ∧ w'.cell? ⟨w.heap.size + 1, 2, none⟩ = some (.int .i64 e2) ∧ w'.cell? ⟨w.heap.size + 1, 3, none⟩ = some (.int .i64 e3)) ((go_split_ands; (repeat' apply And.intro) <;> (repeat (first | with_reducible assumption | with_reducible refine keepdrew ?_ | with_reducible exact keepcell hv3 (by with_reducible assumption) | with_reducible exact keepcell hv2 (by with_reducible assumption) | with_reducible exact keepcell hv1 (by with_reducible assumption)))))
      (first
        | (go_at_call 10; refine (CT.out _ (BF.out _ (bdrew (Below.refl v1.heap.size v1))) hz).mono ?_; rintro e w1 ⟨si, sk, rfl, hK1, hb1⟩; have hv1 : Below v1.heap.size v1 w1 := btrans (bdrew (Below.refl _ _)) hb1)
        | (go_at_call 20; refine (CX.out _).mono ?_; rintro e w2 ⟨rfl, hb2⟩; have hv2 : Below v1.heap.size v1 w2 := btrans hv1 hb2; have hK2 := hK1.below hb2)
        | (go_at_call 19; refine (CS.out _ _ _ _ hK2 hz).mono ?_; rintro e w3 ⟨gs, cs, rfl, hG, hgl, hb3, hlen⟩; have hv3 : Below v1.heap.size v1 w3 := btrans hv2 hb3))
    have GS := hid hG
    have hgs : gs < w3.heap.size := hG.lt _ _ rfl
    replace gL := hid (keepheap hv3 gL.out)
    replace gE := hid (keepheap hv3 gE.out)
    replace B0 := hid (btrans B0.out hv3)
    have hgl3 := lt_of_heap gL.out
    have hge3 := lt_of_heap gE.out
    clear hb1 hb2 hb3 hv1 hv2 hv3 hK1 hK2 hG hgl CS a0 a1 a2 a3 a4 a5 a6 y0 y1 y2 y3 BF
    obtain ⟨a0, a1, a2, a3, a4, a5, a6, _, _, _, _, _, _, _⟩ := cell7k gL.out
    go_wp2_with fail
    refine (CT.out _ B0.out hz).mono ?_
    rintro e v4 ⟨xi, xk, rfl, hK, hb4⟩
    have KX4 := hid hK
    have hs4 := hb4.size
    have hsw := B0.out.size
    have hbx := balloc (Below.refl v4.heap.size v4) (.cells #[.int .i64 b0, .int .i64 b1, .int .i64 b2, .int .i64 b3, .bool b4, .slice xi ni ni, .slice xk nk nk] 34)
    have KX := hid (hK.below hbx)
    have hbx5 := hid hbx
    have gX := hid (new_alloc v4 v4.heap.size (.cells #[.int .i64 b0, .int .i64 b1, .int .i64 b2, .int .i64 b3, .bool b4, .slice xi ni ni, .slice xk nk nk] 34) rfl)
    replace GS := hid ((GS.out.below hb4).below hbx)
    replace gL := hid (keepheap hbx (keepheap hb4 gL.out))
    replace gE := hid (keepheap hbx (keepheap hb4 gE.out))
    replace B0 := hid (btrans (btrans B0.out hb4) hbx)
    have hs5' : v4.heap.size + 1 ≤ (v4.alloc (.cells #[.int .i64 b0, .int .i64 b1, .int .i64 b2, .int .i64 b3, .bool b4, .slice xi ni ni, .slice xk nk nk] 34)).heap.size := by simp
    clear hb4 hbx hK a0 a1 a2 a3 a4 a5 a6
    go_upto_region 7 with fail
    generalize v4.alloc (.cells #[.int .i64 b0, .int .i64 b1, .int .i64 b2, .int .i64 b3, .bool b4, .slice xi ni ni, .slice xk nk nk] 34) = v5 at *
    generalize hxb : v4.heap.size = xb at *
    have BF := hid (fun (X : World) (hb : Below v5.heap.size v5 X) => btrans B0.out hb)
    obtain ⟨a0, a1, a2, a3, a4, a5, a6, _, _, _, _, _, _, _⟩ := cell7k gX.out
    obtain ⟨y0, y1, y2, y3, _, _, _, _⟩ := cell4b gE.out
    go_region_held3 (fun w' => w'.cell? ⟨xb, 0, none⟩ = some (.int .i64 b0) ∧ w'.cell? ⟨xb, 1, none⟩ = some (.int .i64 b1) ∧ w'.cell? ⟨xb, 2, none⟩ = some (.int .i64 b2) ∧ w'.cell? ⟨xb, 3, none⟩ = some (.int .i64 b3) ∧ w'.cell? ⟨xb, 4, none⟩ = some (.bool b4) ∧ w'.cell? ⟨xb, 5, none⟩ = some (.slice xi ni ni) ∧ w'.cell? ⟨xb, 6, none⟩ = some (.slice xk nk nk) ∧ w'.cell? ⟨w.heap.size + 1, 0, none⟩ = some (.int .i64 e0) ∧ w'.cell? ⟨w.heap.size + 1, 1, none⟩ = some (.int .i64 e1) ∧ w'.cell? ⟨w.heap.size + 1, 2, none⟩ = some (.int .i64 e2) ∧ w'.cell? ⟨w.heap.size + 1, 3, none⟩ = some (.int .i64 e3)) ((go_split_ands; (repeat' apply And.intro) <;> (repeat (first | with_reducible assumption | with_reducible refine keepdrew ?_ | with_reducible exact keepcell hv2 (by with_reducible assumption) | with_reducible exact keepcell hv1 (by with_reducible assumption)))))
      (first
        | (go_at_call 20; refine (CX.out _).mono ?_; rintro e w1 ⟨rfl, hb1⟩; have hv1 : Below v5.heap.size v5 w1 := btrans (bdrew (Below.refl _ _)) hb1; have hK1 := KX.out.below hv1)
        | (go_at_call 21; refine (CI.out _ _ _ _ hK1 hz).mono ?_; rintro e w2 ⟨gi, ci, rfl, hG, hgl, hb2, _⟩; have hv2 : Below v5.heap.size v5 w2 := btrans hv1 hb2))
    have GI := hid hG
    have hgi0 : v5.heap.size ≤ gi := Nat.le_trans hv1.size hgl
    have hgi1 : gi < w2.heap.size := hG.lt _ _ rfl
    replace KX := hid (KX.out.below hv2)
    replace gX := hid (keepheap hv2 gX.out)
    replace gL := hid (keepheap hv2 gL.out)
    replace gE := hid (keepheap hv2 gE.out)
    replace GS := hid (GS.out.below hv2)
    replace B0 := hid (btrans B0.out hv2)
    have BX : Hid (Below v4.heap.size v4 w2) := hid (by have := hbx5.out; rw [hxb] at *; exact this.trans (hv2.mono (by omega)))
    clear hb1 hb2 hv1 hv2 hK1 hG hgl a0 a1 a2 a3 a4 a5 a6 y0 y1 y2 y3 BF hbx5
    go_wp2_with fail
    refine (eq_ints _ _ ci cs Z w2 (by omega) GI.out GS.out).mono ?_
    rintro e v7 ⟨rfl, hb7⟩
    have hsz67 := hb7.size
    replace KX := hid (KX.out.below hb7)
    replace gX := hid (keepheap hb7 gX.out)
    replace gL := hid (keepheap hb7 gL.out)
    replace gE := hid (keepheap hb7 gE.out)
    replace B0 := hid (btrans B0.out hb7)
    replace GS := hid (GS.out.below hb7)
    replace GI := hid (GI.out.below hb7)
    replace BX := hid (BX.out.trans (hb7.mono BX.out.size))
    clear hb7
    go_upto_region 10 with fail
    have BF := hid (fun (X : World) (hb : Below v7.heap.size v7 X) => btrans B0.out hb)
    obtain ⟨a0, a1, a2, a3, a4, a5, a6, _, _, _, _, _, _, _⟩ := cell7k gX.out
    obtain ⟨l0, l1, l2, l3, l4, l5, l6, _, _, _, _, _, _, _⟩ := cell7k gL.out
    go_region_held3 (fun w' => w'.cell? ⟨w.heap.size, 0, none⟩ = some (.int .i64 b0) ∧ w'.cell? ⟨w.heap.size, 1, none⟩ = some (.int .i64 b1) ∧ w'.cell? ⟨w.heap.size, 2, none⟩ = some (.int .i64 b2) ∧ w'.cell? ⟨w.heap.size, 3, none⟩ = some (.int .i64 b3) ∧ w'.cell? ⟨w.heap.size, 4, none⟩ = some (.bool b4) ∧ w'.cell? ⟨w.heap.size, 5, none⟩ = some (.slice ia ni ic) ∧ w'.cell? ⟨w.heap.size, 6, none⟩ = some (.slice ka nk kc) ∧ w'.cell? ⟨xb, 0, none⟩ = some (.int .i64 b0) ∧ w'.cell? ⟨xb, 1, none⟩ = some (.int .i64 b1) ∧ w'.cell? ⟨xb, 2, none⟩ = some (.int .i64 b2) ∧ w'.cell? ⟨xb, 3, none⟩ = some (.int .i64 b3) ∧ w'.cell? ⟨xb, 4, none⟩ = some (.bool b4) ∧ w'.cell? ⟨xb, 5, none⟩ = some (.slice xi ni ni) ∧ w'.cell? ⟨xb, 6, none⟩ = some (.slice xk nk nk)) ((go_split_ands; (repeat' apply And.intro) <;> (repeat (first | with_reducible assumption | with_reducible refine keepdrew ?_ | with_reducible exact keepcell hv2 (by with_reducible assumption) | with_reducible exact keepcell hv1 (by with_reducible assumption)))))
      (first
        | (go_at_call 10; refine (CT.out _ (BF.out _ (bdrew (Below.refl v7.heap.size v7))) hz).mono ?_; rintro e w1 ⟨yi, yk, rfl, hK1, hb1⟩; have hv1 : Below v7.heap.size v7 w1 := btrans (bdrew (Below.refl _ _)) hb1; have KX1 := KX.out.below hv1)
        | (go_at_call 12; refine (CE.out _ _ _ _ _ _ _ hz KX1 hK1).mono ?_; rintro e w6 ⟨rfl, hb2⟩; have hv2 : Below v7.heap.size v7 w6 := btrans hv1 hb2))
    replace gX := hid (keepheap hv2 gX.out)
    replace gL := hid (keepheap hv2 gL.out)
    replace gE := hid (keepheap hv2 gE.out)
    replace B0 := hid (btrans B0.out hv2)
    replace GS := hid (GS.out.below hv2)
    replace GI := hid (GI.out.below hv2)
    replace BX := hid (BX.out.trans (hv2.mono BX.out.size))
    have hs6 := hv2.size
    clear hb1 hb2 hv1 hv2 KX1 hK1 KX a0 a1 a2 a3 a4 a5 a6 l0 l1 l2 l3 l4 l5 l6 CE BF
    obtain ⟨a0, a1, a2, a3, a4, a5, a6, _, _, _, _, _, _, _⟩ := cell7k gX.out
    go_wp2_with fail
    refine (CM.out _ _ _ _ _ KX4.out hz BX.out).mono ?_
    rintro e v8 ⟨rfl, hM⟩
    rw [hxb] at hM
    have hk0 : ¬ (1 + 5 * (ksz (n + 1) t : Int)) < 0 := by omega
    generalize 1 + 5 * (ksz (n + 1) t : Int) = kk at *
    have hsB := B0.out.size
    replace GS := hid (GS.out.blk hM.size (fun b off e => by cases e; exact hM.out _ (by omega) (.inl (by omega))))
    replace GI := hid (GI.out.blk hM.size (fun b off e => by cases e; exact hM.out _ (by omega) (.inr (by omega))))
    replace gL := hid (hM.bk gL.out (.inl (by omega)))
    replace gE := hid (hM.bk gE.out (.inl (by omega)))
    replace B0 := hid (hM.bl B0.out (by omega) hsB)
    have hs8 := hM.size
    clear hM CM KX4 BX gX a0 a1 a2 a3 a4 a5 a6
    go_wp2_with fail
    refine (eq_ints _ _ ci cs Z v8 (by omega) GI.out GS.out).mono ?_
    rintro e v9 ⟨rfl, hb9⟩
    replace gL := hid (keepheap hb9 gL.out)
    replace gE := hid (keepheap hb9 gE.out)
    replace B0 := hid (btrans B0.out hb9)
    replace GS := hid (GS.out.below hb9)
    replace GI := hid (GI.out.below hb9)
    have hs9 := hb9.size
    clear hb9
    go_wp2_with fail
    refine (mark_ints v9 _ ci Z (by omega) GI.out).mono ?_
    rintro e v10 ⟨rfl, hMk, hg⟩
    have MK := hid hMk
    replace gL := hid ((hg.block _ (lt_of_heap gL.out) (by simp; omega)).trans gL.out)
    replace gE := hid ((hg.block _ (lt_of_heap gE.out) (by simp; omega)).trans gE.out)
    replace GS := hid (GS.out.grown hg (fun c off e => by cases e; simp; omega))
    replace B0 := hid (bgrown B0.out hg (show w.heap.size ≤ gi by omega))
    clear hg hMk GI
    go_wp2_with fail
    refine (held_ints v10 _ ci Z.length (by omega) MK.out).mono ?_
    rintro e v11 ⟨rfl, hb11⟩
    have hq0 : ¬ (1 + (Z.length : Int)) < 0 := by omega
    generalize hmm : 1 + (Z.length : Int) = mm at *
    have hqq : (mm != mm) = false := by simp
    replace gL := hid (keepheap hb11 gL.out)
    replace gE := hid (keepheap hb11 gE.out)
    replace B0 := hid (btrans B0.out hb11)
    replace GS := hid (GS.out.below hb11)
    replace MK := hid (MK.out.below hb11)
    have HMM := hid hmm
    clear hb11 hmm
    go_upto_region 24 with fail
    have BF := hid (fun (X : World) (hb : Below v11.heap.size v11 X) => btrans B0.out hb)
    obtain ⟨a0, a1, a2, a3, a4, a5, a6, _, _, _, _, _, _, _⟩ := cell7k gL.out
    obtain ⟨y0, y1, y2, y3, _, _, _, _⟩ := cell4b gE.out
    go_region_held3 (fun w' => w'.cell? ⟨w.heap.size, 0, none⟩ = some (.int .i64 b0) ∧ w'.cell? ⟨w.heap.size, 1, none⟩ = some (.int .i64 b1) ∧ w'.cell? ⟨w.heap.size, 2, none⟩ = some (.int .i64 b2) ∧ w'.cell? ⟨w.heap.size, 3, none⟩ = some (.int .i64 b3) ∧ w'.cell? ⟨w.heap.size, 4, none⟩ = some (.bool b4) ∧ w'.cell? ⟨w.heap.size, 5, none⟩ = some (.slice ia ni ic) ∧ w'.cell? ⟨w.heap.size, 6, none⟩ = some (.slice ka nk kc) ∧ w'.cell? ⟨w.heap.size + 1, 0, none⟩ = some (.int .i64 e0) ∧ w'.cell? ⟨w.heap.size + 1, 1, none⟩ = some (.int .i64 e1) ∧ w'.cell? ⟨w.heap.size + 1, 2, none⟩ = some (.int .i64 e2) ∧ w'.cell? ⟨w.heap.size + 1, 3, none⟩ = some (.int .i64 e3)) ((go_split_ands; (repeat' apply And.intro) <;> (repeat (first | with_reducible assumption | with_reducible refine keepdrew ?_ | with_reducible exact keepcell hv3 (by with_reducible assumption) | with_reducible exact keepcell hv2 (by with_reducible assumption) | with_reducible exact keepcell hv1 (by with_reducible assumption)))))
      (first
        | (go_at_call 10; refine (CT.out _ (BF.out _ (bdrew (Below.refl v11.heap.size v11))) hz).mono ?_; rintro e w1 ⟨si, sk, rfl, hK1, hb1⟩; have hv1 : Below v11.heap.size v11 w1 := btrans (bdrew (Below.refl _ _)) hb1)
        | (go_at_call 20; refine (CX.out _).mono ?_; rintro e w2 ⟨rfl, hb2⟩; have hv2 : Below v11.heap.size v11 w2 := btrans hv1 hb2; have hK2 := hK1.below hb2)
        | (go_at_call 21; refine (CI.out _ _ _ _ hK2 hz).mono ?_; rintro e w3 ⟨gh, ch, rfl, hG, hgl, hb3, hlen⟩; have hv3 : Below v11.heap.size v11 w3 := btrans hv2 hb3))
    have GH := hid hG
    replace B0 := hid (btrans B0.out hv3)
    replace GS := hid (GS.out.below hv3)
    replace MK := hid (MK.out.below hv3)
    clear hb1 hb2 hb3 hv1 hv2 hv3 hK1 hK2 hG hgl CI CT a0 a1 a2 a3 a4 a5 a6 y0 y1 y2 y3 BF gL gE
    go_wp2_with fail
    refine (eq_ints _ _ ch cs Z _ (by omega) GH.out GS.out).mono ?_
    rintro e v14 ⟨rfl, hb14⟩
    replace B0 := hid (btrans B0.out hb14)
    replace MK := hid (MK.out.below hb14)
    clear hb14 GH GS
    go_wp2_with fail
    have CH := hid (held_ints v14 _ ci Z.length (by omega) MK.out)
    rw [HMM.out] at CH
    refine CH.out.mono ?_
    rintro e v15 ⟨rfl, hb15⟩
    replace B0 := hid (btrans B0.out hb15)
    clear hb15 CH
    go_wp2_with fail
    go_ret
    exact ⟨rfl, B0.out⟩
  · have hle : szr 1048576 (ksz (n + 1) t) < 0 := by unfold szr; split <;> omega
    generalize szr 1048576 (ksz (n + 1) t) = zz at *
    go_enter Try.func5, Try.ntmps5
    go_wp2_with fail
    refine (CZ.out _ B0.out).mono ?_
    rintro e v1 ⟨rfl, hb1⟩
    have BF := hid (btrans B0.out hb1)
    clear hb1
    go_wp2_with fail
    go_ret
    exact ⟨rfl, BF.out⟩
end Go.Proofs.Ytmdnelgnpponpaa
