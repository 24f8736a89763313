/- The landed TreeItems. -/
import Derived.Test.YtmdnelgnpponpaaFt
import Derived.Test.YtmdnelgnpponpaaFl
namespace Go.Proofs.Ytmdnelgnpponpaa
open Go.RowKit Go.Shelf
set_option linter.unusedSimpArgs false
set_option linter.unusedVariables false
attribute [local go_sem] Oper.semAt_some
theorem ItG.tn {w w' : World} {B C g c : Nat} {l : List It} (h : ItG w B g c l) (H : Tn MT C w w') : ItG w' B g c l := by
  refine ⟨h.1, ?_⟩
  rcases h.2 with hn | ⟨g', c', cur, e, q1, q2, q3⟩
  · exact .inl hn
  · exact .inr ⟨g', c', cur, e, q1, (H.old g' (lt_of_heap q2) (.inr (fun o ho => by rw [q2] at ho; cases ho; rfl))).trans q2, q3⟩
/-- Items that grow in a box of their own. -/
def ItB (W : World) (Bl B : Nat) (L : List It) : Prop := ∃ g c, W.heap[Bl]? = some (.cells #[.slice (some ⟨g, 0, none⟩) L.length c] 31 (0, 0)) ∧ ItG W B g c L
theorem ItB.tn {W W' : World} {Bl B C : Nat} {L : List It} (h : ItB W Bl B L) (H : Tn MT C W W') (hC : Bl < C) : ItB W' Bl B L := by
  obtain ⟨g, c, h1, h2⟩ := h
  exact ⟨g, c, (H.old Bl (lt_of_heap h1) (.inl hC)).trans h1, h2.tn H⟩
theorem its_next (L : List KT) (k : Nat) (h : k < L.length) : (L.take (k + 1)).flatMap KT.its = (L.take k).flatMap KT.its ++ L[k].its := by
  rw [List.take_add_one, List.getElem?_eq_getElem h, Option.toList_some, List.flatMap_append]
  simp
theorem its_le (L : List KT) (k : Nat) : ((L.take k).flatMap KT.its).length ≤ (L.flatMap KT.its).length := by
  conv => rhs; rw [← List.take_append_drop k L]
  rw [List.flatMap_append, List.length_append]; omega
/-- Where a round over the knots stands behind its assignment. -/
def RdAx (lo Z : Nat) (w0 : World) (L : List KT) (I : Nat → World → Prop) (TM : Nat → Value → Array Value) (k : Nat) (a' : Act) (X : World) : Prop := ∃ (Bx m' : Nat) (ia' ka' : Option Addr) (hk : k < L.length) (c0 c1 c2 c3 : Int) (c4 : Bool) (mi mk : Nat), KF L[k] c0 c1 c2 c3 c4 mi mk ∧ X.heap[Bx]? = some (.cells #[.int .i64 c0, .int .i64 c1, .int .i64 c2, .int .i64 c3, .bool c4, .slice ia' mi mi, .slice ka' mk mk] 34 (0, 0)) ∧ Z ≤ Bx ∧ Kn lo m' w0 ia' ka' L[k] ∧ I k X ∧ a' = { tmps := TM Bx (.agg #[.int .i64 c0, .int .i64 c1, .int .i64 c2, .int .i64 c3, .bool c4, .slice ia' mi mi, .slice ka' mk mk]), defers := [] }
theorem RdAx.putR {lo Z : Nat} {w0 : World} {L : List KT} {I : Nat → World → Prop} {TM : Nat → Value → Array Value} {k : Nat} {a' : Act} {X : World} {l : Nat} {r r' : Loop} {M : Obj → Bool} (hM : ∀ r, M (.loop r) = true) (hI : Ab M Z I) (h : RdAx lo Z w0 L I TM k a' X) (hl : X.heap[l]? = some (.loop r)) (hz : Z ≤ l) : RdAx lo Z w0 L I TM k a' (X.putObj l (.loop r')) := by
  obtain ⟨Bx, m', ia', ka', hk, c0, c1, c2, c3, c4, mi, mk, hf, hbx, hle, hkn, h1, ha⟩ := h
  refine ⟨Bx, m', ia', ka', hk, c0, c1, c2, c3, c4, mi, mk, hf, (World.putObj_heap_other (fun e => ?_)).trans hbx, hle, hkn, hI _ _ _ h1 (Tn.put _ hl (hM _) hz), ha⟩
  rw [e, hl] at hbx; cases hbx
theorem alloc4 (W : World) (o0 o1 o2 o3 : Obj) : ((((W.alloc o0).alloc o1).alloc o2).alloc o3).heap[W.heap.size]? = some o0 ∧ ((((W.alloc o0).alloc o1).alloc o2).alloc o3).heap[W.heap.size + 1]? = some o1 ∧ ((((W.alloc o0).alloc o1).alloc o2).alloc o3).heap[W.heap.size + 1 + 1]? = some o2 ∧ ((((W.alloc o0).alloc o1).alloc o2).alloc o3).heap[W.heap.size + 1 + 1 + 1]? = some o3 ∧ ((((W.alloc o0).alloc o1).alloc o2).alloc o3).heap.size = W.heap.size + 4 ∧ Below W.heap.size W ((((W.alloc o0).alloc o1).alloc o2).alloc o3) := by
  refine ⟨?_, ?_, ?_, ?_, by simp, balloc (balloc (balloc (balloc (Below.refl _ W) _) _) _) _⟩
  · exact old_alloc (old_alloc (old_alloc (new_alloc W _ _ rfl)))
  · exact old_alloc (old_alloc (new_alloc _ _ _ (by simp)))
  · exact old_alloc (new_alloc _ _ _ (by simp))
  · exact new_alloc _ _ _ (by simp)
/-- An append to a list that is no nil: where the list lies then. -/
theorem owned_at {w : World} {base : Nat} {e : TypeId} {size g n0 c : Nat} {v : Value} {k : Nat} {xs : List Value} {m : Nat} (h : w.ownsRow base e size v k xs) (hi : v = .slice none 0 0 ↔ (.slice (some ⟨g, 0, none⟩) n0 c : Value) = .slice none 0 0 ∧ m = 0) : ∃ g' c', v = .slice (some ⟨g', 0, none⟩) k c' := by
  rcases h.2 with ⟨e, _⟩ | ⟨g', c', cur, e, _⟩
  · exact absurd (hi.1 e).1 (fun e => by cases e)
  · exact ⟨g', c', e⟩
theorem ItG.typ {w : World} {B g c : Nat} {l : List It} (h : ItG w B g c l) : B ≤ g ∧ ∃ cur, w.heap[g]? = some (.cells cur 54 (0, 0)) := by
  rcases h.2 with ⟨e, _⟩ | ⟨g', c', cur, e, q1, q2, q3⟩
  · cases e
  · cases e; exact ⟨q1, cur, q2⟩
set_option maxRecDepth 100000 in
set_option maxHeartbeats 4000000 in
theorem impl_TreeItems (m lo : Nat) (t : KT) (ia ka : Option Addr) (w : World) (h : Kn lo m w ia ka t) (hz : ksz m t ≤ 1048576) : Calls Try.prog 14 #[kvo t ia ka] w fun e w' => ∃ g c, e = .returned (.slice (some ⟨g, 0, none⟩) (itm 20 t).length c) ∧ ItG w' w.heap.size g c (itm 20 t) ∧ Below w.heap.size w w' := by
  have hlen := Nat.le_trans (kn_itm m 20 h) hz
  have hkn := itm_kns 20 t
  obtain ⟨i0, hi0, hz0, hz1, hzz⟩ := info_parts Try.infoIt
  obtain ⟨b0, b1, b2, b3, b4, ni, nk, hkf⟩ := kf t
  have hkv : kvo t ia ka = .agg #[.int .i64 b0, .int .i64 b1, .int .i64 b2, .int .i64 b3, .bool b4, .slice ia ni ni, .slice ka nk nk] := kvo_of hkf ia ka
  have KC := hid (fun W => knots_c t ia t.its.length ka t.kids.length W)
  have hck : ck t ia t.its.length ka t.kids.length = [.int .i64 b0, .int .i64 b1, .int .i64 b2, .int .i64 b3, .bool b4, .slice ia ni ni, .slice ka nk nk] := by
    obtain ⟨rfl, rfl, rfl, rfl, rfl, rfl, rfl⟩ := hkf
    rfl
  change Hid (∀ W, Calls _ _ #[kvo t ia ka] W _) at KC
  rw [hck, hkv] at KC
  rw [hkv]
  rw [← callsIn_wide (n := 10)]
  refine callsIn_of_wp_marks Try.func14 rfl trivial ?_ rfl
  simp only [Try.ntmps14, List.size_toArray, List.length_cons, List.length_nil, Nat.reduceAdd, Nat.reduceSub, Array.replicate_succ, Array.replicate_zero, List.push_toArray, List.append_toArray, List.nil_append, List.cons_append]
  gi_wp2
  refine ⟨trivial, ((callsIn_wide (n := 9)).2 (KC.out _)).mono ?_⟩
  rintro e v1 ⟨rfl, hv1⟩
  gi_wp2
  obtain ⟨A0, A1, A2, A3, hs, hB⟩ := alloc4 w (.cells #[.int .i64 b0, .int .i64 b1, .int .i64 b2, .int .i64 b3, .bool b4, .slice ia ni ni, .slice ka nk nk] 34) (.cells #[] 54) (.cells #[.slice (some ⟨w.heap.size + 1, 0, none⟩) 0 0] 31) (.cells #[.int .i64 b0, .int .i64 b1, .int .i64 b2, .int .i64 b3, .bool b4, .slice ia ni ni, .slice ka nk nk] 34)
  have hG0 := World.ownsRow_made (base := w.heap.size) (e := 54) (size := 5) (w.alloc (.cells #[.int .i64 b0, .int .i64 b1, .int .i64 b2, .int .i64 b3, .bool b4, .slice ia ni ni, .slice ka nk nk] 34)) #[] 0 (by simp) (by decide) rfl
  rw [World.size_alloc] at hG0
  have hG1 : ItG ((((w.alloc (.cells #[.int .i64 b0, .int .i64 b1, .int .i64 b2, .int .i64 b3, .bool b4, .slice ia ni ni, .slice ka nk nk] 34)).alloc (.cells #[] 54)).alloc (.cells #[.slice (some ⟨w.heap.size + 1, 0, none⟩) 0 0] 31)).alloc (.cells #[.int .i64 b0, .int .i64 b1, .int .i64 b2, .int .i64 b3, .bool b4, .slice ia ni ni, .slice ka nk nk] 34)) w.heap.size (w.heap.size + 1) 0 [] := (hG0.alloc _).alloc _
  generalize (((w.alloc (.cells #[.int .i64 b0, .int .i64 b1, .int .i64 b2, .int .i64 b3, .bool b4, .slice ia ni ni, .slice ka nk nk] 34)).alloc (.cells #[] 54)).alloc (.cells #[.slice (some ⟨w.heap.size + 1, 0, none⟩) 0 0] 31)).alloc (.cells #[.int .i64 b0, .int .i64 b1, .int .i64 b2, .int .i64 b3, .bool b4, .slice ia ni ni, .slice ka nk nk] 34) = v1 at *
  clear hG0
  have HL := hid hlen
  have HKN := hid hkn
  have HSQ := hid (knots_seq 9 lo m (by omega) t ia ka w v1 (w.heap.size + 1 + 1 + 1) h hz hB (by rw [hck]; exact A3))
  have HS := hid hs
  clear hlen hkn A0 A1 A3 hs KC hkv hck
  refine wpIn_rangeN rfl (fun h => by cases h) (first := #[]) (by rfl) trivial (enters_of Try.func57 (by kernel_rfl) rfl) (fun _ => rfl) (fun _ => rfl) HSQ.out (Below.refl _ v1) hB.size
    (fun k X => (ItB X (w.heap.size + 1 + 1) w.heap.size (((kns (fun _ => true) 20 t).take k).flatMap KT.its) ∧ Below w.heap.size w X))
    (fun c k X => False)
    (fun _ _ _ => trivial) ?hI ?hIx ?h0
    (RdAx lo v1.heap.size w (kns (fun _ => true) 20 t) (fun k X => (ItB X (w.heap.size + 1 + 1) w.heap.size (((kns (fun _ => true) 20 t).take k).flatMap KT.its) ∧ Below w.heap.size w X)) (fun Bx vv => #[.agg #[.int .i64 b0, .int .i64 b1, .int .i64 b2, .int .i64 b3, .bool b4, .slice ia ni ni, .slice ka nk nk], .pointer (some ⟨w.heap.size, 0, none⟩), .slice none 0 0, .pointer (some ⟨w.heap.size + 1 + 1, 0, none⟩), .pointer (some ⟨Bx, 0, none⟩), .slice (some ⟨w.heap.size + 1, 0, none⟩) 0 0, .agg #[.int .i64 b0, .int .i64 b1, .int .i64 b2, .int .i64 b3, .bool b4, .slice ia ni ni, .slice ka nk nk], .func (.func 57) #[] #[.pointer (some ⟨w.heap.size + 1 + 1 + 1, 0, none⟩)], vv, undef, undef, undef, undef, undef]))
    ?hAx ?assign ?body ?done ?stop
  case hI =>
    rintro k X Y ⟨h1, h2⟩ ht
    exact ⟨h1.tn ht (by rw [HS.out]; omega), h2.trans (ht.below hB.size h2.size)⟩
  case hIx => exact fun c k X Y h _ => h.elim
  case h0 => exact ⟨⟨w.heap.size + 1, 0, A2, hG1⟩, hB⟩
  case hAx =>
    rintro k a' X l' r r' HH hl' hle'
    refine RdAx.putR (M := MT) (fun _ => rfl) ?_ HH hl' hle'
    rintro k X Y ⟨h1, h2⟩ ht
    exact ⟨h1.tn ht (by rw [HS.out]; omega), h2.trans (ht.below hB.size h2.size)⟩
  case assign =>
    rintro l' k v X hk ⟨h1, h2⟩ ⟨hk', m', ia', ka', rfl, hkn⟩ hsX hbX
    obtain ⟨c0, c1, c2, c3, c4, mi, mk, hf⟩ := kf (kns (fun _ => true) 20 t)[k]
    rw [kvo_of hf]
    gi_wp2
    have hBA : Below X.heap.size X (X.alloc (.cells #[.int .i64 c0, .int .i64 c1, .int .i64 c2, .int .i64 c3, .bool c4, .slice ia' mi mi, .slice ka' mk mk] 34)) := balloc (Below.refl X.heap.size X) _
    have ht := Tn.of_below (M := MT) (B := v1.heap.size) hBA
    exact ⟨Kp.of_below hBA h2.size, ⟨X.heap.size, m', ia', ka', hk', c0, c1, c2, c3, c4, mi, mk, hf, new_alloc _ _ _ rfl, hsX, hkn, ⟨h1.tn ht (by rw [HS.out]; omega), h2.trans (ht.below hB.size h2.size)⟩, rfl⟩⟩
  case body =>
    rintro l' k a' X hk HH
    obtain ⟨Bx, m', ia', ka', hk', c0, c1, c2, c3, c4, mi, mk, hf, hbx, hle, hkn, ⟨⟨g, c, hb1, hg1⟩, h2⟩, rfl⟩ := HH
    cases m' with
    | zero => exact hkn.elim
    | succ m' =>
    obtain ⟨bi, bk, rfl, _, _, _, hIO, _⟩ := hkn
    have hnx := its_next (kns (fun _ => true) 20 t) k hk'
    have hpl := its_le (kns (fun _ => true) 20 t) (k + 1)
    rw [hnx, HKN.out, List.length_append, hf.its] at hpl
    have hll := HL.out
    have HNX := hid hnx
    have hN5 := flI_len (kns (fun _ => true) 20 t)[k].its
    rw [hf.its] at hN5
    have HF1 := hid (flI_one (kns (fun _ => true) 20 t)[k].its)
    have HNW := hid (fun j u (e : (flI (kns (fun _ => true) 20 t)[k].its)[j]? = some u) => show X.cell? ((⟨bi, 0, none⟩ : Addr).add j) = some u by
      rw [Addr.add_mid bi 0 j]
      exact flI_cell _ 0 (fun j hj => by have := (hIO.2.1 j hj).below hIO.1 h2; rwa [Nat.zero_add]) j u e)
    clear hnx hIO
    generalize hQ : flI (kns (fun _ => true) 20 t)[k].its = Q at *
    have HQ := hid hQ
    clear hQ
    generalize hP : ((kns (fun _ => true) 20 t).take k).flatMap KT.its = P at *
    clear hP
    obtain ⟨z0, z1, z2, z3, z4, z5, z6, _, _, _, _, _, _, _⟩ := cell7k hbx
    obtain ⟨y0, yf⟩ := cell1k hb1
    obtain ⟨hgl, cur, hgt⟩ := hg1.typ
    have hne : g ≠ w.heap.size + 1 + 1 := fun e => by rw [e, hb1] at hgt; cases hgt
    have hsX := h2.size
    simp only []
    gi_wp2_with (gi_at_builtin; refine wpListIn_append_own _ rfl (.tmp 9) (.tmp 11) 31 rfl w.heap.size 54 i0 _ 5 40 Try.underlying31 hi0 hz0 hz1 hzz rfl (by decide) (.slice (some ⟨g, 0, none⟩) P.length c) P.length (flI P) (by rfl) hg1 ⟨bi, 0, none⟩ mi mi Q (by rfl) hN5 HNW.out HF1.out (by unfold maxLen; omega) (by omega) hsX ?_; intro v' w1 hown hgrow hiff; obtain ⟨g', c', rfl⟩ := owned_at hown hiff; have hbl1 : w1.heap[w.heap.size + 1 + 1]? = some (.cells #[.slice (some ⟨g, 0, none⟩) P.length c] 31 (0, 0)) := (hgrow.block _ (lt_of_heap hb1) (by simp [Value.ownBlock]; omega)).trans hb1; obtain ⟨y1, yf1⟩ := cell1k hbl1)
    have hg2 : ItG w1 w.heap.size g' c' (P ++ (kns (fun _ => true) 20 t)[k].its) := ofG hown (by rw [List.length_append, hf.its]) (by rw [flI_app, HQ.out])
    have hk1 : Kp MT v1.heap.size w.heap.size X w1 := (Kp.refl _ _ _ _).grown hgrow hsX (fun r e => by
      cases e
      exact ⟨hgl, .inr (fun o ho => by rw [hgt] at ho; cases ho; rfl)⟩)
    refine ⟨hk1.set _ (by dsimp only; omega) (.inl (by dsimp only; rw [HS.out]; omega)), ⟨g', c', ?_, ?_⟩, (h2.trans hk1.below).setCell (by dsimp only; omega) _⟩
    · rw [HNX.out, List.length_append, hf.its]
      exact set_at hbl1
    · rw [HNX.out]
      obtain ⟨_, cur', hgt'⟩ := hg2.typ
      exact World.ownsRow.kept hg2 (grownBy_setCell' w1 _ _) (.inr (by
        simp only [Value.ownBlock, ne_eq, Option.some.injEq]
        intro e
        rw [e, hbl1] at hgt'; cases hgt'))
  case done =>
    rintro X ⟨⟨g, c, hb1, hg1⟩, h2⟩ hD hbX
    rw [List.take_length, HKN.out] at hb1 hg1
    obtain ⟨y0, yf⟩ := cell1k hb1
    gi_wp2
    refine ⟨by simp, .inl ⟨_, _, rfl, run_takeDeferred hD, ?_⟩⟩
    have ht : Tn MT v1.heap.size X (X.putObj v1.heap.size (.deferred none)) := Tn.put _ hD rfl (Nat.le_refl _)
    exact ⟨_, results_tmp rfl _ _ _, g, c, rfl, hg1.tn ht, h2.trans (ht.below hB.size h2.size)⟩
  case stop => exact fun c k X _ h => h.elim
end Go.Proofs.Ytmdnelgnpponpaa
