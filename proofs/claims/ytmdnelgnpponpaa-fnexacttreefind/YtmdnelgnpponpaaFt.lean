/- The knots of a tree and those that are looked at, as iterators. -/
import Derived.Test.YtmdnelgnpponpaaFs
import Derived.Test.YtmdnelgnpponpaaGeo7
import Derived.Test.YtmdnelgnpponpaaFf
namespace Go.Proofs.Ytmdnelgnpponpaa
open Go.RowKit Go.Shelf
set_option linter.unusedSimpArgs false
set_option linter.unusedVariables false
/-- The k-th of the walk's knots, as a round is given it. -/
def KW (lo : Nat) (w0 : World) (L : List KT) (k : Nat) (v : Value) (_ : World) : Prop := ∃ hk : k < L.length, KS lo w0 L[k] v
theorem knots_all (t : KT) (ia : Option Addr) (ic : Nat) (ka : Option Addr) (kc : Nat) (w : World) : Calls Try.prog 59 #[kv t ia ic ka kc] w fun e w' => e = .returned (.bool true) ∧ Below w.heap.size w w' := by
  unfold kv
  go_enter Try.func59, Try.ntmps59
  go_wp2
  go_ret
  exact ⟨rfl, balloc (Below.refl _ _) _⟩
theorem knots_c (t : KT) (ia : Option Addr) (ic : Nat) (ka : Option Addr) (kc : Nat) (w : World) : Calls Try.prog 40 #[kv t ia ic ka kc] w fun e w' => e = .returned (.func (.func 57) #[] #[.pointer (some ⟨w.heap.size, 0, none⟩)]) ∧ w' = w.alloc (.cells (ck t ia ic ka kc).toArray 34) := by
  have hmf : ∀ (fn : Fn) (first cap : Array Value) (w : World), (Instr.makeFunc fn first cap).run Try.prog w = .ok (.func fn first cap) w := fun _ _ _ _ => rfl
  unfold kv ck
  go_enter Try.func40, Try.ntmps40
  go_wp2
  go_ret
  exact ⟨rfl, rfl⟩
set_option maxRecDepth 100000 in
set_option maxHeartbeats 2000000 in
theorem knots_seq (n lo m : Nat) (hn : 1 ≤ n) (t : KT) (ia ka : Option Addr) (w0 w : World) (Bt : Nat) (h : Kn lo m w0 ia ka t) (hz : ksz m t ≤ 1048576) (hb : Below w0.heap.size w0 w) (hB : w.heap[Bt]? = some (.cells (ck t ia t.its.length ka t.kids.length).toArray 34 (0, 0))) : SeqN Fence.wide n Try.prog MT 57 #[] #[.pointer (some ⟨Bt, 0, none⟩)] w0.heap.size (kns (fun _ => true) 20 t).length (KW lo w0 (kns (fun _ => true) 20 t)) (fun _ => True) w := by
  intro l J Jx W _ hW hJ hJx hY h0
  show CallsIn Fence.wide n Try.prog 57 #[.func (.yield l) #[] #[], .pointer (some ⟨Bt, 0, none⟩)] W _
  rw [callsIn_wide]
  have hb0 : Below w0.heap.size w0 W := hb.trans (hW.mono hb.size)
  have hs0 : w0.heap.size ≤ W.heap.size := hb0.size
  have hBW := keepheap hW hB
  have HE := hid (each_c 59 #[] (enters_of Try.func59 (by kernel_rfl) rfl) (fun _ => true) lo w0 l W.heap.size hs0 20 (by omega) m t ia ka W (fun k X => J k X ∧ Below w0.heap.size W X) Jx h hz hb0 (Nat.le_refl _)
    (fun k X Y hx ht => ⟨hJ k X Y hx.1 ht, hx.2.trans (ht.below hs0 (Nat.le_trans hs0 hx.2.size))⟩) hJx
    (fun k v W1 hk hj hv hb1 => by
      obtain ⟨fn, tmps, assign, body, hy, hR⟩ := hY k v W1 hk hj.1 ⟨hk, hv⟩ hj.2
      refine ⟨fn, tmps, assign, body, hy, round_wide (hR.mono ?_)⟩
      rintro e W' ⟨(⟨rfl, hj'⟩ | ⟨rfl, hj'⟩), hk'⟩
      · exact ⟨.inl ⟨rfl, hj', hj.2.trans hk'.below⟩, hk'⟩
      · exact ⟨.inr ⟨rfl, hj'⟩, hk'⟩)
    (fun k s v W1 hj hv hb1 => by
      obtain ⟨m', ia', ka', rfl, _⟩ := hv
      exact (knots_all s ia' _ ka' _ W1))
    ⟨h0, Below.refl _ _⟩)
  obtain ⟨b0, b1, b2, b3, b4, ni, nk, hkf⟩ := kf t
  have hck : ck t ia t.its.length ka t.kids.length = [.int .i64 b0, .int .i64 b1, .int .i64 b2, .int .i64 b3, .bool b4, .slice ia ni ni, .slice ka nk nk] := by
    obtain ⟨rfl, rfl, rfl, rfl, rfl, rfl, rfl⟩ := hkf
    rfl
  rw [hck] at hBW
  rw [kvo_of hkf] at HE
  obtain ⟨z0, z1, z2, z3, z4, z5, z6, _, _, _, _, _, _, _⟩ := cell7k hBW
  generalize (kns (fun _ => true) 20 t).length = NN at *
  go_enter Try.func57, Try.ntmps57
  go_wp2_with fail
  refine HE.out.mono ?_
  rintro e X ⟨(⟨rfl, hj, hbb⟩ | ⟨rfl, k, hk, hj⟩), hkp⟩
  · go_wp2_with fail
    go_end0
    exact ⟨⟨_, rfl⟩, .inl hj, hkp.below⟩
  · go_wp2_with fail
    go_end0
    exact ⟨⟨_, rfl⟩, .inr ⟨k, hk, hj⟩, hkp.below⟩
/-- Whether two boxes meet. -/
def btb (x b : Bx) : Bool := bok x.1 x.2.1 x.2.2.1 x.2.2.2 && bok b.1 b.2.1 b.2.2.1 b.2.2.2 && meetb x.1 x.2.1 x.2.2.1 x.2.2.2 b.1 b.2.1 b.2.2.1 b.2.2.2
/-- A box that lies in a block of its own. -/
def BxAt (q : Nat) (b : Bx) (W : World) : Prop := W.heap[q]? = some (.cells #[.int .i64 b.1, .int .i64 b.2.1, .int .i64 b.2.2.1, .int .i64 b.2.2.2] 30 (0, 0))
theorem looked_all (t : KT) (ia : Option Addr) (ic : Nat) (ka : Option Addr) (kc : Nat) (b : Bx) (q : Nat) (w : World) (h : BxAt q b w) : Calls Try.prog 67 #[kv t ia ic ka kc, .pointer (some ⟨q, 0, none⟩)] w fun e w' => e = .returned (.bool (btb t.box b)) ∧ Below w.heap.size w w' := by
  unfold kv
  have hq := lt_of_heap h
  have B0 := hid (balloc (Below.refl w.heap.size w) (.cells #[.int .i64 t.box.1, .int .i64 t.box.2.1, .int .i64 t.box.2.2.1, .int .i64 t.box.2.2.2, .bool t.lf, .slice ia t.its.length ic, .slice ka t.kids.length kc] 34))
  have C := hid (fun (W : World) => impl_BoxMeets t.box.1 t.box.2.1 t.box.2.2.1 t.box.2.2.2 b.1 b.2.1 b.2.2.1 b.2.2.2 W)
  change Hid (∀ W, Calls _ _ _ W (fun e' w' => e' = .returned (.bool (btb t.box b)) ∧ Below W.heap.size W w')) at C
  unfold BxAt at h
  have h2 := old_alloc (o' := .cells #[.int .i64 t.box.1, .int .i64 t.box.2.1, .int .i64 t.box.2.2.1, .int .i64 t.box.2.2.2, .bool t.lf, .slice ia t.its.length ic, .slice ka t.kids.length kc] 34) h
  have h1 := new_alloc w w.heap.size (.cells #[.int .i64 t.box.1, .int .i64 t.box.2.1, .int .i64 t.box.2.2.1, .int .i64 t.box.2.2.2, .bool t.lf, .slice ia t.its.length ic, .slice ka t.kids.length kc] 34) rfl
  generalize btb t.box b = r at *
  generalize t.box.1 = b0 at *
  generalize t.box.2.1 = b1 at *
  generalize t.box.2.2.1 = b2 at *
  generalize t.box.2.2.2 = b3 at *
  generalize b.1 = e0 at *
  generalize b.2.1 = e1 at *
  generalize b.2.2.1 = e2 at *
  generalize b.2.2.2 = e3 at *
  obtain ⟨z0, z1, z2, z3, z4, z5, z6, _, _, _, _, _, _, _⟩ := cell7k h1
  obtain ⟨y0, y1, y2, y3, _, _, _, _⟩ := cell4b h2
  clear h h1 h2
  go_enter Try.func67, Try.ntmps67
  go_wp2_with fail
  refine (C.out _).mono ?_
  rintro e X ⟨rfl, hb⟩
  go_wp2_with fail
  go_ret
  exact ⟨rfl, btrans B0.out hb⟩
theorem looked_c (t : KT) (ia : Option Addr) (ic : Nat) (ka : Option Addr) (kc : Nat) (b : Bx) (w : World) : Calls Try.prog 46 #[kv t ia ic ka kc, .agg #[.int .i64 b.1, .int .i64 b.2.1, .int .i64 b.2.2.1, .int .i64 b.2.2.2]] w fun e w' => e = .returned (.func (.func 66) #[] #[.pointer (some ⟨w.heap.size, 0, none⟩), .pointer (some ⟨w.heap.size + 1, 0, none⟩)]) ∧ w' = (w.alloc (.cells (ck t ia ic ka kc).toArray 34)).alloc (.cells #[.int .i64 b.1, .int .i64 b.2.1, .int .i64 b.2.2.1, .int .i64 b.2.2.2] 30) := by
  have hmf : ∀ (fn : Fn) (first cap : Array Value) (w : World), (Instr.makeFunc fn first cap).run Try.prog w = .ok (.func fn first cap) w := fun _ _ _ _ => rfl
  unfold kv ck
  go_enter Try.func46, Try.ntmps46
  go_wp2
  go_ret
  exact ⟨rfl, rfl⟩
set_option maxRecDepth 100000 in
set_option maxHeartbeats 2000000 in
theorem looked_seq (n lo m : Nat) (b : Bx) (Bb : Nat) (hn : 1 ≤ n) (t : KT) (ia ka : Option Addr) (w0 w : World) (Bt : Nat) (h : Kn lo m w0 ia ka t) (hz : ksz m t ≤ 1048576) (hb : Below w0.heap.size w0 w) (hB : w.heap[Bt]? = some (.cells (ck t ia t.its.length ka t.kids.length).toArray 34 (0, 0))) : SeqN Fence.wide n Try.prog MT 66 #[] #[.pointer (some ⟨Bt, 0, none⟩), .pointer (some ⟨Bb, 0, none⟩)] w0.heap.size (kns (fun s => btb s.box b) 20 t).length (KW lo w0 (kns (fun s => btb s.box b) 20 t)) (BxAt Bb b) w := by
  intro l J Jx W hG hW hJ hJx hY h0
  show CallsIn Fence.wide n Try.prog 66 #[.func (.yield l) #[] #[], .pointer (some ⟨Bt, 0, none⟩), .pointer (some ⟨Bb, 0, none⟩)] W _
  rw [callsIn_wide]
  have hb0 : Below w0.heap.size w0 W := hb.trans (hW.mono hb.size)
  have hs0 : w0.heap.size ≤ W.heap.size := hb0.size
  have hBW := keepheap hW hB
  have HE := hid (each_c 67 #[.pointer (some ⟨Bb, 0, none⟩)] (enters_of Try.func67 (by kernel_rfl) rfl) (fun s => btb s.box b) lo w0 l W.heap.size hs0 20 (by omega) m t ia ka W (fun k X => J k X ∧ Below w0.heap.size W X) Jx h hz hb0 (Nat.le_refl _)
    (fun k X Y hx ht => ⟨hJ k X Y hx.1 ht, hx.2.trans (ht.below hs0 (Nat.le_trans hs0 hx.2.size))⟩) hJx
    (fun k v W1 hk hj hv hb1 => by
      obtain ⟨fn, tmps, assign, body, hy, hR⟩ := hY k v W1 hk hj.1 ⟨hk, hv⟩ hj.2
      refine ⟨fn, tmps, assign, body, hy, round_wide (hR.mono ?_)⟩
      rintro e W' ⟨(⟨rfl, hj'⟩ | ⟨rfl, hj'⟩), hk'⟩
      · exact ⟨.inl ⟨rfl, hj', hj.2.trans hk'.below⟩, hk'⟩
      · exact ⟨.inr ⟨rfl, hj'⟩, hk'⟩)
    (fun k s v W1 hj hv hb1 => by
      obtain ⟨m', ia', ka', rfl, _⟩ := hv
      exact (looked_all s ia' _ ka' _ b Bb W1 (hG _ _ hj.1)))
    ⟨h0, Below.refl _ _⟩)
  obtain ⟨b0, b1, b2, b3, b4, ni, nk, hkf⟩ := kf t
  have hck : ck t ia t.its.length ka t.kids.length = [.int .i64 b0, .int .i64 b1, .int .i64 b2, .int .i64 b3, .bool b4, .slice ia ni ni, .slice ka nk nk] := by
    obtain ⟨rfl, rfl, rfl, rfl, rfl, rfl, rfl⟩ := hkf
    rfl
  rw [hck] at hBW
  rw [kvo_of hkf] at HE
  obtain ⟨z0, z1, z2, z3, z4, z5, z6, _, _, _, _, _, _, _⟩ := cell7k hBW
  generalize (kns (fun s => btb s.box b) 20 t).length = NN at *
  go_enter Try.func66, Try.ntmps66
  have hmf : ∀ (fn : Fn) (first cap : Array Value) (w : World), (Instr.makeFunc fn first cap).run Try.prog w = .ok (.func fn first cap) w := fun _ _ _ _ => rfl
  go_wp2_with fail
  refine HE.out.mono ?_
  rintro e X ⟨(⟨rfl, hj, hbb⟩ | ⟨rfl, k, hk, hj⟩), hkp⟩
  · go_wp2_with fail
    go_end0
    exact ⟨⟨_, rfl⟩, .inl hj, hkp.below⟩
  · go_wp2_with fail
    go_end0
    exact ⟨⟨_, rfl⟩, .inr ⟨k, hk, hj⟩, hkp.below⟩
end Go.Proofs.Ytmdnelgnpponpaa
