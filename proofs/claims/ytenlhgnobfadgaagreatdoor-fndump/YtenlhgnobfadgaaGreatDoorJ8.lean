/- Texts of stores, joined: RwV, RwQ, RwP, RwA0. -/
import Derived.Test.YtenlhgnobfadgaaGreatDoorJ7
import Derived.Test.YtenlhgnobfadgaaGreatDoorShelfS
import Derived.RangeFuncNested
import Derived.RangeFuncBound
import Derived.RangeFuncCalls
import Derived.RangeFuncLeaves
import Derived.RangeFuncBox
import Derived.Shelf.Abstract
import Derived.Shelf.RegionOpen
import Derived.WalkKit
import Derived.OwnWalkIn
import Derived.TacticsInMore
import Derived.LoopNIn
import Derived.LoopIn
import Derived.Maps.AppendAt
import Derived.Deep.AppendLies
import Derived.Shelf.SlSortCmp.NoneTotal
import Derived.OwnWalk
set_option maxRecDepth 100000
set_option maxHeartbeats 2000000
set_option linter.unusedSimpArgs false
set_option linter.unusedVariables false
namespace Go.Proofs.YtenlhgnobfadgaaGreatDoor
open Go.RowKit Go.Shelf Go.Lib Go.Sort
abbrev El : Type := Int × Int × Int × Int × Option Addr × Nat × Nat
def ev (x : El) : List Value := [.int .i64 x.1, .int .i64 x.2.1, .int .i64 x.2.2.1, .int .i64 x.2.2.2.1, .slice x.2.2.2.2.1 x.2.2.2.2.2.1 x.2.2.2.2.2.2]
def trE (x : El) : Tr := (x.1, x.2.1, x.2.2.1)
def cfE (x y : El) : Int := cmr (trE x) (trE y)
theorem ltE (x y : El) : ltOf cfE x y = decide (x.1 < y.1 ∨ (x.1 = y.1 ∧ x.2.1 < y.2.1)) := by
 unfold ltOf cfE cmr cmi trE
 by_cases h1 : x.1 < y.1
 ·simp [h1]
 ·by_cases h2 : y.1 < x.1
  ·have : ¬ x.1 = y.1 := by omega
   simp [h1, h2, this]
  ·have : x.1 = y.1 := by omega
   by_cases h3 : x.2.1 < y.2.1
   ·simp [this, h3]
   ·by_cases h4 : y.2.1 < x.2.1
    ·simp [this, h3, h4]
    ·simp [this, h3, h4]
theorem swoE : SWO (ltOf cfE) where
 irrefl x := by rw [ltE]; simp
 trans x y z h1 h2 := by rw [ltE] at *; simp only [decide_eq_true_eq] at *; omega
 ntrans x y z h1 h2 := by rw [ltE] at *; simp only [decide_eq_false_iff_not] at *; omega
theorem cmpE (blk off size : Nat) (w : World) : CmpLays Tryz.prog 65 #[] ev 5 cfE blk off size w :=
 fun _ _ _ _ x y => compare_rows x.1 x.2.1 x.2.2.1 x.2.2.2.1 y.1 y.2.1 y.2.2.1 y.2.2.2.1 _ _ _
theorem isAggRow (w : World) : (isAgg 65).run Tryz.prog w = .ok true w := by kernel_rfl
theorem sizeRow (w : World) : (Go.sizeOf 65).run Tryz.prog w = .ok 5 w := by kernel_rfl
theorem sort_rows (blk off cap : Nat) (d : Array El) (w : World) (hH : HoldsK ev 5 w blk off d) (hblk : blk < w.heap.size) (hsz : d.size < 4611686018427387904) :
  Calls Tryz.prog 64 #[.slice (some ⟨blk, off, none⟩) d.size cap, .func (.func 65) #[] #[]] w fun e w' => e = .returned (.tuple #[]) ∧ ∃ d' n os, PermIn 0 d.size d d' ∧ SortedIn (ltOf cfE) 0 d.size d' ∧ w' = sortWorldK ev 5 w blk off n d' os := by
 have eg : ∀ args w, (callFunc 65 args).run Tryz.prog w = .ok (.enter 65 args) w := enters_of Tryz.func65 (by kernel_rfl) rfl
 have hcon := AnyQ.slices_SortFunc Tryz.sortRow 5 isAggRow sizeRow ev (fun _ => rfl) (fun x v hv => by simp [ev] at hv; rcases hv with rfl | rfl | rfl | rfl | rfl <;> rfl) cfE swoE 65 #[] blk off cap d w eg (cmpE blk off d.size w) hH hblk hsz
 exact hcon
end Go.Proofs.YtenlhgnobfadgaaGreatDoor
namespace Go.Proofs.YtenlhgnobfadgaaGreatDoor
open Go.RowKit Go.Shelf
attribute [local go_sem] Oper.semAt_some
def ElsAt (w : World) (b off : Nat) (xs : List El) : Prop := ∀ j (h : j < xs.length), w.cell? ⟨b, off + j * 5, none⟩ = some (.int .i64 xs[j].1) ∧ w.cell? ⟨b, off + j * 5 + 1, none⟩ = some (.int .i64 xs[j].2.1) ∧ w.cell? ⟨b, off + j * 5 + 2, none⟩ = some (.int .i64 xs[j].2.2.1) ∧ w.cell? ⟨b, off + j * 5 + 3, none⟩ = some (.int .i64 xs[j].2.2.2.1) ∧ w.cell? ⟨b, off + j * 5 + 4, none⟩ = some (.slice xs[j].2.2.2.2.1 xs[j].2.2.2.2.2.1 xs[j].2.2.2.2.2.2)
theorem ElsAt.below {w w' : World} {n b off : Nat} {xs : List El} (h : ElsAt w b off xs) (hb : b < n) (H : Below n w w') : ElsAt w' b off xs := fun j hj => by
 obtain ⟨h0, h1, h2, h3, h4⟩ := h j hj
 exact ⟨(H.cell (p := ⟨b, off + j * 5, none⟩) hb).trans h0, (H.cell (p := ⟨b, off + j * 5 + 1, none⟩) hb).trans h1, (H.cell (p := ⟨b, off + j * 5 + 2, none⟩) hb).trans h2, (H.cell (p := ⟨b, off + j * 5 + 3, none⟩) hb).trans h3, (H.cell (p := ⟨b, off + j * 5 + 4, none⟩) hb).trans h4⟩
theorem ElsAt.below0 {w w' : World} {n b off : Nat} {xs : List El} (h : ElsAt w b off xs) (hb : 0 < xs.length → b < n) (H : Below n w w') : ElsAt w' b off xs := fun j hj => h.below (hb (Nat.lt_of_le_of_lt (Nat.zero_le _) hj)) H j hj
def encE (x : El) : Array Value := #[.agg #[.int .i64 x.1, .int .i64 x.2.1, .int .i64 x.2.2.1, .int .i64 x.2.2.2.1, .slice x.2.2.2.2.1 x.2.2.2.2.2.1 x.2.2.2.2.2.2]]
theorem values1_r (F : Fence) (n : Nat) (hf : F.fn 156) (hro : F.round = none) (hn : 1 ≤ n) (l Bs n₀ b off cap : Nat) (xs : List El) (hlen : xs.length ≤ 1099511627776) (a : Option Addr) (ha : 0 < xs.length → a = some ⟨b, off, none⟩) (hb : 0 < xs.length → b < n₀) (J Jx : List El → World → Prop) (W : World) (hA : AbidesFrom W.heap.size J) (hn0 : n₀ ≤ W.heap.size)
  (hY : ∀ pre x W1, J pre W1 → pre.length < xs.length → YieldAt F (n - 1) Tryz.prog l (encE x) W1 fun e W' =>
   (e = .returned (.bool true) ∧ J (pre ++ [x]) W' ∧ Below n₀ W1 W') ∨ (e = .returned (.bool false) ∧ Jx (pre ++ [x]) W'))
  (hBs : W.cell? ⟨Bs, 0, none⟩ = some (.slice a xs.length cap)) (hc : ElsAt W b off xs) (h0 : J [] W) :
  CallsIn F n Tryz.prog 156 #[.func (.yield l) #[] #[], .pointer (some ⟨Bs, 0, none⟩)] W fun e W' => (∃ v, e = .returned v) ∧ ((∃ ys, ys = xs ∧ J ys W') ∨ (∃ pre, True ∧ Jx pre W')) := by
 obtain ⟨len, hl⟩ : ∃ len, len = xs.length := ⟨_, rfl⟩
 have HL := hid hl.symm
 rw [← hl] at hBs hlen
 clear hl
 refine callsIn_of_wp Tryz.func156 rfl hf ?_ hro
 simp only [Tryz.ntmps156, List.size_toArray, List.length_cons, List.length_nil, Nat.reduceAdd, Nat.reduceSub, Array.replicate_succ, Array.replicate_zero, List.push_toArray, List.append_toArray, List.nil_append, List.cons_append]
 gi_wp2
 gi_loopw [7] (fun i wr => ∃ k : Nat, k ≤ len ∧ i = .int .i64 k ∧ Hid (J (xs.take k) wr) ∧ Hid (Below n₀ W wr)) (fun i _ => len - (intOf i).toNat)
 case atStart => exact ⟨0, Nat.zero_le _, rfl, hid (by simpa using h0), hid (Below.refl _ _)⟩
 case round =>
  obtain ⟨k, hk, rfl, HJ, HB⟩ := hrel
  by_cases hlt : k < len
  ·have hkl : k < xs.length := by rw [HL.out]; exact hlt
   have c1 : (k : Int) < (len : Int) := by omega
   obtain rfl := ha (by omega)
   obtain ⟨k0, k1, k2, k3, k4⟩ := (hc.below0 hb HB.out) k hkl
   have hJ1 := hA _ _ _ none HJ.out (World.grownBy_alloc wr (.cells #[.int .i64 xs[k].1, .int .i64 xs[k].2.1, .int .i64 xs[k].2.2.1, .int .i64 xs[k].2.2.2.1, .slice xs[k].2.2.2.2.1 xs[k].2.2.2.2.2.1 xs[k].2.2.2.2.2.2] 65) none) (fun r e => by cases e)
   obtain ⟨fn, tmps, assign, body, hy, hR⟩ := hY _ xs[k] _ hJ1 (by rw [List.length_take]; omega)
   have htk : xs.take k ++ [xs[k]] = xs.take (k + 1) := by rw [List.take_add_one, List.getElem?_eq_getElem hkl]; rfl
   rw [htk] at hR
   have HR := hid hR
   clear hR htk hJ1
   unfold encE at hy
   have hsz : n₀ ≤ wr.heap.size := Nat.le_trans hn0 HB.out.size
   have HB2 := hid (HB.out.trans ((Below.refl n₀ wr).alloc hsz (.cells #[.int .i64 xs[k].1, .int .i64 xs[k].2.1, .int .i64 xs[k].2.2.1, .int .i64 xs[k].2.2.2.1, .slice xs[k].2.2.2.2.1 xs[k].2.2.2.2.2.1 xs[k].2.2.2.2.2.2] 65)))
   gi_wp2
   refine HR.out.mono ?_
   rintro e W3 (⟨rfl, hJ3, hk3⟩ | ⟨rfl, hJx3⟩)
   ·gi_wp2
    go_roundw
    case rel => exact ⟨k + 1, by omega, by go_num, hid hJ3, hid (HB2.out.trans hk3)⟩
    case measure => simp [intOf]; omega
   ·gi_wp2
    refine bodyPost_ret (results_none rfl _ _ _) rfl ?_
    exact ⟨⟨_, rfl⟩, .inr ⟨_, trivial, hJx3⟩⟩
  ·have c1 : (len : Int) ≤ (k : Int) := by omega
   gi_wp2
   go_end0
   refine ⟨⟨_, rfl⟩, .inl ⟨xs, rfl, ?_⟩⟩
   have := HJ.out
   rwa [List.take_of_length_le (by rw [HL.out]; omega)] at this
theorem values_stops_r (F : Fence) (n : Nat) (hf : F.fn 156) (hro : F.round = none) (hn : 1 ≤ n) (Bs n₀ b off cap : Nat) (xs : List El) (hlen : xs.length ≤ 1099511627776) (a : Option Addr) (ha : 0 < xs.length → a = some ⟨b, off, none⟩) (hb : 0 < xs.length → b < n₀) (w : World) (hBl : Bs < w.heap.size) (hn0 : n₀ ≤ w.heap.size)
  (hBs : w.cell? ⟨Bs, 0, none⟩ = some (.slice a xs.length cap)) (hc : ElsAt w b off xs) :
  SeqStopsK F n Tryz.prog 156 #[.pointer (some ⟨Bs, 0, none⟩)] encE (Below n₀) (fun ys => ys = xs) (fun _ => True) xs.length w := fun l J Jx W hW hJ _ hY h0 =>
 values1_r F n hf hro hn l Bs n₀ b off cap xs hlen a ha hb J Jx W hJ (Nat.le_trans hn0 hW.size) hY ((hW.cell (p := ⟨Bs, 0, none⟩) hBl).trans hBs) (hc.below0 hb (hW.mono hn0)) h0
def flat5 (xs : List El) : List Value := xs.flatMap ev
theorem flat5_snoc (xs : List El) (x : El) : flat5 (xs ++ [x]) = flat5 xs ++ ev x := by simp [flat5]
theorem Tryz.infoRw : (Tryz.prog.info? 65).map (fun i => (i.zero, i.size, i.bytes)) = some (some (.agg #[.int .i64 0, .int .i64 0, .int .i64 0, .int .i64 0, .slice none 0 0]), 5, 56) := by kernel_rfl
def boxE (x : El) : Obj := .cells #[.int .i64 x.1, .int .i64 x.2.1, .int .i64 x.2.2.1, .int .i64 x.2.2.2.1, .slice x.2.2.2.2.1 x.2.2.2.2.2.1 x.2.2.2.2.2.2] 65 (0, 0)
theorem appendSeq_r (F : Fence) (n : Nat) (hf : F.fn 190) (hro : F.round = none) (hn : 2 ≤ n) (g : Nat) (lb : Array Value) (hFg : F.fn g) (eg : ∀ args w, (callFunc g args).run Tryz.prog w = .ok (.enter g args) w) (xs : List El) (hlen : xs.length ≤ 1099511627776) (n₀ : Nat) (w : World) (hn0 : n₀ ≤ w.heap.size)
  (hseq : SeqStopsK F (n - 1) Tryz.prog g lb encE (Below n₀) (fun ys => ys = xs) (fun _ => True) xs.length w) :
  CallsIn F n Tryz.prog 190 #[.slice none 0 0, .func (.func g) #[] lb] w fun e w' => ∃ v, e = .returned v ∧ w'.ownsRow w.heap.size 65 5 v xs.length (flat5 xs) ∧ Below w.heap.size w w' := by
 have h1 : 1 ≤ n := by omega
 obtain ⟨i0, hi, hz0, hz1, hz2⟩ := info_parts Tryz.infoRw
 refine callsIn_of_wp_marks Tryz.func190 rfl hf ?_ hro
 simp only [Tryz.ntmps190, List.size_toArray, List.length_cons, List.length_nil, Nat.reduceAdd, Nat.reduceSub, Array.replicate_succ, Array.replicate_zero, List.push_toArray, List.append_toArray, List.nil_append, List.cons_append]
 gi_wp2
 have bS : Boxed (w.alloc (.cells #[.slice none 0 0] 30)) w.heap.size 30 (.slice none 0 0) := Boxed.new w _ _
 have hB0 : Below w.heap.size w (w.alloc (.cells #[.slice none 0 0] 30)) := (Below.refl _ w).alloc (Nat.le_refl _) _
 have hsz : (w.alloc (.cells #[.slice none 0 0] 30)).heap.size = w.heap.size + 1 := by simp
 obtain ⟨W0, hW0⟩ : ∃ W0, w.alloc (.cells #[.slice none 0 0] 30) = W0 := ⟨_, rfl⟩
 rw [hW0] at bS hB0 hsz ⊢
 clear hW0
 refine wpIn_rangeFunc_ownH hro h1 (gf := g) (lb := lb) rfl hFg eg hseq belowK_t (belowK_b (by omega)) hB0 (fun _ => rfl)
  (fun pre W => (∃ v, Boxed W w.heap.size 30 v ∧ W.ownsRow w.heap.size 65 5 v pre.length (flat5 pre) ∧ True) ∧ Below w.heap.size w W)
  (fun _ _ _ => False)
  (OwnFrom.and (Own.from (holdsRow_own w.heap.size w.heap.size 30 65 5 (fun (pre : List El) => pre.length) (fun pre => flat5 pre) (fun _ _ => True)) _) (ownFrom_below (Nat.le_refl _) (by omega)))
  (fun _ _ _ _ _ hs _ _ => hs)
  ⟨⟨_, bS, ⟨rfl, .inl ⟨rfl, rfl⟩⟩, trivial⟩, hB0⟩
  (fun x a' W => ∃ Bx, w.heap.size < Bx ∧ W.heap[Bx]? = some (boxE x) ∧ a' = { tmps := #[.slice none 0 0, .func (.func g) #[] lb, .pointer (some ⟨w.heap.size, 0, none⟩), undef, .slice none 0 0, .pointer (some ⟨Bx, 0, none⟩), .func (.func g) #[] lb, .agg #[.int .i64 x.1, .int .i64 x.2.1, .int .i64 x.2.2.1, .int .i64 x.2.2.2.1, .slice x.2.2.2.2.1 x.2.2.2.2.2.1 x.2.2.2.2.2.2], undef, undef, undef, undef, undef], defers := [] })
  (fun x a' _ X Y row hs hg hr => by
   obtain ⟨Bx, h1, h2, h3⟩ := hs
   refine ⟨Bx, h1, ?_, h3⟩
   refine (hg.block Bx (Array.getElem?_eq_some_iff.1 h2).1 (fun e' => ?_)).trans h2
   obtain ⟨_, o, ho, hc⟩ := hr Bx e'.symm
   rw [h2] at ho; cases ho; cases hc)
  ?assign ?body ?done ?stop
 case assign =>
  rintro l pre x W K ⟨⟨v, bV, hrow, _⟩, hB1⟩ hK
  unfold encE
  gi_wp2
  exact hK _ _ ((KeepsOthers.alloc _ _).from _) ((Below.refl _ W).alloc (Nat.le_trans hn0 hB1.size) _) ⟨⟨v, bV.alloc _, hrow.alloc _, trivial⟩, hB1.alloc hB1.size _⟩ ⟨W.heap.size, bV.lt, World.alloc_heap_new W _, rfl⟩
 case body =>
  rintro l pre x a' W hl ⟨r, hr⟩ ⟨⟨v, bV, hrow, _⟩, hB1⟩ ⟨Bx, hBx, bX, rfl⟩ hlt
  have cV := bV.cell
  unfold boxE at bX
  obtain ⟨⟨x0, x1, x2, x3, x4⟩, _⟩ := cell5g bX
  have hsW := hB1.size
  gi_wp2_with (gi_at_builtin; refine wpListIn_append_own _ rfl _ _ 30 rfl w.heap.size 65 i0 _ 5 56 Tryz.underlying30 hi hz0 hz1 hz2 rfl (by decide) _ _ _ rfl (hrow.alloc _) ⟨W.heap.size, 0, none⟩ 1 1 [.int .i64 x.1, .int .i64 x.2.1, .int .i64 x.2.2.1, .int .i64 x.2.2.2.1, .slice x.2.2.2.2.1 x.2.2.2.2.2.1 x.2.2.2.2.2.2] rfl rfl (World.news_of_block (cs := #[.int .i64 x.1, .int .i64 x.2.1, .int .i64 x.2.2.1, .int .i64 x.2.2.2.1, .slice x.2.2.2.2.1 x.2.2.2.2.2.1 x.2.2.2.2.2.2]) (t := 65) (fr := (0, 0)) (World.alloc_heap_new W _)) (by simp [Value.oneCell']) (by unfold maxLen; omega) (by omega) (by simp; omega) ?_; intro v' w1 hown' hgrow _; obtain ⟨g', cap', rfl⟩ := ownsRow_succ hown'; obtain ⟨hv1, hv2, hr2, hk2, hb2⟩ := bV.appended (by decide) hrow hsW (Nat.le_refl _) hown' hgrow; have hc1 := hv1.cell; have hf1 := hv1.frozen)
  exact ⟨hk2.from _, hb2.mono hn0, ⟨_, hv2, by rw [flat5_snoc, List.length_append]; exact hr2, trivial⟩, hB1.trans hb2⟩
 case done =>
  rintro D ys W hD rfl ⟨⟨v, bV, hrow, _⟩, hB1⟩ hK
  have cV := bV.cell
  gi_wp2
  refine ⟨by simp, .inl ⟨_, _, rfl, run_takeDeferred hK, ?_⟩⟩
  exact ⟨_, results_tmp rfl _ _ _, v, rfl, ownsRow_putObj hrow _ hK rfl, hB1.trans (belowK_b (w := w) (Nat.le_refl _) W D _ _ (by omega) hK rfl rfl)⟩
 case stop =>
  rintro D c pre W hD _ hx
  exact hx.elim
end Go.Proofs.YtenlhgnobfadgaaGreatDoor
namespace Go.Proofs.YtenlhgnobfadgaaGreatDoor
open Go.RowKit Go.Shelf Go.Lib Go.Sort
theorem flat5_at : ∀ (xs : List El) (j : Nat) (h : j < xs.length), (flat5 xs)[j * 5]? = some (.int .i64 xs[j].1) ∧ (flat5 xs)[j * 5 + 1]? = some (.int .i64 xs[j].2.1) ∧ (flat5 xs)[j * 5 + 2]? = some (.int .i64 xs[j].2.2.1) ∧ (flat5 xs)[j * 5 + 3]? = some (.int .i64 xs[j].2.2.2.1) ∧ (flat5 xs)[j * 5 + 4]? = some (.slice xs[j].2.2.2.2.1 xs[j].2.2.2.2.2.1 xs[j].2.2.2.2.2.2)
 | [], j, h => by simp at h
 | x :: r, 0, h => by simp [flat5, ev]
 | x :: r, j + 1, h => by
  have ih := flat5_at r j (by simpa using h)
  have e : ∀ k, (flat5 (x :: r))[k + 5]? = (flat5 r)[k]? := by
   intro k
   show ((ev x) ++ flat5 r)[k + 5]? = _
   rw [List.getElem?_append_right (by simp [ev])]
   simp [ev]
  have e0 : (j + 1) * 5 = j * 5 + 5 := by omega
  rw [e0, e, show j * 5 + 5 + 1 = j * 5 + 1 + 5 by omega, e, show j * 5 + 5 + 2 = j * 5 + 2 + 5 by omega, e, show j * 5 + 5 + 3 = j * 5 + 3 + 5 by omega, e, show j * 5 + 5 + 4 = j * 5 + 4 + 5 by omega, e]
  exact ih
theorem flat5_len (xs : List El) : (flat5 xs).length = xs.length * 5 := by
 induction xs with
 | nil => rfl
 | cons x r ih =>
  show (ev x ++ flat5 r).length = _
  rw [List.length_append, ih]
  simp [ev]; omega
theorem flatK_at (xs : List El) (t : Nat) (h : t < xs.length * 5) : (flat5 xs)[t]? = some ((ev xs.toArray[t / 5]!)[t % 5]!) := by
 have hj : t / 5 < xs.length := by omega
 obtain ⟨h0, h1, h2, h3, h4⟩ := flat5_at xs (t / 5) hj
 have hx : xs.toArray[t / 5]! = xs[t / 5] := by simp [hj]
 rw [hx]
 obtain e | e | e | e | e : t % 5 = 0 ∨ t % 5 = 1 ∨ t % 5 = 2 ∨ t % 5 = 3 ∨ t % 5 = 4 := by omega
 ·have et : t = t / 5 * 5 := by omega
  rw [e]
  conv => lhs; rw [et]
  rw [h0]; rfl
 ·have et : t = t / 5 * 5 + 1 := by omega
  rw [e]
  conv => lhs; rw [et]
  rw [h1]; rfl
 ·have et : t = t / 5 * 5 + 2 := by omega
  rw [e]
  conv => lhs; rw [et]
  rw [h2]; rfl
 ·have et : t = t / 5 * 5 + 3 := by omega
  rw [e]
  conv => lhs; rw [et]
  rw [h3]; rfl
 ·have et : t = t / 5 * 5 + 4 := by omega
  rw [e]
  conv => lhs; rw [et]
  rw [h4]; rfl
theorem holds_of_row {w : World} {g cap : Nat} {xs : List El} {cur : Array Value} {e : TypeId} (hb : w.heap[g]? = some (.cells cur e (0, 0))) (hc : cur.toList.take (xs.length * 5) = flat5 xs) : HoldsK ev 5 w g 0 xs.toArray := by
 intro t ht
 have hs : (flatK ev 5 xs.toArray).size = xs.length * 5 := by simp [flatK]
 rw [hs] at ht
 have hf : (flatK ev 5 xs.toArray)[t]! = (ev xs.toArray[t / 5]!)[t % 5]! := by
  rw [getElem!_pos _ t (by rw [hs]; exact ht)]
  simp [flatK]
 have hcur : cur[t]? = some ((ev xs.toArray[t / 5]!)[t % 5]!) := by
  have h1 := flatK_at xs t ht
  rw [← hc, List.getElem?_take, if_pos ht] at h1
  simpa using h1
 refine ⟨?_, ?_⟩
 ·simp only [World.cell?, hb, Nat.zero_add]
  rw [hf]
  simpa using hcur
 ·simp [World.frozen?, hb]
theorem els_of_holds {w : World} {g : Nat} {d : Array El} (h : HoldsK ev 5 w g 0 d) : ElsAt w g 0 d.toList := by
 intro j hj
 have hjd : j < d.size := by simpa using hj
 have hs : (flatK ev 5 d).size = d.size * 5 := by simp [flatK]
 have hf : ∀ k, k < 5 → w.cell? ⟨g, 0 + j * 5 + k, none⟩ = some ((ev d.toList[j])[k]!) := by
  intro k hk
  have h1 := (h (j * 5 + k) (by rw [hs]; omega)).1
  have h2 : (flatK ev 5 d)[j * 5 + k]! = (ev d.toList[j])[k]! := by
   rw [getElem!_pos _ _ (by rw [hs]; omega)]
   have e1 : (j * 5 + k) / 5 = j := by omega
   have e2 : (j * 5 + k) % 5 = k := by omega
   simp [flatK, e1, e2, hjd]
  rw [show 0 + j * 5 + k = 0 + (j * 5 + k) by omega, h1]
  simp only [id]
  rw [h2]
 exact ⟨hf 0 (by omega), hf 1 (by omega), hf 2 (by omega), hf 3 (by omega), hf 4 (by omega)⟩
theorem grown_sortedK {w : World} {g n : Nat} {os : Array Obj} (d : Array El) : w.grownBy (sortWorldK ev 5 w g 0 n d os) (some g) := by
 refine ⟨rfl, rfl, rfl, by simp [sortWorldK, putRowK, putRow, mapBlock, Sort.ahead, grow], fun k hk hne => ?_⟩
 unfold sortWorldK putRowK
 rw [heap_grow_old _ _ (by simpa [putRow, mapBlock, Sort.ahead] using hk)]
 have : g ≠ k := fun e => hne (by rw [e])
 simp [putRow, mapBlock, Sort.ahead, Array.getElem?_modify, this]
def lexE (x y : El) : Prop := x.1 < y.1 ∨ (x.1 = y.1 ∧ x.2.1 ≤ y.2.1)
theorem sorted_lex {d : Array El} (h : SortedIn (ltOf cfE) 0 d.size d) : d.toList.Pairwise lexE := by
 rw [List.pairwise_iff_getElem]
 intro i j hi hj hij
 have hjd : j < d.size := by simpa using hj
 have h1 := h i j (Nat.zero_le _) hij hjd
 rw [ltE, decide_eq_false_iff_not] at h1
 have ei : d[i]! = d.toList[i] := by simp [show i < d.size by omega]
 have ej : d[j]! = d.toList[j] := by simp [hjd]
 rw [ei, ej] at h1
 unfold lexE
 omega
theorem values_c (a : Option Addr) (n cap : Nat) (w : World) : Calls Tryz.prog 112 #[.slice a n cap] w fun e w' => e = .returned (.func (.func 156) #[] #[.pointer (some ⟨w.heap.size, 0, none⟩)]) ∧ w' = w.alloc (.cells #[.slice a n cap] 30) := by
 have hmf : ∀ (fn : Fn) (first cap : Array Value) (w : World), (Instr.makeFunc fn first cap).run Tryz.prog w = .ok (.func fn first cap) w := fun _ _ _ _ => rfl
 go_enter Tryz.func112, Tryz.ntmps112
 go_wp2
 go_ret
 exact ⟨rfl, rfl⟩
theorem appendSeq_c (Bs b off cap : Nat) (xs : List El) (hlen : xs.length ≤ 1099511627776) (w : World) (a : Option Addr) (ha : 0 < xs.length → a = some ⟨b, off, none⟩) (hb : 0 < xs.length → b < w.heap.size) (hBs : w.cell? ⟨Bs, 0, none⟩ = some (.slice a xs.length cap)) (hc : ElsAt w b off xs) :
  Calls Tryz.prog 190 #[.slice none 0 0, .func (.func 156) #[] #[.pointer (some ⟨Bs, 0, none⟩)]] w fun e w' => ∃ v, e = .returned v ∧ w'.ownsRow w.heap.size 65 5 v xs.length (flat5 xs) ∧ Below w.heap.size w w' :=
 (callsIn_wide (n := 5)).1 (appendSeq_r Fence.wide 5 trivial rfl (by omega) _ _ trivial (enters_of Tryz.func156 (by kernel_rfl) rfl) xs hlen w.heap.size w (Nat.le_refl _)
  (values_stops_r Fence.wide 4 trivial rfl (by omega) Bs w.heap.size b off cap xs hlen a ha hb w (World.block_lt_of_cell? w _ hBs) (Nat.le_refl _) hBs hc))
theorem collect_c (Bs b off cap : Nat) (xs : List El) (hlen : xs.length ≤ 1099511627776) (w : World) (a : Option Addr) (ha : 0 < xs.length → a = some ⟨b, off, none⟩) (hb : 0 < xs.length → b < w.heap.size) (hBs : w.cell? ⟨Bs, 0, none⟩ = some (.slice a xs.length cap)) (hc : ElsAt w b off xs) :
  Calls Tryz.prog 155 #[.func (.func 156) #[] #[.pointer (some ⟨Bs, 0, none⟩)]] w fun e w' => ∃ v, e = .returned v ∧ w'.ownsRow w.heap.size 65 5 v xs.length (flat5 xs) ∧ Below w.heap.size w w' := by
 have H := hid (appendSeq_c Bs b off cap xs hlen w a ha hb hBs hc)
 clear hBs hc
 go_enter Tryz.func155, Tryz.ntmps155
 go_wp2_with fail
 refine H.out.mono ?_
 rintro e w1 ⟨v, rfl, hr, hB⟩
 go_wp2_with fail
 go_ret
 exact ⟨v, rfl, hr, hB⟩
theorem sorted_c (Bs b off cap : Nat) (xs : List El) (h0 : 0 < xs.length) (hlen : xs.length ≤ 1099511627776) (w : World) (hb : b < w.heap.size) (hBs : w.cell? ⟨Bs, 0, none⟩ = some (.slice (some ⟨b, off, none⟩) xs.length cap)) (hc : ElsAt w b off xs) :
  Calls Tryz.prog 111 #[.func (.func 156) #[] #[.pointer (some ⟨Bs, 0, none⟩)], .func (.func 65) #[] #[]] w fun e w' => ∃ g cap' ys, e = .returned (.slice (some ⟨g, 0, none⟩) xs.length cap') ∧ ys.length = xs.length ∧ g < w'.heap.size ∧ ElsAt w' g 0 ys ∧ ys.Perm xs ∧ ys.Pairwise lexE ∧ Below w.heap.size w w' := by
 have H := hid (collect_c Bs b off cap xs hlen w _ (fun _ => rfl) (fun _ => hb) hBs hc)
 clear hBs hc
 obtain ⟨n, hn⟩ : ∃ n, n = xs.length := ⟨_, rfl⟩
 have HN := hid hn
 rw [← hn] at h0 hlen ⊢
 rw [← hn] at H
 clear hn
 go_enter Tryz.func111, Tryz.ntmps111
 go_wp2_with fail
 refine H.out.mono ?_
 rintro e w1 ⟨v, rfl, hr, hB⟩
 obtain ⟨g, cp, cur, rfl, hg, hgb, hcp, _, _, htk⟩ : ∃ g cp cur, v = .slice (some ⟨g, 0, none⟩) n cp ∧ w.heap.size ≤ g ∧ w1.heap[g]? = some (.cells cur 65 (0, 0)) ∧ n ≤ cp ∧ cp ≤ maxLen ∧ cur.size = cp * 5 ∧ cur.toList.take (n * 5) = flat5 xs := by
  rcases hr.2 with ⟨_, h⟩ | h
  ·omega
  ·exact h
 have hgl : g < w1.heap.size := lt_of_block hgb
 have hH : HoldsK ev 5 w1 g 0 xs.toArray := holds_of_row (cap := cp) hgb (by rw [← HN.out]; exact htk)
 have HS := hid (sort_rows g 0 cp xs.toArray w1 hH hgl (by simp; rw [← HN.out]; omega))
 rw [show xs.toArray.size = n by simp [HN.out]] at HS
 have HHK := hid hH
 clear hH htk hr hgb
 go_wp2_with fail
 refine HS.out.mono ?_
 rintro e w2 ⟨rfl, d', q, os, hp, hs, rfl⟩
 have hds : d'.size = n := by have := hp.1; simpa [← HN.out] using this
 have hK2 := holdsK_sortWorldK ev 5 w1 g 0 q xs.toArray d' os hgl HHK.out (by rw [hds]; simp [HN.out])
 have hgr := grown_sortedK (w := w1) (g := g) (n := q) (os := os) d'
 have hE := els_of_holds hK2
 have hB2 : Below w.heap.size w (sortWorldK ev 5 w1 g 0 q d' os) := hB.grown hgr hB.size (fun k e => by cases e; exact hg)
 have hperm : d'.toList.Perm xs := by
  have h2 := hp.2.2
  have e1 : d'.extract 0 n = d' := by rw [← hds]; simp
  have e2 : xs.toArray.extract 0 n = xs.toArray := by
   have : n = xs.toArray.size := by simp [HN.out]
   rw [this]; simp
  rw [e1, e2] at h2
  simpa using h2
 have hlex : d'.toList.Pairwise lexE := sorted_lex (by rw [hds]; exact hs)
 have hl2 : g < (sortWorldK ev 5 w1 g 0 q d' os).heap.size := Nat.lt_of_lt_of_le hgl hgr.size
 have HALL := hid (show _ ∧ _ ∧ _ ∧ _ ∧ _ ∧ _ from ⟨show d'.toList.length = n by simpa using hds, hl2, hE, hperm, hlex, hB2⟩)
 clear hK2 hgr hE hB2 hperm hlex hl2 hp hs HS HHK
 generalize sortWorldK ev 5 w1 g 0 q d' os = w3 at *
 go_wp2_with fail
 go_ret
 exact ⟨g, cp, d'.toList, rfl, HALL.out⟩
theorem sort_none (a : Option Addr) (cap : Nat) (w : World) :
  Calls Tryz.prog 64 #[.slice a 0 cap, .func (.func 65) #[] #[]] w fun e w' => e = .returned (.tuple #[]) ∧ w' = w := by
 have h := AnyF.slices_SortFunc_none (P := Tryz.prog) { Tryz.sortRow with } a cap (.func (.func 65) #[] #[]) w
 exact h
theorem sorted_0 (Bs cap : Nat) (a : Option Addr) (w : World) (hBs : w.cell? ⟨Bs, 0, none⟩ = some (.slice a 0 cap)) :
  Calls Tryz.prog 111 #[.func (.func 156) #[] #[.pointer (some ⟨Bs, 0, none⟩)], .func (.func 65) #[] #[]] w fun e w' => ∃ a' cap', e = .returned (.slice a' 0 cap') ∧ Below w.heap.size w w' := by
 have H := hid (collect_c Bs 0 0 cap [] (by simp) w a (fun h => absurd h (by simp)) (fun h => absurd h (by simp)) hBs (fun j hj => absurd hj (by simp)))
 clear hBs
 go_enter Tryz.func111, Tryz.ntmps111
 go_wp2_with fail
 refine H.out.mono ?_
 rintro e w1 ⟨v, rfl, hr, hB⟩
 obtain ⟨a', cp, rfl⟩ : ∃ a' cp, v = .slice a' 0 cp := by
  rcases hr.2 with ⟨h, _⟩ | ⟨g, cp, cur, h, _⟩
  ·exact ⟨_, _, h⟩
  ·exact ⟨_, _, h⟩
 clear hr
 go_wp2_with fail
 refine (sort_none _ _ _).mono ?_
 rintro e w2 ⟨rfl, rfl⟩
 go_wp2_with fail
 go_ret
 exact ⟨_, _, rfl, hB⟩
end Go.Proofs.YtenlhgnobfadgaaGreatDoor
namespace Go.Proofs.YtenlhgnobfadgaaGreatDoor
open Go.RowKit
theorem Tryz.infoPC : (Tryz.prog.info? 91).map (fun i => (i.zero, i.size, i.bytes)) = some (some (.agg #[.int .i64 0, .int .i64 0]), 2, 16) := by kernel_rfl
theorem cell2r {w : World} {p : Nat} {a b : Value} {t : TypeId} (h : w.heap[p]? = some (.cells #[a, b] t (0, 0))) : w.cell? ⟨p, 0, none⟩ = some a ∧ w.cell? ⟨p, 1, none⟩ = some b ∧ w.frozen? ⟨p, 0, none⟩ = false ∧ w.frozen? ⟨p, 1, none⟩ = false := by
 refine ⟨?_, ?_, ?_, ?_⟩ <;> simp [World.cell?, World.frozen?, h]
theorem own_blk {w w' : World} {b : Nat} {ps : List (Int × Int)} (h : PtsOwn w b ps) (e : w'.heap[b]? = w.heap[b]?) (hs : b < w'.heap.size) : PtsOwn w' b ps := by
 obtain ⟨h1, h2, h3⟩ := h
 refine ⟨hs, fun k hk => ?_, fun j hj => ?_⟩
 ·simp only [World.cell?, e]; exact h2 k hk
 ·simp only [World.cell?, World.frozen?, e]; exact h3 j hj
def fl2 (qs : List (Int × Int)) : List Value := qs.flatMap fun q => [.int .i64 q.1, .int .i64 q.2]
theorem fl2_len (qs : List (Int × Int)) : (fl2 qs).length = qs.length * 2 := by
 induction qs with
 | nil => rfl
 | cons q r ih => simp only [fl2, List.flatMap_cons, List.length_append, List.length_cons, List.length_nil] at ih ⊢; omega
theorem fl2_at (qs : List (Int × Int)) : ∀ k, k < qs.length → (fl2 qs)[k * 2]? = some (.int .i64 (qs.getD k (0, 0)).1) ∧ (fl2 qs)[k * 2 + 1]? = some (.int .i64 (qs.getD k (0, 0)).2) := by
 induction qs with
 | nil => intro k hk; simp at hk
 | cons q r ih =>
  intro k hk
  cases k with
  | zero => simp [fl2]
  | succ k =>
   have := ih k (by simpa using hk)
   simp only [fl2, List.flatMap_cons, List.getD_cons_succ] at this ⊢
   rw [show (k + 1) * 2 = k * 2 + 2 by omega]
   simpa [List.getElem?_append_right] using this
theorem fl2_one (qs : List (Int × Int)) : ∀ u ∈ fl2 qs, u.oneCell' = true := by
 intro u hu
 simp only [fl2, List.mem_flatMap] at hu
 obtain ⟨q, _, hu⟩ := hu
 simp at hu
 rcases hu with rfl | rfl <;> rfl
theorem fl2_news {w : World} {b off : Nat} {ps : List (Int × Int)} (h : PtsAt w b off ps) : ∀ j u, (fl2 ps)[j]? = some u → w.cell? ((⟨b, off, none⟩ : Addr).add j) = some u := by
 intro j u hu
 have hj : j < ps.length * 2 := by rw [← fl2_len]; exact (List.getElem?_eq_some_iff.1 hu).1
 rw [Addr.add_mid]
 have h2 := h (j / 2) (by omega)
 obtain ⟨f0, f1⟩ := fl2_at ps (j / 2) (by omega)
 rcases Nat.mod_two_eq_zero_or_one j with e | e
 ·have ej : j = j / 2 * 2 := by omega
  rw [ej] at hu ⊢
  rw [f0] at hu
  rw [← hu]
  exact h2.1
 ·have ej : j = j / 2 * 2 + 1 := by omega
  rw [ej] at hu ⊢
  rw [f1] at hu
  rw [← hu, ← Nat.add_assoc]
  exact h2.2
theorem own_pts {w : World} {B g cap n : Nat} {ps : List (Int × Int)} (h : w.ownsRow B 91 2 (.slice (some ⟨g, 0, none⟩) n cap) n (fl2 ps)) (hn : ps.length = n) : B ≤ g ∧ n ≤ cap ∧ PtsOwn w g ps := by
 subst hn
 have h' := h
 rcases h.2 with ⟨q, _⟩ | ⟨g', cap', cur, e, hb, hg, hc, _⟩
 ·cases q
 ·cases e
  refine ⟨hb, hc, (Array.getElem?_eq_some_iff.1 hg).1, fun k hk => ?_, fun j hj => ?_⟩
  ·obtain ⟨f0, f1⟩ := fl2_at ps k hk
   have hcs := World.ownsRow.cells h' rfl
   have q0 := hcs _ _ f0
   have q1 := hcs _ _ f1
   rw [Addr.add_mid] at q0 q1
   exact ⟨q0, by rw [Nat.add_assoc]; exact q1⟩
  ·simp only [Nat.zero_add]
   refine ⟨?_, World.ownsRow.frozenAt h' j⟩
   rw [World.ownsRow.cellAt h' j hj, List.getElem?_eq_getElem (by rw [fl2_len]; exact hj)]
   rfl
def CP (w : World) (kd : Int) (ps : List (Int × Int)) (e : Ending) (w' : World) : Prop :=
 ∃ g cap, e = .returned (.agg #[.int .i64 kd, .slice (some ⟨g, 0, none⟩) ps.length cap]) ∧ ps.length ≤ cap ∧ w.heap.size ≤ g ∧ PtsOwn w' g ps ∧ Below w.heap.size w w'
theorem own_new {w : World} {B : Nat} (hB : B ≤ w.heap.size) : (w.alloc (.cells #[] 91)).ownsRow B 91 2 (.slice (some ⟨w.heap.size, 0, none⟩) 0 0) 0 [] := by
 have := World.ownsRow_made (base := B) (e := 91) (size := 2) w #[] 0 hB (by decide) rfl
 simpa using this
theorem spec_copy (kd : Int) (a : Option Addr) (cap : Nat) (ps : List (Int × Int)) (w : World) (h0 : 0 < ps.length) (hm : ps.length ≤ 1099511627776) (h : Pts w a ps) : Calls Tryz.prog 77 #[.agg #[.int .i64 kd, .slice a ps.length cap]] w fun e w' => CP w kd ps e w' := by
 obtain ⟨i0, hi0, hz0, hz1, hz2⟩ := info_parts Tryz.infoPC
 obtain ⟨b, off, rfl, hbs, hp⟩ : ∃ b off, a = some ⟨b, off, none⟩ ∧ b < w.heap.size ∧ PtsAt w b off ps := by
  rcases h with h | h
  ·rw [h] at h0; simp at h0
  ·exact h
 have hN := fl2_len ps
 have HP := hid hp
 clear hp h
 have hB3 : Below w.heap.size w (((w.alloc (.cells #[.int .i64 kd, .slice (some ⟨b, off, none⟩) ps.length cap] 48)).alloc (.cells #[.int .i64 0, .slice none 0 0] 48)).alloc (.cells #[] 91)) := balloc (balloc (balloc (Below.refl _ _) _) _) _
 have hown := own_new (w := (w.alloc (.cells #[.int .i64 kd, .slice (some ⟨b, off, none⟩) ps.length cap] 48)).alloc (.cells #[.int .i64 0, .slice none 0 0] 48)) (B := w.heap.size + 2) (by simp)
 have gA := old_alloc (o' := .cells #[] 91) (old_alloc (o' := .cells #[.int .i64 0, .slice none 0 0] 48) (new_alloc w w.heap.size (.cells #[.int .i64 kd, .slice (some ⟨b, off, none⟩) ps.length cap] 48) rfl))
 have gB := old_alloc (o' := .cells #[] 91) (new_alloc (w.alloc (.cells #[.int .i64 kd, .slice (some ⟨b, off, none⟩) ps.length cap] 48)) (w.heap.size + 1) (.cells #[.int .i64 0, .slice none 0 0] 48) (by simp))
 have hsz3 : (((w.alloc (.cells #[.int .i64 kd, .slice (some ⟨b, off, none⟩) ps.length cap] 48)).alloc (.cells #[.int .i64 0, .slice none 0 0] 48)).alloc (.cells #[] 91)).heap.size = w.heap.size + 3 := by simp
 have hsz2 : ((w.alloc (.cells #[.int .i64 kd, .slice (some ⟨b, off, none⟩) ps.length cap] 48)).alloc (.cells #[.int .i64 0, .slice none 0 0] 48)).heap.size = w.heap.size + 2 := by simp
 rw [hsz2] at hown
 have HNW := hid (fl2_news (HP.out.below hbs hB3))
 have HOW := hid hown
 have HGA := hid gA
 have HGB := hid gB
 have HB3 := hid hB3
 have HSZ := hid hsz3
 have HF1 := hid (fl2_one ps)
 clear hown gA gB hB3 hsz3 hsz2
 go_enter Tryz.func77, Tryz.ntmps77
 go_wp2_with (at_builtin; (refine wpList_append_lies _ rfl (.tmp 3) (.tmp 5) 46 rfl (w.heap.size + 2) 91 i0 _ 2 16 Tryz.underlying46 hi0 hz0 hz1 hz2 rfl (by decide) _ 0 [] (by rfl) HOW.out ⟨b, off, none⟩ ps.length cap (fl2 ps) (by rfl) hN HNW.out HF1.out h0 (by unfold maxLen; omega) (by omega) (by rw [HSZ.out]; omega) (w.heap.size + 3) HSZ.out ?_; intro gg cp w2 hown1 hgrow hat hlt; have gA := grown_blk (p := w.heap.size + 2) hgrow HGA.out (by omega); have gB := grown_blk (p := w.heap.size + 2) hgrow HGB.out (by omega); obtain ⟨a0, a1, f0, f1⟩ := cell2r gA; obtain ⟨b0, b1, e0, e1⟩ := cell2r gB))
 have HO1 := hid (own_pts (ps := ps) (by simpa using hown1) (by omega))
 have HB4 := hid (bgrown (p := w.heap.size + 2) HB3.out hgrow (by omega))
 clear hown1 hgrow
 obtain ⟨h1, h2, h3⟩ := HO1.out
 have gF := set2r (set_far (q := w.heap.size) (k := 1) (u := .slice (some ⟨gg, 0, none⟩) ps.length cp) gB (by omega)) (.int .i64 kd) (.slice (some ⟨gg, 0, none⟩) ps.length cp)
 have bF := bset (bset (bset HB4.out (q := w.heap.size) (k := 1) (Nat.le_refl _) (.slice (some ⟨gg, 0, none⟩) ps.length cp)) (q := w.heap.size + 1) (k := 0) (by omega) (.int .i64 kd)) (q := w.heap.size + 1) (k := 1) (by omega) (.slice (some ⟨gg, 0, none⟩) ps.length cp)
 have oF : PtsOwn (((w2.setCell ⟨w.heap.size, 1, none⟩ (.slice (some ⟨gg, 0, none⟩) ps.length cp)).setCell ⟨w.heap.size + 1, 0, none⟩ (.int .i64 kd)).setCell ⟨w.heap.size + 1, 1, none⟩ (.slice (some ⟨gg, 0, none⟩) ps.length cp)) gg ps := by
  refine own_blk h3 ?_ (by simp; exact h3.1)
  rw [Below.heap_setCell _ _ _ _ (by dsimp only; omega), Below.heap_setCell _ _ _ _ (by dsimp only; omega), Below.heap_setCell _ _ _ _ (by dsimp only; omega)]
 generalize ((w2.setCell ⟨w.heap.size, 1, none⟩ (.slice (some ⟨gg, 0, none⟩) ps.length cp)).setCell ⟨w.heap.size + 1, 0, none⟩ (.int .i64 kd)).setCell ⟨w.heap.size + 1, 1, none⟩ (.slice (some ⟨gg, 0, none⟩) ps.length cp) = wf at *
 obtain ⟨z0, z1, _, _⟩ := cell2r gF
 exact bodyPost_ret (v := .agg #[.int .i64 kd, .slice (some ⟨gg, 0, none⟩) ps.length cp]) (by simp [results, Tryz.results77, go_sem, z0, z1]) rfl ⟨gg, cp, rfl, by omega, by omega, oF, bF⟩
end Go.Proofs.YtenlhgnobfadgaaGreatDoor
