import Derived.Test.YtenlhgnobfadgaaGreatDoorLo3
import Derived.Deep.RegionHeld3
import Derived.BigQuiet
set_option maxRecDepth 100000
set_option maxHeartbeats 4000000
set_option linter.unusedSimpArgs false
set_option linter.unusedVariables false
namespace Go.Proofs.YtenlhgnobfadgaaGreatDoor
open Go.RowKit
def CutAll (w : World) : Prop := ∀ (s : ByteArray) (c : UInt8) (w' : World), s.size ≤ 1048576 → Below w.heap.size w w' → Calls Tryz.prog 22 #[.string s, .string ⟨#[c]⟩] w' fun e w'' => e = .returned (.tuple #[.string ⟨(Lib.cut s.data.toList [c]).1.toArray⟩, .string ⟨(Lib.cut s.data.toList [c]).2.1.toArray⟩, .bool (Lib.cut s.data.toList [c]).2.2]) ∧ Below w'.heap.size w' w''
theorem CutAll.below {w w' : World} (h : CutAll w) (hb : Below w.heap.size w w') : CutAll w' := fun s c v hs hv => h s c v hs (btrans hb hv)
theorem cut_at (s : ByteArray) (c : UInt8) (n : Nat) (hc : c.toNat = n) (hs : s.size ≤ 1048576) {w w' : World} (h : CutAll w) (hb : Below w.heap.size w w') {x y : ByteArray} {b : Bool} (hx : (⟨(Lib.cut s.data.toList [c]).1.toArray⟩ : ByteArray) = x) (hy : (⟨(Lib.cut s.data.toList [c]).2.1.toArray⟩ : ByteArray) = y) (hz : (Lib.cut s.data.toList [c]).2.2 = b) : Calls Tryz.prog 22 #[.string s, .string ⟨#[c]⟩] w' fun e w'' => e = .returned (.tuple #[.string x, .string y, .bool b]) ∧ Below w'.heap.size w' w'' := by
 rw [← hx, ← hy, ← hz]
 exact h s c w' hs hb
theorem ext_all (s : ByteArray) : s.extract 0 s.size = s := by
 apply ext_list
 rw [Lib.extract_data]
 exact List.take_of_length_le (by simp)
theorem line_cut (x : ByteArray) : ∃ (num txt : ByteArray) (b : Bool), (⟨(Lib.cut x.data.toList [32]).1.toArray⟩ : ByteArray) = num ∧ (⟨(Lib.cut x.data.toList [32]).2.1.toArray⟩ : ByteArray) = txt ∧ (Lib.cut x.data.toList [32]).2.2 = b ∧ num.size ≤ x.size ∧ txt.size ≤ x.size ∧ lin x = if idb (riN num) = true then (rso (rest txt txt.size 0 0)).map (fun r => (riN num, false, r.1, r.2)) else none := by
 rcases first_at x 32 0 with ⟨i, h1, h2, h3, h4⟩ | h
 ·obtain ⟨e1, e2, e3⟩ := cut_hit x 32 32 0 i rfl (Nat.zero_le _) h2 h4 h3
  rw [ext_all] at e1 e2 e3
  exact ⟨_, _, _, e1, e2, e3, by simp; omega, by simp, lin_cut h2 h4 h3⟩
 ·obtain ⟨e1, e2, e3⟩ := cut_miss x 32 32 0 rfl h
  rw [ext_all] at e1 e2 e3
  refine ⟨_, _, _, e1, e2, e3, Nat.le_refl _, Nat.zero_le _, ?_⟩
  rw [lin_nocut h, rso_empty]
  split <;> rfl
theorem OwnP.ltL {w : World} {a : Option Addr} {ps : List (Int × Int)} (h : OwnP w a ps) : ∀ c off, a = some ⟨c, off, none⟩ → c < w.heap.size := by
 intro c off e
 rcases h with ⟨rfl, rfl⟩ | ⟨b, rfl, h⟩
 ·cases e
 ·cases e; exact h.1
def RPA (w : World) (o : Option Ch) (e : Ending) (w' : World) : Prop :=
 ∃ (iv k : Int) (l : List (Int × Int)) (sa : Option Addr) (sc : Nat), e = .returned (.tuple #[.agg #[.int .i64 iv, .bool false, .int .i64 k, .slice sa l.length sc], .bool o.isSome]) ∧ (∀ y, o = some y → y = (iv, false, k, l) ∧ 0 < l.length) ∧ l.length ≤ 60 ∧ l.length ≤ sc ∧ OwnP w' sa l ∧ (∀ b off, sa = some ⟨b, off, none⟩ → w.heap.size ≤ b) ∧ Below w.heap.size w w'
theorem cell4p {w : World} {p : Nat} {a b c d : Value} {t : TypeId} (h : w.heap[p]? = some (.cells #[a, b, c, d] t (0, 0))) : (w.cell? ⟨p, 0, none⟩ = some a ∧ w.cell? ⟨p, 1, none⟩ = some b ∧ w.cell? ⟨p, 2, none⟩ = some c ∧ w.cell? ⟨p, 3, none⟩ = some d) ∧ w.frozen? ⟨p, 0, none⟩ = false ∧ w.frozen? ⟨p, 1, none⟩ = false ∧ w.frozen? ⟨p, 2, none⟩ = false ∧ w.frozen? ⟨p, 3, none⟩ = false := by
 refine ⟨⟨?_, ?_, ?_, ?_⟩, ?_, ?_, ?_, ?_⟩ <;> simp [World.cell?, World.frozen?, h]
theorem set4p {w : World} {p : Nat} {o0 o1 o2 o3 : Value} {t : TypeId} (h : w.heap[p]? = some (.cells #[o0, o1, o2, o3] t (0, 0))) (a b c d : Value) : ((((w.setCell ⟨p, 0, none⟩ a).setCell ⟨p, 1, none⟩ b).setCell ⟨p, 2, none⟩ c).setCell ⟨p, 3, none⟩ d).heap[p]? = some (.cells #[a, b, c, d] t (0, 0)) := by
 have st : ∀ (W : World) (cs : Array Value) (k : Nat) (u : Value), W.heap[p]? = some (.cells cs t (0, 0)) → (W.setCell ⟨p, k, none⟩ u).heap[p]? = some (.cells (cs.setIfInBounds k u) t (0, 0)) := by
  intro W cs k u h
  have hlt := lt_of_block h
  have h' : W.heap[p] = .cells cs t (0, 0) := by simpa [Array.getElem?_eq_getElem hlt] using h
  show (W.heap.modify p _)[p]? = _
  rw [Array.getElem?_eq_getElem (by simpa using hlt), Array.getElem_modify_self, h']
  rfl
 have e4 := st _ _ 3 d (st _ _ 2 c (st _ _ 1 b (st _ _ 0 a h)))
 simpa using e4
theorem blk_farL (w : World) (q k b : Nat) (u : Value) (h : q ≠ b) : (w.setCell ⟨q, k, none⟩ u).heap[b]? = w.heap[b]? := by
 show (w.heap.modify q _)[b]? = _
 rw [Array.getElem?_modify, if_neg h]
theorem keepset4L {w : World} {r b k : Nat} {v x0 x1 x2 x3 : Value} (h : w.cell? ⟨b, k, none⟩ = some v) (hne : r ≠ b) : ((((w.setCell ⟨r, 0, none⟩ x0).setCell ⟨r, 1, none⟩ x1).setCell ⟨r, 2, none⟩ x2).setCell ⟨r, 3, none⟩ x3).cell? ⟨b, k, none⟩ = some v := by
 rw [World.cell?_setCell_other _ _ _ _ (by first | (simp; done) | (simp; omega)), World.cell?_setCell_other _ _ _ _ (by first | (simp; done) | (simp; omega)), World.cell?_setCell_other _ _ _ _ (by first | (simp; done) | (simp; omega)), World.cell?_setCell_other _ _ _ _ (by first | (simp; done) | (simp; omega))]
 exact h
theorem impl_readPut (x : ByteArray) (hx : x.size ≤ 1048576) (w : World) (hLb : LibsR w) (hKw : KWr w) (hCu : CutAll w) (hg : w.cell? ⟨2, 0, none⟩ = some (.iface 235 (.agg #[.pointer (some ⟨10, 67, none⟩)]))) : Calls Tryz.prog 23 #[.string x] w fun e w' => RPA w (lin x) e w' := by
 obtain ⟨num, txt, b, e1, e2, e3, hn, ht, hlin⟩ := line_cut x
 have CC := hid (fun (W : World) (hb : Below w.heap.size w W) => cut_at x 32 32 rfl hx hCu hb e1 e2 e3)
 have CN := hid (fun (W : World) (hb : Below w.heap.size w W) => impl_ri num (by omega) W (hLb.below hb))
 have CS := hid (fun (W : World) (hb : Below w.heap.size w W) => impl_ReadShape txt (by omega) W (hLb.below hb) (hKw.below hb) (keepcell hb hg))
 have CID := hid (fun w => impl_id (riN num) w)
 have HLI := hid hlin
 have hqm := rso_len (rest txt txt.size 0 0)
 have HPO := hid (fun k l (h : rso (rest txt txt.size 0 0) = some (k, l)) => (rso_pos h).1)
 clear hlin e1 e2 e3 hn ht hx hLb hKw hCu hg
 generalize lin x = o at *
 generalize rest txt txt.size 0 0 = ws at *
 generalize riN num = iv at *
 generalize riB num = ib at *
 unfold RSA at CS
 go_enter Tryz.func23, Tryz.ntmps23
 go_wp2_with fail
 have gR := new_alloc w w.heap.size (.cells #[.int .i64 0, .bool false, .int .i64 0, .slice none 0 0] 50) rfl
 have hB : Below w.heap.size w (w.alloc (.cells #[.int .i64 0, .bool false, .int .i64 0, .slice none 0 0] 50)) := balloc (Below.refl _ _) _
 generalize w.alloc (.cells #[.int .i64 0, .bool false, .int .i64 0, .slice none 0 0] 50) = W0 at *
 refine (CC.out _ hB).mono ?_
 rintro e y1 ⟨rfl, hb1⟩
 replace gR := keepheap hb1 gR
 replace hB := btrans hB hb1
 clear hb1 CC
 go_wp2_with fail
 refine (CN.out _ hB).mono ?_
 rintro e y2 ⟨rfl, hb1⟩
 replace gR := keepheap hb1 gR
 replace hB := btrans hB hb1
 clear hb1 CN
 go_wp2_with fail
 have hwy := hB.size
 have hR2 := lt_of_block gR
 refine (CS.out _ hB).mono ?_
 rintro e y3 ⟨sa, sc, rfl, hsc, hso, hsb, hb1⟩
 replace gR := keepheap hb1 gR
 replace hB := btrans hB hb1
 have HSO := hid hso
 have HSB := hid hsb
 have hs1 := hb1.size
 clear hb1 CS hso hsb
 obtain ⟨X, hX⟩ : ∃ X, X = y3.heap.size := ⟨_, rfl⟩
 have hRX : w.heap.size < X := by rw [hX]; omega
 have HSX : Hid (∀ b off, sa = some ⟨b, off, none⟩ → b < X) := hid (fun b off e => by rw [hX]; exact HSO.out.ltL b off e)
 cases ho : rso ws with
 | none =>
  have HO := hid (show o = none by rw [HLI.out, ho]; split <;> rfl)
  rw [ho] at hqm HSO hsc
  simp only [roK, roP, Option.isSome_none, List.length_nil] at *
  clear HLI HPO ho
  have gX := new_alloc y3 X (.cells #[.int .i64 0, .slice sa 0 sc] 48) hX
  have hA := balloc (Below.refl y3.heap.size y3) (.cells #[.int .i64 0, .slice sa 0 sc] 48)
  replace gR := keepheap hA gR
  replace hB := btrans hB hA
  replace HSO := hid (HSO.out.below hA)
  clear hA
  go_upto_region 4 with fail
  try rw [← hX]
  generalize y3.alloc (.cells #[.int .i64 0, .slice sa 0 sc] 48) = Y at *
  clear hX
  obtain ⟨a0, a1, _, _⟩ := cell2g gX
  refine wp_region_held_drew (S := (fun w' => w'.cell? ⟨X, 0, none⟩ = some (.int .i64 0) ∧ w'.cell? ⟨X, 1, none⟩ = some (.slice sa 0 sc))) (by kernel_rfl) ?_ (fun hHeld => ?_)
  ·(repeat' apply And.intro) <;> (with_reducible repeat (first | assumption | refine keepset4L ?_ (by omega) | refine keepdrew ?_ | refine keepcell (by assumption) ?_ | refine keepalloc ?_ _))
  have gR' : Y.drew.heap[w.heap.size]? = some (.cells #[.int .i64 0, .bool false, .int .i64 0, .slice none 0 0] 50 (0, 0)) := gR
  have hB' := bdrew hB
  have HSO' : Hid (OwnP Y.drew sa []) := hid (HSO.out.below (bdrew (Below.refl _ _)))
  replace a0 : Y.drew.cell? ⟨X, 0, none⟩ = _ := a0
  replace a1 : Y.drew.cell? ⟨X, 1, none⟩ = _ := a1
  obtain ⟨⟨_, _, _, _⟩, f0, f1, f2, f3⟩ := cell4p gR'
  obtain ⟨⟨r0, r1, r2, r3⟩, _⟩ := cell4p gR'
  clear gR gX hB HSO
  generalize Y.drew = Z at *
  refine tkR ?_ 0 rfl (fun _ _ _ h => h) hHeld ?_ ?_
  rotate_left
  ·intro w hSw; (try dsimp only at hSw); go_simp; try (with_reducible rfl)
  try simp only [sq]
  refine tkR ?_ 1 rfl (fun _ _ _ h => h) hHeld ?_ ?_
  rotate_left
  ·intro w hSw; (try dsimp only at hSw); go_simp; try (with_reducible rfl)
  try simp only [sq]
  refine tkR ?_ 2 rfl (fun _ _ _ h => h) hHeld ?_ ?_
  rotate_left
  ·intro w hSw; (try dsimp only at hSw); go_simp; try (with_reducible rfl)
  try simp only [sq]
  refine tkR ?_ 3 rfl (fun _ _ _ h => h) hHeld ?_ ?_
  rotate_left
  ·intro w hSw; (try dsimp only at hSw); go_simp; try (with_reducible rfl)
  try simp only [sq]
  refine tkR ?_ 4 rfl (fun _ _ _ h => h) hHeld ?_ ?_
  rotate_left
  ·intro w hSw; (try dsimp only at hSw); go_simp; try (with_reducible rfl)
  try simp only [sq]
  refine wpAnyH_take (i := 5) (v := undef) rfl (by kernel_rfl) (by kernel_rfl) (by kernel_rfl) (fun _ _ _ h => h) (Or.inr ⟨by rfl, rfl⟩) hHeld ?_
  try simp only [sq]
  refine wpAnyH_take (i := 6) (v := undef) rfl (by kernel_rfl) (by kernel_rfl) (by kernel_rfl) (fun _ _ _ h => h) (Or.inr ⟨by rfl, rfl⟩) hHeld ?_
  try simp only [sq]
  refine tkR ?_ 7 rfl (fun _ _ _ h => h) hHeld ?_ ?_
  rotate_left
  ·intro w hSw; (try dsimp only at hSw); go_simp; try (with_reducible rfl)
  try simp only [sq]
  refine rd1 8 rfl (fun K hK => ?_)
  try simp only [sq]
  go_simp
  refine hK.out _ _ ?_ (fun hHeld => ?_)
  ·(repeat' apply And.intro) <;> (with_reducible repeat (first | assumption | refine keepset4L ?_ (by omega) | refine keepdrew ?_ | refine keepcell (by assumption) ?_ | refine keepalloc ?_ _))
  clear hK K
  try simp only [sq]
  refine tkR ?_ 9 rfl (fun _ _ _ h => h) hHeld ?_ ?_
  rotate_left
  ·intro w hSw; (try dsimp only at hSw); go_simp; try (with_reducible rfl)
  try simp only [sq]
  refine wpAnyH_done (by kernel_rfl) ?_ _
  have gF := set4p gR' (.int .i64 iv) (.bool false) (.int .i64 0) (.slice sa 0 sc)
  have bF := bset (bset (bset (bset hB' (q := w.heap.size) (k := 0) (Nat.le_refl _) (.int .i64 iv)) (q := w.heap.size) (k := 1) (Nat.le_refl _) (.bool false)) (q := w.heap.size) (k := 2) (Nat.le_refl _) (.int .i64 0)) (q := w.heap.size) (k := 3) (Nat.le_refl _) (.slice sa 0 sc)
  have oF : OwnP ((((Z.setCell ⟨w.heap.size, 0, none⟩ (.int .i64 iv)).setCell ⟨w.heap.size, 1, none⟩ (.bool false)).setCell ⟨w.heap.size, 2, none⟩ (.int .i64 0)).setCell ⟨w.heap.size, 3, none⟩ (.slice sa 0 sc)) sa [] := by
   rcases HSO'.out with h | ⟨b, hb, h⟩
   ·exact .inl h
   ·have h1 := HSB.out b 0 hb
    exact .inr ⟨b, hb, PtsOwn.of_block h (by rw [blk_farL _ _ _ _ _ (by omega), blk_farL _ _ _ _ _ (by omega), blk_farL _ _ _ _ _ (by omega), blk_farL _ _ _ _ _ (by omega)]) (by simp)⟩
  go_wp2_with fail
  generalize (((Z.setCell ⟨w.heap.size, 0, none⟩ (.int .i64 iv)).setCell ⟨w.heap.size, 1, none⟩ (.bool false)).setCell ⟨w.heap.size, 2, none⟩ (.int .i64 0)).setCell ⟨w.heap.size, 3, none⟩ (.slice sa 0 sc) = wf at *
  obtain ⟨⟨z0, z1, z2, z3⟩, _⟩ := cell4p gF
  exact bodyPost_ret (v := .tuple #[.agg #[.int .i64 iv, .bool false, .int .i64 0, .slice sa 0 sc], .bool false]) (by simp [results, Tryz.results23, go_sem, z0, z1, z2, z3]) rfl ⟨iv, 0, [], sa, sc, (by rw [HO.out]; rfl), (fun y hy => by rw [HO.out] at hy; cases hy), Nat.zero_le _, hsc, oF, (fun b off e => by have := HSB.out b off e; omega), bF⟩
 | some r =>
  obtain ⟨k, l⟩ := r
  have hpos := HPO.out k l ho
  cases hidb : idb iv
  ·have HO := hid (show o = none by rw [HLI.out, hidb]; rfl)
   rw [hidb] at CID
   rw [ho] at hqm HSO hsc
   simp only [roK, roP, Option.isSome_some] at *
   clear HLI HPO ho hidb
   have gX := new_alloc y3 X (.cells #[.int .i64 k, .slice sa l.length sc] 48) hX
   have hA := balloc (Below.refl y3.heap.size y3) (.cells #[.int .i64 k, .slice sa l.length sc] 48)
   replace gR := keepheap hA gR
   replace hB := btrans hB hA
   replace HSO := hid (HSO.out.below hA)
   clear hA
   go_upto_region 4 with fail
   try rw [← hX]
   generalize y3.alloc (.cells #[.int .i64 k, .slice sa l.length sc] 48) = Y at *
   clear hX
   obtain ⟨a0, a1, _, _⟩ := cell2g gX
   refine wp_region_held_drew (S := (fun w' => w'.cell? ⟨X, 0, none⟩ = some (.int .i64 k) ∧ w'.cell? ⟨X, 1, none⟩ = some (.slice sa l.length sc))) (by kernel_rfl) ?_ (fun hHeld => ?_)
   ·(repeat' apply And.intro) <;> (with_reducible repeat (first | assumption | refine keepset4L ?_ (by omega) | refine keepdrew ?_ | refine keepcell (by assumption) ?_ | refine keepalloc ?_ _))
   have gR' : Y.drew.heap[w.heap.size]? = some (.cells #[.int .i64 0, .bool false, .int .i64 0, .slice none 0 0] 50 (0, 0)) := gR
   have hB' := bdrew hB
   have HSO' : Hid (OwnP Y.drew sa l) := hid (HSO.out.below (bdrew (Below.refl _ _)))
   replace a0 : Y.drew.cell? ⟨X, 0, none⟩ = _ := a0
   replace a1 : Y.drew.cell? ⟨X, 1, none⟩ = _ := a1
   obtain ⟨⟨_, _, _, _⟩, f0, f1, f2, f3⟩ := cell4p gR'
   obtain ⟨⟨r0, r1, r2, r3⟩, _⟩ := cell4p gR'
   clear gR gX hB HSO
   generalize Y.drew = Z at *
   refine tkR ?_ 0 rfl (fun _ _ _ h => h) hHeld ?_ ?_
   rotate_left
   ·intro w hSw; (try dsimp only at hSw); go_simp; try (with_reducible rfl)
   try simp only [sq]
   refine tkR ?_ 1 rfl (fun _ _ _ h => h) hHeld ?_ ?_
   rotate_left
   ·intro w hSw; (try dsimp only at hSw); go_simp; try (with_reducible rfl)
   try simp only [sq]
   refine tkR ?_ 2 rfl (fun _ _ _ h => h) hHeld ?_ ?_
   rotate_left
   ·intro w hSw; (try dsimp only at hSw); go_simp; try (with_reducible rfl)
   try simp only [sq]
   refine tkR ?_ 3 rfl (fun _ _ _ h => h) hHeld ?_ ?_
   rotate_left
   ·intro w hSw; (try dsimp only at hSw); go_simp; try (with_reducible rfl)
   try simp only [sq]
   refine tkR ?_ 4 rfl (fun _ _ _ h => h) hHeld ?_ ?_
   rotate_left
   ·intro w hSw; (try dsimp only at hSw); go_simp; try (with_reducible rfl)
   try simp only [sq]
   refine tkR ?_ 5 rfl (fun _ _ _ h => h) hHeld ?_ ?_
   rotate_left
   ·intro w hSw; (try dsimp only at hSw); go_simp; try (with_reducible rfl)
   try simp only [sq]
   refine rd1 6 rfl (fun K hK => ?_)
   try simp only [sq]
   go_simp
   (first
     | ((go_at_call 60; refine (CID.out _).mono ?_; rintro e z ⟨rfl, hw⟩; replace hw := hw.symm; subst hw)))
   go_wp2_with fail
   refine hK.out _ _ ?_ (fun hHeld => ?_)
   ·(repeat' apply And.intro) <;> (with_reducible repeat (first | assumption | refine keepset4L ?_ (by omega) | refine keepdrew ?_ | refine keepcell (by assumption) ?_ | refine keepalloc ?_ _))
   clear hK K
   try simp only [sq]
   refine tkR ?_ 7 rfl (fun _ _ _ h => h) hHeld ?_ ?_
   rotate_left
   ·intro w hSw; (try dsimp only at hSw); go_simp; try (with_reducible rfl)
   try simp only [sq]
   refine rd1 8 rfl (fun K hK => ?_)
   try simp only [sq]
   go_simp
   refine hK.out _ _ ?_ (fun hHeld => ?_)
   ·(repeat' apply And.intro) <;> (with_reducible repeat (first | assumption | refine keepset4L ?_ (by omega) | refine keepdrew ?_ | refine keepcell (by assumption) ?_ | refine keepalloc ?_ _))
   clear hK K
   try simp only [sq]
   refine tkR ?_ 9 rfl (fun _ _ _ h => h) hHeld ?_ ?_
   rotate_left
   ·intro w hSw; (try dsimp only at hSw); go_simp; try (with_reducible rfl)
   try simp only [sq]
   refine wpAnyH_done (by kernel_rfl) ?_ _
   have gF := set4p gR' (.int .i64 iv) (.bool false) (.int .i64 k) (.slice sa l.length sc)
   have bF := bset (bset (bset (bset hB' (q := w.heap.size) (k := 0) (Nat.le_refl _) (.int .i64 iv)) (q := w.heap.size) (k := 1) (Nat.le_refl _) (.bool false)) (q := w.heap.size) (k := 2) (Nat.le_refl _) (.int .i64 k)) (q := w.heap.size) (k := 3) (Nat.le_refl _) (.slice sa l.length sc)
   have oF : OwnP ((((Z.setCell ⟨w.heap.size, 0, none⟩ (.int .i64 iv)).setCell ⟨w.heap.size, 1, none⟩ (.bool false)).setCell ⟨w.heap.size, 2, none⟩ (.int .i64 k)).setCell ⟨w.heap.size, 3, none⟩ (.slice sa l.length sc)) sa l := by
    rcases HSO'.out with h | ⟨b, hb, h⟩
    ·exact .inl h
    ·have h1 := HSB.out b 0 hb
     exact .inr ⟨b, hb, PtsOwn.of_block h (by rw [blk_farL _ _ _ _ _ (by omega), blk_farL _ _ _ _ _ (by omega), blk_farL _ _ _ _ _ (by omega), blk_farL _ _ _ _ _ (by omega)]) (by simp)⟩
   go_wp2_with fail
   generalize (((Z.setCell ⟨w.heap.size, 0, none⟩ (.int .i64 iv)).setCell ⟨w.heap.size, 1, none⟩ (.bool false)).setCell ⟨w.heap.size, 2, none⟩ (.int .i64 k)).setCell ⟨w.heap.size, 3, none⟩ (.slice sa l.length sc) = wf at *
   obtain ⟨⟨z0, z1, z2, z3⟩, _⟩ := cell4p gF
   exact bodyPost_ret (v := .tuple #[.agg #[.int .i64 iv, .bool false, .int .i64 k, .slice sa l.length sc], .bool false]) (by simp [results, Tryz.results23, go_sem, z0, z1, z2, z3]) rfl ⟨iv, k, l, sa, sc, (by rw [HO.out]; rfl), (fun y hy => by rw [HO.out] at hy; cases hy), hqm, hsc, oF, (fun b off e => by have := HSB.out b off e; omega), bF⟩
  ·have HO := hid (show o = some (iv, false, k, l) by rw [HLI.out, hidb, ho]; rfl)
   rw [hidb] at CID
   rw [ho] at hqm HSO hsc
   simp only [roK, roP, Option.isSome_some] at *
   clear HLI HPO ho hidb
   have gX := new_alloc y3 X (.cells #[.int .i64 k, .slice sa l.length sc] 48) hX
   have hA := balloc (Below.refl y3.heap.size y3) (.cells #[.int .i64 k, .slice sa l.length sc] 48)
   replace gR := keepheap hA gR
   replace hB := btrans hB hA
   replace HSO := hid (HSO.out.below hA)
   clear hA
   go_upto_region 4 with fail
   try rw [← hX]
   generalize y3.alloc (.cells #[.int .i64 k, .slice sa l.length sc] 48) = Y at *
   clear hX
   obtain ⟨a0, a1, _, _⟩ := cell2g gX
   refine wp_region_held_drew (S := (fun w' => w'.cell? ⟨X, 0, none⟩ = some (.int .i64 k) ∧ w'.cell? ⟨X, 1, none⟩ = some (.slice sa l.length sc))) (by kernel_rfl) ?_ (fun hHeld => ?_)
   ·(repeat' apply And.intro) <;> (with_reducible repeat (first | assumption | refine keepset4L ?_ (by omega) | refine keepdrew ?_ | refine keepcell (by assumption) ?_ | refine keepalloc ?_ _))
   have gR' : Y.drew.heap[w.heap.size]? = some (.cells #[.int .i64 0, .bool false, .int .i64 0, .slice none 0 0] 50 (0, 0)) := gR
   have hB' := bdrew hB
   have HSO' : Hid (OwnP Y.drew sa l) := hid (HSO.out.below (bdrew (Below.refl _ _)))
   replace a0 : Y.drew.cell? ⟨X, 0, none⟩ = _ := a0
   replace a1 : Y.drew.cell? ⟨X, 1, none⟩ = _ := a1
   obtain ⟨⟨_, _, _, _⟩, f0, f1, f2, f3⟩ := cell4p gR'
   obtain ⟨⟨r0, r1, r2, r3⟩, _⟩ := cell4p gR'
   clear gR gX hB HSO
   generalize Y.drew = Z at *
   refine tkR ?_ 0 rfl (fun _ _ _ h => h) hHeld ?_ ?_
   rotate_left
   ·intro w hSw; (try dsimp only at hSw); go_simp; try (with_reducible rfl)
   try simp only [sq]
   refine tkR ?_ 1 rfl (fun _ _ _ h => h) hHeld ?_ ?_
   rotate_left
   ·intro w hSw; (try dsimp only at hSw); go_simp; try (with_reducible rfl)
   try simp only [sq]
   refine tkR ?_ 2 rfl (fun _ _ _ h => h) hHeld ?_ ?_
   rotate_left
   ·intro w hSw; (try dsimp only at hSw); go_simp; try (with_reducible rfl)
   try simp only [sq]
   refine tkR ?_ 3 rfl (fun _ _ _ h => h) hHeld ?_ ?_
   rotate_left
   ·intro w hSw; (try dsimp only at hSw); go_simp; try (with_reducible rfl)
   try simp only [sq]
   refine tkR ?_ 4 rfl (fun _ _ _ h => h) hHeld ?_ ?_
   rotate_left
   ·intro w hSw; (try dsimp only at hSw); go_simp; try (with_reducible rfl)
   try simp only [sq]
   refine tkR ?_ 5 rfl (fun _ _ _ h => h) hHeld ?_ ?_
   rotate_left
   ·intro w hSw; (try dsimp only at hSw); go_simp; try (with_reducible rfl)
   try simp only [sq]
   refine rd1 6 rfl (fun K hK => ?_)
   try simp only [sq]
   go_simp
   (first
     | ((go_at_call 60; refine (CID.out _).mono ?_; rintro e z ⟨rfl, hw⟩; replace hw := hw.symm; subst hw)))
   go_wp2_with fail
   refine hK.out _ _ ?_ (fun hHeld => ?_)
   ·(repeat' apply And.intro) <;> (with_reducible repeat (first | assumption | refine keepset4L ?_ (by omega) | refine keepdrew ?_ | refine keepcell (by assumption) ?_ | refine keepalloc ?_ _))
   clear hK K
   try simp only [sq]
   refine tkR ?_ 7 rfl (fun _ _ _ h => h) hHeld ?_ ?_
   rotate_left
   ·intro w hSw; (try dsimp only at hSw); go_simp; try (with_reducible rfl)
   try simp only [sq]
   refine rd1 8 rfl (fun K hK => ?_)
   try simp only [sq]
   go_simp
   refine hK.out _ _ ?_ (fun hHeld => ?_)
   ·(repeat' apply And.intro) <;> (with_reducible repeat (first | assumption | refine keepset4L ?_ (by omega) | refine keepdrew ?_ | refine keepcell (by assumption) ?_ | refine keepalloc ?_ _))
   clear hK K
   try simp only [sq]
   refine tkR ?_ 9 rfl (fun _ _ _ h => h) hHeld ?_ ?_
   rotate_left
   ·intro w hSw; (try dsimp only at hSw); go_simp; try (with_reducible rfl)
   try simp only [sq]
   refine wpAnyH_done (by kernel_rfl) ?_ _
   have gF := set4p gR' (.int .i64 iv) (.bool false) (.int .i64 k) (.slice sa l.length sc)
   have bF := bset (bset (bset (bset hB' (q := w.heap.size) (k := 0) (Nat.le_refl _) (.int .i64 iv)) (q := w.heap.size) (k := 1) (Nat.le_refl _) (.bool false)) (q := w.heap.size) (k := 2) (Nat.le_refl _) (.int .i64 k)) (q := w.heap.size) (k := 3) (Nat.le_refl _) (.slice sa l.length sc)
   have oF : OwnP ((((Z.setCell ⟨w.heap.size, 0, none⟩ (.int .i64 iv)).setCell ⟨w.heap.size, 1, none⟩ (.bool false)).setCell ⟨w.heap.size, 2, none⟩ (.int .i64 k)).setCell ⟨w.heap.size, 3, none⟩ (.slice sa l.length sc)) sa l := by
    rcases HSO'.out with h | ⟨b, hb, h⟩
    ·exact .inl h
    ·have h1 := HSB.out b 0 hb
     exact .inr ⟨b, hb, PtsOwn.of_block h (by rw [blk_farL _ _ _ _ _ (by omega), blk_farL _ _ _ _ _ (by omega), blk_farL _ _ _ _ _ (by omega), blk_farL _ _ _ _ _ (by omega)]) (by simp)⟩
   go_wp2_with fail
   generalize (((Z.setCell ⟨w.heap.size, 0, none⟩ (.int .i64 iv)).setCell ⟨w.heap.size, 1, none⟩ (.bool false)).setCell ⟨w.heap.size, 2, none⟩ (.int .i64 k)).setCell ⟨w.heap.size, 3, none⟩ (.slice sa l.length sc) = wf at *
   obtain ⟨⟨z0, z1, z2, z3⟩, _⟩ := cell4p gF
   exact bodyPost_ret (v := .tuple #[.agg #[.int .i64 iv, .bool false, .int .i64 k, .slice sa l.length sc], .bool true]) (by simp [results, Tryz.results23, go_sem, z0, z1, z2, z3]) rfl ⟨iv, k, l, sa, sc, (by rw [HO.out]; rfl), (fun y hy => by rw [HO.out] at hy; cases hy; exact ⟨rfl, hpos⟩), hqm, hsc, oF, (fun b off e => by have := HSB.out b off e; omega), bF⟩
end Go.Proofs.YtenlhgnobfadgaaGreatDoor
