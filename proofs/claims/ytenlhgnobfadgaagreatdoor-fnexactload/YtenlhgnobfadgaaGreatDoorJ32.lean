/- Texts of stores, joined: GetSp, Right. -/
import Derived.Test.YtenlhgnobfadgaaGreatDoorJ27
import Derived.Test.YtenlhgnobfadgaaGreatDoorJ29
import Derived.Test.YtenlhgnobfadgaaGreatDoorJ31
import Derived.Test.YtenlhgnobfadgaaGreatDoorJ26
namespace Go.Proofs.YtenlhgnobfadgaaGreatDoor
open Go.RowKit
set_option linter.unusedVariables false
set_option linter.unusedSimpArgs false
theorem rdl_next {s : ByteArray} {m n : Nat} {i x y : Int} {dx mid dy fin : Nat} (h1 : rd s i = some (dx, mid)) (h2 : rd s mid = some (dy, fin)) (hc : ¬ (m < dx ∨ m < dy)) :
    rdl s m (n + 1) i x y = (rdl s m n fin (x + unf dx) (y + unf dy)).map (fun r => ((x + unf dx, y + unf dy) :: r.1, r.2)) := by
  simp only [rdl, h1, h2, if_neg hc]
  cases rdl s m n fin (x + unf dx) (y + unf dy) <;> rfl
theorem rdl_none1 {s : ByteArray} {m n : Nat} {i x y : Int} (h1 : rd s i = none) : rdl s m (n + 1) i x y = none := by simp only [rdl, h1]
theorem rdl_none2 {s : ByteArray} {m n : Nat} {i x y : Int} {dx mid : Nat} (h1 : rd s i = some (dx, mid)) (h2 : rd s mid = none) : rdl s m (n + 1) i x y = none := by simp only [rdl, h1, h2]
theorem rdl_none3 {s : ByteArray} {m n : Nat} {i x y : Int} {dx mid dy fin : Nat} (h1 : rd s i = some (dx, mid)) (h2 : rd s mid = some (dy, fin)) (hc : m < dx ∨ m < dy) : rdl s m (n + 1) i x y = none := by simp only [rdl, h1, h2, if_pos hc]
/-- What GetShape answers: nothing, or a kind, points and the place behind. -/
def gso (s : ByteArray) (m : Nat) (i : Int) : Option (Int × List (Int × Int) × Int) :=
  if 0 ≤ i ∧ i < (s.size : Int) then
    match rd s (i + 1) with
    | none => none
    | some (n, p) => if 60 < n then none else (gsh s m (by8 s i.toNat) n p).map (fun r => ((by8 s i.toNat : Int), r.1, r.2))
  else none
def soK (o : Option (Int × List (Int × Int) × Int)) : Int := match o with | none => 0 | some r => r.1
def soP (o : Option (Int × List (Int × Int) × Int)) : List (Int × Int) := match o with | none => [] | some r => r.2.1
def soN (o : Option (Int × List (Int × Int) × Int)) : Int := match o with | none => -1 | some r => r.2.2
/-- The answer, in whichever memory of its own. -/
def GSA (w : World) (o : Option (Int × List (Int × Int) × Int)) (e : Ending) (w' : World) : Prop :=
  ∃ a' cap', e = .returned (.tuple #[.agg #[.int .i64 (soK o), .slice a' (soP o).length cap'], .int .i64 (soN o)]) ∧ (soP o).length ≤ cap' ∧ OwnP w' a' (soP o) ∧ (∀ b off, a' = some ⟨b, off, none⟩ → w.heap.size ≤ b) ∧ Below w.heap.size w w'
theorem gsa_no {w w' : World} {o : Option (Int × List (Int × Int) × Int)} (h : o = none) (hb : Below w.heap.size w w') : GSA w o (.returned (.tuple #[.agg #[.int .i64 0, .slice none 0 0], .int .i64 (-1)])) w' := by
  subst h
  exact ⟨none, 0, rfl, Nat.le_refl _, .inl ⟨rfl, rfl⟩, fun _ _ h => (by cases h), hb⟩
theorem ptrow_nilg (w : World) (B : Nat) : PtRow w B (.slice none 0 0) [] := ⟨by simp [flat2], .inl ⟨rfl, rfl⟩⟩
theorem PtRow.bel {w w' : World} {B : Nat} {v : Value} {l : List (Int × Int)} (h : PtRow w B v l) (hb : Below w.heap.size w w') : PtRow w' B v l :=
  World.ownsRow.kept (row := none) h ⟨hb.os, hb.tape, hb.output, hb.size, fun k hk _ => hb.block k hk⟩ (Classical.em _)
theorem PtRow.set {w : World} {B q k : Nat} {v u : Value} {l : List (Int × Int)} (h : PtRow w B v l) (hq : q < B) : PtRow (w.setCell ⟨q, k, none⟩ u) B v l :=
  World.ownsRow.kept h (grown_set w q k u) (Or.inr (fun e => by have := (World.ownsRow.lt h q e).1; omega))
theorem PtRow.ownG {w : World} {B : Nat} {v : Value} {ps : List (Int × Int)} (h : PtRow w B v ps) (h0 : 0 < ps.length) : ∃ g cap, v = .slice (some ⟨g, 0, none⟩) ps.length cap ∧ B ≤ g ∧ ps.length ≤ cap ∧ PtsOwn w g ps := by
  have h' := h
  rcases h.2 with ⟨rfl, hn⟩ | ⟨g, cap, cur, rfl, hb, hg, hc, _⟩
  · omega
  · have hat : PtsAt w g 0 ps := by
      intro k hk
      obtain ⟨f0, f1⟩ := flat2_at ps k hk
      have hcs := World.ownsRow.cells h' rfl
      have q0 := hcs _ _ f0
      have q1 := hcs _ _ f1
      rw [Addr.add_mid] at q0 q1
      exact ⟨q0, by rw [Nat.add_assoc]; exact q1⟩
    refine ⟨g, cap, rfl, hb, hc, (Array.getElem?_eq_some_iff.1 hg).1, hat, ?_⟩
    intro j hj
    simp only [Nat.zero_add]
    refine ⟨?_, World.ownsRow.frozenAt h' j⟩
    obtain ⟨q0, q1⟩ := hat (j / 2) (by omega)
    simp only [Nat.zero_add] at q0 q1
    rcases Nat.mod_two_eq_zero_or_one j with e | e
    · rw [show j / 2 * 2 = j by omega] at q0; rw [q0]; rfl
    · rw [show j / 2 * 2 + 1 = j by omega] at q1; rw [q1]; rfl
theorem shok_posg {k : Int} {ps : List (Int × Int)} (h : shok k ps = true) : 0 < ps.length := by
  cases ps with
  | nil => exact absurd h (by unfold shok; simp [lineb, rectb, ringOk])
  | cons a b => simp
theorem gsa_yes {w w' : World} {B : Nat} {o : Option (Int × List (Int × Int) × Int)} {k q : Int} {l : List (Int × Int)} {ao : Option Addr} {n cap : Nat} (h : o = some (k, l, q)) (hb : Below w.heap.size w w') (hr : PtRow w' B (.slice ao n cap) l) (hB : w.heap.size ≤ B) (h0 : 0 < l.length) : GSA w o (.returned (.tuple #[.agg #[.int .i64 k, .slice ao n cap], .int .i64 q])) w' := by
  subst h
  obtain ⟨g, c, e, hg, hc, hp⟩ := hr.ownG h0
  injection e with e1 e2 e3
  subst e1 e2 e3
  exact ⟨some ⟨g, 0, none⟩, cap, rfl, hc, .inr ⟨g, rfl, hp⟩, fun b off h => by injection h with h; injection h with h1; omega, hb⟩
theorem unf_less (n : Nat) (h : n ≤ 200000) : -100000 ≤ unf n ∧ unf n ≤ 100000 := by unfold unf; split <;> omega
theorem gso_in (s : ByteArray) (m i : Nat) (hi : i < s.size) : gso s m (i : Int) = match rd s ((i : Int) + 1) with | none => none | some (n, p) => if 60 < n then none else (gsh s m (by8 s i) n p).map (fun r => ((by8 s i : Int), r.1, r.2)) := by
  unfold gso; rw [if_pos (by omega)]; rfl
theorem gso_same (s : ByteArray) (m : Nat) (hm : 200000 ≤ m) (i : Int) : gso s m i = gso s 200000 i := by
  unfold gso
  split
  · split
    · rfl
    · split
      · rfl
      · rw [gsh_same s m hm]
  · rfl
end Go.Proofs.YtenlhgnobfadgaaGreatDoor
namespace Go.Proofs.YtenlhgnobfadgaaGreatDoor
open Go.RowKit
set_option maxHeartbeats 1000000 in
theorem right_no (w : World) (k : Int) (a : Option Addr) (cap : Nat) (ps : List (Int × Int)) (hm : ps.length ≤ 1099511627776) (hc : ps.length ≤ cap) (h : Pts w a ps) (hk : shok k ps = false) : Calls Tryz.prog 140 #[.int .i64 k, .slice a ps.length cap] w fun e w' => Refused e ∧ Below w.heap.size w w' := by
  have O1 := hid (fun w' (hw : Pts w' a ps) => impl_ShapeOk k a cap ps w' hm hc hw)
  rw [hk] at O1
  have HP := hid h
  clear h hk
  generalize ps.length = n at *
  go_enter Tryz.func140, Tryz.ntmps140
  go_wp2_with fail
  have hB : Below w.heap.size w ((w.alloc (.cells #[.int .i64 0, .slice none 0 0] 48)).alloc (.cells #[.int .i64 k, .slice a n cap] 48)) := balloc (balloc (Below.refl _ _) _) _
  have hP := HP.out.below hB
  generalize ((w.alloc (.cells #[.int .i64 0, .slice none 0 0] 48)).alloc (.cells #[.int .i64 k, .slice a n cap] 48)) = W at *
  refine (O1.out _ hP).mono ?_
  rintro e W1 ⟨rfl, hcl⟩
  go_wp2_with fail
  exact ⟨rfl, ⟨_, rfl⟩, btrans hB hcl⟩
set_option maxHeartbeats 1000000 in
theorem right_ok (w : World) (k : Int) (a : Option Addr) (cap : Nat) (ps : List (Int × Int)) (hm : ps.length ≤ 1099511627776) (hc : ps.length ≤ cap) (h : Pts w a ps) (hk : shok k ps = true) : Calls Tryz.prog 140 #[.int .i64 k, .slice a ps.length cap] w fun e w' => e = .returned (shv k a ps.length cap) ∧ Below w.heap.size w w' := by
  have O1 := hid (fun w' (hw : Pts w' a ps) => impl_ShapeOk k a cap ps w' hm hc hw)
  rw [hk] at O1
  have HP := hid h
  clear h hk
  generalize ps.length = n at *
  go_enter Tryz.func140, Tryz.ntmps140
  go_wp2_with fail
  have g5 := new_alloc (w.alloc (.cells #[.int .i64 0, .slice none 0 0] 48)) (w.heap.size + 1) (.cells #[.int .i64 k, .slice a n cap] 48) (by simp)
  have g4 := old_alloc (o' := .cells #[.int .i64 k, .slice a n cap] 48) (new_alloc w w.heap.size (.cells #[.int .i64 0, .slice none 0 0] 48) rfl)
  have hB : Below w.heap.size w ((w.alloc (.cells #[.int .i64 0, .slice none 0 0] 48)).alloc (.cells #[.int .i64 k, .slice a n cap] 48)) := balloc (balloc (Below.refl _ _) _) _
  have hP := HP.out.below hB
  generalize ((w.alloc (.cells #[.int .i64 0, .slice none 0 0] 48)).alloc (.cells #[.int .i64 k, .slice a n cap] 48)) = W at *
  refine (O1.out _ hP).mono ?_
  rintro e W1 ⟨rfl, hcl⟩
  replace g4 := keepheap hcl g4
  replace g5 := keepheap hcl g5
  replace hB := btrans hB hcl
  clear hcl
  obtain ⟨x0, x1, _, _⟩ := cell2g g5
  obtain ⟨y0, y1, y2, y3⟩ := cell2g g4
  go_wp2_with fail
  have gF := (set2 g4 (.int .i64 k) (.slice a n cap)).1
  have bF := bset (bset hB (q := w.heap.size) (k := 0) (by omega) (.int .i64 k)) (q := w.heap.size) (k := 1) (by omega) (.slice a n cap)
  generalize (W1.setCell ⟨w.heap.size, 0, none⟩ (.int .i64 k)).setCell ⟨w.heap.size, 1, none⟩ (.slice a n cap) = wf at *
  obtain ⟨z0, z1, _, _⟩ := cell2g gF
  exact bodyPost_ret (v := .agg #[(.int .i64 k), (.slice a n cap)]) (by simp [results, Tryz.results140, go_sem, z0, z1]) rfl ⟨rfl, bF⟩
end Go.Proofs.YtenlhgnobfadgaaGreatDoor
