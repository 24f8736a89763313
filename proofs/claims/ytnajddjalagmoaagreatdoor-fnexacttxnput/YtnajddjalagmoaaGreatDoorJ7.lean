/- Texts of stores, joined: Zv, Zy, Zz, Pg, Ph, Zx, Pi, Zad, Zae, Vh. -/
import Derived.Test.YtnajddjalagmoaaGreatDoorJ6
import Derived.Test.YtnajddjalagmoaaGreatDoorJ2
import Derived.Test.YtnajddjalagmoaaGreatDoorJ3
import Derived.Test.YtnajddjalagmoaaGreatDoorJ4
import Derived.Test.YtnajddjalagmoaaGreatDoorJ5
namespace Go.Proofs.YtnajddjalagmoaaGreatDoor
open Go.RowKit
set_option linter.unusedSimpArgs false
set_option linter.unusedVariables false
theorem set4L {α : Type} (L : List α) (k : Nat) (a b c d : α) (h : k + 4 ≤ L.length) : (((L.set k a).set (k + 1) b).set (k + 2) c).set (k + 3) d = L.take k ++ [a, b, c, d] ++ L.drop (k + 4) := by
  obtain ⟨A, o0, o1, o2, o3, R, rfl, hA⟩ : ∃ A o0 o1 o2 o3 R, L = A ++ o0 :: o1 :: o2 :: o3 :: R ∧ A.length = k := by
    have e := (List.take_append_drop k L).symm
    have hl : (L.drop k).length = L.length - k := by simp
    match hd : L.drop k, hl with
    | [], hl => simp at hl; omega
    | [_], hl => simp at hl; omega
    | [_, _], hl => simp at hl; omega
    | [_, _, _], hl => simp at hl; omega
    | o0 :: o1 :: o2 :: o3 :: R, _ => exact ⟨L.take k, o0, o1, o2, o3, R, by rw [← hd]; exact e, by simp; omega⟩
  subst hA
  simp [List.set_append, List.take_append, List.drop_append]
theorem own_set4 {w : World} {base g c n i : Nat} {t : TypeId} {xs : List Value} (h : w.ownsRow base t 4 (.slice (some ⟨g, 0, none⟩) n c) n xs) (hi : i < n) (x0 x1 x2 x3 : Value) : ((((w.setCell ⟨g, i * 4, none⟩ x0).setCell ⟨g, i * 4 + 1, none⟩ x1).setCell ⟨g, i * 4 + 2, none⟩ x2).setCell ⟨g, i * 4 + 3, none⟩ x3).ownsRow base t 4 (.slice (some ⟨g, 0, none⟩) n c) n (xs.take (i * 4) ++ [x0, x1, x2, x3] ++ xs.drop (i * 4 + 4)) := by
  have hxl := h.1
  refine ⟨by simp; omega, ?_⟩
  rcases h.2 with ⟨q, _⟩ | ⟨g', c', cur, e, q1, q2, q3, q4, q5, q6⟩
  · cases q
  · cases e
    refine .inr ⟨g, c, _, rfl, q1, set_at (set_at (set_at (set_at q2))), q3, q4, by simp; omega, ?_⟩
    have hcl : cur.toList.length = c * 4 := by simpa using q5
    have e1 : ((((cur.setIfInBounds (i * 4) x0).setIfInBounds (i * 4 + 1) x1).setIfInBounds (i * 4 + 2) x2).setIfInBounds (i * 4 + 3) x3).toList = cur.toList.take (i * 4) ++ [x0, x1, x2, x3] ++ cur.toList.drop (i * 4 + 4) := by
      simp only [Array.toList_setIfInBounds]
      exact set4L _ _ _ _ _ _ (by omega)
    rw [e1]
    obtain ⟨r, hr⟩ : ∃ r, cur.toList = xs ++ r := ⟨cur.toList.drop (n * 4), by rw [← q6]; exact (List.take_append_drop _ _).symm⟩
    have f1 : cur.toList.take (i * 4) = xs.take (i * 4) := by rw [hr, List.take_append_of_le_length (by omega)]
    have f2 : cur.toList.drop (i * 4 + 4) = xs.drop (i * 4 + 4) ++ r := by rw [hr, List.drop_append_of_le_length (by omega)]
    rw [f1, f2, ← List.append_assoc, List.take_append_of_le_length (by simp; omega)]
    exact List.take_of_length_le (by simp; omega)
theorem own_cells4 {w : World} {base g c n i : Nat} {t : TypeId} {xs : List Value} (h : w.ownsRow base t 4 (.slice (some ⟨g, 0, none⟩) n c) n xs) (hi : i < n) : ((∃ u, w.cell? ⟨g, i * 4, none⟩ = some u) ∧ (∃ u, w.cell? ⟨g, i * 4 + 1, none⟩ = some u) ∧ (∃ u, w.cell? ⟨g, i * 4 + 2, none⟩ = some u) ∧ (∃ u, w.cell? ⟨g, i * 4 + 3, none⟩ = some u)) ∧ w.frozen? ⟨g, i * 4, none⟩ = false ∧ w.frozen? ⟨g, i * 4 + 1, none⟩ = false ∧ w.frozen? ⟨g, i * 4 + 2, none⟩ = false ∧ w.frozen? ⟨g, i * 4 + 3, none⟩ = false := by
  rcases h.2 with ⟨q, _⟩ | ⟨g', c', cur, e, q1, q2, q3, q4, q5, q6⟩
  · cases q
  · cases e
    have hk : ∀ k, k < c * 4 → ∃ u, w.cell? ⟨g, k, none⟩ = some u := fun k hk => ⟨cur[k]'(by omega), by simp [World.cell?, q2, Array.getElem?_eq_getElem (show k < cur.size by omega)]⟩
    refine ⟨⟨hk _ (by omega), hk _ (by omega), hk _ (by omega), hk _ (by omega)⟩, ?_, ?_, ?_, ?_⟩ <;> simp [World.frozen?, q2]
set_option maxRecDepth 100000 in
set_option maxHeartbeats 4000000 in
theorem set_old (base R g c n i : Nat) (id kd : Int) (gn : Bool) (sa : Option Addr) (sn sc : Nat) (y1 y2 y3 y4 : Value) (xs : List Value) (w : World) (hn : n ≤ 1099511627776) (hi : i < n) (gR : w.heap[R]? = some (.cells #[.slice (some ⟨g, 0, none⟩) n c, y1, y2, y3, y4] 104 (0, 0))) (hRg : R ≠ g) (h : w.ownsRow base 66 4 (.slice (some ⟨g, 0, none⟩) n c) n xs) (hgw : g < w.heap.size) (hb : base ≤ w.heap.size) (hx : ∀ u ∈ xs, u.oneCell' = true) (hpl : ∀ W, Below w.heap.size w W → Calls Tryz.prog 95 #[.slice (some ⟨g, 0, none⟩) n c, .int .i64 id] W fun e w' => e = .returned (.tuple #[.int .i64 i, .bool true]) ∧ Below W.heap.size W w') : Calls Tryz.prog 63 #[.pointer (some ⟨R, 0, none⟩), .agg #[.int .i64 id, .bool gn, .int .i64 kd, .slice sa sn sc]] w fun e w' => e = .returned (.tuple #[]) ∧ w'.heap[R]? = some (.cells #[.slice (some ⟨g, 0, none⟩) n c, y1, y2, y3, y4] 104 (0, 0)) ∧ w'.ownsRow base 66 4 (.slice (some ⟨g, 0, none⟩) n c) n (xs.take (i * 4) ++ [.int .i64 id, .bool gn, .int .i64 kd, .slice sa sn sc] ++ xs.drop (i * 4 + 4)) ∧ w.heap.size ≤ w'.heap.size ∧ (∀ b, b < w.heap.size → b ≠ g → w'.heap[b]? = w.heap[b]?) ∧ (w'.os = w.os ∧ w'.tape = w.tape ∧ w'.output = w.output) := by
  have gB := new_alloc w w.heap.size (.cells #[.int .i64 id, .bool gn, .int .i64 kd, .slice sa sn sc] 66) rfl
  have hB : Below w.heap.size w (w.alloc (.cells #[.int .i64 id, .bool gn, .int .i64 kd, .slice sa sn sc] 66)) := balloc (Below.refl _ _) _
  have hRw := lt_of_block gR
  replace gR := keepheapA hB gR
  have HO := hid (own_frame (w' := w.alloc (.cells #[.int .i64 id, .bool gn, .int .i64 kd, .slice sa sn sc] 66)) h (fun k e => hB.block k (by simp [Value.ownBlock] at e; omega)))
  have HX := hid hx
  have HP := hid hpl
  have H1 : Hid (∀ u : Value, u ∈ ([.int .i64 id, .bool gn, .int .i64 kd, .slice sa sn sc] : List Value) → u.oneCell' = true) := hid (by intro u hu; simp at hu; rcases hu with rfl | rfl | rfl | rfl <;> rfl)
  have HF : Hid (∀ (Y : World), Below w.heap.size w Y → Y.heap[R]? = some (.cells #[.slice (some ⟨g, 0, none⟩) n c, y1, y2, y3, y4] 104 (0, 0)) → Y.ownsRow base 66 4 (.slice (some ⟨g, 0, none⟩) n c) n xs → ((((Y.setCell ⟨g, i * 4, none⟩ (.int .i64 id)).setCell ⟨g, i * 4 + 1, none⟩ (.bool gn)).setCell ⟨g, i * 4 + 2, none⟩ (.int .i64 kd)).setCell ⟨g, i * 4 + 3, none⟩ (.slice sa sn sc)).heap[R]? = some (.cells #[.slice (some ⟨g, 0, none⟩) n c, y1, y2, y3, y4] 104 (0, 0)) ∧ ((((Y.setCell ⟨g, i * 4, none⟩ (.int .i64 id)).setCell ⟨g, i * 4 + 1, none⟩ (.bool gn)).setCell ⟨g, i * 4 + 2, none⟩ (.int .i64 kd)).setCell ⟨g, i * 4 + 3, none⟩ (.slice sa sn sc)).ownsRow base 66 4 (.slice (some ⟨g, 0, none⟩) n c) n (xs.take (i * 4) ++ [.int .i64 id, .bool gn, .int .i64 kd, .slice sa sn sc] ++ xs.drop (i * 4 + 4)) ∧ w.heap.size ≤ ((((Y.setCell ⟨g, i * 4, none⟩ (.int .i64 id)).setCell ⟨g, i * 4 + 1, none⟩ (.bool gn)).setCell ⟨g, i * 4 + 2, none⟩ (.int .i64 kd)).setCell ⟨g, i * 4 + 3, none⟩ (.slice sa sn sc)).heap.size ∧ (∀ b, b < w.heap.size → b ≠ g → ((((Y.setCell ⟨g, i * 4, none⟩ (.int .i64 id)).setCell ⟨g, i * 4 + 1, none⟩ (.bool gn)).setCell ⟨g, i * 4 + 2, none⟩ (.int .i64 kd)).setCell ⟨g, i * 4 + 3, none⟩ (.slice sa sn sc)).heap[b]? = w.heap[b]?) ∧ (((((Y.setCell ⟨g, i * 4, none⟩ (.int .i64 id)).setCell ⟨g, i * 4 + 1, none⟩ (.bool gn)).setCell ⟨g, i * 4 + 2, none⟩ (.int .i64 kd)).setCell ⟨g, i * 4 + 3, none⟩ (.slice sa sn sc)).os = w.os ∧ ((((Y.setCell ⟨g, i * 4, none⟩ (.int .i64 id)).setCell ⟨g, i * 4 + 1, none⟩ (.bool gn)).setCell ⟨g, i * 4 + 2, none⟩ (.int .i64 kd)).setCell ⟨g, i * 4 + 3, none⟩ (.slice sa sn sc)).tape = w.tape ∧ ((((Y.setCell ⟨g, i * 4, none⟩ (.int .i64 id)).setCell ⟨g, i * 4 + 1, none⟩ (.bool gn)).setCell ⟨g, i * 4 + 2, none⟩ (.int .i64 kd)).setCell ⟨g, i * 4 + 3, none⟩ (.slice sa sn sc)).output = w.output)) := hid (fun Y hB gR hO => by
    have hfar : ∀ b, b ≠ g → ((((Y.setCell ⟨g, i * 4, none⟩ (.int .i64 id)).setCell ⟨g, i * 4 + 1, none⟩ (.bool gn)).setCell ⟨g, i * 4 + 2, none⟩ (.int .i64 kd)).setCell ⟨g, i * 4 + 3, none⟩ (.slice sa sn sc)).heap[b]? = Y.heap[b]? := fun b hb => (by rw [Below.heap_setCell _ _ _ _ (by dsimp only; omega), Below.heap_setCell _ _ _ _ (by dsimp only; omega), Below.heap_setCell _ _ _ _ (by dsimp only; omega), Below.heap_setCell _ _ _ _ (by dsimp only; omega)])
    refine ⟨(hfar R hRg).trans gR, own_set4 hO hi _ _ _ _, by have := hB.size; simpa using this, fun b hb h2 => (hfar b h2).trans (hB.block b hb), ⟨hB.os, hB.tape, hB.output⟩⟩)
  have hWz : (w.alloc (.cells #[.int .i64 id, .bool gn, .int .i64 kd, .slice sa sn sc] 66)).heap.size = w.heap.size + 1 := by simp
  obtain ⟨B, hBe⟩ : ∃ B, B = w.heap.size := ⟨_, rfl⟩
  rw [← hBe] at gB
  clear h hx hpl
  go_enter Tryz.func63, Tryz.ntmps63
  go_upto_region 1 with fail
  rw [← hBe]
  generalize w.alloc (.cells #[.int .i64 id, .bool gn, .int .i64 kd, .slice sa sn sc] 66) = W at *
  have HBE := hid hBe
  clear hBe
  have HS0 : Hid (w.heap.size = B) := hid HBE.out.symm
  refine wp_region_held_drew (S := fun w' => w'.heap[R]? = some (.cells #[.slice (some ⟨g, 0, none⟩) n c, y1, y2, y3, y4] 104 (0, 0)) ∧ w'.heap[B]? = some (.cells #[.int .i64 id, .bool gn, .int .i64 kd, .slice sa sn sc] 66 (0, 0))) (by kernel_rfl) ?_ (fun hHeld => ?_)
  · exact ⟨gR, gB⟩
  refine wpAnyH_take (i := 0) (v := ?_) rfl (by kernel_rfl) (by kernel_rfl) (by kernel_rfl) (fun _ _ _ h => h) (Or.inl ⟨by rfl, ?_⟩) hHeld ?_
  rotate_left
  · intro w' hSw; (try dsimp only at hSw); obtain ⟨hs1, hs2⟩ := hSw; obtain ⟨⟨_, _, _, _, _⟩, _⟩ := cell5g hs1; obtain ⟨⟨_, _, _, _⟩, _⟩ := cellk4 hs2; go_simp; try (with_reducible rfl)
  try simp only [sq]
  refine wpAnyH_take (i := 1) (v := ?_) rfl (by kernel_rfl) (by kernel_rfl) (by kernel_rfl) (fun _ _ _ h => h) (Or.inl ⟨by rfl, ?_⟩) hHeld ?_
  rotate_left
  · intro w' hSw; (try dsimp only at hSw); obtain ⟨hs1, hs2⟩ := hSw; obtain ⟨⟨_, _, _, _, _⟩, _⟩ := cell5g hs1; obtain ⟨⟨_, _, _, _⟩, _⟩ := cellk4 hs2; go_simp; try (with_reducible rfl)
  try simp only [sq]
  refine wpAnyH_take (i := 2) (v := ?_) rfl (by kernel_rfl) (by kernel_rfl) (by kernel_rfl) (fun _ _ _ h => h) (Or.inl ⟨by rfl, ?_⟩) hHeld ?_
  rotate_left
  · intro w' hSw; (try dsimp only at hSw); obtain ⟨hs1, hs2⟩ := hSw; obtain ⟨⟨_, _, _, _, _⟩, _⟩ := cell5g hs1; obtain ⟨⟨_, _, _, _⟩, _⟩ := cellk4 hs2; go_simp; try (with_reducible rfl)
  try simp only [sq]
  refine wpAnyH_take (i := 3) (v := ?_) rfl (by kernel_rfl) (by kernel_rfl) (by kernel_rfl) (fun _ _ _ h => h) (Or.inl ⟨by rfl, ?_⟩) hHeld ?_
  rotate_left
  · intro w' hSw; (try dsimp only at hSw); obtain ⟨hs1, hs2⟩ := hSw; obtain ⟨⟨_, _, _, _, _⟩, _⟩ := cell5g hs1; obtain ⟨⟨_, _, _, _⟩, _⟩ := cellk4 hs2; go_simp; try (with_reducible rfl)
  try simp only [sq]
  refine wpAnyH_take (i := 4) (v := ?_) rfl (by kernel_rfl) (by kernel_rfl) (by kernel_rfl) (fun _ _ _ h => h) (Or.inl ⟨by rfl, ?_⟩) hHeld ?_
  rotate_left
  · intro w' hSw; (try dsimp only at hSw); obtain ⟨hs1, hs2⟩ := hSw; obtain ⟨⟨_, _, _, _, _⟩, _⟩ := cell5g hs1; obtain ⟨⟨_, _, _, _⟩, _⟩ := cellk4 hs2; go_simp; try (with_reducible rfl)
  try simp only [sq]
  refine wpAnyH_ready (rs := [5]) (by kernel_rfl) (by simp) ?_
  refine AllReadyH.cons rfl (fun K hK => ?_) AllReadyH.nil
  try simp only [sq]
  go_simp
  go_at_call 95
  refine (HP.out _ (bdrew hB)).mono ?_
  rintro e z ⟨rfl, hz⟩
  replace gR := keepheapA hz (show W.drew.heap[R]? = _ from gR)
  replace gB := keepheapA hz (show W.drew.heap[B]? = _ from gB)
  replace HO := hid (own_frame (w' := z) HO.out (fun k e => (hz.block k (by simp [Value.ownBlock] at e; show k < W.heap.size; omega)).trans rfl))
  replace hB := btrans (bdrew hB) hz
  have hzs : W.heap.size ≤ z.heap.size := hz.size
  clear hz HP
  go_wp2_with fail
  refine hK.out _ _ ?_ (fun hHeld => ?_)
  · exact ⟨gR, gB⟩
  clear hK K
  try simp only [sq]
  refine wpAnyH_take (i := 6) (v := ?_) rfl (by kernel_rfl) (by kernel_rfl) (by kernel_rfl) (fun _ _ _ h => h) (Or.inl ⟨by rfl, ?_⟩) hHeld ?_
  rotate_left
  · intro w' hSw; (try dsimp only at hSw); go_simp; try (with_reducible rfl)
  try simp only [sq]
  refine wpAnyH_take (i := 7) (v := ?_) rfl (by kernel_rfl) (by kernel_rfl) (by kernel_rfl) (fun _ _ _ h => h) (Or.inl ⟨by rfl, ?_⟩) hHeld ?_
  rotate_left
  · intro w' hSw; (try dsimp only at hSw); go_simp; try (with_reducible rfl)
  try simp only [sq]
  refine wpAnyH_take (i := 8) (v := ?_) rfl (by kernel_rfl) (by kernel_rfl) (by kernel_rfl) (fun _ _ _ h => h) (Or.inl ⟨by rfl, ?_⟩) hHeld ?_
  rotate_left
  · intro w' hSw; (try dsimp only at hSw); go_simp; try (with_reducible rfl)
  try simp only [sq]
  refine wpAnyH_take (i := 9) (v := ?_) rfl (by kernel_rfl) (by kernel_rfl) (by kernel_rfl) (fun _ _ _ h => h) (Or.inl ⟨by rfl, ?_⟩) hHeld ?_
  rotate_left
  · intro w' hSw; (try dsimp only at hSw); go_simp; try (with_reducible rfl)
  try simp only [sq]
  refine wpAnyH_take (i := 10) (v := ?_) rfl (by kernel_rfl) (by kernel_rfl) (by kernel_rfl) (fun _ _ _ h => h) (Or.inl ⟨by rfl, ?_⟩) hHeld ?_
  rotate_left
  · intro w' hSw; (try dsimp only at hSw); go_simp; try (with_reducible rfl)
  try simp only [sq]
  refine wpAnyH_done (by kernel_rfl) ?_ _
  go_upto_region 3 with fail
  refine wp_region_held_drew (S := fun w' => w'.heap[R]? = some (.cells #[.slice (some ⟨g, 0, none⟩) n c, y1, y2, y3, y4] 104 (0, 0)) ∧ w'.heap[B]? = some (.cells #[.int .i64 id, .bool gn, .int .i64 kd, .slice sa sn sc] 66 (0, 0))) (by kernel_rfl) ⟨gR, gB⟩ (fun hHeld => ?_)
  replace gR : z.drew.heap[R]? = _ := gR
  replace gB : z.drew.heap[B]? = _ := gB
  replace HO := hid (own_frame (w' := z.drew) HO.out (fun k e => rfl))
  replace hB := bdrew hB
  generalize z.drew = Z0 at *
  obtain ⟨⟨⟨u0, k0⟩, ⟨u1, k1⟩, ⟨u2, k2⟩, ⟨u3, k3⟩⟩, f0, f1, f2, f3⟩ := own_cells4 HO.out hi
  have hin : (i : Int) < (n : Int) := by omega
  have hBg : B ≠ g := by have := HBE.out; omega
  refine wpAnyH_take (i := 0) (v := ?_) rfl (by kernel_rfl) (by kernel_rfl) (by kernel_rfl) (fun _ _ _ h => h) (Or.inl ⟨by rfl, ?_⟩) hHeld ?_
  rotate_left
  · intro w' hSw; (try dsimp only at hSw); go_simp; try (with_reducible rfl)
  try simp only [sq]
  refine wpAnyH_take (i := 1) (v := ?_) rfl (by kernel_rfl) (by kernel_rfl) (by kernel_rfl) (fun _ _ _ h => h) (Or.inl ⟨by rfl, ?_⟩) hHeld ?_
  rotate_left
  · intro w' hSw; (try dsimp only at hSw); go_simp; try (with_reducible rfl)
  try simp only [sq]
  refine wpAnyH_take (i := 2) (v := ?_) rfl (by kernel_rfl) (by kernel_rfl) (by kernel_rfl) (fun _ _ _ h => h) (Or.inl ⟨by rfl, ?_⟩) hHeld ?_
  rotate_left
  · intro w' hSw; (try dsimp only at hSw); obtain ⟨hs1, hs2⟩ := hSw; obtain ⟨⟨_, _, _, _, _⟩, _⟩ := cell5g hs1; obtain ⟨⟨_, _, _, _⟩, _⟩ := cellk4 hs2; go_simp; try (with_reducible rfl)
  try simp only [sq]
  refine wpAnyH_take (i := 3) (v := ?_) rfl (by kernel_rfl) (by kernel_rfl) (by kernel_rfl) (fun _ _ _ h => h) (Or.inl ⟨by rfl, ?_⟩) hHeld ?_
  rotate_left
  · intro w' hSw; (try dsimp only at hSw); go_simp; try (with_reducible rfl)
  try simp only [sq]
  refine wpAnyH_take (i := 4) (v := ?_) rfl (by kernel_rfl) (by kernel_rfl) (by kernel_rfl) (fun _ _ _ h => h) (Or.inl ⟨by rfl, ?_⟩) hHeld ?_
  rotate_left
  · intro w' hSw; (try dsimp only at hSw); obtain ⟨hs1, hs2⟩ := hSw; obtain ⟨⟨_, _, _, _, _⟩, _⟩ := cell5g hs1; obtain ⟨⟨_, _, _, _⟩, _⟩ := cellk4 hs2; go_simp; try (with_reducible rfl)
  try simp only [sq]
  refine wpAnyH_take (i := 5) (v := ?_) rfl (by kernel_rfl) (by kernel_rfl) (by kernel_rfl) (fun _ _ _ h => h) (Or.inl ⟨by rfl, ?_⟩) hHeld ?_
  rotate_left
  · intro w' hSw; (try dsimp only at hSw); go_simp; try (with_reducible rfl)
  try simp only [sq]
  refine wpAnyH_ready (rs := [6]) (by kernel_rfl) (by simp) ?_
  refine AllReadyH.cons rfl (fun K hK => ?_) AllReadyH.nil
  try simp only [sq]
  go_simp
  have HB3 := hid hB
  clear hB
  refine hK.out _ _ ?_ (fun hHeld => ?_)
  · exact ⟨(by rw [Below.heap_setCell _ _ _ _ (by dsimp only; omega), Below.heap_setCell _ _ _ _ (by dsimp only; omega), Below.heap_setCell _ _ _ _ (by dsimp only; omega), Below.heap_setCell _ _ _ _ (by dsimp only; omega)]; exact gR), (by rw [Below.heap_setCell _ _ _ _ (by dsimp only; omega), Below.heap_setCell _ _ _ _ (by dsimp only; omega), Below.heap_setCell _ _ _ _ (by dsimp only; omega), Below.heap_setCell _ _ _ _ (by dsimp only; omega)]; exact gB)⟩
  clear hK K
  refine wpAnyH_done (by kernel_rfl) ?_ _
  go_wp2_with fail
  refine bodyPost_ret (results_none rfl _ _ _) rfl ?_
  exact ⟨rfl, HF.out _ HB3.out gR HO.out⟩
end Go.Proofs.YtnajddjalagmoaaGreatDoor
namespace Go.Proofs.YtnajddjalagmoaaGreatDoor
open Go.RowKit
set_option linter.unusedSimpArgs false
set_option linter.unusedVariables false
theorem cellk2 {w : World} {p : Nat} {a b : Value} {t : TypeId} (h : w.heap[p]? = some (.cells #[a, b] t (0, 0))) : (w.cell? ⟨p, 0, none⟩ = some a ∧ w.cell? ⟨p, 1, none⟩ = some b) ∧ w.frozen? ⟨p, 0, none⟩ = false ∧ w.frozen? ⟨p, 1, none⟩ = false := by
  refine ⟨⟨?_, ?_⟩, ?_, ?_⟩ <;> simp [World.cell?, World.frozen?, h]
set_option maxRecDepth 100000 in
set_option maxHeartbeats 2000000 in
theorem put_bad (R : Nat) (id kd : Int) (sa : Option Addr) (sn sc : Nat) (b1 b2 : Bool) (na : Addr) (w : World) (hb : (b1 && b2) = false) (hg : w.cell? ⟨1, 0, none⟩ = some (.iface 247 (.pointer (some na)))) (h1 : ∀ W, Below w.heap.size w W → Calls Tryz.prog 61 #[.int .i64 id] W fun e w' => e = .returned (.bool b1) ∧ Below W.heap.size W w') (h2 : ∀ W, Below w.heap.size w W → Calls Tryz.prog 62 #[.agg #[.int .i64 kd, .slice sa sn sc]] W fun e w' => e = .returned (.bool b2) ∧ Below W.heap.size W w') : Calls Tryz.prog 32 #[.pointer (some ⟨R, 0, none⟩), .int .i64 id, .agg #[.int .i64 kd, .slice sa sn sc]] w fun e w' => e = .returned (.iface 111 (.agg #[.int .i64 2, .iface 247 (.pointer (some na))])) ∧ Below w.heap.size w w' := by
  have H1 := hid h1
  have H2 := hid h2
  have hB : Below w.heap.size w (w.alloc (.cells #[.int .i64 kd, .slice sa sn sc] 44)) := balloc (Below.refl _ _) _
  have gB := new_alloc w w.heap.size (.cells #[.int .i64 kd, .slice sa sn sc] 44) rfl
  clear h1 h2
  go_enter Tryz.func32, Tryz.ntmps32
  go_upto_region 1 with fail
  generalize w.alloc (.cells #[.int .i64 kd, .slice sa sn sc] 44) = W at *
  go_wp2_with fail
  refine (H1.out _ hB).mono ?_
  rintro e x ⟨rfl, hx⟩
  replace gB := keepheapA hx gB
  replace hB := btrans hB hx
  clear hx
  cases b1
  · have hg' := keepcell hB hg
    go_wp2_with fail
    go_ret
    exact ⟨rfl, hB⟩
  · obtain rfl : b2 = false := by simpa using hb
    obtain ⟨⟨x0, x1⟩, _⟩ := cellk2 gB
    go_wp2_with fail
    refine (H2.out _ hB).mono ?_
    rintro e y ⟨rfl, hy⟩
    replace hB := btrans hB hy
    clear hy x0 x1
    have hg' := keepcell hB hg
    go_wp2_with fail
    go_ret
    exact ⟨rfl, hB⟩
set_option maxRecDepth 100000 in
set_option maxHeartbeats 2000000 in
theorem put_do (R : Nat) (id kd : Int) (sa : Option Addr) (sc : Nat) (ps : List (Int × Int)) (w : World) (Post : World → Prop) (h1 : ∀ W, Below w.heap.size w W → Calls Tryz.prog 61 #[.int .i64 id] W fun e w' => e = .returned (.bool true) ∧ Below W.heap.size W w') (h2 : ∀ W, Below w.heap.size w W → Calls Tryz.prog 62 #[.agg #[.int .i64 kd, .slice sa ps.length sc]] W fun e w' => e = .returned (.bool true) ∧ Below W.heap.size W w') (h3 : ∀ W, Below w.heap.size w W → Calls Tryz.prog 64 #[.agg #[.int .i64 kd, .slice sa ps.length sc]] W fun e w' => CP W kd ps e w') (h4 : ∀ (W : World) (p c : Nat), Below w.heap.size w W → w.heap.size ≤ p → ps.length ≤ c → PtsOwn W p ps → Calls Tryz.prog 63 #[.pointer (some ⟨R, 0, none⟩), .agg #[.int .i64 id, .bool false, .int .i64 kd, .slice (some ⟨p, 0, none⟩) ps.length c]] W fun e w' => e = .returned (.tuple #[]) ∧ Post w' ∧ (∀ b, w.heap.size ≤ b → b < W.heap.size → w'.heap[b]? = W.heap[b]?)) : Calls Tryz.prog 32 #[.pointer (some ⟨R, 0, none⟩), .int .i64 id, .agg #[.int .i64 kd, .slice sa ps.length sc]] w fun e w' => e = .returned .nilIface ∧ Post w' := by
  have H1 := hid h1
  have H2 := hid h2
  have H3 := hid h3
  have H4 := hid h4
  clear h1 h2 h3 h4
  obtain ⟨sn, hsn⟩ : ∃ n, n = ps.length := ⟨_, rfl⟩
  have HSN := hid hsn.symm
  rw [← hsn] at H2 H3 H4 ⊢
  clear hsn
  have hB : Below w.heap.size w (w.alloc (.cells #[.int .i64 kd, .slice sa sn sc] 44)) := balloc (Below.refl _ _) _
  have gB := new_alloc w w.heap.size (.cells #[.int .i64 kd, .slice sa sn sc] 44) rfl
  go_enter Tryz.func32, Tryz.ntmps32
  go_upto_region 1 with fail
  generalize w.alloc (.cells #[.int .i64 kd, .slice sa sn sc] 44) = W at *
  go_wp2_with fail
  refine (H1.out _ hB).mono ?_
  rintro e x ⟨rfl, hx⟩
  replace gB := keepheapA hx gB
  replace hB := btrans hB hx
  clear hx
  obtain ⟨⟨x0, x1⟩, _⟩ := cellk2 gB
  go_wp2_with fail
  refine (H2.out _ hB).mono ?_
  rintro e y ⟨rfl, hy⟩
  replace gB := keepheapA hy gB
  replace hB := btrans hB hy
  clear hy x0 x1
  go_upto_region 3 with fail
  refine wp_region_held_drew (S := fun w' => w'.heap[w.heap.size]? = some (.cells #[.int .i64 kd, .slice sa sn sc] 44 (0, 0))) (by kernel_rfl) gB (fun hHeld => ?_)
  replace gB : y.drew.heap[w.heap.size]? = _ := gB
  replace hB := bdrew hB
  generalize y.drew = Z at *
  have HZS := hid hB.size
  refine wpAnyH_take (i := 0) (v := ?_) rfl (by kernel_rfl) (by kernel_rfl) (by kernel_rfl) (fun _ _ _ h => h) (Or.inl ⟨by rfl, ?_⟩) hHeld ?_
  rotate_left
  · intro w' hSw; (try dsimp only at hSw); go_simp; try (with_reducible rfl)
  try simp only [sq]
  refine wpAnyH_take (i := 1) (v := ?_) rfl (by kernel_rfl) (by kernel_rfl) (by kernel_rfl) (fun _ _ _ h => h) (Or.inl ⟨by rfl, ?_⟩) hHeld ?_
  rotate_left
  · intro w' hSw; (try dsimp only at hSw); go_simp; try (with_reducible rfl)
  try simp only [sq]
  refine wpAnyH_take (i := 2) (v := ?_) rfl (by kernel_rfl) (by kernel_rfl) (by kernel_rfl) (fun _ _ _ h => h) (Or.inl ⟨by rfl, ?_⟩) hHeld ?_
  rotate_left
  · intro w' hSw; (try dsimp only at hSw); go_simp; try (with_reducible rfl)
  try simp only [sq]
  refine wpAnyH_take (i := 3) (v := ?_) rfl (by kernel_rfl) (by kernel_rfl) (by kernel_rfl) (fun _ _ _ h => h) (Or.inl ⟨by rfl, ?_⟩) hHeld ?_
  rotate_left
  · intro w' hSw; (try dsimp only at hSw); go_simp; try (with_reducible rfl)
  try simp only [sq]
  refine wpAnyH_take (i := 4) (v := ?_) rfl (by kernel_rfl) (by kernel_rfl) (by kernel_rfl) (fun _ _ _ h => h) (Or.inl ⟨by rfl, ?_⟩) hHeld ?_
  rotate_left
  · intro w' hSw; (try dsimp only at hSw); obtain ⟨⟨_, _⟩, _⟩ := cellk2 hSw; go_simp; try (with_reducible rfl)
  try simp only [sq]
  refine wpAnyH_ready (rs := [5]) (by kernel_rfl) (by simp) ?_
  refine AllReadyH.cons rfl (fun K hK => ?_) AllReadyH.nil
  try simp only [sq]
  go_simp
  go_at_call 64
  refine (H3.out _ hB).mono ?_
  rintro e V hcp
  obtain ⟨p, c, he, q1, q2, q3, q4⟩ := hcp
  have hps : ps.length = sn := HSN.out
  rw [hps] at he q1
  subst he
  replace gB := keepheapA q4 gB
  replace hB := btrans hB q4
  have HQ := hid q3
  have hzs := hB.size
  have hpz : w.heap.size ≤ p := by have := HZS.out; omega
  clear q3 q4 hps
  go_wp2_with fail
  refine hK.out _ _ gB (fun hHeld => ?_)
  clear hK K
  try simp only [sq]
  refine wpAnyH_take (i := 6) (v := ?_) rfl (by kernel_rfl) (by kernel_rfl) (by kernel_rfl) (fun _ _ _ h => h) (Or.inl ⟨by rfl, ?_⟩) hHeld ?_
  rotate_left
  · intro w' hSw; (try dsimp only at hSw); go_simp; try (with_reducible rfl)
  try simp only [sq]
  refine wpAnyH_ready (rs := [7]) (by kernel_rfl) (by simp) ?_
  refine AllReadyH.cons rfl (fun K hK => ?_) AllReadyH.nil
  try simp only [sq]
  go_simp
  go_at_call 63
  refine (H4.out V p c hB hpz q1 HQ.out).mono ?_
  rintro e Y ⟨rfl, r1, r2⟩
  have R1 := hid r1
  have gY := (r2 w.heap.size (Nat.le_refl _) (lt_of_block gB)).trans gB
  clear r1 r2
  go_wp2_with fail
  refine hK.out _ _ gY (fun hHeld => ?_)
  clear hK K
  refine wpAnyH_done (by kernel_rfl) ?_ _
  go_wp2_with fail
  go_ret
  exact ⟨rfl, R1.out⟩
end Go.Proofs.YtnajddjalagmoaaGreatDoor
namespace Go.Proofs.YtnajddjalagmoaaGreatDoor
open Go.RowKit
set_option linter.unusedSimpArgs false
set_option linter.unusedVariables false
set_option maxHeartbeats 1000000 in
theorem put_clo (R bi bs : Nat) (id kd : Int) (sa : Option Addr) (sn sc : Nat) (w : World) (Post : Value → World → Prop) (g1 : w.cell? ⟨bi, 0, none⟩ = some (.int .i64 id)) (g2 : w.cell? ⟨bs, 0, none⟩ = some (.int .i64 kd)) (g3 : w.cell? ⟨bs, 1, none⟩ = some (.slice sa sn sc)) (h : Calls Tryz.prog 32 #[.pointer (some ⟨R, 0, none⟩), .int .i64 id, .agg #[.int .i64 kd, .slice sa sn sc]] w fun e w' => ∃ v, e = .returned v ∧ Post v w') : Calls Tryz.prog 31 #[.pointer (some ⟨R, 0, none⟩), .pointer (some ⟨bi, 0, none⟩), .pointer (some ⟨bs, 0, none⟩)] w fun e w' => ∃ v, e = .returned v ∧ Post v w' := by
  have H := hid h
  clear h
  go_enter Tryz.func31, Tryz.ntmps31
  go_wp2_with fail
  refine H.out.mono ?_
  rintro e z ⟨v, rfl, hz⟩
  have HZ := hid hz
  clear hz
  go_wp2_with fail
  go_ret
  exact ⟨v, rfl, HZ.out⟩
theorem set_cong {A B : World} {g k : Nat} {u : Value} (h : A.heap[g]? = B.heap[g]?) : (A.setCell ⟨g, k, none⟩ u).heap[g]? = (B.setCell ⟨g, k, none⟩ u).heap[g]? := by
  show (A.heap.modify g _)[g]? = (B.heap.modify g _)[g]?
  rw [Array.getElem?_modify, Array.getElem?_modify, h]
set_option maxRecDepth 100000 in
set_option maxHeartbeats 4000000 in
theorem do_p (now st code : Int) (op : Bool) (a ca : Option Addr) (rn cap tg tn tcc P m cn cc bi bs : Nat) (w : World) (Post : World → Option Addr → Nat → Nat → Prop) (htm : tn ≤ 1099511627776) (hm : m < tn) (hPt : P ≠ tg) (htw : tg < w.heap.size) (gP : w.heap[P]? = some (.cells #[.int .i64 now, .slice a rn cap, .slice (some ⟨tg, 0, none⟩) tn tcc] 38 (0, 0))) (k0 : w.cell? ⟨tg, 0 + m * 3, none⟩ = some (.int .i64 st)) (k1 : w.cell? ⟨tg, 0 + m * 3 + 1, none⟩ = some (.bool op)) (k2 : w.cell? ⟨tg, 0 + m * 3 + 2, none⟩ = some (.slice ca cn cc)) (z0 : w.frozen? ⟨tg, m * 3, none⟩ = false) (z1 : w.frozen? ⟨tg, m * 3 + 1, none⟩ = false) (z2 : w.frozen? ⟨tg, m * 3 + 2, none⟩ = false) (hst : (∀ (Y : World) (R : Nat), Below w.heap.size w Y → w.heap.size ≤ R → Y.heap[R]? = some (.cells #[.slice ca cn cc, .int .i64 st, .bool op, .int .i64 now, .slice a rn cap] 104 (0, 0)) → Calls Tryz.prog 31 #[.pointer (some ⟨R, 0, none⟩), .pointer (some ⟨bi, 0, none⟩), .pointer (some ⟨bs, 0, none⟩)] Y fun e z => ∃ v na nn nc, e = .returned v ∧ v.oneCell' = true ∧ z.heap[R]? = some (.cells #[.slice na nn nc, .int .i64 st, .bool op, .int .i64 now, .slice a rn cap] 104 (0, 0)) ∧ z.heap[P]? = Y.heap[P]? ∧ z.heap[tg]? = Y.heap[tg]? ∧ Y.heap.size ≤ z.heap.size ∧ (∀ Z : World, Below z.heap.size z Z ∨ (∀ b, b ≠ P → b ≠ tg → Z.heap[b]? = z.heap[b]?) → Calls Tryz.prog 59 #[v] Z fun e w' => e = .returned (.int .i64 code) ∧ Below Z.heap.size Z w') ∧ Post z na nn nc)) : Calls Tryz.prog 60 #[.pointer (some ⟨P, 0, none⟩), .int .i64 m, .func (.func 31) #[] #[.pointer (some ⟨bi, 0, none⟩), .pointer (some ⟨bs, 0, none⟩)]] w fun e w' => e = .returned (.int .i64 code) ∧ ∃ Z na nn nc, Post Z na nn nc ∧ w'.heap[P]? = w.heap[P]? ∧ (∀ b, b < Z.heap.size → b ≠ P → b ≠ tg → w'.heap[b]? = Z.heap[b]?) ∧ w'.heap[tg]? = (((Z.setCell ⟨tg, m * 3, none⟩ (.int .i64 st)).setCell ⟨tg, m * 3 + 1, none⟩ (.bool op)).setCell ⟨tg, m * 3 + 2, none⟩ (.slice na nn nc)).heap[tg]? ∧ Z.heap.size ≤ w'.heap.size ∧ (w'.os = Z.os ∧ w'.tape = Z.tape ∧ w'.output = Z.output) := by
  have gP0 := gP
  have HST := hid hst
  have HAW := hid (atwork_c now a ca rn cap tg 0 tn tcc m cn cc st op w hm htm k0 k1 k2)
  have HK : Hid (∀ z : World, z.heap[tg]? = w.heap[tg]? → (z.cell? ⟨tg, m * 3, none⟩ = some (.int .i64 st) ∧ z.cell? ⟨tg, m * 3 + 1, none⟩ = some (.bool op) ∧ z.cell? ⟨tg, m * 3 + 2, none⟩ = some (.slice ca cn cc)) ∧ z.frozen? ⟨tg, m * 3, none⟩ = false ∧ z.frozen? ⟨tg, m * 3 + 1, none⟩ = false ∧ z.frozen? ⟨tg, m * 3 + 2, none⟩ = false) := hid (fun z hz => by
    rw [Nat.zero_add] at k0 k1 k2
    refine ⟨⟨(World.cell?_of_block hz).trans k0, (World.cell?_of_block hz).trans k1, (World.cell?_of_block hz).trans k2⟩, (World.frozen?_of_block hz).trans z0, (World.frozen?_of_block hz).trans z1, (World.frozen?_of_block hz).trans z2⟩)
  clear k0 k1 k2 z0 z1 z2 hst
  have hPs := lt_of_block gP
  have c0 : (m : Int) < (tn : Int) := by omega
  go_enter Tryz.func60, Tryz.ntmps60
  obtain ⟨⟨d0, d1, d2⟩, _⟩ := cellk3 gP
  go_wp2_with fail
  refine HAW.out.mono ?_
  rintro e y ⟨rfl, hy⟩
  replace gP := keepheapA hy gP
  have hyz := hy.size
  clear d0 d1 d2 HAW
  go_upto_region 2 with fail
  have gR := new_alloc y y.heap.size (.cells #[.slice ca cn cc, .int .i64 st, .bool op, .int .i64 now, .slice a rn cap] 104) rfl
  have hal : Below y.heap.size y (y.alloc (.cells #[.slice ca cn cc, .int .i64 st, .bool op, .int .i64 now, .slice a rn cap] 104)) := balloc (Below.refl _ _) _
  replace gP := keepheapA hal gP
  have hB := btrans hy hal
  clear hal hy
  generalize y.alloc (.cells #[.slice ca cn cc, .int .i64 st, .bool op, .int .i64 now, .slice a rn cap] 104) = Y at *
  have hRl := lt_of_block gR
  generalize y.heap.size = R at *
  go_wp2_with fail
  refine (HST.out Y R hB (by omega) gR).mono ?_
  rintro e z ⟨v, na, nn, nc, rfl, hv, gR2, hzP, hzt, hzs, hcd, hpost⟩
  have HCD := hid hcd
  have HPO := hid hpost
  have gT := hzt.trans (hB.block tg htw)
  replace gP := hzP.trans gP
  clear hcd hpost hzP hzt gR HST
  obtain ⟨⟨f0, f1, f2, f3, f4⟩, _⟩ := cell5g gR2
  obtain ⟨⟨d0, d1, d2⟩, p0, p1, p2⟩ := cellk3 gP
  go_upto_region 4 with fail
  have gP1 : ((z.setCell ⟨P, 0, none⟩ (.int .i64 now)).setCell ⟨P, 1, none⟩ (.slice a rn cap)).heap[P]? = some (.cells #[.int .i64 now, .slice a rn cap, .slice (some ⟨tg, 0, none⟩) tn tcc] 38 (0, 0)) := set_at (k := 1) (u := .slice a rn cap) (set_at (k := 0) (u := .int .i64 now) gP)
  have hfar : ∀ b, b ≠ P → ((z.setCell ⟨P, 0, none⟩ (.int .i64 now)).setCell ⟨P, 1, none⟩ (.slice a rn cap)).heap[b]? = z.heap[b]? := fun b hb => by rw [Below.heap_setCell _ _ _ _ (by dsimp only; omega), Below.heap_setCell _ _ _ _ (by dsimp only; omega)]
  have gR3 := (hfar R (by omega)).trans gR2
  have HFR := hid hfar
  have HEQ : Hid (((z.setCell ⟨P, 0, none⟩ (.int .i64 now)).setCell ⟨P, 1, none⟩ (.slice a rn cap)).os = z.os ∧ ((z.setCell ⟨P, 0, none⟩ (.int .i64 now)).setCell ⟨P, 1, none⟩ (.slice a rn cap)).tape = z.tape ∧ ((z.setCell ⟨P, 0, none⟩ (.int .i64 now)).setCell ⟨P, 1, none⟩ (.slice a rn cap)).output = z.output) := hid ⟨rfl, rfl, rfl⟩
  have hs1 : ((z.setCell ⟨P, 0, none⟩ (.int .i64 now)).setCell ⟨P, 1, none⟩ (.slice a rn cap)).heap.size = z.heap.size := by simp
  clear hfar gP gR2 d0 d1 d2 p0 p1 p2 f0 f1 f2 f3 f4
  generalize ((z.setCell ⟨P, 0, none⟩ (.int .i64 now)).setCell ⟨P, 1, none⟩ (.slice a rn cap)) = V at *
  refine wp_region_held_drew (S := (fun w' => w'.heap[P]? = some (.cells #[.int .i64 now, .slice a rn cap, .slice (some ⟨tg, 0, none⟩) tn tcc] 38 (0, 0)) ∧ w'.heap[R]? = some (.cells #[.slice na nn nc, .int .i64 st, .bool op, .int .i64 now, .slice a rn cap] 104 (0, 0)))) (by kernel_rfl) ?_ (fun hHeld => ?_)
  · exact ⟨gP1, gR3⟩
  replace gP1 : V.drew.heap[P]? = some (.cells #[.int .i64 now, .slice a rn cap, .slice (some ⟨tg, 0, none⟩) tn tcc] 38 (0, 0)) := gP1
  replace gR3 : V.drew.heap[R]? = some (.cells #[.slice na nn nc, .int .i64 st, .bool op, .int .i64 now, .slice a rn cap] 104 (0, 0)) := gR3
  replace HFR : Hid (∀ b, b ≠ P → V.drew.heap[b]? = z.heap[b]?) := hid HFR.out
  replace HEQ : Hid (V.drew.os = z.os ∧ V.drew.tape = z.tape ∧ V.drew.output = z.output) := hid HEQ.out
  replace hs1 : V.drew.heap.size = z.heap.size := hs1
  generalize V.drew = VD at *
  obtain ⟨⟨q0, q1, q2⟩, p0, p1, p2⟩ := HK.out VD ((HFR.out tg (by omega)).trans gT)
  have hs1a := Nat.le_of_eq hs1
  have hs1b := Nat.le_of_eq hs1.symm
  clear hs1
  refine wpAnyH_take (i := 0) (v := ?_) rfl (by kernel_rfl) (by kernel_rfl) (by kernel_rfl) (fun _ _ _ h => h) (Or.inl ⟨by rfl, ?_⟩) hHeld ?_
  rotate_left
  · intro w' hSw; (try dsimp only at hSw); go_simp; try (with_reducible rfl)
  try simp only [sq]
  refine wpAnyH_take (i := 1) (v := ?_) rfl (by kernel_rfl) (by kernel_rfl) (by kernel_rfl) (fun _ _ _ h => h) (Or.inl ⟨by rfl, ?_⟩) hHeld ?_
  rotate_left
  · intro w' hSw; (try dsimp only at hSw); go_simp; try (with_reducible rfl)
  try simp only [sq]
  refine wpAnyH_take (i := 2) (v := ?_) rfl (by kernel_rfl) (by kernel_rfl) (by kernel_rfl) (fun _ _ _ h => h) (Or.inl ⟨by rfl, ?_⟩) hHeld ?_
  rotate_left
  · intro w' hSw; (try dsimp only at hSw); go_simp; try (with_reducible rfl)
  try simp only [sq]
  refine wpAnyH_take (i := 3) (v := ?_) rfl (by kernel_rfl) (by kernel_rfl) (by kernel_rfl) (fun _ _ _ h => h) (Or.inl ⟨by rfl, ?_⟩) hHeld ?_
  rotate_left
  · intro w' hSw; (try dsimp only at hSw); obtain ⟨⟨_, _, _⟩, _⟩ := cellk3 hSw.1; obtain ⟨⟨_, _, _, _, _⟩, _⟩ := cell5g hSw.2; go_simp; try (with_reducible rfl)
  try simp only [sq]
  refine wpAnyH_take (i := 4) (v := ?_) rfl (by kernel_rfl) (by kernel_rfl) (by kernel_rfl) (fun _ _ _ h => h) (Or.inl ⟨by rfl, ?_⟩) hHeld ?_
  rotate_left
  · intro w' hSw; (try dsimp only at hSw); go_simp; try (with_reducible rfl)
  try simp only [sq]
  refine wpAnyH_take (i := 5) (v := ?_) rfl (by kernel_rfl) (by kernel_rfl) (by kernel_rfl) (fun _ _ _ h => h) (Or.inl ⟨by rfl, ?_⟩) hHeld ?_
  rotate_left
  · intro w' hSw; (try dsimp only at hSw); go_simp; try (with_reducible rfl)
  try simp only [sq]
  refine wpAnyH_take (i := 6) (v := ?_) rfl (by kernel_rfl) (by kernel_rfl) (by kernel_rfl) (fun _ _ _ h => h) (Or.inl ⟨by rfl, ?_⟩) hHeld ?_
  rotate_left
  · intro w' hSw; (try dsimp only at hSw); obtain ⟨⟨_, _, _⟩, _⟩ := cellk3 hSw.1; obtain ⟨⟨_, _, _, _, _⟩, _⟩ := cell5g hSw.2; go_simp; try (with_reducible rfl)
  try simp only [sq]
  refine wpAnyH_take (i := 7) (v := ?_) rfl (by kernel_rfl) (by kernel_rfl) (by kernel_rfl) (fun _ _ _ h => h) (Or.inl ⟨by rfl, ?_⟩) hHeld ?_
  rotate_left
  · intro w' hSw; (try dsimp only at hSw); go_simp; try (with_reducible rfl)
  try simp only [sq]
  refine wpAnyH_take (i := 8) (v := ?_) rfl (by kernel_rfl) (by kernel_rfl) (by kernel_rfl) (fun _ _ _ h => h) (Or.inl ⟨by rfl, ?_⟩) hHeld ?_
  rotate_left
  · intro w' hSw; (try dsimp only at hSw); obtain ⟨⟨_, _, _⟩, _⟩ := cellk3 hSw.1; obtain ⟨⟨_, _, _, _, _⟩, _⟩ := cell5g hSw.2; go_simp; try (with_reducible rfl)
  try simp only [sq]
  refine wpAnyH_take (i := 9) (v := ?_) rfl (by kernel_rfl) (by kernel_rfl) (by kernel_rfl) (fun _ _ _ h => h) (Or.inl ⟨by rfl, ?_⟩) hHeld ?_
  rotate_left
  · intro w' hSw; (try dsimp only at hSw); go_simp; try (with_reducible rfl)
  try simp only [sq]
  refine wpAnyH_take (i := 10) (v := ?_) rfl (by kernel_rfl) (by kernel_rfl) (by kernel_rfl) (fun _ _ _ h => h) (Or.inl ⟨by rfl, ?_⟩) hHeld ?_
  rotate_left
  · intro w' hSw; (try dsimp only at hSw); obtain ⟨⟨_, _, _⟩, _⟩ := cellk3 hSw.1; obtain ⟨⟨_, _, _, _, _⟩, _⟩ := cell5g hSw.2; go_simp; try (with_reducible rfl)
  try simp only [sq]
  refine wpAnyH_take (i := 11) (v := ?_) rfl (by kernel_rfl) (by kernel_rfl) (by kernel_rfl) (fun _ _ _ h => h) (Or.inl ⟨by rfl, ?_⟩) hHeld ?_
  rotate_left
  · intro w' hSw; (try dsimp only at hSw); go_simp; try (with_reducible rfl)
  try simp only [sq]
  refine wpAnyH_take (i := 12) (v := ?_) rfl (by kernel_rfl) (by kernel_rfl) (by kernel_rfl) (fun _ _ _ h => h) (Or.inl ⟨by rfl, ?_⟩) hHeld ?_
  rotate_left
  · intro w' hSw; (try dsimp only at hSw); go_simp; try (with_reducible rfl)
  try simp only [sq]
  refine wpAnyH_ready (rs := [13]) (by kernel_rfl) (by simp) ?_
  refine AllReadyH.cons rfl (fun K hK => ?_) AllReadyH.nil
  try simp only [sq]
  go_simp
  have hfar2 : ∀ b, b ≠ tg → (((VD.setCell ⟨tg, m * 3, none⟩ (.int .i64 st)).setCell ⟨tg, m * 3 + 1, none⟩ (.bool op)).setCell ⟨tg, m * 3 + 2, none⟩ (.slice na nn nc)).heap[b]? = VD.heap[b]? := fun b hb => by rw [Below.heap_setCell _ _ _ _ (by dsimp only; omega), Below.heap_setCell _ _ _ _ (by dsimp only; omega), Below.heap_setCell _ _ _ _ (by dsimp only; omega)]
  replace gP1 := (hfar2 P (by omega)).trans gP1
  replace gR3 := (hfar2 R (by omega)).trans gR3
  have HTG : Hid ((((VD.setCell ⟨tg, m * 3, none⟩ (.int .i64 st)).setCell ⟨tg, m * 3 + 1, none⟩ (.bool op)).setCell ⟨tg, m * 3 + 2, none⟩ (.slice na nn nc)).heap[tg]? = (((z.setCell ⟨tg, m * 3, none⟩ (.int .i64 st)).setCell ⟨tg, m * 3 + 1, none⟩ (.bool op)).setCell ⟨tg, m * 3 + 2, none⟩ (.slice na nn nc)).heap[tg]?) := hid (set_cong (set_cong (set_cong (HFR.out tg (by omega)))))
  have hs2 : (((VD.setCell ⟨tg, m * 3, none⟩ (.int .i64 st)).setCell ⟨tg, m * 3 + 1, none⟩ (.bool op)).setCell ⟨tg, m * 3 + 2, none⟩ (.slice na nn nc)).heap.size = VD.heap.size := by simp
  have hs2b := Nat.le_of_eq hs2.symm
  replace HFR : Hid (∀ b, b ≠ P → b ≠ tg → (((VD.setCell ⟨tg, m * 3, none⟩ (.int .i64 st)).setCell ⟨tg, m * 3 + 1, none⟩ (.bool op)).setCell ⟨tg, m * 3 + 2, none⟩ (.slice na nn nc)).heap[b]? = z.heap[b]?) := hid (fun b h2 h3 => (hfar2 b h3).trans (HFR.out b h2))
  replace HEQ : Hid ((((VD.setCell ⟨tg, m * 3, none⟩ (.int .i64 st)).setCell ⟨tg, m * 3 + 1, none⟩ (.bool op)).setCell ⟨tg, m * 3 + 2, none⟩ (.slice na nn nc)).os = z.os ∧ (((VD.setCell ⟨tg, m * 3, none⟩ (.int .i64 st)).setCell ⟨tg, m * 3 + 1, none⟩ (.bool op)).setCell ⟨tg, m * 3 + 2, none⟩ (.slice na nn nc)).tape = z.tape ∧ (((VD.setCell ⟨tg, m * 3, none⟩ (.int .i64 st)).setCell ⟨tg, m * 3 + 1, none⟩ (.bool op)).setCell ⟨tg, m * 3 + 2, none⟩ (.slice na nn nc)).output = z.output) := hid HEQ.out
  refine hK.out _ _ ?_ (fun hHeld => ?_)
  · exact ⟨gP1, gR3⟩
  clear hK K
  try simp only [sq]
  refine wpAnyH_done (by kernel_rfl) ?_ _
  clear hHeld q0 q1 q2 p0 p1 p2 hfar2 hs2 gR3
  generalize (((VD.setCell ⟨tg, m * 3, none⟩ (.int .i64 st)).setCell ⟨tg, m * 3 + 1, none⟩ (.bool op)).setCell ⟨tg, m * 3 + 2, none⟩ (.slice na nn nc)) = F at *
  go_wp2_with fail
  refine (HCD.out _ (.inr HFR.out)).mono ?_
  rintro e x ⟨rfl, hx⟩
  have hxs := hx.size
  have HF1 := hid ((keepheapA hx gP1).trans gP0.symm)
  have HF2 := hid ((hx.block tg (by omega)).trans HTG.out)
  have HF3 : Hid (∀ b, b < z.heap.size → b ≠ P → b ≠ tg → x.heap[b]? = z.heap[b]?) := hid (fun b h1 h2 h3 => (hx.block b (by omega)).trans (HFR.out b h2 h3))
  have HF4 : Hid (x.os = z.os ∧ x.tape = z.tape ∧ x.output = z.output) := hid ⟨hx.os.trans HEQ.out.1, hx.tape.trans HEQ.out.2.1, hx.output.trans HEQ.out.2.2⟩
  have hzx : z.heap.size ≤ x.heap.size := by omega
  clear hx gP1
  go_wp2_with fail
  go_ret
  exact ⟨rfl, z, na, nn, nc, HPO.out, HF1.out, HF3.out, HF2.out, hzx, HF4.out⟩
end Go.Proofs.YtnajddjalagmoaaGreatDoor
namespace Go.Proofs.YtnajddjalagmoaaGreatDoor
open Go.RowKit
set_option linter.unusedSimpArgs false
set_option linter.unusedVariables false
theorem LC.wide2 {α : Type} {K : Kd α} {base hi hi' : Nat} {w : World} {v : Value} {xs : List α} (h : LC K base hi w v xs) (e1 : hi ≤ hi') (e2 : hi' ≤ w.heap.size) : LC K base hi' w v xs := by
  obtain ⟨h0, h | ⟨g, cap, ss, lo, up, h1, h2, h3, h4, h5, h6, h7⟩⟩ := h
  · exact ⟨e2, .inl h⟩
  · exact ⟨e2, .inr ⟨g, cap, ss, lo, up, h1, h2, h3, by omega, h5, fun j hj => by obtain ⟨a1, a2, a3, a4⟩ := h6 j hj; exact ⟨a1, a2, by omega, a4⟩, h7⟩⟩
end Go.Proofs.YtnajddjalagmoaaGreatDoor
namespace Go.Proofs.YtnajddjalagmoaaGreatDoor
open Go.RowKit
set_option linter.unusedSimpArgs false
set_option linter.unusedVariables false
/-- A store and a number that a call answers: the rows in one range, no transaction in it; each transaction's changes in two pieces. -/
def SBS (w : World) (now : Int) (rs : List Rw) (ts : List Tx) (n : Int) (e : Ending) (w' : World) : Prop :=
  ∃ a c ta tcc b1 u1 b2 u2, e = .returned (.tuple #[.agg #[.int .i64 now, .slice a rs.length c, .slice ta ts.length tcc], .int .i64 n]) ∧ LC KR b1 u1 w' (.slice a rs.length c) rs ∧ LTS b2 u2 b1 u1 w' (.slice ta ts.length tcc) ts ∧ w.heap.size ≤ b1 ∧ w.heap.size ≤ b2 ∧ Below w.heap.size w w'
theorem sbs_mk {w w' : World} {now n n' : Int} {rs : List Rw} {ts ts' : List Tx} {a ta : Option Addr} {c tcc nr nt b1 u1 b2 u2 : Nat} (e1 : ts = ts') (e2 : n = n') (h1 : rs.length = nr) (h2 : ts'.length = nt) (x1 : LC KR b1 u1 w' (.slice a nr c) rs) (x2 : LTS b2 u2 b1 u1 w' (.slice ta nt tcc) ts') (q1 : w.heap.size ≤ b1) (q2 : w.heap.size ≤ b2) (hb : Below w.heap.size w w') : SBS w now rs ts n (.returned (.tuple #[.agg #[.int .i64 now, .slice a nr c, .slice ta nt tcc], .int .i64 n'])) w' := by
  subst e1 e2 h1 h2
  exact ⟨a, c, ta, tcc, b1, u1, b2, u2, rfl, x1, x2, q1, q2, hb⟩
end Go.Proofs.YtnajddjalagmoaaGreatDoor
namespace Go.Proofs.YtnajddjalagmoaaGreatDoor
open Go.RowKit
set_option linter.unusedSimpArgs false
set_option linter.unusedVariables false
set_option maxRecDepth 100000 in
set_option maxHeartbeats 1000000 in
theorem store_copiedX (now : Int) (B D rc tc : Nat) (rs : List Rw) (ts : List Tx) (w : World) (hm : rs.length ≤ 1099511627776) (htm : ts.length ≤ 1099511627776) (hr : RwsZ w B rs) (ht : TxsS w D ts) : Calls Tryz.prog 56 #[.agg #[.int .i64 now, .slice (some ⟨B, 0, none⟩) rs.length rc, .slice (some ⟨D, 0, none⟩) ts.length tc]] w fun e w' => ∃ g c tg tcc mid, e = .returned (.agg #[.int .i64 now, .slice (some ⟨g, 0, none⟩) rs.length c, .slice (some ⟨tg, 0, none⟩) ts.length tcc]) ∧ (LC KR mid w'.heap.size w' (.slice (some ⟨g, 0, none⟩) rs.length c) rs ∧ ∃ px, LX KX 63 w.heap.size mid w' (.slice (some ⟨tg, 0, none⟩) ts.length tcc) ts px) ∧ RwsZ w' g rs ∧ w.heap.size ≤ mid ∧ mid ≤ w'.heap.size ∧ Below w.heap.size w w' := by
  have HK := hid (fun (W : World) (hb : Below w.heap.size w W) => kept_txY D tc ts W htm (ht.below hb))
  have HR := hid (fun (W : World) (hb : Below w.heap.size w W) => rowsZ_copied now B rc rs W hm (hr.below hb))
  clear hr ht
  generalize hnr : rs.length = nr at *
  generalize hnt : ts.length = nt at *
  have HNR := hid hnr
  have HNT := hid hnt
  clear hnr hnt
  have hB : Below w.heap.size w ((w.alloc (.cells #[.int .i64 now, .slice (some ⟨B, 0, none⟩) nr rc, .slice (some ⟨D, 0, none⟩) nt tc] 38)).alloc (.cells #[.int .i64 0, .slice none 0 0, .slice none 0 0] 38)) := balloc (balloc (Below.refl _ _) _) _
  have g0 := old_alloc (o' := .cells #[.int .i64 0, .slice none 0 0, .slice none 0 0] 38) (new_alloc w w.heap.size (.cells #[.int .i64 now, .slice (some ⟨B, 0, none⟩) nr rc, .slice (some ⟨D, 0, none⟩) nt tc] 38) rfl)
  have g1 := new_alloc (w.alloc (.cells #[.int .i64 now, .slice (some ⟨B, 0, none⟩) nr rc, .slice (some ⟨D, 0, none⟩) nt tc] 38)) (w.heap.size + 1) (.cells #[.int .i64 0, .slice none 0 0, .slice none 0 0] 38) (by simp)
  go_enter Tryz.func56, Tryz.ntmps56
  go_upto_region 1 with fail
  generalize (w.alloc (.cells #[.int .i64 now, .slice (some ⟨B, 0, none⟩) nr rc, .slice (some ⟨D, 0, none⟩) nt tc] 38)).alloc (.cells #[.int .i64 0, .slice none 0 0, .slice none 0 0] 38) = W at *
  obtain ⟨⟨d0, d1, d2⟩, _⟩ := cellk3 g0
  have hWs := lt_of_block g1
  go_wp2_with fail
  refine (HK.out _ hB).mono ?_
  rintro e y ⟨v, px, rfl, hX, ⟨tg, tcc, rfl⟩, hy⟩
  replace g0 := keepheap2 hy g0
  replace g1 := keepheap2 hy g1
  replace hB := btrans hB hy
  have hyz := hy.size
  have HX := hid hX
  clear hy hX HK d0 d1 d2
  obtain ⟨⟨d0, d1, d2⟩, _⟩ := cellk3 g0
  go_wp2_with fail
  refine (HR.out _ hB).mono ?_
  rintro e z ⟨g, c, pr, rfl, hX2, hz⟩
  replace g1 := keepheap2 hz g1
  replace hB := btrans hB hz
  have hzz := hz.size
  have HX1 := hid (HX.out.below hz)
  have HX2 := hid hX2
  clear hz hX2 HR HX g0 d0 d1 d2
  obtain ⟨⟨v0, v1, v2⟩, u0, u1, u2⟩ := cellk3 g1
  have HB := hid hB
  clear hB
  go_wp2_with fail
  have gF := setk3 g1 (.int .i64 now) (.slice (some ⟨g, 0, none⟩) nr c) (.slice (some ⟨tg, 0, none⟩) nt tcc)
  have bF := bset (bset (bset HB.out (q := w.heap.size + 1) (k := 0) (by omega) (.int .i64 now)) (q := w.heap.size + 1) (k := 1) (by omega) (.slice (some ⟨g, 0, none⟩) nr c)) (q := w.heap.size + 1) (k := 2) (by omega) (.slice (some ⟨tg, 0, none⟩) nt tcc)
  have hfar : ∀ b, b ≠ w.heap.size + 1 → (((z.setCell ⟨w.heap.size + 1, 0, none⟩ (.int .i64 now)).setCell ⟨w.heap.size + 1, 1, none⟩ (.slice (some ⟨g, 0, none⟩) nr c)).setCell ⟨w.heap.size + 1, 2, none⟩ (.slice (some ⟨tg, 0, none⟩) nt tcc)).heap[b]? = z.heap[b]? := fun b hb => by rw [Below.heap_setCell _ _ _ _ (by dsimp only; omega), Below.heap_setCell _ _ _ _ (by dsimp only; omega), Below.heap_setCell _ _ _ _ (by dsimp only; omega)]
  have hwz : (((z.setCell ⟨w.heap.size + 1, 0, none⟩ (.int .i64 now)).setCell ⟨w.heap.size + 1, 1, none⟩ (.slice (some ⟨g, 0, none⟩) nr c)).setCell ⟨w.heap.size + 1, 2, none⟩ (.slice (some ⟨tg, 0, none⟩) nt tcc)).heap.size = z.heap.size := by simp only [World.size_setCell]
  generalize (((z.setCell ⟨w.heap.size + 1, 0, none⟩ (.int .i64 now)).setCell ⟨w.heap.size + 1, 1, none⟩ (.slice (some ⟨g, 0, none⟩) nr c)).setCell ⟨w.heap.size + 1, 2, none⟩ (.slice (some ⟨tg, 0, none⟩) nt tcc)) = wf at *
  have x1 := ((HX2.out.frame (w' := wf) (fun b h1 h2 => hfar b (by omega)) (by omega)).mono (hi' := wf.heap.size) (Nat.le_refl _) (by omega) (Nat.le_refl _)).lc
  have x2 := ((HX1.out.frame (w' := wf) (fun b h1 h2 => hfar b (by omega)) (by omega)).mono (base' := w.heap.size) (hi' := y.heap.size) (by omega) (Nat.le_refl _) (by omega))
  have hrz : RwsZ wf g rs := by
    refine LC.rwsZ (cap := c) (base := y.heap.size) (hi := wf.heap.size) ?_
    rw [HNR.out]; exact x1
  obtain ⟨⟨z0, z1, z2⟩, _⟩ := cellk3 gF
  exact bodyPost_ret (v := .agg #[.int .i64 now, .slice (some ⟨g, 0, none⟩) nr c, .slice (some ⟨tg, 0, none⟩) nt tcc]) (by simp [results, Tryz.results56, go_sem, z0, z1, z2]) rfl ⟨g, c, tg, tcc, y.heap.size, rfl, ⟨x1, _, x2⟩, hrz, by omega, by omega, bF⟩
end Go.Proofs.YtnajddjalagmoaaGreatDoor
namespace Go.Proofs.YtnajddjalagmoaaGreatDoor
open Go.RowKit
set_option linter.unusedSimpArgs false
set_option linter.unusedVariables false
set_option maxRecDepth 100000 in
set_option maxHeartbeats 8000000 in
theorem after_x (now n code : Int) (step : Value) (ts2 : List Tx) (B D : Nat) (rs : List Rw) (ts : List Tx) (w : World) (na : Addr) (hm : rs.length ≤ 1099511627776) (htm : ts.length ≤ 1099511627776) (hr : RwsS w B rs) (ht : TxsS w D ts) (hg : w.cell? ⟨0, 0, none⟩ = some (.iface 247 (.pointer (some na)))) (he : w.cell? ⟨3, 0, none⟩ = some (.iface 173 (.agg #[.pointer (some ⟨4, 73, none⟩)]))) (hl2 : ts2.length = ts.length) (hdo : ∀ m : Nat, opn now rs ts n = true → n = (m : Int) → (∀ (W : World) (g c tg tcc b2 u2 P : Nat), Below w.heap.size w W → w.heap.size ≤ b2 → u2 ≤ P → W.heap[P]? = some (.cells #[.int .i64 now, .slice (some ⟨g, 0, none⟩) rs.length c, .slice (some ⟨tg, 0, none⟩) ts.length tcc] 38 (0, 0)) → LC KR u2 P W (.slice (some ⟨g, 0, none⟩) rs.length c) rs → (∃ px, LX KX 63 b2 u2 W (.slice (some ⟨tg, 0, none⟩) ts.length tcc) ts px) → Calls Tryz.prog 60 #[.pointer (some ⟨P, 0, none⟩), .int .i64 m, step] W fun e w' => e = .returned (.int .i64 code) ∧ w'.heap[P]? = some (.cells #[.int .i64 now, .slice (some ⟨g, 0, none⟩) rs.length c, .slice (some ⟨tg, 0, none⟩) ts.length tcc] 38 (0, 0)) ∧ LTS b2 w'.heap.size u2 (P + 1) w' (.slice (some ⟨tg, 0, none⟩) ts.length tcc) ts2 ∧ W.heap.size ≤ w'.heap.size ∧ (∀ b, b < W.heap.size → b ≠ P → (b < b2 ∨ u2 ≤ b) → w'.heap[b]? = W.heap[b]?) ∧ (w'.os = W.os ∧ w'.tape = W.tape ∧ w'.output = W.output))) : Calls Tryz.prog 30 #[.agg #[.int .i64 now, .slice (some ⟨B, 0, none⟩) rs.length rs.length, .slice (some ⟨D, 0, none⟩) ts.length ts.length], .int .i64 n, step] w fun e w' => SBS w now rs (if opn now rs ts n = true then ts2 else ts) (if opn now rs ts n = true then code else 1) e w' := by
  have HCP := hid (fun (W : World) (hb : Below w.heap.size w W) => store_copiedX now B D rs.length ts.length rs ts W hm htm (hr.below hb).z (ht.below hb))
  have HTL : Hid (∀ j (h : j < ts.length), ts[j].2.2.length ≤ 1099511627776) := hid (fun j (hj : j < ts.length) => (ht.2 j hj).choose_spec.choose_spec.2.2.1)
  have HRN : Hid (opn now rs ts n = false → ∀ (W : World) (g c tg tcc b1 u1 b2 u2 : Nat), W.cell? ⟨0, 0, none⟩ = some (.iface 247 (.pointer (some na))) → LC KR b1 u1 W (.slice (some ⟨g, 0, none⟩) rs.length c) rs → LC KT b2 u2 W (.slice (some ⟨tg, 0, none⟩) ts.length tcc) ts → Calls Tryz.prog 57 #[.agg #[.int .i64 now, .slice (some ⟨g, 0, none⟩) rs.length c, .slice (some ⟨tg, 0, none⟩) ts.length tcc], .int .i64 n] W fun e w' => e = .returned (.tuple #[zrun, .iface 111 (.agg #[.int .i64 1, .iface 247 (.pointer (some na))])]) ∧ Below W.heap.size W w') := hid (fun h W g c tg tcc b1 u1 b2 u2 hg x1 x2 => run_no now _ _ c tcc rs ts n W hm htm x1.rws (x2.txs HTL.out) _ _ hg h)
  have HRY : Hid (∀ (m : Nat) (hmt : m < ts.length), storeb now rs ts = true → ts[m].2.1 = true → ∀ (W : World) (g c tg tcc b1 u1 b2 u2 : Nat), LC KR b1 u1 W (.slice (some ⟨g, 0, none⟩) rs.length c) rs → LC KT b2 u2 W (.slice (some ⟨tg, 0, none⟩) ts.length tcc) ts → Calls Tryz.prog 57 #[.agg #[.int .i64 now, .slice (some ⟨g, 0, none⟩) rs.length c, .slice (some ⟨tg, 0, none⟩) ts.length tcc], .int .i64 m] W fun e w' => (∃ ca cn cc st, e = .returned (.tuple #[.agg #[.slice ca cn cc, .int .i64 st, .bool true, .int .i64 now, .slice (some ⟨g, 0, none⟩) rs.length c], .nilIface])) ∧ Below W.heap.size W w') := hid (fun m hmt h1 h2 W g c tg tcc b1 u1 b2 u2 x1 x2 => (run_yes now _ _ c tcc rs ts m W hm htm x1.rws (x2.txs HTL.out) hmt h1 h2).mono (fun e w' ⟨ca, ccap, e1, _, _, hb⟩ => ⟨⟨_, _, _, _, e1⟩, hb⟩))
  have HNO : Hid (opn now rs ts n = false → (if opn now rs ts n = true then ts2 else ts) = ts ∧ (if opn now rs ts n = true then code else 1) = 1) := hid (fun h => by rw [h]; exact ⟨rfl, rfl⟩)
  have HYS : Hid (opn now rs ts n = true → (if opn now rs ts n = true then ts2 else ts) = ts2 ∧ (if opn now rs ts n = true then code else 1) = code) := hid (fun h => by rw [h]; exact ⟨rfl, rfl⟩)
  have HYE : Hid (opn now rs ts n = true → ∃ (m : Nat), n = (m : Int) ∧ (∀ (W : World) (g c tg tcc b1 u1 b2 u2 : Nat), LC KR b1 u1 W (.slice (some ⟨g, 0, none⟩) rs.length c) rs → LC KT b2 u2 W (.slice (some ⟨tg, 0, none⟩) ts.length tcc) ts → Calls Tryz.prog 57 #[.agg #[.int .i64 now, .slice (some ⟨g, 0, none⟩) rs.length c, .slice (some ⟨tg, 0, none⟩) ts.length tcc], .int .i64 m] W fun e w' => (∃ ca cn cc st, e = .returned (.tuple #[.agg #[.slice ca cn cc, .int .i64 st, .bool true, .int .i64 now, .slice (some ⟨g, 0, none⟩) rs.length c], .nilIface])) ∧ Below W.heap.size W w') ∧ (∀ (W : World) (g c tg tcc b2 u2 P : Nat), Below w.heap.size w W → w.heap.size ≤ b2 → u2 ≤ P → W.heap[P]? = some (.cells #[.int .i64 now, .slice (some ⟨g, 0, none⟩) rs.length c, .slice (some ⟨tg, 0, none⟩) ts.length tcc] 38 (0, 0)) → LC KR u2 P W (.slice (some ⟨g, 0, none⟩) rs.length c) rs → (∃ px, LX KX 63 b2 u2 W (.slice (some ⟨tg, 0, none⟩) ts.length tcc) ts px) → Calls Tryz.prog 60 #[.pointer (some ⟨P, 0, none⟩), .int .i64 m, step] W fun e w' => e = .returned (.int .i64 code) ∧ w'.heap[P]? = some (.cells #[.int .i64 now, .slice (some ⟨g, 0, none⟩) rs.length c, .slice (some ⟨tg, 0, none⟩) ts.length tcc] 38 (0, 0)) ∧ LTS b2 w'.heap.size u2 (P + 1) w' (.slice (some ⟨tg, 0, none⟩) ts.length tcc) ts2 ∧ W.heap.size ≤ w'.heap.size ∧ (∀ b, b < W.heap.size → b ≠ P → (b < b2 ∨ u2 ≤ b) → w'.heap[b]? = W.heap[b]?) ∧ (w'.os = W.os ∧ w'.tape = W.tape ∧ w'.output = W.output))) := hid (fun h => by
    obtain ⟨m, e, hmt, h1, h2⟩ := opn_at h
    exact ⟨m, e, HRY.out m hmt h1 h2, hdo m h e⟩)
  clear hr ht HRY hdo
  generalize (if opn now rs ts n = true then ts2 else ts) = bt at *
  generalize (if opn now rs ts n = true then code else 1) = bn at *
  generalize opn now rs ts n = op at *
  obtain ⟨nr, hnr⟩ : ∃ x, x = rs.length := ⟨_, rfl⟩
  obtain ⟨nt, hnt⟩ : ∃ x, x = ts.length := ⟨_, rfl⟩
  have HNR := hid hnr.symm
  have HNT := hid hnt.symm
  rw [← hnr, ← hnt] at HCP HRN HYE ⊢
  rw [← hnt] at hl2
  clear hnr hnt HTL
  have hB : Below w.heap.size w ((w.alloc (.cells #[.int .i64 now, .slice (some ⟨B, 0, none⟩) nr nr, .slice (some ⟨D, 0, none⟩) nt nt] 38)).alloc (.cells #[.int .i64 0, .slice none 0 0, .slice none 0 0] 38)) := balloc (balloc (Below.refl _ _) _) _
  have gP := old_alloc (o' := .cells #[.int .i64 0, .slice none 0 0, .slice none 0 0] 38) (new_alloc w w.heap.size (.cells #[.int .i64 now, .slice (some ⟨B, 0, none⟩) nr nr, .slice (some ⟨D, 0, none⟩) nt nt] 38) rfl)
  have gZ := new_alloc (w.alloc (.cells #[.int .i64 now, .slice (some ⟨B, 0, none⟩) nr nr, .slice (some ⟨D, 0, none⟩) nt nt] 38)) (w.heap.size + 1) (.cells #[.int .i64 0, .slice none 0 0, .slice none 0 0] 38) (by simp)
  have hWs : w.heap.size + 1 < ((w.alloc (.cells #[.int .i64 now, .slice (some ⟨B, 0, none⟩) nr nr, .slice (some ⟨D, 0, none⟩) nt nt] 38)).alloc (.cells #[.int .i64 0, .slice none 0 0, .slice none 0 0] 38)).heap.size := by simp
  have hgl := World.block_lt_of_cell? w ⟨0, 0, none⟩ hg
  have hel := World.block_lt_of_cell? w ⟨3, 0, none⟩ he
  go_enter Tryz.func30, Tryz.ntmps30
  go_upto_region 1 with fail
  generalize (w.alloc (.cells #[.int .i64 now, .slice (some ⟨B, 0, none⟩) nr nr, .slice (some ⟨D, 0, none⟩) nt nt] 38)).alloc (.cells #[.int .i64 0, .slice none 0 0, .slice none 0 0] 38) = W at *
  obtain ⟨⟨d0, d1, d2⟩, _⟩ := cellk3 gP
  go_wp2_with fail
  refine (HCP.out _ hB).mono ?_
  rintro e y ⟨g, c, tg, tcc, mid, rfl, ⟨hx1, px, hxx⟩, hrz, e1, e2, hy⟩
  have hx2 := hxx.kt.lc
  have HXX := hid hxx
  replace gP := keepheapA hy gP
  replace gZ := keepheapA hy gZ
  replace hB := btrans hB hy
  have hyz := hy.size
  have HX1 := hid hx1
  have HX2 := hid hx2
  clear hy hx1 hx2 hxx HCP d0 d1 d2 hrz gP
  go_upto_region 2 with fail
  have hal : Below y.heap.size y (y.alloc (.cells #[.int .i64 now, .slice (some ⟨g, 0, none⟩) nr c, .slice (some ⟨tg, 0, none⟩) nt tcc] 38)) := balloc (Below.refl _ _) _
  have gQ := new_alloc y y.heap.size (.cells #[.int .i64 now, .slice (some ⟨g, 0, none⟩) nr c, .slice (some ⟨tg, 0, none⟩) nt tcc] 38) rfl
  replace gZ := keepheapA hal gZ
  replace hB := btrans hB hal
  replace HX1 := hid (HX1.out.below hal)
  replace HX2 := hid (HX2.out.below hal)
  replace HXX := hid (HXX.out.below hal)
  have hyq : (y.alloc (.cells #[.int .i64 now, .slice (some ⟨g, 0, none⟩) nr c, .slice (some ⟨tg, 0, none⟩) nt tcc] 38)).heap.size = y.heap.size + 1 := by simp
  have hyq1 := Nat.le_of_eq hyq
  have hyq2 := Nat.le_of_eq hyq.symm
  clear hal hyq
  generalize y.alloc (.cells #[.int .i64 now, .slice (some ⟨g, 0, none⟩) nr c, .slice (some ⟨tg, 0, none⟩) nt tcc] 38) = Y at *
  generalize W.heap.size = Wz at *
  generalize y.heap.size = Q at *
  obtain ⟨⟨t0, t1, t2⟩, _⟩ := cellk3 gQ
  cases op
  · obtain ⟨k1, k2⟩ := HNO.out rfl
    have HRN2 := hid (HRN.out rfl Y g c tg tcc _ _ _ _ (keepcell hB hg) HX1.out HX2.out)
    clear HNO HYE HRN HYS
    unfold zrun at HRN2
    go_wp2_with fail
    refine HRN2.out.mono ?_
    rintro e z ⟨rfl, hz⟩
    replace gZ := keepheapA hz gZ
    replace gQ := keepheapA hz gQ
    replace hB := btrans hB hz
    have hzz := hz.size
    replace HX1 := hid (HX1.out.below hz)
    replace HX2 := hid (HX2.out.below hz)
    clear hz t0 t1 t2 HRN2
    go_upto_region 3 with fail
    have hal : Below z.heap.size z (z.alloc (.cells #[.slice none 0 0, .int .i64 0, .bool false, .int .i64 0, .slice none 0 0] 104)) := balloc (Below.refl _ _) _
    replace gZ := keepheapA hal gZ
    replace gQ := keepheapA hal gQ
    replace hB := btrans hB hal
    replace HX1 := hid (HX1.out.below hal)
    replace HX2 := hid (HX2.out.below hal)
    have hvs := hal.size
    clear hal
    generalize z.alloc (.cells #[.slice none 0 0, .int .i64 0, .bool false, .int .i64 0, .slice none 0 0] 104) = V at *
    have hgv := keepcell hB hg
    go_wp2_with fail
    refine (is_hit 1 na _).mono ?_
    rintro e x ⟨rfl, hx⟩
    replace gZ := keepheapA hx gZ
    replace gQ := keepheapA hx gQ
    replace hB := btrans hB hx
    replace HX1 := hid (HX1.out.below hx)
    replace HX2 := hid (HX2.out.below hx)
    have hxs := hx.size
    clear hx hgv
    go_wp2_with fail
    have hex := keepcell hB he
    refine wp_region_held_drew (S := (fun w' => w'.heap[Q]? = some (.cells #[.int .i64 now, .slice (some ⟨g, 0, none⟩) nr c, .slice (some ⟨tg, 0, none⟩) nt tcc] 38 (0, 0)))) (by kernel_rfl) ?_ (fun hHeld => ?_)
    · exact gQ
    replace gQ : x.drew.heap[Q]? = some (.cells #[.int .i64 now, .slice (some ⟨g, 0, none⟩) nr c, .slice (some ⟨tg, 0, none⟩) nt tcc] 38 (0, 0)) := gQ
    replace gZ : x.drew.heap[w.heap.size + 1]? = some (.cells #[.int .i64 0, .slice none 0 0, .slice none 0 0] 38 (0, 0)) := gZ
    replace hB := bdrew hB
    replace HX1 := hid (HX1.out.below (bdrew (Below.refl _ _)))
    replace HX2 := hid (HX2.out.below (bdrew (Below.refl _ _)))
    have hex2 := keepcell hB he
    have hxd : x.heap.size ≤ x.drew.heap.size := Nat.le_refl _
    clear hex
    generalize x.drew = X at *
    refine wpAnyH_take (i := 0) (v := ?_) rfl (by kernel_rfl) (by kernel_rfl) (by kernel_rfl) (fun _ _ _ h => h) (Or.inl ⟨by rfl, ?_⟩) hHeld ?_
    rotate_left
    · intro w' hSw; (try dsimp only at hSw); obtain ⟨⟨_, _, _⟩, _⟩ := cellk3 hSw; go_simp; try (with_reducible rfl)
    try simp only [sq]
    refine wpAnyH_take (i := 1) (v := ?_) rfl (by kernel_rfl) (by kernel_rfl) (by kernel_rfl) (fun _ _ _ h => h) (Or.inl ⟨by rfl, ?_⟩) hHeld ?_
    rotate_left
    · intro w' hSw; (try dsimp only at hSw); go_simp; try (with_reducible rfl)
    try simp only [sq]
    refine wpAnyH_ready (rs := [2]) (by kernel_rfl) (by simp) ?_
    refine AllReadyH.cons rfl (fun K hK => ?_) AllReadyH.nil
    try simp only [sq]
    go_simp
    go_at_call 59
    refine (code_ref 1 _ _ rfl hex2).mono ?_
    rintro e XX ⟨rfl, hx⟩
    replace gZ := keepheapA hx gZ
    replace gQ := keepheapA hx gQ
    replace hB := btrans hB hx
    replace HX1 := hid (HX1.out.below hx)
    replace HX2 := hid (HX2.out.below hx)
    have hxs2 := hx.size
    clear hx hex2
    go_wp2_with fail
    refine hK.out _ _ ?_ (fun hHeld => ?_)
    · exact gQ
    clear hK K
    try simp only [sq]
    obtain ⟨⟨v0, v1, v2⟩, s0, s1, s2⟩ := cellk3 gZ
    refine wpAnyH_ready (rs := [3]) (by kernel_rfl) (by simp) ?_
    refine AllReadyH.cons rfl (fun K hK => ?_) AllReadyH.nil
    try simp only [sq]
    go_simp
    have HB := hid hB
    have hfq : (((XX.setCell ⟨w.heap.size + 1, 0, none⟩ (.int .i64 now)).setCell ⟨w.heap.size + 1, 1, none⟩ (.slice (some ⟨g, 0, none⟩) nr c)).setCell ⟨w.heap.size + 1, 2, none⟩ (.slice (some ⟨tg, 0, none⟩) nt tcc)).heap[Q]? = XX.heap[Q]? := by rw [Below.heap_setCell _ _ _ _ (by dsimp only; omega), Below.heap_setCell _ _ _ _ (by dsimp only; omega), Below.heap_setCell _ _ _ _ (by dsimp only; omega)]
    refine hK.out _ _ ?_ (fun hHeld => ?_)
    · exact hfq.trans gQ
    clear hK K hfq
    try simp only [sq]
    refine wpAnyH_take (i := 4) (v := ?_) rfl (by kernel_rfl) (by kernel_rfl) (by kernel_rfl) (fun _ _ _ h => h) (Or.inl ⟨by rfl, ?_⟩) hHeld ?_
    rotate_left
    · intro w' hSw; (try dsimp only at hSw); go_simp; try (with_reducible rfl)
    try simp only [sq]
    refine wpAnyH_done (by kernel_rfl) ?_ _
    clear hB v0 v1 v2 s0 s1 s2
    have gF := setk3 gZ (.int .i64 now) (.slice (some ⟨g, 0, none⟩) nr c) (.slice (some ⟨tg, 0, none⟩) nt tcc)
    have bF := (bset (bset (bset HB.out (q := w.heap.size + 1) (k := 0) (by omega) (.int .i64 now)) (q := w.heap.size + 1) (k := 1) (by omega) (.slice (some ⟨g, 0, none⟩) nr c)) (q := w.heap.size + 1) (k := 2) (by omega) (.slice (some ⟨tg, 0, none⟩) nt tcc))
    have hfar : ∀ b, b ≠ w.heap.size + 1 → (((XX.setCell ⟨w.heap.size + 1, 0, none⟩ (.int .i64 now)).setCell ⟨w.heap.size + 1, 1, none⟩ (.slice (some ⟨g, 0, none⟩) nr c)).setCell ⟨w.heap.size + 1, 2, none⟩ (.slice (some ⟨tg, 0, none⟩) nt tcc)).heap[b]? = XX.heap[b]? := fun b hb => by rw [Below.heap_setCell _ _ _ _ (by dsimp only; omega), Below.heap_setCell _ _ _ _ (by dsimp only; omega), Below.heap_setCell _ _ _ _ (by dsimp only; omega)]
    have x1 := HX1.out.frame (w' := (((XX.setCell ⟨w.heap.size + 1, 0, none⟩ (.int .i64 now)).setCell ⟨w.heap.size + 1, 1, none⟩ (.slice (some ⟨g, 0, none⟩) nr c)).setCell ⟨w.heap.size + 1, 2, none⟩ (.slice (some ⟨tg, 0, none⟩) nt tcc))) (fun b h1 h2 => hfar b (by omega)) (by simp)
    have x2 := HX2.out.frame (w' := (((XX.setCell ⟨w.heap.size + 1, 0, none⟩ (.int .i64 now)).setCell ⟨w.heap.size + 1, 1, none⟩ (.slice (some ⟨g, 0, none⟩) nr c)).setCell ⟨w.heap.size + 1, 2, none⟩ (.slice (some ⟨tg, 0, none⟩) nt tcc))) (fun b h1 h2 => hfar b (by omega)) (by simp)
    generalize (((XX.setCell ⟨w.heap.size + 1, 0, none⟩ (.int .i64 now)).setCell ⟨w.heap.size + 1, 1, none⟩ (.slice (some ⟨g, 0, none⟩) nr c)).setCell ⟨w.heap.size + 1, 2, none⟩ (.slice (some ⟨tg, 0, none⟩) nt tcc)) = wf at *
    obtain ⟨⟨z0, z1, z2⟩, _⟩ := cellk3 gF
    go_wp2_with fail
    exact bodyPost_ret (v := .tuple #[.agg #[.int .i64 now, .slice (some ⟨g, 0, none⟩) nr c, .slice (some ⟨tg, 0, none⟩) nt tcc], .int .i64 1]) (by simp [results, Tryz.results30, go_sem, z0, z1, z2]) rfl (sbs_mk k1 k2 HNR.out HNT.out x1 (LCH.lts (x2.hole (.inl (Nat.le_refl _)))) (by omega) (by omega) bF)
  · obtain ⟨m, rfl, hry, hdo⟩ := HYE.out rfl
    obtain ⟨k1, k2⟩ := HYS.out rfl
    have HRY := hid (hry Y g c tg tcc _ _ _ _ HX1.out HX2.out)
    have HDO := hid hdo
    clear HNO HYE HRN HYS hry hdo
    go_wp2_with fail
    refine HRY.out.mono ?_
    rintro e z ⟨⟨ca, cn, cc, st, rfl⟩, hz⟩
    replace gZ := keepheapA hz gZ
    replace gQ := keepheapA hz gQ
    replace hB := btrans hB hz
    have hzz := hz.size
    replace HX1 := hid (HX1.out.below hz)
    replace HX2 := hid (HX2.out.below hz)
    replace HXX := hid (HXX.out.below hz)
    clear hz t0 t1 t2 HRY
    go_upto_region 3 with fail
    have hal : Below z.heap.size z (z.alloc (.cells #[.slice ca cn cc, .int .i64 st, .bool true, .int .i64 now, .slice (some ⟨g, 0, none⟩) nr c] 104)) := balloc (Below.refl _ _) _
    replace gZ := keepheapA hal gZ
    replace gQ := keepheapA hal gQ
    replace hB := btrans hB hal
    replace HX1 := hid (HX1.out.below hal)
    replace HX2 := hid (HX2.out.below hal)
    replace HXX := hid (HXX.out.below hal)
    have hvs := hal.size
    clear hal
    generalize z.alloc (.cells #[.slice ca cn cc, .int .i64 st, .bool true, .int .i64 now, .slice (some ⟨g, 0, none⟩) nr c] 104) = V at *
    have hgv := keepcell hB hg
    go_wp2_with fail
    refine (is_none na _).mono ?_
    rintro e x ⟨rfl, hx⟩
    replace hx := hx.symm
    subst hx
    clear hgv
    have HD := hid (HDO.out V g c tg tcc _ _ Q hB (by omega) (by omega) gQ HX1.out ⟨px, HXX.out⟩)
    have htm2 := HX2.out
    have hgt : Wz ≤ tg ∧ tg < mid := by
      obtain ⟨_, ⟨_, q⟩ | ⟨g2, _, _, _, _, q, _, q1, q2, _⟩⟩ := htm2
      · cases q
      · cases q; exact ⟨q1, q2⟩
    clear HDO htm2
    go_wp2_with fail
    refine HD.out.mono ?_
    rintro e x ⟨rfl, hq1, hq2, hq3, hq4, hq5⟩
    replace gZ := (hq4 _ (by have := lt_of_block gZ; omega) (by omega) (by omega)).trans gZ
    replace gQ := hq1
    have HB : Hid (Below w.heap.size w x) := hid ⟨hq5.1.trans hB.os, hq5.2.1.trans hB.tape, hq5.2.2.trans hB.output, by have := hB.size; omega, fun b hb => (hq4 b (by have := hB.size; omega) (by omega) (by omega)).trans (hB.block b hb)⟩
    replace HX1 := hid ((HX1.out.frame (w' := x) (fun b h1 h2 => hq4 b (by omega) (by omega) (by omega)) hq3).wide2 (hi' := Q + 1) (by omega) (by omega))
    have HX3 := hid hq2
    clear hq1 hq2 hq4 hq5 hB HX2 HD
    obtain ⟨⟨v0, v1, v2⟩, s0, s1, s2⟩ := cellk3 gZ
    obtain ⟨⟨t0, t1, t2⟩, _⟩ := cellk3 gQ
    go_wp2_with fail
    have gF := setk3 gZ (.int .i64 now) (.slice (some ⟨g, 0, none⟩) nr c) (.slice (some ⟨tg, 0, none⟩) nt tcc)
    have bF := (bset (bset (bset HB.out (q := w.heap.size + 1) (k := 0) (by omega) (.int .i64 now)) (q := w.heap.size + 1) (k := 1) (by omega) (.slice (some ⟨g, 0, none⟩) nr c)) (q := w.heap.size + 1) (k := 2) (by omega) (.slice (some ⟨tg, 0, none⟩) nt tcc))
    have hfar : ∀ b, b ≠ w.heap.size + 1 → (((x.setCell ⟨w.heap.size + 1, 0, none⟩ (.int .i64 now)).setCell ⟨w.heap.size + 1, 1, none⟩ (.slice (some ⟨g, 0, none⟩) nr c)).setCell ⟨w.heap.size + 1, 2, none⟩ (.slice (some ⟨tg, 0, none⟩) nt tcc)).heap[b]? = x.heap[b]? := fun b hb => by rw [Below.heap_setCell _ _ _ _ (by dsimp only; omega), Below.heap_setCell _ _ _ _ (by dsimp only; omega), Below.heap_setCell _ _ _ _ (by dsimp only; omega)]
    have x1 := HX1.out.frame (w' := (((x.setCell ⟨w.heap.size + 1, 0, none⟩ (.int .i64 now)).setCell ⟨w.heap.size + 1, 1, none⟩ (.slice (some ⟨g, 0, none⟩) nr c)).setCell ⟨w.heap.size + 1, 2, none⟩ (.slice (some ⟨tg, 0, none⟩) nt tcc))) (fun b h1 h2 => hfar b (by omega)) (by simp)
    have x2 := HX3.out.frame (w' := (((x.setCell ⟨w.heap.size + 1, 0, none⟩ (.int .i64 now)).setCell ⟨w.heap.size + 1, 1, none⟩ (.slice (some ⟨g, 0, none⟩) nr c)).setCell ⟨w.heap.size + 1, 2, none⟩ (.slice (some ⟨tg, 0, none⟩) nt tcc))) (fun b h1 h2 h3 => hfar b (by omega)) (by simp)
    generalize (((x.setCell ⟨w.heap.size + 1, 0, none⟩ (.int .i64 now)).setCell ⟨w.heap.size + 1, 1, none⟩ (.slice (some ⟨g, 0, none⟩) nr c)).setCell ⟨w.heap.size + 1, 2, none⟩ (.slice (some ⟨tg, 0, none⟩) nt tcc)) = wf at *
    obtain ⟨⟨z0, z1, z2⟩, _⟩ := cellk3 gF
    exact bodyPost_ret (v := .tuple #[.agg #[.int .i64 now, .slice (some ⟨g, 0, none⟩) nr c, .slice (some ⟨tg, 0, none⟩) nt tcc], .int .i64 code]) (by simp [results, Tryz.results30, go_sem, z0, z1, z2]) rfl (sbs_mk k1 k2 HNR.out hl2 x1 x2 (by omega) (by omega) bF)
end Go.Proofs.YtnajddjalagmoaaGreatDoor
namespace Go.Proofs.YtnajddjalagmoaaGreatDoor
open Go.RowKit
set_option linter.unusedSimpArgs false
set_option linter.unusedVariables false
theorem LCH.wide {α : Type} {K : Kd α} {base hi hi' p q : Nat} {w : World} {v : Value} {xs : List α} (h : LCH K base hi p q w v xs) (e1 : hi ≤ hi') (e2 : hi' ≤ w.heap.size) : LCH K base hi' p q w v xs := by
  obtain ⟨_, h | ⟨g, cap, ss, lo, up, a1, a2, a3, a4, a5, a6, a7, a8⟩⟩ := h
  · exact ⟨e2, .inl h⟩
  · refine ⟨e2, .inr ⟨g, cap, ss, lo, up, a1, a2, a3, by omega, a5, fun j hj => ?_, a7, a8⟩⟩
    obtain ⟨b1, b2, b3, b4⟩ := a6 j hj
    exact ⟨b1, b2, by omega, b4⟩
theorem shok_kindP {k : Int} {ps : List (Int × Int)} (h : shok k ps = true) : (k = 0 ∧ ps.length = 1) ∨ (k = 1 ∧ 2 ≤ ps.length ∧ ps.length ≤ 60) ∨ (k = 2 ∧ ps.length = 2) ∨ (k = 3 ∧ 3 ≤ ps.length ∧ ps.length ≤ 60) := by
  unfold shok at h
  split at h
  · rename_i e
    simp only [Bool.and_eq_true, decide_eq_true_eq] at h
    exact .inl ⟨e, h.1⟩
  split at h
  · rename_i e
    simp only [lineb, Bool.and_eq_true, decide_eq_true_eq] at h
    exact .inr (.inl ⟨e, h.1.1.1, h.1.1.2⟩)
  split at h
  · rename_i e
    simp only [rectb, Bool.and_eq_true, decide_eq_true_eq] at h
    exact .inr (.inr (.inl ⟨e, h.1.1⟩))
  split at h
  · rename_i e
    simp only [ringOk, Bool.and_eq_true, decide_eq_true_eq] at h
    exact .inr (.inr (.inr ⟨e, h.1.1.1, h.1.1.2⟩))
  · cases h
/-- What a step leaves of the changes of one transaction, and of all else. -/
def PD (W : World) (P tg lo up : Nat) (cs2 : List Ch) (z : World) (na : Option Addr) (nn nc : Nat) : Prop :=
  (∀ w' : World, (∀ b, b < z.heap.size → b ≠ P → b ≠ tg → w'.heap[b]? = z.heap[b]?) → z.heap.size ≤ w'.heap.size → LCH KC lo w'.heap.size up W.heap.size w' (.slice na nn nc) cs2) ∧ (∀ b, b < W.heap.size → (b < lo ∨ up ≤ b) → z.heap[b]? = W.heap[b]?) ∧ W.heap.size ≤ z.heap.size ∧ (z.os = W.os ∧ z.tape = W.tape ∧ z.output = W.output)
/-- What do leaves. -/
def DQ (W : World) (now code : Int) (g rn c tg tn tcc b2 u2 P : Nat) (ts2 : List Tx) (e : Ending) (w' : World) : Prop :=
  e = .returned (.int .i64 code) ∧ w'.heap[P]? = some (.cells #[.int .i64 now, .slice (some ⟨g, 0, none⟩) rn c, .slice (some ⟨tg, 0, none⟩) tn tcc] 38 (0, 0)) ∧ LTS b2 w'.heap.size u2 (P + 1) w' (.slice (some ⟨tg, 0, none⟩) tn tcc) ts2 ∧ W.heap.size ≤ w'.heap.size ∧ (∀ b, b < W.heap.size → b ≠ P → (b < b2 ∨ u2 ≤ b) → w'.heap[b]? = W.heap[b]?) ∧ (w'.os = W.os ∧ w'.tape = W.tape ∧ w'.output = W.output)
/-- do, when the step has left the changes of its transaction as PD tells. -/
theorem do_q (now code : Int) (rn c tg tcc b2 u2 P m g bi bs : Nat) (ts : List Tx) (px : List (Tx × Value)) (W : World) (htm : ts.length ≤ 1099511627776) (hmt : m < ts.length) (hu : u2 ≤ P) (gP : W.heap[P]? = some (.cells #[.int .i64 now, .slice (some ⟨g, 0, none⟩) rn c, .slice (some ⟨tg, 0, none⟩) ts.length tcc] 38 (0, 0))) (hx : LX KX 63 b2 u2 W (.slice (some ⟨tg, 0, none⟩) ts.length tcc) ts px) (cs2 : List Ch)
    (hst : ∀ (g0 c0 lo up : Nat) (qs : List (Ch × Value)), LX KC 66 lo up W (.slice (some ⟨g0, 0, none⟩) ts[m].2.2.length c0) ts[m].2.2 qs → b2 ≤ lo → up ≤ u2 → (tg < lo ∨ up ≤ tg) → tg < u2 → b2 ≤ tg → ∀ (Y : World) (R : Nat), Below W.heap.size W Y → W.heap.size ≤ R → Y.heap[R]? = some (.cells #[.slice (some ⟨g0, 0, none⟩) ts[m].2.2.length c0, .int .i64 ts[m].1, .bool ts[m].2.1, .int .i64 now, .slice (some ⟨g, 0, none⟩) rn c] 104 (0, 0)) → Calls Tryz.prog 31 #[.pointer (some ⟨R, 0, none⟩), .pointer (some ⟨bi, 0, none⟩), .pointer (some ⟨bs, 0, none⟩)] Y fun e z => ∃ v na nn nc, e = .returned v ∧ v.oneCell' = true ∧ z.heap[R]? = some (.cells #[.slice na nn nc, .int .i64 ts[m].1, .bool ts[m].2.1, .int .i64 now, .slice (some ⟨g, 0, none⟩) rn c] 104 (0, 0)) ∧ z.heap[P]? = Y.heap[P]? ∧ z.heap[tg]? = Y.heap[tg]? ∧ Y.heap.size ≤ z.heap.size ∧ (∀ Z : World, Below z.heap.size z Z ∨ (∀ b, b ≠ P → b ≠ tg → Z.heap[b]? = z.heap[b]?) → Calls Tryz.prog 59 #[v] Z fun e w' => e = .returned (.int .i64 code) ∧ Below Z.heap.size Z w') ∧ PD W P tg lo up cs2 z na nn nc) :
    Calls Tryz.prog 60 #[.pointer (some ⟨P, 0, none⟩), .int .i64 m, .func (.func 31) #[] #[.pointer (some ⟨bi, 0, none⟩), .pointer (some ⟨bs, 0, none⟩)]] W fun e w' => DQ W now code g rn c tg ts.length tcc b2 u2 P (ts.set m (ts[m].1, ts[m].2.1, cs2)) e w' := by
  obtain ⟨sv, lo, up, hsub, hlo, hup, htgs, hbt, htu, k0, k1, k2, HPS⟩ := hx.putS hmt
  obtain ⟨⟨g0, c0, rfl⟩, qs, hlx⟩ := hsub
  obtain ⟨_, z0, z1, z2, _, _⟩ := hx.kt.lc.cells3 hmt
  have hPw := lt_of_block gP
  refine (do_p now ts[m].1 code ts[m].2.1 (some ⟨g, 0, none⟩) (some ⟨g0, 0, none⟩) rn c tg ts.length tcc P m ts[m].2.2.length c0 bi bs W (PD W P tg lo up cs2) htm hmt (by omega) (by omega) gP (by simpa using k0) (by simpa using k1) (by simpa using k2) z0 z1 z2 (fun Y R hY hR gR => hst g0 c0 lo up qs hlx hlo hup htgs htu hbt Y R hY hR gR)).mono ?_
  rintro e w' ⟨rfl, Z, na, nn, nc, ⟨hL, hF, hS, ho⟩, hP', hfar, htg', hsz, hos⟩
  have hZt : Z.heap[tg]? = W.heap[tg]? := hF tg (by omega) htgs
  refine ⟨rfl, hP'.trans gP, ?_, by omega, fun b hb hbP hbo => ?_, hos.1.trans ho.1, hos.2.1.trans ho.2.1, hos.2.2.trans ho.2.2⟩
  · refine HPS w' _ _ cs2 (.slice na nn nc) W.heap.size (P + 1) (by omega) (by omega) (by omega) (by omega) (hL w' hfar hsz) (fun b h1 h2 h3 h4 => ?_) ?_
    · exact (hfar b (by omega) (by omega) h3).trans (hF b (by omega) h4)
    · rw [htg']
      exact set_cong (set_cong (set_cong hZt))
  · exact (hfar b (by omega) hbP (by omega)).trans (hF b hb (by omega))
/-- do with a put that is refused. -/
theorem doput_bad (now id kd : Int) (rn c tg tcc b2 u2 P m g bi bs : Nat) (sa : Option Addr) (sc : Nat) (ps : List (Int × Int)) (ts : List Tx) (px : List (Tx × Value)) (W : World) (na : Addr) (htm : ts.length ≤ 1099511627776) (hmt : m < ts.length) (hu : u2 ≤ P) (gP : W.heap[P]? = some (.cells #[.int .i64 now, .slice (some ⟨g, 0, none⟩) rn c, .slice (some ⟨tg, 0, none⟩) ts.length tcc] 38 (0, 0))) (hx : LX KX 63 b2 u2 W (.slice (some ⟨tg, 0, none⟩) ts.length tcc) ts px) (hm : ps.length ≤ 1099511627776) (hc : ps.length ≤ sc) (hp : Pts W sa ps) (hpo : pob id kd ps = false) (g1 : W.cell? ⟨bi, 0, none⟩ = some (.int .i64 id)) (g2 : W.cell? ⟨bs, 0, none⟩ = some (.int .i64 kd)) (g3 : W.cell? ⟨bs, 1, none⟩ = some (.slice sa ps.length sc)) (hgb : W.cell? ⟨1, 0, none⟩ = some (.iface 247 (.pointer (some na)))) (he : W.cell? ⟨3, 0, none⟩ = some (.iface 173 (.agg #[.pointer (some ⟨4, 73, none⟩)]))) (heP : 3 < b2) :
    Calls Tryz.prog 60 #[.pointer (some ⟨P, 0, none⟩), .int .i64 m, .func (.func 31) #[] #[.pointer (some ⟨bi, 0, none⟩), .pointer (some ⟨bs, 0, none⟩)]] W fun e w' => DQ W now 2 g rn c tg ts.length tcc b2 u2 P ts e w' := by
  have hset : ts.set m (ts[m].1, ts[m].2.1, ts[m].2.2) = ts := List.set_getElem_self hmt
  have hPw := lt_of_block gP
  refine (do_q now 2 rn c tg tcc b2 u2 P m g bi bs ts px W htm hmt hu gP hx ts[m].2.2 (fun g0 c0 lo up qs hlx h1 h2 h3 h4 h5 Y R hY hR gR => ?_)).mono (fun e w' h => by rw [hset] at h; exact h)
  refine (put_clo R bi bs id kd sa ps.length sc Y (fun v z => v = .iface 111 (.agg #[.int .i64 2, .iface 247 (.pointer (some na))]) ∧ Below Y.heap.size Y z) (keepcell hY g1) (keepcell hY g2) (keepcell hY g3) ((put_bad R id kd sa ps.length sc (idb id) (shok kd ps) na Y hpo (keepcell hY hgb) (fun V hV => (impl_id id V).mono (fun e w' ⟨q1, q2⟩ => ⟨q1, by rw [q2]; exact Below.refl _ _⟩)) (fun V hV => impl_ShapeOk kd sa sc ps V hm hc ((hp.below hY).below hV))).mono (fun e w' ⟨q1, q2⟩ => ⟨_, q1, rfl, q2⟩))).mono ?_
  rintro e z ⟨v, rfl, rfl, hz⟩
  have hYz := hz.size
  have hWY := hY.size
  refine ⟨_, some ⟨g0, 0, none⟩, ts[m].2.2.length, c0, rfl, rfl, keepheapA hz gR, hz.block P (by omega), hz.block tg (by omega), hz.size, fun Z hZ => ?_, fun w' hfar hsz => ?_, fun b hb _ => (hz.block b (by omega)).trans (hY.block b hb), by omega, hz.os.trans hY.os, hz.tape.trans hY.tape, hz.output.trans hY.output⟩
  · refine code_ref 2 _ Z rfl ?_
    have hez := keepcell hz (keepcell hY he)
    rcases hZ with hZ | hZ
    · exact keepcell hZ hez
    · rw [World.cell?_of_block (hZ 3 (by omega) (by omega))]; exact hez
  · have hq : LC KC lo up W (.slice (some ⟨g0, 0, none⟩) ts[m].2.2.length c0) ts[m].2.2 := hlx.lc
    have hf : LC KC lo up w' (.slice (some ⟨g0, 0, none⟩) ts[m].2.2.length c0) ts[m].2.2 := hq.frame (fun b c1 c2 => ((hfar b (by have := hq.1; omega) (by have := hq.1; omega) (by omega)).trans (hz.block b (by have := hq.1; omega))).trans (hY.block b (by have := hq.1; omega))) (by omega)
    exact (hf.hole (.inl (Nat.le_refl _))).wide hf.1 (Nat.le_refl _)
/-- The changes with one more put, in memory. -/
theorem put_lch {W V z : World} {P tg lo up R g0 c0 p c' u2 : Nat} {id kd : Int} {ps : List (Int × Int)} {cs : List Ch} {qs : List (Ch × Value)} {y1 y2 y3 y4 : Value} (hlx : LX KC 66 lo up W (.slice (some ⟨g0, 0, none⟩) cs.length c0) cs qs) (hu : up ≤ u2) (huP : u2 ≤ P) (hPw : P < W.heap.size) (htg : tg < W.heap.size) (htgs : tg < lo ∨ up ≤ tg) (hV : Below W.heap.size W V) (hR : W.heap.size ≤ R) (hRp : R < p) (hpV : p < V.heap.size) (hps : ps.length ≤ 1099511627776) (hc' : ps.length ≤ c') (hpo : PtsOwn V p ps)
    (hz : (pl cs id < cs.length ∧ idc cs (pl cs id) = id ∧ z.heap[R]? = some (.cells #[.slice (some ⟨g0, 0, none⟩) cs.length c0, y1, y2, y3, y4] 104 (0, 0)) ∧ z.ownsRow lo 66 4 (.slice (some ⟨g0, 0, none⟩) cs.length c0) cs.length ((flatK KC qs).take (pl cs id * 4) ++ [.int .i64 id, .bool false, .int .i64 kd, .slice (some ⟨p, 0, none⟩) ps.length c'] ++ (flatK KC qs).drop (pl cs id * 4 + 4)) ∧ V.heap.size ≤ z.heap.size ∧ (∀ b, b < V.heap.size → b ≠ g0 → z.heap[b]? = V.heap[b]?) ∧ (z.os = V.os ∧ z.tape = V.tape ∧ z.output = V.output)) ∨
      (¬ (pl cs id < cs.length ∧ idc cs (pl cs id) = id) ∧ pl cs id ≤ cs.length ∧ ∃ g' c'', z.heap[R]? = some (.cells #[.slice (some ⟨g', 0, none⟩) (cs.length + 1) c'', y1, y2, y3, y4] 104 (0, 0)) ∧ z.ownsRow lo 66 4 (.slice (some ⟨g', 0, none⟩) (cs.length + 1) c'') (cs.length + 1) ((flatK KC qs).take (pl cs id * 4) ++ [.int .i64 id, .bool false, .int .i64 kd, .slice (some ⟨p, 0, none⟩) ps.length c'] ++ (flatK KC qs).drop (pl cs id * 4)) ∧ (g' = g0 ∨ V.heap.size ≤ g') ∧ g' ≠ R ∧ V.heap.size ≤ z.heap.size ∧ (∀ b, b < V.heap.size → b ≠ R → b ≠ g0 → z.heap[b]? = V.heap[b]?) ∧ (z.os = V.os ∧ z.tape = V.tape ∧ z.output = V.output))) :
    ∃ na nn nc, z.heap[R]? = some (.cells #[.slice na nn nc, y1, y2, y3, y4] 104 (0, 0)) ∧ z.heap[P]? = V.heap[P]? ∧ z.heap[tg]? = V.heap[tg]? ∧ V.heap.size ≤ z.heap.size ∧ (∀ b, W.heap.size ≤ b → b < V.heap.size → b ≠ R → z.heap[b]? = V.heap[b]?) ∧ PD W P tg lo up (putC cs (id, false, kd, ps)) z na nn nc := by
  have hg0 : g0 < up := hlx.2.2.1 g0 rfl
  have hup := hlx.2.2.2.1
  have hlo := (hlx.2.1.lt g0 rfl).1
  have hVs := hV.size
  have hown : ∀ {w' : World}, (∀ b, b < z.heap.size → b ≠ P → b ≠ tg → w'.heap[b]? = z.heap[b]?) → z.heap.size ≤ w'.heap.size → ∀ {gg nn cc : Nat} {xs : List Value}, gg ≠ P → gg ≠ tg → gg < z.heap.size → z.ownsRow lo 66 4 (.slice (some ⟨gg, 0, none⟩) nn cc) nn xs → w'.ownsRow lo 66 4 (.slice (some ⟨gg, 0, none⟩) nn cc) nn xs := by
    intro w' hf hs gg nn cc xs n1 n2 n3 ho
    refine ⟨ho.1, ?_⟩
    rcases ho.2 with ⟨q, _⟩ | ⟨g', c1, cur, e, q1, q2, q3⟩
    · cases q
    · cases e
      exact .inr ⟨gg, cc, cur, rfl, q1, by rw [hf gg n3 n1 n2]; exact q2, q3⟩
  have hsubW : ∀ {w' : World}, (∀ b, b < z.heap.size → b ≠ P → b ≠ tg → w'.heap[b]? = z.heap[b]?) → z.heap.size ≤ w'.heap.size → V.heap.size ≤ z.heap.size → z.heap[p]? = V.heap[p]? → KC.sub p (p + 1) w' (.slice (some ⟨p, 0, none⟩) ps.length c') (id, false, kd, ps) := by
    intro w' hf hs hvz hzp
    refine ⟨by omega, p, c', rfl, hc', hps, Nat.le_refl _, by omega, ?_⟩
    exact hpo.of_block ((hf p (by omega) (by omega) (by omega)).trans hzp) (by omega)
  rcases hz with ⟨e1, e2, gz, ho, hs, hf, hos⟩ | ⟨e1, e0, g', c'', gz, ho, hgg, hgR, hs, hf, hos⟩
  · refine ⟨some ⟨g0, 0, none⟩, cs.length, c0, gz, hf P (by omega) (by omega), hf tg (by omega) (by omega), hs, fun b h1 h2 h3 => hf b h2 (by omega), fun w' hfar hsz => ?_, fun b hb hbo => (hf b (by omega) (by omega)).trans (hV.block b hb), by omega, hos.1.trans hV.os, hos.2.1.trans hV.tape, hos.2.2.trans hV.output⟩
    have hres := hlx.setH (w' := w') (b0 := lo) (i := pl cs id) (p := p) (S := W.heap.size) (x := (id, false, kd, ps)) (sv := .slice (some ⟨p, 0, none⟩) ps.length c') e1 (by omega) (by omega) (by omega) (by omega) (hsubW hfar hsz hs (hf p hpV (by omega))) (hown hfar hsz (by omega) (by omega) (by omega) ho) (fun b h1 h2 h3 => ((hfar b (by omega) (by omega) (by omega)).trans (hf b (by omega) h3)).trans (hV.block b (by omega))) (by omega)
    have hpc : putC cs (id, false, kd, ps) = cs.set (pl cs id) (id, false, kd, ps) := by unfold putC; rw [if_pos ⟨e1, e2⟩]
    rw [hpc]
    exact hres
  · have hgz : g' < z.heap.size := by
      rcases ho.2 with ⟨q, _⟩ | ⟨g2, c1, cur, e, q1, q2, q3⟩
      · cases q
      · cases e; exact lt_of_block q2
    have hgn : g' ≠ P ∧ g' ≠ tg := by rcases hgg with rfl | q <;> constructor <;> omega
    refine ⟨some ⟨g', 0, none⟩, cs.length + 1, c'', gz, hf P (by omega) (by omega) (by omega), hf tg (by omega) (by omega) (by omega), hs, fun b h1 h2 h3 => hf b h2 h3 (by omega), fun w' hfar hsz => ?_, fun b hb hbo => (hf b (by omega) (by omega) (by omega)).trans (hV.block b hb), by omega, hos.1.trans hV.os, hos.2.1.trans hV.tape, hos.2.2.trans hV.output⟩
    have hres := hlx.insH (w' := w') (b0 := lo) (i := pl cs id) (p := p) (S := W.heap.size) (x := (id, false, kd, ps)) (sv := .slice (some ⟨p, 0, none⟩) ps.length c') e0 (by omega) (by omega) (by omega) (by omega) (hsubW hfar hsz hs (hf p hpV (by omega) (by omega))) (hown hfar hsz hgn.1 hgn.2 hgz ho) (fun b h1 h2 h3 => ((hfar b (by omega) (by omega) (by omega)).trans (hf b (by omega) (by omega) h3)).trans (hV.block b (by omega))) (by omega) (by rcases hgg with q | q; exact .inl q; exact .inr (by omega)) (by rcases hgg with q | q <;> omega) (by omega)
    have hpc : putC cs (id, false, kd, ps) = cs.take (pl cs id) ++ [(id, false, kd, ps)] ++ cs.drop (pl cs id) := by unfold putC; rw [if_neg e1]
    rw [hpc]
    exact hres
/-- do with a put that is let. -/
theorem doput_ok (now id kd : Int) (rn c tg tcc b2 u2 P m g bi bs : Nat) (sa : Option Addr) (sc : Nat) (ps : List (Int × Int)) (ts : List Tx) (px : List (Tx × Value)) (W : World) (htm : ts.length ≤ 1099511627776) (hmt : m < ts.length) (hu : u2 ≤ P) (gP : W.heap[P]? = some (.cells #[.int .i64 now, .slice (some ⟨g, 0, none⟩) rn c, .slice (some ⟨tg, 0, none⟩) ts.length tcc] 38 (0, 0))) (hx : LX KX 63 b2 u2 W (.slice (some ⟨tg, 0, none⟩) ts.length tcc) ts px) (hm : ps.length ≤ 1099511627776) (hc : ps.length ≤ sc) (hp : Pts W sa ps) (hpo : pob id kd ps = true) (hcm : ts[m].2.2.length ≤ 1099511627776) (hasc : ∀ i j, i < j → j < ts[m].2.2.length → idc ts[m].2.2 i < idc ts[m].2.2 j) (g1 : W.cell? ⟨bi, 0, none⟩ = some (.int .i64 id)) (g2 : W.cell? ⟨bs, 0, none⟩ = some (.int .i64 kd)) (g3 : W.cell? ⟨bs, 1, none⟩ = some (.slice sa ps.length sc)) :
    Calls Tryz.prog 60 #[.pointer (some ⟨P, 0, none⟩), .int .i64 m, .func (.func 31) #[] #[.pointer (some ⟨bi, 0, none⟩), .pointer (some ⟨bs, 0, none⟩)]] W fun e w' => DQ W now 0 g rn c tg ts.length tcc b2 u2 P (ts.set m (ts[m].1, ts[m].2.1, putC ts[m].2.2 (id, false, kd, ps))) e w' := by
  have hPw := lt_of_block gP
  have hpp : idb id = true ∧ shok kd ps = true := by unfold pob at hpo; rwa [Bool.and_eq_true] at hpo
  have h0 : 0 < ps.length := by rcases shok_kindP hpp.2 with h | h | h | h <;> omega
  refine do_q now 0 rn c tg tcc b2 u2 P m g bi bs ts px W htm hmt hu gP hx (putC ts[m].2.2 (id, false, kd, ps)) (fun g0 c0 lo up qs hlx h1 h2 h3 h4 h5 Y R hY hR gR => ?_)
  have hWY := hY.size
  have hRY := lt_of_block gR
  have hup := hlx.2.2.2.1
  have hg0 : g0 < up := hlx.2.2.1 g0 rfl
  have hlo := (hlx.2.1.lt g0 rfl).1
  refine (put_clo R bi bs id kd sa ps.length sc Y (fun v z => v = .nilIface ∧ ∃ na nn nc, z.heap[R]? = some (.cells #[.slice na nn nc, .int .i64 ts[m].1, .bool ts[m].2.1, .int .i64 now, .slice (some ⟨g, 0, none⟩) rn c] 104 (0, 0)) ∧ z.heap[P]? = Y.heap[P]? ∧ z.heap[tg]? = Y.heap[tg]? ∧ Y.heap.size ≤ z.heap.size ∧ PD W P tg lo up (putC ts[m].2.2 (id, false, kd, ps)) z na nn nc) (keepcell hY g1) (keepcell hY g2) (keepcell hY g3) ((put_do R id kd sa sc ps Y (fun z => ∃ na nn nc, z.heap[R]? = some (.cells #[.slice na nn nc, .int .i64 ts[m].1, .bool ts[m].2.1, .int .i64 now, .slice (some ⟨g, 0, none⟩) rn c] 104 (0, 0)) ∧ z.heap[P]? = Y.heap[P]? ∧ z.heap[tg]? = Y.heap[tg]? ∧ Y.heap.size ≤ z.heap.size ∧ PD W P tg lo up (putC ts[m].2.2 (id, false, kd, ps)) z na nn nc) (fun V hV => (impl_id id V).mono (fun e w' ⟨q1, q2⟩ => ⟨by rw [q1, hpp.1], by rw [q2]; exact Below.refl _ _⟩)) (fun V hV => (impl_ShapeOk kd sa sc ps V hm hc ((hp.below hY).below hV)).mono (fun e w' ⟨q1, q2⟩ => ⟨by rw [q1, hpp.2], q2⟩)) (fun V hV => impl_copy kd sa sc ps V h0 hm ((hp.below hY).below hV)) (fun V p c' hV hp1 hc1 hpo1 => ?_)).mono (fun e w' ⟨q1, q2⟩ => ⟨_, q1, rfl, q2⟩))).mono ?_
  · have hWV := btrans hY hV
    have hYV := hV.size
    have hpV : p < V.heap.size := hpo1.1
    have hLV := hlx.below hWV
    have hPL := pl_Pl (id := id) hasc
    have gRV := keepheapA hV gR
    have hplc : ∀ W', Below V.heap.size V W' → Calls Tryz.prog 95 #[.slice (some ⟨g0, 0, none⟩) ts[m].2.2.length c0, .int .i64 id] W' fun e w' => e = .returned (.tuple #[.int .i64 (pl ts[m].2.2 id), .bool (decide (pl ts[m].2.2 id < ts[m].2.2.length) && decide (idc ts[m].2.2 (pl ts[m].2.2 id) = id))]) ∧ Below W'.heap.size W' w' := fun W' hW' => (place_c (some ⟨g0, 0, none⟩) c0 ts[m].2.2 id W' hcm (hLV.below hW').lc.chs hasc).mono (fun e w' ⟨i, q1, q2, q3, q4, q5⟩ => by
      have := Pl.uniq ⟨q2, q3, q4⟩ hPL
      subst this
      exact ⟨q1, q5⟩)
    by_cases hq : pl ts[m].2.2 id < ts[m].2.2.length ∧ idc ts[m].2.2 (pl ts[m].2.2 id) = id
    · have hb : (decide (pl ts[m].2.2 id < ts[m].2.2.length) && decide (idc ts[m].2.2 (pl ts[m].2.2 id) = id)) = true := by simp [hq]
      rw [hb] at hplc
      refine (set_old lo R g0 c0 ts[m].2.2.length (pl ts[m].2.2 id) id kd false (some ⟨p, 0, none⟩) ps.length c' _ _ _ _ (flatK KC qs) V hcm hq.1 gRV (by omega) hLV.2.1 (by omega) (by omega) (flatK_one hlx) hplc).mono ?_
      rintro e z ⟨q0, q1, q2, q3, q4, q5⟩
      obtain ⟨na, nn, nc, r1, r2, r3, r4, r5, r6⟩ := put_lch (z := z) hlx h2 hu hPw (by omega) h3 hWV hR (by omega) hpV hm hc1 hpo1 (.inl ⟨hq.1, hq.2, q1, q2, q3, q4, q5⟩)
      refine ⟨q0, ⟨na, nn, nc, r1, r2.trans (hV.block P (by omega)), r3.trans (hV.block tg (by omega)), by omega, r6⟩, fun b c1 c2 => q4 b c2 (by omega)⟩
    · have hb : (decide (pl ts[m].2.2 id < ts[m].2.2.length) && decide (idc ts[m].2.2 (pl ts[m].2.2 id) = id)) = false := by
        cases hd : (decide (pl ts[m].2.2 id < ts[m].2.2.length) && decide (idc ts[m].2.2 (pl ts[m].2.2 id) = id))
        · rfl
        · exact absurd (by simpa using hd) hq
      rw [hb] at hplc
      refine (set_new lo R g0 c0 ts[m].2.2.length (pl ts[m].2.2 id) id kd false (some ⟨p, 0, none⟩) ps.length c' _ _ _ _ (flatK KC qs) V hcm hPL.1 gRV (by omega) hLV.2.1 (by omega) (by omega) (flatK_one hlx) hplc).mono ?_
      rintro e z ⟨q0, g', c'', q1, q2, q3, q4, q5, q6, q7⟩
      obtain ⟨na, nn, nc, r1, r2, r3, r4, r5, r6⟩ := put_lch (z := z) hlx h2 hu hPw (by omega) h3 hWV hR (by omega) hpV hm hc1 hpo1 (.inr ⟨hq, hPL.1, g', c'', q1, q2, q3, q4, q5, q6, q7⟩)
      refine ⟨q0, ⟨na, nn, nc, r1, r2.trans (hV.block P (by omega)), r3.trans (hV.block tg (by omega)), by omega, r6⟩, fun b c1 c2 => ?_⟩
      exact r5 b (by omega) c2 (by omega)
  · rintro e z ⟨v, rfl, rfl, na, nn, nc, r1, r2, r3, r4, r6⟩
    exact ⟨.nilIface, na, nn, nc, rfl, rfl, r1, r2, r3, r4, fun Z _ => code_nil Z, r6⟩
end Go.Proofs.YtnajddjalagmoaaGreatDoor
namespace Go.Proofs.YtnajddjalagmoaaGreatDoor
open Go.RowKit
set_option linter.unusedSimpArgs false
set_option linter.unusedVariables false
theorem after_put (now n id kd : Int) (B D bi bs : Nat) (sa : Option Addr) (sc : Nat) (ps : List (Int × Int)) (rs : List Rw) (ts : List Tx) (w : World) (na nb : Addr) (hm : rs.length ≤ 1099511627776) (htm : ts.length ≤ 1099511627776) (hr : RwsS w B rs) (ht : TxsS w D ts) (hg : w.cell? ⟨0, 0, none⟩ = some (.iface 247 (.pointer (some na)))) (hgb : w.cell? ⟨1, 0, none⟩ = some (.iface 247 (.pointer (some nb)))) (he : w.cell? ⟨3, 0, none⟩ = some (.iface 173 (.agg #[.pointer (some ⟨4, 73, none⟩)]))) (hpm : ps.length ≤ 1099511627776) (hpc : ps.length ≤ sc) (hp : Pts w sa ps) (g1 : w.cell? ⟨bi, 0, none⟩ = some (.int .i64 id)) (g2 : w.cell? ⟨bs, 0, none⟩ = some (.int .i64 kd)) (g3 : w.cell? ⟨bs, 1, none⟩ = some (.slice sa ps.length sc)) :
    Calls Tryz.prog 30 #[.agg #[.int .i64 now, .slice (some ⟨B, 0, none⟩) rs.length rs.length, .slice (some ⟨D, 0, none⟩) ts.length ts.length], .int .i64 n, .func (.func 31) #[] #[.pointer (some ⟨bi, 0, none⟩), .pointer (some ⟨bs, 0, none⟩)]] w fun e w' => SBS w now rs (ptT now rs ts n id kd ps) (ptN now rs ts n id kd ps) e w' := by
  unfold ptT ptN
  refine after_x now n (if pob id kd ps = true then 0 else 2) _ (ptX ts n.toNat id kd ps) B D rs ts w na hm htm hr ht hg he (ptX_len _ _ _ _ _) (fun m ho hn W' g c tg tcc b2 u2 P hB hb2 hu gP hLC hX => ?_)
  obtain ⟨px, hx⟩ := hX
  have hel := World.block_lt_of_cell? w ⟨3, 0, none⟩ he
  subst hn
  obtain ⟨m', hm', hmt, _, _⟩ := opn_at ho
  have hmm : m' = m := by omega
  subst hmm
  rw [show ((m' : Int)).toNat = m' by omega]
  cases hpo : pob id kd ps
  · rw [if_neg (by simp), ptX_no hpo]
    exact doput_bad now id kd rs.length c tg tcc b2 u2 P m' g bi bs sa sc ps ts px W' nb htm hmt hu gP hx hpm hpc (hp.below hB) hpo (keepcell hB g1) (keepcell hB g2) (keepcell hB g3) (keepcell hB hgb) (keepcell hB he) (by simp only at hel; omega)
  · rw [if_pos rfl, ptX_yes hmt hpo]
    have hcm : ts[m'].2.2.length ≤ 1099511627776 := (ht.2 m' hmt).choose_spec.choose_spec.2.2.1
    exact doput_ok now id kd rs.length c tg tcc b2 u2 P m' g bi bs sa sc ps ts px W' htm hmt hu gP hx hpm hpc (hp.below hB) hpo hcm (opn_ed ho hmt) (keepcell hB g1) (keepcell hB g2) (keepcell hB g3)
set_option maxRecDepth 100000 in
set_option maxHeartbeats 4000000 in
theorem impl_TxnPut (now n id kd : Int) (B D : Nat) (sa : Option Addr) (sc : Nat) (ps : List (Int × Int)) (rs : List Rw) (ts : List Tx) (w : World) (na nb : Addr) (hm : rs.length ≤ 1099511627776) (htm : ts.length ≤ 1099511627776) (hr : RwsS w B rs) (ht : TxsS w D ts) (hg : w.cell? ⟨0, 0, none⟩ = some (.iface 247 (.pointer (some na)))) (hgb : w.cell? ⟨1, 0, none⟩ = some (.iface 247 (.pointer (some nb)))) (he : w.cell? ⟨3, 0, none⟩ = some (.iface 173 (.agg #[.pointer (some ⟨4, 73, none⟩)]))) (hpm : ps.length ≤ 1099511627776) (hpc : ps.length ≤ sc) (hp : Pts w sa ps) :
    Calls Tryz.prog 10 #[.agg #[.int .i64 now, .slice (some ⟨B, 0, none⟩) rs.length rs.length, .slice (some ⟨D, 0, none⟩) ts.length ts.length], .int .i64 n, .int .i64 id, .agg #[.int .i64 kd, .slice sa ps.length sc]] w fun e w' => SBS w now rs (ptT now rs ts n id kd ps) (ptN now rs ts n id kd ps) e w' := by
  have HA := hid (fun (bi bs : Nat) (W : World) (hb : Below w.heap.size w W) c1 c2 c3 => after_put now n id kd B D bi bs sa sc ps rs ts W na nb hm htm (hr.below hb) (ht.below hb) (keepcell hb hg) (keepcell hb hgb) (keepcell hb he) hpm hpc (hp.below hb) c1 c2 c3)
  clear hr ht hg hgb he hp
  generalize ptT now rs ts n id kd ps = bt at *
  generalize ptN now rs ts n id kd ps = bn at *
  unfold SBS at HA
  obtain ⟨nr, hnr⟩ : ∃ x, x = rs.length := ⟨_, rfl⟩
  obtain ⟨nt, hnt⟩ : ∃ x, x = ts.length := ⟨_, rfl⟩
  obtain ⟨nb', hnb⟩ : ∃ x, x = bt.length := ⟨_, rfl⟩
  have HNR := hid hnr.symm
  have HNB := hid hnb.symm
  rw [← hnr, ← hnt, ← hnb] at HA
  rw [← hnr, ← hnt]
  clear hnr hnt hnb
  generalize ps.length = np at *
  have hB : Below w.heap.size w ((((w.alloc (.cells #[.int .i64 now, .slice (some ⟨B, 0, none⟩) nr nr, .slice (some ⟨D, 0, none⟩) nt nt] 38)).alloc (.cells #[.int .i64 id] 3)).alloc (.cells #[.int .i64 kd, .slice sa np sc] 44)).alloc (.cells #[.int .i64 0, .slice none 0 0, .slice none 0 0] 38)) := balloc (balloc (balloc (balloc (Below.refl _ _) _) _) _) _
  have gP := old_alloc (o' := .cells #[.int .i64 0, .slice none 0 0, .slice none 0 0] 38) (old_alloc (o' := .cells #[.int .i64 kd, .slice sa np sc] 44) (old_alloc (o' := .cells #[.int .i64 id] 3) (new_alloc w w.heap.size (.cells #[.int .i64 now, .slice (some ⟨B, 0, none⟩) nr nr, .slice (some ⟨D, 0, none⟩) nt nt] 38) rfl)))
  have gI := old_alloc (o' := .cells #[.int .i64 0, .slice none 0 0, .slice none 0 0] 38) (old_alloc (o' := .cells #[.int .i64 kd, .slice sa np sc] 44) (new_alloc (w.alloc (.cells #[.int .i64 now, .slice (some ⟨B, 0, none⟩) nr nr, .slice (some ⟨D, 0, none⟩) nt nt] 38)) (w.heap.size + 1) (.cells #[.int .i64 id] 3) (by simp)))
  have gS := old_alloc (o' := .cells #[.int .i64 0, .slice none 0 0, .slice none 0 0] 38) (new_alloc ((w.alloc (.cells #[.int .i64 now, .slice (some ⟨B, 0, none⟩) nr nr, .slice (some ⟨D, 0, none⟩) nt nt] 38)).alloc (.cells #[.int .i64 id] 3)) (w.heap.size + 1 + 1) (.cells #[.int .i64 kd, .slice sa np sc] 44) (by simp))
  have gZ := new_alloc (((w.alloc (.cells #[.int .i64 now, .slice (some ⟨B, 0, none⟩) nr nr, .slice (some ⟨D, 0, none⟩) nt nt] 38)).alloc (.cells #[.int .i64 id] 3)).alloc (.cells #[.int .i64 kd, .slice sa np sc] 44)) (w.heap.size + 1 + 1 + 1) (.cells #[.int .i64 0, .slice none 0 0, .slice none 0 0] 38) (by simp)
  have hWs : w.heap.size + 1 + 1 + 1 < ((((w.alloc (.cells #[.int .i64 now, .slice (some ⟨B, 0, none⟩) nr nr, .slice (some ⟨D, 0, none⟩) nt nt] 38)).alloc (.cells #[.int .i64 id] 3)).alloc (.cells #[.int .i64 kd, .slice sa np sc] 44)).alloc (.cells #[.int .i64 0, .slice none 0 0, .slice none 0 0] 38)).heap.size := by simp
  go_enter Tryz.func10, Tryz.ntmps10
  go_upto_region 1 with fail
  generalize (((w.alloc (.cells #[.int .i64 now, .slice (some ⟨B, 0, none⟩) nr nr, .slice (some ⟨D, 0, none⟩) nt nt] 38)).alloc (.cells #[.int .i64 id] 3)).alloc (.cells #[.int .i64 kd, .slice sa np sc] 44)).alloc (.cells #[.int .i64 0, .slice none 0 0, .slice none 0 0] 38) = W at *
  obtain ⟨⟨d0, d1, d2⟩, _⟩ := cellk3 gP
  have HA2 := hid (HA.out (w.heap.size + 1) (w.heap.size + 1 + 1) W hB (by simp [World.cell?, gI]) (cellk2 gS).1.1 (cellk2 gS).1.2)
  clear HA gI gS
  go_wp2_with fail
  refine HA2.out.mono ?_
  rintro e y ⟨a', c', ta', tcc', b1, u1, b2, u2, rfl, hx1, hx2, e1, e2, hy⟩
  replace gZ := keepheapA hy gZ
  have HB := hid (btrans hB hy)
  have HX1 := hid hx1
  have HX2 := hid hx2
  have hyz := hy.size
  clear hy hx1 hx2 HA2 d0 d1 d2 gP hB
  obtain ⟨⟨v0, v1, v2⟩, s0, s1, s2⟩ := cellk3 gZ
  go_wp2_with fail
  have gF := setk3 gZ (.int .i64 now) (.slice a' nr c') (.slice ta' nb' tcc')
  have bF := (bset (bset (bset HB.out (q := w.heap.size + 1 + 1 + 1) (k := 0) (by omega) (.int .i64 now)) (q := w.heap.size + 1 + 1 + 1) (k := 1) (by omega) (.slice a' nr c')) (q := w.heap.size + 1 + 1 + 1) (k := 2) (by omega) (.slice ta' nb' tcc'))
  have hfar : ∀ b, b ≠ w.heap.size + 1 + 1 + 1 → (((y.setCell ⟨w.heap.size + 1 + 1 + 1, 0, none⟩ (.int .i64 now)).setCell ⟨w.heap.size + 1 + 1 + 1, 1, none⟩ (.slice a' nr c')).setCell ⟨w.heap.size + 1 + 1 + 1, 2, none⟩ (.slice ta' nb' tcc')).heap[b]? = y.heap[b]? := fun b hb => by rw [Below.heap_setCell _ _ _ _ (by dsimp only; omega), Below.heap_setCell _ _ _ _ (by dsimp only; omega), Below.heap_setCell _ _ _ _ (by dsimp only; omega)]
  have x1 := HX1.out.frame (w' := (((y.setCell ⟨w.heap.size + 1 + 1 + 1, 0, none⟩ (.int .i64 now)).setCell ⟨w.heap.size + 1 + 1 + 1, 1, none⟩ (.slice a' nr c')).setCell ⟨w.heap.size + 1 + 1 + 1, 2, none⟩ (.slice ta' nb' tcc'))) (fun b h1 h2 => hfar b (by omega)) (by simp)
  have x2 := HX2.out.frame (w' := (((y.setCell ⟨w.heap.size + 1 + 1 + 1, 0, none⟩ (.int .i64 now)).setCell ⟨w.heap.size + 1 + 1 + 1, 1, none⟩ (.slice a' nr c')).setCell ⟨w.heap.size + 1 + 1 + 1, 2, none⟩ (.slice ta' nb' tcc'))) (fun b h1 h2 h3 => hfar b (by omega)) (by simp)
  generalize (((y.setCell ⟨w.heap.size + 1 + 1 + 1, 0, none⟩ (.int .i64 now)).setCell ⟨w.heap.size + 1 + 1 + 1, 1, none⟩ (.slice a' nr c')).setCell ⟨w.heap.size + 1 + 1 + 1, 2, none⟩ (.slice ta' nb' tcc')) = wf at *
  obtain ⟨⟨z0, z1, z2⟩, _⟩ := cellk3 gF
  exact bodyPost_ret (v := .tuple #[.agg #[.int .i64 now, .slice a' nr c', .slice ta' nb' tcc'], .int .i64 bn]) (by simp [results, Tryz.results10, go_sem, z0, z1, z2]) rfl (sbs_mk rfl rfl HNR.out HNB.out x1 x2 (by omega) (by omega) bF)
end Go.Proofs.YtnajddjalagmoaaGreatDoor
namespace Go.Proofs.YtnajddjalagmoaaGreatDoor
open Go.RowKit
set_option linter.unusedVariables false
/-- Rows that may be written into, from block B on, below hi. -/
def Own3 (hi : Nat) (w : World) (B : Nat) (rs : List Rw) : Prop := B < hi ∧ hi ≤ w.heap.size ∧ w.there B 0 (rs.length * 5) ∧ RwsO hi w B rs
theorem Own3.below {hi : Nat} {w w' : World} {B : Nat} {rs : List Rw} (h : Own3 hi w B rs) (H : Below w.heap.size w w') : Own3 hi w' B rs :=
  ⟨h.1, Nat.le_trans h.2.1 H.size, there_below h.2.2.1 (Nat.lt_of_lt_of_le h.1 h.2.1) H, h.2.2.2.below h.2.1 H⟩
def BS (Y w : World) : Prop := Below Y.heap.size Y w
theorem BS.below {Y a b : World} (h : BS Y a) (H : Below a.heap.size a b) : BS Y b := btrans h H
def SizeLe (Y : World) (n : Nat) : Prop := Y.heap.size ≤ n
theorem bs_mid {Y a b : World} {lo hi : Nat} (h : BS Y a) (m : Mid lo hi a b) (hl : SizeLe Y lo) : BS Y b := mid_B h m hl h.size
end Go.Proofs.YtnajddjalagmoaaGreatDoor
