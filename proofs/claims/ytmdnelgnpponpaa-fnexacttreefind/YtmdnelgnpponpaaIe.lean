/- The specification's TreeSeen and TreeFind. -/
import Derived.Test.YtmdnelgnpponpaaId
namespace Go.Proofs.Ytmdnelgnpponpaa
open Go.RowKit Go.Shelf
set_option linter.unusedSimpArgs false
set_option linter.unusedVariables false
set_option maxRecDepth 100000 in
set_option maxHeartbeats 4000000 in
theorem spec_TreeSeen (b : Bx) (m lo : Nat) (t : KT) (ia ka : Option Addr) (w : World) (h : Kn lo (m + 1) w ia ka t) (hz : ksz (m + 1) t ≤ 1048576) : Calls Try.prog 25 #[kvo t ia ka, .agg #[.int .i64 b.1, .int .i64 b.2.1, .int .i64 b.2.2.1, .int .i64 b.2.2.2]] w fun e w' => e = .returned (.int .i64 (if tokS t && bkb b then ((kns (pw b) m t).length : Int) else 0)) ∧ Below w.heap.size w w' := by
  have CT := hid (fun (W : World) (hb : Below w.heap.size w W) => spec_TreeOk (m + 1) lo t ia ka W (h.below hb) hz)
  have CB := hid (fun (W : World) => spec_boxok b.1 b.2.1 b.2.2.1 b.2.2.2 W)
  change Hid (∀ W, Calls _ _ _ W (fun e w' => e = .returned (.bool (bkb b)) ∧ Below W.heap.size W w')) at CB
  have CW := hid (fun (W : World) (hb : Below w.heap.size w W) => spec_walk b m lo t ia ka W (h.below hb) hz)
  obtain ⟨b0, b1, b2, b3, b4, ni, nk, hf⟩ := kf t
  rw [kvo_of hf] at CT CW ⊢
  clear h hf hz
  generalize tokS t = ok at *
  generalize bkb b = bo at *
  generalize (fnd b (kns (pw b) m t)).map Prod.fst = ids at *
  generalize (kns (pw b) m t).length = sn at *
  obtain ⟨e0, e1, e2, e3⟩ := b
  simp only [] at CB CW ⊢
  have gT := hid (old_alloc (o' := (.cells #[.int .i64 e0, .int .i64 e1, .int .i64 e2, .int .i64 e3] 30)) (new_alloc w w.heap.size (.cells #[.int .i64 b0, .int .i64 b1, .int .i64 b2, .int .i64 b3, .bool b4, .slice ia ni ni, .slice ka nk nk] 34) rfl))
  have gB := hid (new_alloc (w.alloc (.cells #[.int .i64 b0, .int .i64 b1, .int .i64 b2, .int .i64 b3, .bool b4, .slice ia ni ni, .slice ka nk nk] 34)) (w.heap.size + 1) (.cells #[.int .i64 e0, .int .i64 e1, .int .i64 e2, .int .i64 e3] 30) (by simp))
  have B0 := hid (balloc (balloc (Below.refl w.heap.size w) (.cells #[.int .i64 b0, .int .i64 b1, .int .i64 b2, .int .i64 b3, .bool b4, .slice ia ni ni, .slice ka nk nk] 34)) (.cells #[.int .i64 e0, .int .i64 e1, .int .i64 e2, .int .i64 e3] 30))
  go_enter Try.func25, Try.ntmps25
  go_wp2_with fail
  generalize (w.alloc (.cells #[.int .i64 b0, .int .i64 b1, .int .i64 b2, .int .i64 b3, .bool b4, .slice ia ni ni, .slice ka nk nk] 34)).alloc (.cells #[.int .i64 e0, .int .i64 e1, .int .i64 e2, .int .i64 e3] 30) = v0 at *
  refine (CT.out _ B0.out).mono ?_
  rintro e v1 ⟨rfl, hb1⟩
  replace gT := hid (keepheap hb1 gT.out)
  replace gB := hid (keepheap hb1 gB.out)
  replace B0 := hid (btrans B0.out hb1)
  clear hb1 CT
  obtain ⟨a0, a1, a2, a3, a4, a5, a6, _, _, _, _, _, _, _⟩ := cell7k gT.out
  obtain ⟨y0, y1, y2, y3, _, _, _, _⟩ := cell4b gB.out
  cases ok
  · (go_wp2_with fail; go_ret; exact ⟨rfl, B0.out⟩)
  · go_wp2_with fail
    refine (CB.out _).mono ?_
    rintro e v2 ⟨rfl, hb2⟩
    replace gT := hid (keepheap hb2 gT.out)
    replace gB := hid (keepheap hb2 gB.out)
    replace B0 := hid (btrans B0.out hb2)
    clear hb2 CB a0 a1 a2 a3 a4 a5 a6 y0 y1 y2 y3
    cases bo
    · (go_wp2_with fail; go_ret; exact ⟨rfl, B0.out⟩)
    · obtain ⟨a0, a1, a2, a3, a4, a5, a6, _, _, _, _, _, _, _⟩ := cell7k gT.out
      obtain ⟨y0, y1, y2, y3, _, _, _, _⟩ := cell4b gB.out
      go_wp2_with fail
      refine (CW.out _ B0.out).mono ?_
      rintro e v3 ⟨g, c, zs, rfl, hs, ho, hb3⟩
      have hsz := B0.out.size
      have HO := hid (ho.base hsz)
      have HS := hid hs
      replace B0 := hid (btrans B0.out hb3)
      clear hb3 ho hs CW
      go_wp2_with fail
      go_ret
      exact ⟨rfl, B0.out⟩
set_option maxRecDepth 100000 in
set_option maxHeartbeats 4000000 in
theorem spec_TreeFind (b : Bx) (m lo : Nat) (t : KT) (ia ka : Option Addr) (w : World) (h : Kn lo (m + 1) w ia ka t) (hz : ksz (m + 1) t ≤ 1048576) : Calls Try.prog 19 #[kvo t ia ka, .agg #[.int .i64 b.1, .int .i64 b.2.1, .int .i64 b.2.2.1, .int .i64 b.2.2.2]] w fun e w' => ∃ g c zs, e = .returned (.slice (some ⟨g, 0, none⟩) zs.length c) ∧ zs = (if tokS t && bkb b then srt ((fnd b (kns (pw b) m t)).map Prod.fst) else []) ∧ OwI w' w.heap.size g c zs ∧ Below w.heap.size w w' := by
  have CT := hid (fun (W : World) (hb : Below w.heap.size w W) => spec_TreeOk (m + 1) lo t ia ka W (h.below hb) hz)
  have CB := hid (fun (W : World) => spec_boxok b.1 b.2.1 b.2.2.1 b.2.2.2 W)
  change Hid (∀ W, Calls _ _ _ W (fun e w' => e = .returned (.bool (bkb b)) ∧ Below W.heap.size W w')) at CB
  have CW := hid (fun (W : World) (hb : Below w.heap.size w W) => spec_walk b m lo t ia ka W (h.below hb) hz)
  obtain ⟨b0, b1, b2, b3, b4, ni, nk, hf⟩ := kf t
  rw [kvo_of hf] at CT CW ⊢
  clear h hf hz
  generalize tokS t = ok at *
  generalize bkb b = bo at *
  generalize (fnd b (kns (pw b) m t)).map Prod.fst = ids at *
  generalize (kns (pw b) m t).length = sn at *
  obtain ⟨e0, e1, e2, e3⟩ := b
  simp only [] at CB CW ⊢
  have gT := hid (old_alloc (o' := (.cells #[.int .i64 e0, .int .i64 e1, .int .i64 e2, .int .i64 e3] 30)) (new_alloc w w.heap.size (.cells #[.int .i64 b0, .int .i64 b1, .int .i64 b2, .int .i64 b3, .bool b4, .slice ia ni ni, .slice ka nk nk] 34) rfl))
  have gB := hid (new_alloc (w.alloc (.cells #[.int .i64 b0, .int .i64 b1, .int .i64 b2, .int .i64 b3, .bool b4, .slice ia ni ni, .slice ka nk nk] 34)) (w.heap.size + 1) (.cells #[.int .i64 e0, .int .i64 e1, .int .i64 e2, .int .i64 e3] 30) (by simp))
  have B0 := hid (balloc (balloc (Below.refl w.heap.size w) (.cells #[.int .i64 b0, .int .i64 b1, .int .i64 b2, .int .i64 b3, .bool b4, .slice ia ni ni, .slice ka nk nk] 34)) (.cells #[.int .i64 e0, .int .i64 e1, .int .i64 e2, .int .i64 e3] 30))
  go_enter Try.func19, Try.ntmps19
  go_wp2_with fail
  generalize (w.alloc (.cells #[.int .i64 b0, .int .i64 b1, .int .i64 b2, .int .i64 b3, .bool b4, .slice ia ni ni, .slice ka nk nk] 34)).alloc (.cells #[.int .i64 e0, .int .i64 e1, .int .i64 e2, .int .i64 e3] 30) = v0 at *
  refine (CT.out _ B0.out).mono ?_
  rintro e v1 ⟨rfl, hb1⟩
  replace gT := hid (keepheap hb1 gT.out)
  replace gB := hid (keepheap hb1 gB.out)
  replace B0 := hid (btrans B0.out hb1)
  clear hb1 CT
  obtain ⟨a0, a1, a2, a3, a4, a5, a6, _, _, _, _, _, _, _⟩ := cell7k gT.out
  obtain ⟨y0, y1, y2, y3, _, _, _, _⟩ := cell4b gB.out
  cases ok
  · (have hO0 := World.ownsRow_made (base := w.heap.size) (e := 3) (size := 1) v1 #[] 0 B0.out.size (by decide) rfl; have HOO := hid hO0; replace B0 := hid (balloc B0.out (.cells #[] 3)); clear hO0; go_wp2_with fail; go_ret; exact ⟨v1.heap.size, 0, [], rfl, rfl, HOO.out, B0.out⟩)
  · go_wp2_with fail
    refine (CB.out _).mono ?_
    rintro e v2 ⟨rfl, hb2⟩
    replace gT := hid (keepheap hb2 gT.out)
    replace gB := hid (keepheap hb2 gB.out)
    replace B0 := hid (btrans B0.out hb2)
    clear hb2 CB a0 a1 a2 a3 a4 a5 a6 y0 y1 y2 y3
    cases bo
    · (have hO0 := World.ownsRow_made (base := w.heap.size) (e := 3) (size := 1) v2 #[] 0 B0.out.size (by decide) rfl; have HOO := hid hO0; replace B0 := hid (balloc B0.out (.cells #[] 3)); clear hO0; go_wp2_with fail; go_ret; exact ⟨v2.heap.size, 0, [], rfl, rfl, HOO.out, B0.out⟩)
    · obtain ⟨a0, a1, a2, a3, a4, a5, a6, _, _, _, _, _, _, _⟩ := cell7k gT.out
      obtain ⟨y0, y1, y2, y3, _, _, _, _⟩ := cell4b gB.out
      go_wp2_with fail
      refine (CW.out _ B0.out).mono ?_
      rintro e v3 ⟨g, c, zs, rfl, hs, ho, hb3⟩
      have hsz := B0.out.size
      have HO := hid (ho.base hsz)
      have HS := hid hs
      replace B0 := hid (btrans B0.out hb3)
      clear hb3 ho hs CW
      go_wp2_with fail
      go_ret
      exact ⟨g, c, zs, rfl, HS.out.srt, HO.out, B0.out⟩
end Go.Proofs.Ytmdnelgnpponpaa
