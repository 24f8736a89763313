/- The law on Words, walked, given what the library's Split and Clone do. -/
import Derived.Test.YtaiifgmlnjgkpahDoorWords2
namespace Go.Proofs.YtaiifgmlnjgkpahDoor
open Go.RowKit
set_option maxRecDepth 100000 in
set_option maxHeartbeats 4000000 in
theorem words_small (s : ByteArray) (hs : s.size ≤ 1048576) (w : World) (hSp : ∀ w', Below w.heap.size w w' → SplitAt s w') (hC : CloneAll) :
    Calls Tryd.prog 4 #[.string s] w fun e w' => e = .returned (.bool true) ∧ Below w.heap.size w w' := by
  have hd : (s.size : Int) ≤ 1048576 := by omega
  have hl := rest_len s s.size 0 0
  have HSP := hide hSp
  have HC := hide hC
  clear hSp hC
  go_enter Tryd.func4, Tryd.ntmps4
  go_wp2_with fail
  refine (spec_words s hs _).mono ?_
  rintro e w1 ⟨g1, cap1, rfl, hg1, hT1, hb⟩
  go_wp2_with fail
  refine (impl_words s hs _ (HSP.out _ hb) HC.out).mono ?_
  rintro e w2 ⟨g2, rfl, hg2, hT2, hb2⟩
  have hT1' := hT1.kept (grown_all hb2 none) (by simp)
  have hlt1 := hT1.lt
  replace hb := hb.trans (hb2.mono hb.size)
  have hw12 := hb2.size
  clear hT1 hb2
  have hne : g1 ≠ g2 := by omega
  generalize hR : rest s s.size 0 0 = R at hl hT1' hT2 ⊢
  have HR := hide hR
  clear hR
  go_wp2_with fail
  refine (eq_c _ g2 R.length g1 cap1 R (by omega) hT2 hT1').mono ?_
  rintro e w3 ⟨rfl, k3, rfl⟩
  have hT2b := hT2.kept (grown_all (below_drewN _ _ k3) none) (by simp)
  have hT1b := hT1'.kept (grown_all (below_drewN _ _ k3) none) (by simp)
  replace hb := hb.trans (below_drewN w.heap.size w2 k3)
  clear hT2 hT1'
  generalize w2.drewN k3 = w3 at hT2b hT1b hb ⊢
  go_wp2_with fail
  refine (mark_c _ g2 R.length R (by omega) hT2b).mono ?_
  rintro e w4 ⟨rfl, hT2c, hgr⟩
  have hT1c := hT1b.kept hgr (fun e => hne (by simp at e; exact e.symm))
  have hgg : w.heap.size ≤ g2 := by omega
  replace hb := hb.grown hgr hb.size (fun k hk => by simp at hk; omega)
  clear hT2b hT1b hgr
  obtain ⟨n, hn⟩ : ∃ n, n = R.length := ⟨_, rfl⟩
  rw [← hn] at hT2c hl ⊢
  have HN := hide hn
  clear hn
  go_wp2_with fail
  refine (held_c _ g2 n n (by omega) hT2c).mono ?_
  rintro e w5 ⟨rfl, hb5⟩
  have hT2d := hT2c.kept (grown_all hb5 none) (by simp)
  have hT1d := hT1c.kept (grown_all hb5 none) (by simp)
  replace hb := hb.trans (hb5.mono hb.size)
  clear hT2c hT1c hb5
  go_wp2_with fail
  refine (impl_words s hs _ (HSP.out _ hb) HC.out).mono ?_
  rw [HR.out, ← HN.out]
  rintro e w6 ⟨g3, rfl, hg3, hT3, hb6⟩
  have hT2e := hT2d.kept (grown_all hb6 none) (by simp)
  have hT1e := hT1d.kept (grown_all hb6 none) (by simp)
  replace hb := hb.trans (hb6.mono hb.size)
  clear hT2d hT1d hb6
  rw [HN.out] at hT3 ⊢
  go_wp2_with fail
  refine (eq_c _ g3 R.length g1 cap1 R (by have := HN.out; omega) hT3 hT1e).mono ?_
  rintro e w7 ⟨rfl, k7, rfl⟩
  have hT2f := hT2e.kept (grown_all (below_drewN _ _ k7) none) (by simp)
  replace hb := hb.trans (below_drewN w.heap.size w6 k7)
  clear hT2e hT1e hT3
  generalize w6.drewN k7 = w7 at hT2f hb ⊢
  rw [← HN.out]
  go_wp2_with fail
  refine (held_c _ g2 n n (by omega) hT2f).mono ?_
  rintro e w8 ⟨rfl, hb8⟩
  replace hb := hb.trans (hb8.mono hb.size)
  clear hT2f hb8
  go_wp2_with fail
  go_ret
  exact ⟨rfl, hb⟩
theorem words_big (s : ByteArray) (hm : s.size ≤ maxLen) (hs : 1048576 < s.size) (w : World) : Calls Tryd.prog 4 #[.string s] w fun e w' => e = .returned (.bool true) ∧ Below w.heap.size w w' := by
  unfold maxLen at hm
  have hd : 1048576 < (s.size : Int) := by omega
  go_enter Tryd.func4, Tryd.ntmps4
  go_wp2_with fail
  go_ret
  exact ⟨rfl, Below.refl _ _⟩
end Go.Proofs.YtaiifgmlnjgkpahDoor
