/- Rows collected and sorted. -/
import Derived.Test.YtfajjnkkablneaaGreatDoorRwQ
import Derived.Shelf.SlSortCmp.NoneTotal
namespace Go.Proofs.YtfajjnkkablneaaGreatDoor
open Go.RowKit Go.Shelf Go.Lib Go.Sort
set_option linter.unusedSimpArgs false
set_option linter.unusedVariables false
theorem flat5_at : ∀ (xs : List El) (j : Nat) (h : j < xs.length), (flat5 xs)[j * 5]? = some (.int .i64 xs[j].1) ∧ (flat5 xs)[j * 5 + 1]? = some (.int .i64 xs[j].2.1) ∧ (flat5 xs)[j * 5 + 2]? = some (.int .i64 xs[j].2.2.1) ∧ (flat5 xs)[j * 5 + 3]? = some (.int .i64 xs[j].2.2.2.1) ∧ (flat5 xs)[j * 5 + 4]? = some (.slice xs[j].2.2.2.2.1 xs[j].2.2.2.2.2.1 xs[j].2.2.2.2.2.2)
  | [], j, h => by simp at h
  | x :: r, 0, h => by simp [flat5, ev]
  | x :: r, j + 1, h => by
    have ih := flat5_at r j (by simpa using h)
    have e : ∀ k, (flat5 (x :: r))[k + 5]? = (flat5 r)[k]? := by
      intro k
      show ((ev x) ++ flat5 r)[k + 5]? = _
      rw [List.getElem?_append_right (by simp [ev])]
      simp [ev]
    have e0 : (j + 1) * 5 = j * 5 + 5 := by omega
    rw [e0, e, show j * 5 + 5 + 1 = j * 5 + 1 + 5 by omega, e, show j * 5 + 5 + 2 = j * 5 + 2 + 5 by omega, e, show j * 5 + 5 + 3 = j * 5 + 3 + 5 by omega, e, show j * 5 + 5 + 4 = j * 5 + 4 + 5 by omega, e]
    exact ih
theorem flat5_len (xs : List El) : (flat5 xs).length = xs.length * 5 := by
  induction xs with
  | nil => rfl
  | cons x r ih =>
    show (ev x ++ flat5 r).length = _
    rw [List.length_append, ih]
    simp [ev]; omega
theorem flatK_at (xs : List El) (t : Nat) (h : t < xs.length * 5) : (flat5 xs)[t]? = some ((ev xs.toArray[t / 5]!)[t % 5]!) := by
  have hj : t / 5 < xs.length := by omega
  obtain ⟨h0, h1, h2, h3, h4⟩ := flat5_at xs (t / 5) hj
  have hx : xs.toArray[t / 5]! = xs[t / 5] := by simp [hj]
  rw [hx]
  obtain e | e | e | e | e : t % 5 = 0 ∨ t % 5 = 1 ∨ t % 5 = 2 ∨ t % 5 = 3 ∨ t % 5 = 4 := by omega
  · have et : t = t / 5 * 5 := by omega
    rw [e]
    conv => lhs; rw [et]
    rw [h0]; rfl
  · have et : t = t / 5 * 5 + 1 := by omega
    rw [e]
    conv => lhs; rw [et]
    rw [h1]; rfl
  · have et : t = t / 5 * 5 + 2 := by omega
    rw [e]
    conv => lhs; rw [et]
    rw [h2]; rfl
  · have et : t = t / 5 * 5 + 3 := by omega
    rw [e]
    conv => lhs; rw [et]
    rw [h3]; rfl
  · have et : t = t / 5 * 5 + 4 := by omega
    rw [e]
    conv => lhs; rw [et]
    rw [h4]; rfl
theorem holds_of_row {w : World} {g cap : Nat} {xs : List El} {cur : Array Value} {e : TypeId} (hb : w.heap[g]? = some (.cells cur e (0, 0))) (hc : cur.toList.take (xs.length * 5) = flat5 xs) : HoldsK ev 5 w g 0 xs.toArray := by
  intro t ht
  have hs : (flatK ev 5 xs.toArray).size = xs.length * 5 := by simp [flatK]
  rw [hs] at ht
  have hf : (flatK ev 5 xs.toArray)[t]! = (ev xs.toArray[t / 5]!)[t % 5]! := by
    rw [getElem!_pos _ t (by rw [hs]; exact ht)]
    simp [flatK]
  have hcur : cur[t]? = some ((ev xs.toArray[t / 5]!)[t % 5]!) := by
    have h1 := flatK_at xs t ht
    rw [← hc, List.getElem?_take, if_pos ht] at h1
    simpa using h1
  refine ⟨?_, ?_⟩
  · simp only [World.cell?, hb, Nat.zero_add]
    rw [hf]
    simpa using hcur
  · simp [World.frozen?, hb]
theorem els_of_holds {w : World} {g : Nat} {d : Array El} (h : HoldsK ev 5 w g 0 d) : ElsAt w g 0 d.toList := by
  intro j hj
  have hjd : j < d.size := by simpa using hj
  have hs : (flatK ev 5 d).size = d.size * 5 := by simp [flatK]
  have hf : ∀ k, k < 5 → w.cell? ⟨g, 0 + j * 5 + k, none⟩ = some ((ev d.toList[j])[k]!) := by
    intro k hk
    have h1 := (h (j * 5 + k) (by rw [hs]; omega)).1
    have h2 : (flatK ev 5 d)[j * 5 + k]! = (ev d.toList[j])[k]! := by
      rw [getElem!_pos _ _ (by rw [hs]; omega)]
      have e1 : (j * 5 + k) / 5 = j := by omega
      have e2 : (j * 5 + k) % 5 = k := by omega
      simp [flatK, e1, e2, hjd]
    rw [show 0 + j * 5 + k = 0 + (j * 5 + k) by omega, h1]
    simp only [id]
    rw [h2]
  exact ⟨hf 0 (by omega), hf 1 (by omega), hf 2 (by omega), hf 3 (by omega), hf 4 (by omega)⟩
theorem grown_sortedK {w : World} {g n : Nat} {os : Array Obj} (d : Array El) : w.grownBy (sortWorldK ev 5 w g 0 n d os) (some g) := by
  refine ⟨rfl, rfl, rfl, by simp [sortWorldK, putRowK, putRow, mapBlock, Sort.ahead, grow], fun k hk hne => ?_⟩
  unfold sortWorldK putRowK
  rw [heap_grow_old _ _ (by simpa [putRow, mapBlock, Sort.ahead] using hk)]
  have : g ≠ k := fun e => hne (by rw [e])
  simp [putRow, mapBlock, Sort.ahead, Array.getElem?_modify, this]
def lexE (x y : El) : Prop := x.1 < y.1 ∨ (x.1 = y.1 ∧ x.2.1 ≤ y.2.1)
theorem sorted_lex {d : Array El} (h : SortedIn (ltOf cfE) 0 d.size d) : d.toList.Pairwise lexE := by
  rw [List.pairwise_iff_getElem]
  intro i j hi hj hij
  have hjd : j < d.size := by simpa using hj
  have h1 := h i j (Nat.zero_le _) hij hjd
  rw [ltE, decide_eq_false_iff_not] at h1
  have ei : d[i]! = d.toList[i] := by simp [show i < d.size by omega]
  have ej : d[j]! = d.toList[j] := by simp [hjd]
  rw [ei, ej] at h1
  unfold lexE
  omega
theorem values_c (a : Option Addr) (n cap : Nat) (w : World) : Calls Tryz.prog 67 #[.slice a n cap] w fun e w' => e = .returned (.func (.func 89) #[] #[.pointer (some ⟨w.heap.size, 0, none⟩)]) ∧ w' = w.alloc (.cells #[.slice a n cap] 27) := by
  have hmf : ∀ (fn : Fn) (first cap : Array Value) (w : World), (Instr.makeFunc fn first cap).run Tryz.prog w = .ok (.func fn first cap) w := fun _ _ _ _ => rfl
  go_enter Tryz.func67, Tryz.ntmps67
  go_wp2
  go_ret
  exact ⟨rfl, rfl⟩
theorem appendSeq_c (Bs b off cap : Nat) (xs : List El) (hlen : xs.length ≤ 1099511627776) (w : World) (a : Option Addr) (ha : 0 < xs.length → a = some ⟨b, off, none⟩) (hb : 0 < xs.length → b < w.heap.size) (hBs : w.cell? ⟨Bs, 0, none⟩ = some (.slice a xs.length cap)) (hc : ElsAt w b off xs) :
    Calls Tryz.prog 102 #[.slice none 0 0, .func (.func 89) #[] #[.pointer (some ⟨Bs, 0, none⟩)]] w fun e w' => ∃ v, e = .returned v ∧ w'.ownsRow w.heap.size 50 5 v xs.length (flat5 xs) ∧ Below w.heap.size w w' :=
  (callsIn_wide (n := 5)).1 (appendSeq_r Fence.wide 5 trivial rfl (by omega) _ _ trivial (enters_of Tryz.func89 (by kernel_rfl) rfl) xs hlen w.heap.size w (Nat.le_refl _)
    (values_stops_r Fence.wide 4 trivial rfl (by omega) Bs w.heap.size b off cap xs hlen a ha hb w (World.block_lt_of_cell? w _ hBs) (Nat.le_refl _) hBs hc))
theorem collect_c (Bs b off cap : Nat) (xs : List El) (hlen : xs.length ≤ 1099511627776) (w : World) (a : Option Addr) (ha : 0 < xs.length → a = some ⟨b, off, none⟩) (hb : 0 < xs.length → b < w.heap.size) (hBs : w.cell? ⟨Bs, 0, none⟩ = some (.slice a xs.length cap)) (hc : ElsAt w b off xs) :
    Calls Tryz.prog 88 #[.func (.func 89) #[] #[.pointer (some ⟨Bs, 0, none⟩)]] w fun e w' => ∃ v, e = .returned v ∧ w'.ownsRow w.heap.size 50 5 v xs.length (flat5 xs) ∧ Below w.heap.size w w' := by
  have H := hid (appendSeq_c Bs b off cap xs hlen w a ha hb hBs hc)
  clear hBs hc
  go_enter Tryz.func88, Tryz.ntmps88
  go_wp2_with fail
  refine H.out.mono ?_
  rintro e w1 ⟨v, rfl, hr, hB⟩
  go_wp2_with fail
  go_ret
  exact ⟨v, rfl, hr, hB⟩
set_option maxHeartbeats 1000000 in
theorem sorted_c (Bs b off cap : Nat) (xs : List El) (h0 : 0 < xs.length) (hlen : xs.length ≤ 1099511627776) (w : World) (hb : b < w.heap.size) (hBs : w.cell? ⟨Bs, 0, none⟩ = some (.slice (some ⟨b, off, none⟩) xs.length cap)) (hc : ElsAt w b off xs) :
    Calls Tryz.prog 66 #[.func (.func 89) #[] #[.pointer (some ⟨Bs, 0, none⟩)], .func (.func 34) #[] #[]] w fun e w' => ∃ g cap' ys, e = .returned (.slice (some ⟨g, 0, none⟩) xs.length cap') ∧ ys.length = xs.length ∧ g < w'.heap.size ∧ ElsAt w' g 0 ys ∧ ys.Perm xs ∧ ys.Pairwise lexE ∧ Below w.heap.size w w' := by
  have H := hid (collect_c Bs b off cap xs hlen w _ (fun _ => rfl) (fun _ => hb) hBs hc)
  clear hBs hc
  obtain ⟨n, hn⟩ : ∃ n, n = xs.length := ⟨_, rfl⟩
  have HN := hid hn
  rw [← hn] at h0 hlen ⊢
  rw [← hn] at H
  clear hn
  go_enter Tryz.func66, Tryz.ntmps66
  go_wp2_with fail
  refine H.out.mono ?_
  rintro e w1 ⟨v, rfl, hr, hB⟩
  obtain ⟨g, cp, cur, rfl, hg, hgb, hcp, _, _, htk⟩ : ∃ g cp cur, v = .slice (some ⟨g, 0, none⟩) n cp ∧ w.heap.size ≤ g ∧ w1.heap[g]? = some (.cells cur 50 (0, 0)) ∧ n ≤ cp ∧ cp ≤ maxLen ∧ cur.size = cp * 5 ∧ cur.toList.take (n * 5) = flat5 xs := by
    rcases hr.2 with ⟨_, h⟩ | h
    · omega
    · exact h
  have hgl : g < w1.heap.size := lt_of_block hgb
  have hH : HoldsK ev 5 w1 g 0 xs.toArray := holds_of_row (cap := cp) hgb (by rw [← HN.out]; exact htk)
  have HS := hid (sort_rows g 0 cp xs.toArray w1 hH hgl (by simp; rw [← HN.out]; omega))
  rw [show xs.toArray.size = n by simp [HN.out]] at HS
  have HHK := hid hH
  clear hH htk hr hgb
  go_wp2_with fail
  refine HS.out.mono ?_
  rintro e w2 ⟨rfl, d', q, os, hp, hs, rfl⟩
  have hds : d'.size = n := by have := hp.1; simpa [← HN.out] using this
  have hK2 := holdsK_sortWorldK ev 5 w1 g 0 q xs.toArray d' os hgl HHK.out (by rw [hds]; simp [HN.out])
  have hgr := grown_sortedK (w := w1) (g := g) (n := q) (os := os) d'
  have hE := els_of_holds hK2
  have hB2 : Below w.heap.size w (sortWorldK ev 5 w1 g 0 q d' os) := hB.grown hgr hB.size (fun k e => by cases e; exact hg)
  have hperm : d'.toList.Perm xs := by
    have h2 := hp.2.2
    have e1 : d'.extract 0 n = d' := by rw [← hds]; simp
    have e2 : xs.toArray.extract 0 n = xs.toArray := by
      have : n = xs.toArray.size := by simp [HN.out]
      rw [this]; simp
    rw [e1, e2] at h2
    simpa using h2
  have hlex : d'.toList.Pairwise lexE := sorted_lex (by rw [hds]; exact hs)
  have hl2 : g < (sortWorldK ev 5 w1 g 0 q d' os).heap.size := Nat.lt_of_lt_of_le hgl hgr.size
  have HALL := hid (show _ ∧ _ ∧ _ ∧ _ ∧ _ ∧ _ from ⟨show d'.toList.length = n by simpa using hds, hl2, hE, hperm, hlex, hB2⟩)
  clear hK2 hgr hE hB2 hperm hlex hl2 hp hs HS HHK
  generalize sortWorldK ev 5 w1 g 0 q d' os = w3 at *
  go_wp2_with fail
  go_ret
  exact ⟨g, cp, d'.toList, rfl, HALL.out⟩
theorem sort_none (a : Option Addr) (cap : Nat) (w : World) :
    Calls Tryz.prog 33 #[.slice a 0 cap, .func (.func 34) #[] #[]] w fun e w' => e = .returned (.tuple #[]) ∧ w' = w := by
  have h := AnyF.slices_SortFunc_none (P := Tryz.prog) { Tryz.sortRow with } a cap (.func (.func 34) #[] #[]) w
  exact h
theorem sorted_0 (Bs cap : Nat) (a : Option Addr) (w : World) (hBs : w.cell? ⟨Bs, 0, none⟩ = some (.slice a 0 cap)) :
    Calls Tryz.prog 66 #[.func (.func 89) #[] #[.pointer (some ⟨Bs, 0, none⟩)], .func (.func 34) #[] #[]] w fun e w' => ∃ a' cap', e = .returned (.slice a' 0 cap') ∧ Below w.heap.size w w' := by
  have H := hid (collect_c Bs 0 0 cap [] (by simp) w a (fun h => absurd h (by simp)) (fun h => absurd h (by simp)) hBs (fun j hj => absurd hj (by simp)))
  clear hBs
  go_enter Tryz.func66, Tryz.ntmps66
  go_wp2_with fail
  refine H.out.mono ?_
  rintro e w1 ⟨v, rfl, hr, hB⟩
  obtain ⟨a', cp, rfl⟩ : ∃ a' cp, v = .slice a' 0 cp := by
    rcases hr.2 with ⟨h, _⟩ | ⟨g, cp, cur, h, _⟩
    · exact ⟨_, _, h⟩
    · exact ⟨_, _, h⟩
  clear hr
  go_wp2_with fail
  refine (sort_none _ _ _).mono ?_
  rintro e w2 ⟨rfl, rfl⟩
  go_wp2_with fail
  go_ret
  exact ⟨_, _, rfl, hB⟩
end Go.Proofs.YtfajjnkkablneaaGreatDoor
