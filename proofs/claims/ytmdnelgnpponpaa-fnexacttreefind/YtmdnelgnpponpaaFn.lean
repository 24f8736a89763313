/- The specification's TreeOk, over what its height of a knot is. -/
import Derived.Test.YtmdnelgnpponpaaFl
import Derived.BigQuiet
namespace Go.Proofs.Ytmdnelgnpponpaa
open Go.RowKit
set_option linter.unusedSimpArgs false
set_option linter.unusedVariables false
theorem nodup_next {L : List It} {i : Nat} (hi : i < L.length) (h : ((L.take i).map (·.1)).Nodup) (hn : ∀ j (hj : j < L.length), j < i → L[j].1 ≠ L[i].1) : ((L.take (i + 1)).map (·.1)).Nodup := by
  rw [List.take_add_one, List.getElem?_eq_getElem hi, Option.toList_some, List.map_append]
  rw [List.nodup_append]
  refine ⟨h, by simp, ?_⟩
  intro a ha b hb
  simp only [List.map_cons, List.map_nil, List.mem_singleton] at hb
  subst hb
  obtain ⟨x, hx, rfl⟩ := List.mem_map.1 ha
  obtain ⟨j, hj, rfl⟩ := List.getElem_of_mem hx
  rw [List.length_take] at hj
  rw [List.getElem_take]
  exact hn j (by omega) (by omega)
theorem not_nodup {L : List It} {i j : Nat} (hi : i < L.length) (hj : j < L.length) (hji : j < i) (e : L[j].1 = L[i].1) : ¬ (L.map (·.1)).Nodup := by
  intro h
  rw [List.Nodup, List.pairwise_iff_getElem] at h
  have := h j i (by simpa using hj) (by simpa using hi) hji
  simp at this
  exact this e
set_option maxRecDepth 100000 in
set_option maxHeartbeats 4000000 in
theorem spec_TreeOk_of (m lo : Nat) (t : KT) (ia ka : Option Addr) (w : World) (h : Kn lo m w ia ka t) (hz : ksz m t ≤ 1048576) (kh : Int) (CK : Hid (∀ W, Below w.heap.size w W → Calls Try.prog 31 #[kvo t ia ka, .bool true, .int .i64 20] W fun e w' => e = .returned (.int .i64 kh) ∧ Below W.heap.size W w')) : Calls Try.prog 9 #[kvo t ia ka] w fun e w' => e = .returned (.bool (decide (0 ≤ kh) && decide ((itm 20 t).map (·.1)).Nodup && decide ((itm 20 t).length ≤ 400))) ∧ Below w.heap.size w w' := by
  obtain ⟨b0, b1, b2, b3, b4, ni, nk, hf⟩ := kf t
  have C := hid (fun (W : World) (hb : Below w.heap.size w W) => spec_TreeItems m lo t ia ka W (h.below hb) hz)
  have hL := Nat.le_trans (kn_itm m 20 h) hz
  rw [kvo_of hf] at C CK ⊢
  have gT := hid (new_alloc w w.heap.size (.cells #[.int .i64 b0, .int .i64 b1, .int .i64 b2, .int .i64 b3, .bool b4, .slice ia ni ni, .slice ka nk nk] 34) rfl)
  have B0 := hid (balloc (Below.refl w.heap.size w) (.cells #[.int .i64 b0, .int .i64 b1, .int .i64 b2, .int .i64 b3, .bool b4, .slice ia ni ni, .slice ka nk nk] 34))
  clear h hf hz
  generalize itm 20 t = L at *
  go_enter Try.func9, Try.ntmps9
  go_wp2_with fail
  generalize w.alloc (.cells #[.int .i64 b0, .int .i64 b1, .int .i64 b2, .int .i64 b3, .bool b4, .slice ia ni ni, .slice ka nk nk] 34) = v0 at *
  refine (CK.out _ B0.out).mono ?_
  rintro e v1 ⟨rfl, hb⟩
  replace gT := hid (keepheap hb gT.out)
  replace B0 := hid (btrans B0.out hb)
  clear hb CK
  obtain ⟨a0, a1, a2, a3, a4, a5, a6, _, _, _, _, _, _, _⟩ := cell7k gT.out
  by_cases hk : kh < 0
  · have hd : decide (0 ≤ kh) = false := decide_eq_false (by omega)
    have HD := hid hd
    clear hd
    go_wp2_with fail
    go_ret
    rw [HD.out]
    exact ⟨rfl, B0.out⟩
  have HD := hid (show decide (0 ≤ kh) = true from decide_eq_true (by omega))
  have hkn : ¬ kh < 0 := hk
  clear hk
  go_wp2_with fail
  clear hkn
  refine (C.out _ B0.out).mono ?_
  rintro e v2 ⟨g, c, rfl, hG, hb⟩
  have HR := hid hG.r
  replace B0 := hid (btrans B0.out hb)
  clear hG hb C gT a0 a1 a2 a3 a4 a5 a6
  go_wp2_with fail
  go_loopw [4] (fun ti wr => ∃ i : Nat, ti = .int .i64 i ∧ i ≤ L.length ∧ Hid (((L.take i).map (·.1)).Nodup) ∧ Hid (Below w.heap.size w wr) ∧ Hid (Below v2.heap.size v2 wr)) (fun ti _ => L.length - (intOf ti).toNat)
  case atStart => exact ⟨0, rfl, Nat.zero_le _, hid (by simp), B0, hid (Below.refl _ _)⟩
  case round =>
    clear B0
    obtain ⟨i, rfl, hi, HN, B0, B1⟩ := hrel
    by_cases hlt : i < L.length
    · have hiI : (i : Int) < (L.length : Int) := by omega
      go_wp2_with fail
      go_loopw [5] (fun tk wr' => ∃ k : Nat, tk = .int .i64 k ∧ k ≤ i ∧ Hid (∀ j (hj : j < L.length), j < k → L[j].1 ≠ L[i].1) ∧ Hid (Below w.heap.size w wr') ∧ Hid (Below v2.heap.size v2 wr')) (fun tk _ => i - (intOf tk).toNat)
      case atStart => exact ⟨0, rfl, Nat.zero_le _, hid (fun j hj h => by omega), B0, B1⟩
      case round =>
        clear B0 B1
        obtain ⟨k, rfl, hk2, HK, B0, B1⟩ := hrel
        by_cases hlk : k < i
        · have hkI : (k : Int) < (i : Int) := by omega
          have hkl : k < L.length := by omega
          have hkL : (k : Int) < (L.length : Int) := by omega
          have hk0 : (0 : Int) ≤ (k : Int) := by omega
          have hi0 : (0 : Int) ≤ (i : Int) := by omega
          obtain ⟨c0, _, _, _, _⟩ := ((HR.out.below B1.out).2 i hlt).item
          obtain ⟨d0, _, _, _, _⟩ := ((HR.out.below B1.out).2 k hkl).item
          have HY := hid (fun (e : L[k].1 = L[i].1) => not_nodup hlt hkl hlk e)
          have HX := hid (fun (e : L[k].1 ≠ L[i].1) j (hj : j < L.length) (hjk : j < k + 1) => show L[j].1 ≠ L[i].1 by
            by_cases ej : j = k
            · subst ej; exact e
            · exact HK.out j hj (by omega))
          generalize L[k].1 = y at c0 d0 HY HX
          generalize hxi : L[i].1 = x at c0 d0 HY
          have Hxi := hid hxi
          clear hxi
          by_cases exy : x = y
          · have hN := HY.out exy.symm
            have HNo := hid (decide_eq_false hN)
            subst exy
            clear hN HX HY HK
            go_wp2_with fail
            go_quiet (fail)
            go_wp2_with fail
            go_ret
            rw [HD.out, HNo.out]
            exact ⟨rfl, ⟨B0.out.os, B0.out.tape, B0.out.output, B0.out.size, B0.out.block⟩⟩
          · have exb : (x == y) = false := by rw [beq_eq_false_iff_ne]; exact exy
            have HK2 := hid (HX.out (fun e => exy (by rw [← Hxi.out]; exact e.symm)))
            clear HX HY HK
            go_wp2_with fail
            go_quiet (fail)
            go_wp2_with fail
            go_roundw
            case rel => exact ⟨k + 1, by go_num, by omega, hid (fun j hj hjk => by have := HK2.out j hj hjk; rw [Hxi.out] at this; exact this), hid ⟨B0.out.os, B0.out.tape, B0.out.output, B0.out.size, B0.out.block⟩, hid ⟨B1.out.os, B1.out.tape, B1.out.output, B1.out.size, B1.out.block⟩⟩
            case measure => simp [intOf]; omega
        · have hkI : ¬ (k : Int) < (i : Int) := by omega
          have HN2 := hid (nodup_next hlt HN.out (fun j hj hji => HK.out j hj (by omega)))
          clear HK
          go_wp2_with fail
          go_roundw
          case rel => exact ⟨i + 1, by go_num, by omega, HN2, B0, B1⟩
          case measure => simp [intOf]; omega
    · have hiI : ¬ (i : Int) < (L.length : Int) := by omega
      have e : i = L.length := by omega
      subst e
      have HND : Hid (decide ((L.map (·.1)).Nodup) = true) := hid (decide_eq_true (by have := HN.out; rwa [List.take_length] at this))
      by_cases h4 : L.length ≤ 400
      · have h4I : (L.length : Int) ≤ 400 := by omega
        have HD4 := hid (decide_eq_true h4)
        clear h4
        go_wp2_with fail
        go_ret
        (try rw [HD.out])
        rw [HND.out, HD4.out]
        exact ⟨rfl, B0.out⟩
      · have h4I : ¬ (L.length : Int) ≤ 400 := by omega
        have HD4 := hid (decide_eq_false h4)
        clear h4
        go_wp2_with fail
        go_ret
        (try rw [HD.out])
        rw [HND.out, HD4.out]
        exact ⟨rfl, B0.out⟩
end Go.Proofs.Ytmdnelgnpponpaa
