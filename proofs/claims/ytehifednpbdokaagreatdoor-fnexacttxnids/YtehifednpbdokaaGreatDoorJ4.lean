/- Texts of stores, joined: RwG, RwH, RwD, RwF, Ya. -/
import Derived.Test.YtehifednpbdokaaGreatDoorJ2
import Derived.Test.YtehifednpbdokaaGreatDoorAreaM
import Derived.Maps.AppendAt
import Derived.Test.YtehifednpbdokaaGreatDoorRwJ
import Derived.Test.YtehifednpbdokaaGreatDoorShelfI
namespace Go.Proofs.YtehifednpbdokaaGreatDoor
open Go.RowKit
set_option linter.unusedSimpArgs false
set_option linter.unusedVariables false
theorem Tryz.infoI : (Tryz.prog.info? 3).map (fun i => (i.zero, i.size, i.bytes)) = some (some (.int .i64 0), 1, 8) := by kernel_rfl
def IAt (w : World) (b off : Nat) (zs : List Int) : Prop := ∀ k, k < zs.length → w.cell? ⟨b, off + k, none⟩ = some (.int .i64 (zs.getD k 0))
/-- A list of whole numbers that may be written into: nil, or a block of its own. -/
def OwnI (w : World) (a : Option Addr) (zs : List Int) : Prop := (a = none ∧ zs = []) ∨ ∃ b, a = some ⟨b, 0, none⟩ ∧ b < w.heap.size ∧ IAt w b 0 zs ∧ w.there b 0 zs.length
theorem OwnI.blk {w w' : World} {a : Option Addr} {zs : List Int} (h : OwnI w a zs) (hs : w.heap.size ≤ w'.heap.size) (e : ∀ b off, a = some ⟨b, off, none⟩ → w'.heap[b]? = w.heap[b]?) : OwnI w' a zs := by
  rcases h with ⟨rfl, rfl⟩ | ⟨b, rfl, h1, h2, h3⟩
  · exact .inl ⟨rfl, rfl⟩
  · have eb := e b 0 rfl
    refine .inr ⟨b, rfl, by omega, fun k hk => ?_, fun j hj => ?_⟩
    · simp only [World.cell?, eb]; exact h2 k hk
    · simp only [World.cell?, World.frozen?, eb]; exact h3 j hj
theorem OwnI.lt {w : World} {a : Option Addr} {zs : List Int} (h : OwnI w a zs) : ∀ c off, a = some ⟨c, off, none⟩ → c < w.heap.size := by
  intro c off e
  rcases h with ⟨rfl, rfl⟩ | ⟨b, rfl, h, _⟩
  · cases e
  · cases e; exact h
theorem OwnI.below {w w' : World} {a : Option Addr} {zs : List Int} (h : OwnI w a zs) (H : Below w.heap.size w w') : OwnI w' a zs := h.blk H.size (fun b off e => H.block b (h.lt b off e))
theorem OwnI.grown {w w' : World} {a : Option Addr} {zs : List Int} {r : Option Nat} (h : OwnI w a zs) (hg : w.grownBy w' r) (hne : ∀ c off, a = some ⟨c, off, none⟩ → some c ≠ r) : OwnI w' a zs := h.blk hg.size (fun b off e => hg.block b (h.lt b off e) (hne b off e))
theorem OwnI.map_blk {a : Option Addr} {c : Nat} {w : World} {zs : List Int} (h : OwnI w a zs) (e : a.map (·.block) = some c) : a = some ⟨c, 0, none⟩ := by
  rcases h with ⟨rfl, rfl⟩ | ⟨b, rfl, h⟩
  · simp at e
  · simp at e; rw [e]
theorem OwnI.at {w : World} {a : Option Addr} {zs : List Int} (h : OwnI w a zs) {k : Nat} (hk : k < zs.length) : ∃ b, a = some ⟨b, 0, none⟩ ∧ w.cell? ⟨b, k, none⟩ = some (.int .i64 (zs.getD k 0)) ∧ w.frozen? ⟨b, k, none⟩ = false := by
  rcases h with ⟨rfl, rfl⟩ | ⟨b, rfl, h1, h2, h3⟩
  · simp at hk
  · refine ⟨b, rfl, by simpa using h2 k hk, ?_⟩
    simpa using (h3 k hk).2
def mki (n : Nat) : List Int := (List.range n).map (fun (k : Nat) => (1 : Int) + (k : Int))
theorem mki_len (n : Nat) : (mki n).length = n := by simp [mki]
theorem mki_at {n k : Nat} (h : k < n) : (mki n).getD k 0 = 1 + (k : Int) := by
  simp [mki, List.getD_eq_getElem?_getD, List.getElem?_map, List.getElem?_range h]
set_option maxHeartbeats 1000000 in
theorem eq_ints (a b : Option Addr) (cap cap' : Nat) (zs : List Int) (w : World) (hm : zs.length ≤ 1099511627776) (p1 : OwnI w a zs) (p2 : OwnI w b zs) : Calls Tryz.prog 19 #[.slice a zs.length cap, .slice b zs.length cap'] w fun e w' => e = .returned (.bool true) ∧ Below w.heap.size w w' := by
  have HP1 := hid p1
  have HP2 := hid p2
  clear p1 p2
  obtain ⟨n, hn⟩ : ∃ n, n = zs.length := ⟨_, rfl⟩
  have HN := hid hn.symm
  rw [← hn] at hm ⊢
  clear hn
  go_enter Tryz.func19, Tryz.ntmps19
  go_wp2_with fail
  go_loopw [5] (fun ti wr => ∃ k : Nat, ti = .int .i64 k ∧ k ≤ n ∧ Hid (Below w.heap.size w wr)) (fun ti _ => n - (intOf ti).toNat)
  case atStart => exact ⟨0, rfl, Nat.zero_le _, hid (Below.refl _ _)⟩
  case round =>
    obtain ⟨k, rfl, hk, HB⟩ := hrel
    by_cases hlt : k < n
    · have c1 : (k : Int) < (n : Int) := by omega
      obtain ⟨b1, rfl, d1, _⟩ := (HP1.out.below HB.out).at (k := k) (by rw [HN.out]; exact hlt)
      obtain ⟨b2, rfl, d2, _⟩ := (HP2.out.below HB.out).at (k := k) (by rw [HN.out]; exact hlt)
      generalize zs.getD k 0 = z at *
      go_wp2_with fail
      go_quiet (fail)
      go_wp2_with fail
      go_roundw
      case rel => exact ⟨k + 1, by go_num, by omega, hid (HB.out.trans ⟨rfl, rfl, rfl, Nat.le_refl _, fun _ _ => rfl⟩)⟩
      case measure => simp [intOf]; omega
    · have c1 : (n : Int) ≤ (k : Int) := by omega
      go_wp2_with fail
      go_ret
      exact ⟨rfl, HB.out⟩
theorem setI {w : World} {b k n : Nat} {v : Int} (hb : b < w.heap.size) (hk : k < n) (h : ∀ i, i < k → w.cell? ⟨b, i, none⟩ = some (.int .i64 (1 + (i : Int)))) (ht : w.there b 0 n) (hv : v = 1 + (k : Int)) : (∀ i, i < k + 1 → (w.setCell ⟨b, k, none⟩ (.int .i64 v)).cell? ⟨b, i, none⟩ = some (.int .i64 (1 + (i : Int)))) ∧ (w.setCell ⟨b, k, none⟩ (.int .i64 v)).there b 0 n := by
  subst hv
  obtain ⟨c0, _⟩ := ht k hk
  obtain ⟨u0, hu0⟩ := Option.isSome_iff_exists.1 c0
  simp only [Nat.zero_add] at hu0
  refine ⟨fun i hi => ?_, fun j hj => ?_⟩
  · by_cases e : i = k
    · subst e; exact World.cell?_setCell_same _ _ _ hu0
    · rw [World.cell?_setCell_other _ _ _ _ (by intro q; injection q; omega)]; exact h i (by omega)
  · obtain ⟨h1, h2⟩ := ht j hj
    refine ⟨?_, by rw [World.frozen?_setCell]; exact h2⟩
    obtain ⟨u, hu⟩ := Option.isSome_iff_exists.1 h1
    obtain ⟨u', hu'⟩ := cell?_setCell_some (p := ⟨b, k, none⟩) (x := .int .i64 (1 + (k : Int))) hu
    rw [hu']; rfl
set_option maxRecDepth 100000 in
set_option maxHeartbeats 1000000 in
theorem mark_ints (w : World) (a : Option Addr) (cap : Nat) (zs : List Int) (hm : zs.length ≤ 1099511627776) (h : OwnI w a zs) : Calls Tryz.prog 20 #[.slice a zs.length cap, .int .i64 1] w fun e w' => e = .returned (.int .i64 (1 + (zs.length : Int))) ∧ OwnI w' a (mki zs.length) ∧ w.grownBy w' (a.map (·.block)) := by
  rcases h with ⟨rfl, rfl⟩ | ⟨b, rfl, hb, hp, ht⟩
  · go_enter Tryz.func20, Tryz.ntmps20
    go_wp2_with fail
    go_loopw [1, 5] (fun tk' ti wr => tk' = .int .i64 1 ∧ ti = .int .i64 0 ∧ wr = w) (fun _ _ _ => 0)
    case atStart => exact ⟨rfl, rfl, rfl⟩
    case round =>
      obtain ⟨rfl, rfl, rfl⟩ := hrel
      go_wp2_with fail
      go_ret
      exact ⟨by first | rfl | (simp; done) | (show Ending.returned (.int .i64 1) = _; simp), .inl ⟨rfl, rfl⟩, grown_same _ _⟩
  · generalize hn : zs.length = n at *
    clear hp
    go_enter Tryz.func20, Tryz.ntmps20
    go_wp2_with fail
    go_loopw [1, 5] (fun tk' ti wr => ∃ k : Nat, ti = .int .i64 k ∧ tk' = .int .i64 (1 + (k : Int)) ∧ k ≤ n ∧ Hid (b < wr.heap.size ∧ (∀ i, i < k → wr.cell? ⟨b, i, none⟩ = some (.int .i64 (1 + (i : Int)))) ∧ wr.there b 0 n ∧ w.grownBy wr (some b))) (fun _ ti _ => n - (intOf ti).toNat)
    case atStart => exact ⟨0, rfl, rfl, Nat.zero_le _, hid ⟨hb, fun j hj => absurd hj (by omega), ht, grown_same _ _⟩⟩
    case round =>
      obtain ⟨k, rfl, rfl, hk, HH⟩ := hrel
      by_cases hlt : k < n
      · have c1 : (k : Int) < (n : Int) := by omega
        obtain ⟨g0, g0'⟩ := HH.out.2.2.1 k hlt
        obtain ⟨u0, hu0⟩ := Option.isSome_iff_exists.1 g0
        simp only [Nat.zero_add] at hu0 g0'
        clear g0
        go_wp2_with fail
        go_roundw
        case rel =>
          obtain ⟨r1, r2⟩ := setI (v := 1 + (k : Int)) HH.out.1 hlt HH.out.2.1 HH.out.2.2.1 rfl
          exact ⟨k + 1, by go_num, by go_num, by omega, hid ⟨by simpa using HH.out.1, r1, r2, grown_trans HH.out.2.2.2 (grown_set _ _ _ _)⟩⟩
        case measure => simp [intOf]; omega
      · obtain rfl : k = n := by omega
        go_wp2_with fail
        go_ret
        exact ⟨rfl, .inr ⟨b, rfl, HH.out.1, fun i hi => by rw [mki_len] at hi; rw [mki_at hi]; simpa using HH.out.2.1 i hi, by rw [mki_len]; exact HH.out.2.2.1⟩, HH.out.2.2.2⟩
set_option maxRecDepth 100000 in
set_option maxHeartbeats 1000000 in
theorem held_ints (w : World) (a : Option Addr) (cap n : Nat) (hm : n ≤ 1099511627776) (h : OwnI w a (mki n)) : Calls Tryz.prog 21 #[.slice a n cap, .int .i64 1] w fun e w' => e = .returned (.int .i64 (1 + (n : Int))) ∧ Below w.heap.size w w' := by
  have HP := hid h
  clear h
  go_enter Tryz.func21, Tryz.ntmps21
  go_wp2_with fail
  go_loopw [1, 5] (fun tk' ti wr => ∃ k : Nat, ti = .int .i64 k ∧ tk' = .int .i64 (1 + (k : Int)) ∧ k ≤ n ∧ wr = w) (fun _ ti _ => n - (intOf ti).toNat)
  case atStart => exact ⟨0, rfl, rfl, Nat.zero_le _, rfl⟩
  case round =>
    obtain ⟨k, rfl, rfl, hk, hw⟩ := hrel
    subst hw
    by_cases hlt : k < n
    · have c1 : (k : Int) < (n : Int) := by omega
      obtain ⟨b, rfl, d0, _⟩ := HP.out.at (k := k) (by rw [mki_len]; exact hlt)
      rw [mki_at hlt] at d0
      go_wp2_with fail
      go_roundw
      case rel => exact ⟨k + 1, by go_num, by go_num, by omega, by first | rfl | trivial⟩
      case measure => simp [intOf]; omega
    · obtain rfl : k = n := by omega
      go_wp2_with fail
      go_ret
      exact ⟨rfl, Below.refl _ _⟩
end Go.Proofs.YtehifednpbdokaaGreatDoor
namespace Go.Proofs.YtehifednpbdokaaGreatDoor
open Go.RowKit
set_option linter.unusedSimpArgs false
set_option linter.unusedVariables false
def fli (zs : List Int) : List Value := zs.map (Value.int .i64)
theorem fli_len (zs : List Int) : (fli zs).length = zs.length := by simp [fli]
theorem fli_one (zs : List Int) : ∀ u ∈ fli zs, u.oneCell' = true := by
  intro u hu
  simp only [fli, List.mem_map] at hu
  obtain ⟨z, _, rfl⟩ := hu
  rfl
theorem own_newI {w : World} {B : Nat} (hB : B ≤ w.heap.size) : (w.alloc (.cells #[] 3)).ownsRow B 3 1 (.slice (some ⟨w.heap.size, 0, none⟩) 0 0) 0 [] := by
  have := World.ownsRow_made (base := B) (e := 3) (size := 1) w #[] 0 hB (by decide) rfl
  simpa using this
theorem own_newI2 {w : World} {B X : Nat} (hB : B ≤ w.heap.size) (hX : w.heap.size = X) : (w.alloc (.cells #[] 3)).ownsRow B 3 1 (.slice (some ⟨X, 0, none⟩) 0 0) 0 [] := by
  subst hX; exact own_newI hB
theorem own_cell {w : World} {B g n cap : Nat} {zs : List Int} (h : w.ownsRow B 3 1 (.slice (some ⟨g, 0, none⟩) n cap) n (fli zs)) (hn : zs.length = n) {k : Nat} (hk : k < n) : w.cell? ⟨g, k, none⟩ = some (.int .i64 (zs.getD k 0)) := by
  rw [World.ownsRow.cellAt h k (by omega)]
  simp [fli, List.getD_eq_getElem?_getD, List.getElem?_eq_getElem (show k < zs.length by omega)]
theorem own_I {w : World} {B g n cap : Nat} {zs : List Int} (h : w.ownsRow B 3 1 (.slice (some ⟨g, 0, none⟩) n cap) n (fli zs)) (hn : zs.length = n) : B ≤ g ∧ n ≤ cap ∧ OwnI w (some ⟨g, 0, none⟩) zs := by
  have h' := h
  rcases h.2 with ⟨q, _⟩ | ⟨g', cap', cur, e, hb, hg, hc, _⟩
  · cases q
  · cases e
    refine ⟨hb, hc, .inr ⟨g, rfl, (Array.getElem?_eq_some_iff.1 hg).1, fun k hk => ?_, fun j hj => ?_⟩⟩
    · rw [Nat.zero_add]; exact own_cell h' hn (by omega)
    · simp only [Nat.zero_add]
      refine ⟨?_, World.ownsRow.frozenAt h' j⟩
      rw [own_cell h' hn (by omega)]; rfl
theorem news_i {w V : World} {B g n cap : Nat} {zs : List Int} (o : Nat) (ys : List Int) (h : w.ownsRow B 3 1 (.slice (some ⟨g, 0, none⟩) n cap) n (fli zs)) (hn : zs.length = n) (hB : Below w.heap.size w V) (hy : ∀ k, k < ys.length → o + k < zs.length ∧ ys.getD k 0 = zs.getD (o + k) 0) : ∀ j u, (fli ys)[j]? = some u → V.cell? ((⟨g, o, none⟩ : Addr).add j) = some u := by
  intro j u hu
  have hj : j < ys.length := by rw [← fli_len]; exact (List.getElem?_eq_some_iff.1 hu).1
  obtain ⟨h1, h2⟩ := hy j hj
  rw [Addr.add_mid]
  have c := keepcell hB (own_cell (k := o + j) h hn (by omega))
  rw [c, ← hu, ← h2]
  simp [fli, List.getD_eq_getElem?_getD, List.getElem?_eq_getElem hj]
theorem news_1 {W : World} {X : Nat} {x : Int} (h : W.cell? ⟨X, 0, none⟩ = some (.int .i64 x)) : ∀ j u, (fli [x])[j]? = some u → W.cell? ((⟨X, 0, none⟩ : Addr).add j) = some u := by
  intro j u hu
  have hj : j = 0 := by have := (List.getElem?_eq_some_iff.1 hu).1; simp [fli] at this; omega
  subst hj
  simp [fli] at hu
  rw [Addr.add_mid, ← hu]
  exact h
theorem take_at (zs : List Int) (j k : Nat) (h : k < (zs.take j).length) : 0 + k < zs.length ∧ (zs.take j).getD k 0 = zs.getD (0 + k) 0 := by
  simp at h
  refine ⟨by omega, ?_⟩
  simp [List.getD_eq_getElem?_getD, List.getElem?_take, show k < j by omega]
theorem drop_at (zs : List Int) (j k : Nat) (h : k < (zs.drop j).length) : j + k < zs.length ∧ (zs.drop j).getD k 0 = zs.getD (j + k) 0 := by
  simp at h
  refine ⟨by omega, ?_⟩
  simp [List.getD_eq_getElem?_getD, List.getElem?_drop]
/-- An append to a list of its own that is no nil, at a step of a region that draws its order; the source may be empty. -/
theorem step_append_any {P : Program} {w : World} {ops : Array Oper} {o : Oper} {a : Act} {K : Act → World → Prop} {Q : Exit → Act → World → Prop} {E : Prop} (hgd : o.guard = none) (s x : Operand) (t : TypeId)
    (ho : o.op = .call { callee := .builtin .append, args := #[s, x], argTypes := #[t, t] })
    (base : Nat) (e : TypeId) (i : TypeInfo) (z : Value) (size bytes : Nat) (ht : P.underlying t = some (.slice e)) (hi : P.info? e = some i) (hz : i.zero = some z)
    (hsize : i.size = size) (hby : i.bytes = bytes) (hzs : z.cells.size = size) (hsz : 0 < size)
    (g0 n0 cap0 : Nat) (n : Nat) (xs : List Value) (hs : a.eval s = .slice (some ⟨g0, 0, none⟩) n0 cap0) (hown : w.ownsRow base e size (.slice (some ⟨g0, 0, none⟩) n0 cap0) n xs)
    (ad : Addr) (m c : Nat) (news : List Value) (hx : a.eval x = .slice (some ad) m c) (hl : news.length = m * size) (hnews : ∀ j u, news[j]? = some u → w.cell? (ad.add j) = some u) (h1 : ∀ u ∈ news, u.oneCell' = true)
    (h63 : n + m ≤ maxLen) (hbytes : (n + m) * bytes ≤ 140737488355328) (hbase : base ≤ w.heap.size)
    (h : ∀ g cap w', w'.ownsRow base e size (.slice (some ⟨g, 0, none⟩) (n + m) cap) (n + m) (xs ++ news) → w.grownBy w' (some g0) → (g = g0 ∨ g = w.heap.size) → K (a.put o.dst (.slice (some ⟨g, 0, none⟩) (n + m) cap)) w') :
    if Region.wanted o (yielded ops a.tmps) = true then Oper.wp P o a w K Q else E := by
  have hw : Region.wanted o (yielded ops a.tmps) = true := by simp [Region.wanted, hgd]
  rw [if_pos hw]
  obtain ⟨v', w', hr, h2, h3, h4, h5⟩ := run_append_own_at (P := P) w base t o.type e i z size bytes ht hi hz hsize hby hzs hsz _ n xs hown ad m c news hl hnews h1 h63 hbytes hbase
  have hne : v' ≠ .slice none 0 0 := fun e => by have := (h4.1 e).1; cases this
  obtain ⟨g, cap, cur, rfl, _⟩ : ∃ g cap cur, v' = .slice (some ⟨g, 0, none⟩) (n + m) cap ∧ cur = () := by
    rcases h2.2 with ⟨q, _⟩ | ⟨g, cap, cur, e, _⟩
    · exact absurd q hne
    · exact ⟨g, cap, (), e, rfl⟩
  unfold Oper.wp execOp
  simp only [ho, resolve, invoke, builtin, Sem.run_bind, Sem.run_pure, Result.andThen_ok, List.map_toArray, List.map_cons, List.map_nil, hs, hx, hr]
  refine h g cap w' h2 h3 ?_
  rcases h5 with h5 | h5
  · left; simpa [Value.ownBlock] using h5
  · right; simpa [Value.ownBlock] using h5
set_option maxRecDepth 100000 in
set_option maxHeartbeats 4000000 in
theorem add_c (B g n cap : Nat) (zs : List Int) (x : Int) (w : World) (hm : n ≤ 1099511627776) (hn : zs.length = n) (hc : n ≤ cap) (hgs : g < w.heap.size) (h : w.ownsRow B 3 1 (.slice (some ⟨g, 0, none⟩) n cap) n (fli zs)) : Calls Tryz.prog 49 #[.slice (some ⟨g, 0, none⟩) n cap, .int .i64 x] w fun e w' => ∃ j g' cap', j ≤ n ∧ (∀ k, k < j → zs.getD k 0 < x) ∧ (j < n → x ≤ zs.getD j 0) ∧ e = .returned (.slice (some ⟨g', 0, none⟩) (n + 1) cap') ∧ w'.ownsRow w.heap.size 3 1 (.slice (some ⟨g', 0, none⟩) (n + 1) cap') (n + 1) (fli (zs.take j ++ x :: zs.drop j)) ∧ Below w.heap.size w w' := by
  obtain ⟨i0, hi0, hz0, hz1, hz2⟩ := info_parts Tryz.infoI
  have HO := hid h
  have HN := hid hn
  have hcc : ∀ k, k < n → w.cell? ⟨g, k, none⟩ = some (.int .i64 (zs.getD k 0)) := fun k hk => own_cell h hn hk
  have HCC := hid hcc
  clear h hn hcc
  go_enter Tryz.func49, Tryz.ntmps49
  go_wp2_with fail
  go_loopw [5] (fun ti wr => ∃ j : Nat, ti = .int .i64 j ∧ j ≤ n ∧ Hid (∀ k, k < j → zs.getD k 0 < x) ∧ wr = w) (fun ti _ => n - (intOf ti).toNat)
  case atStart => exact ⟨0, rfl, Nat.zero_le _, hid (fun k h => absurd h (by omega)), rfl⟩
  case round =>
    obtain ⟨j, rfl, hj, HL, hw⟩ := hrel
    subst hw
    have hgo : (j < n → x ≤ zs.getD j 0) ∨ (j < n ∧ zs.getD j 0 < x) := by
      by_cases h1 : j < n
      · by_cases h2 : zs.getD j 0 < x
        · exact .inr ⟨h1, h2⟩
        · exact .inl (fun _ => by omega)
      · exact .inl (fun h => absurd h h1)
    rcases hgo with hgo | ⟨hlt, hx⟩
    rotate_left
    · have c1 : (j : Int) < (n : Int) := by omega
      have d0 := HCC.out j hlt
      have HX : Hid (∀ k, k < j + 1 → zs.getD k 0 < x) := hid (fun k hk => by
        by_cases e : k = j
        · subst e; exact hx
        · exact HL.out k (by omega))
      generalize zs.getD j 0 = z at *
      go_wp2_with fail
      go_roundw
      case rel => exact ⟨j + 1, by go_num, by omega, HX, by first | rfl | trivial⟩
      case measure => simp [intOf]; omega
    have HGO := hid hgo
    have hj0 : (0 : Int) ≤ (j : Int) := by omega
    have hj1 : (j : Int) ≤ (n : Int) := by omega
    have hj2 : (j : Int) ≤ (cap : Int) := by omega
    have hnc : (n : Int) ≤ (cap : Int) := by omega
    have htl : (zs.take j).length = j := by rw [List.length_take, HN.out]; omega
    have hdl : (zs.drop j).length = n - j := by rw [List.length_drop, HN.out]
    have HEND : Hid (∀ (W : World) (g' c' : Nat), W.ownsRow wr.heap.size 3 1 (.slice (some ⟨g', 0, none⟩) (j + 1 + (n - j)) c') (j + 1 + (n - j)) ((fli (zs.take j) ++ fli [x]) ++ fli (zs.drop j)) → W.ownsRow wr.heap.size 3 1 (.slice (some ⟨g', 0, none⟩) (n + 1) c') (n + 1) (fli (zs.take j ++ x :: zs.drop j))) := hid (fun W g' c' h => by
      have e1 : j + 1 + (n - j) = n + 1 := by omega
      have e2 : (fli (zs.take j) ++ fli [x]) ++ fli (zs.drop j) = fli (zs.take j ++ x :: zs.drop j) := by simp [fli]
      rw [e1, e2] at h
      exact h)
    have HSTOP : Hid (j < n ∨ j = n) := hid (by omega)
    clear hgo
    by_cases hlt : j < n
    · have c1 : (j : Int) < (n : Int) := by omega
      have hnx : ¬ (zs.getD j 0 < x) := by have := HGO.out hlt; omega
      have d0 := HCC.out j hlt
      have HNX := hid hnx
      have hnx2 : x ≤ zs.getD j 0 := by omega
      have hcj : ¬ cap = j := by omega
      generalize hz : zs.getD j 0 = z at d0 hnx2
      have HZ := hid hz
      clear hz hnx
      go_wp2_with fail
      clear d0
      go_region_held3 (fun w' => True) (trivial)
        (first
          | (refine step_append_any (by rfl) (.tmp 20) (.tmp 23) 46 (by rfl) wr.heap.size 3 i0 _ 1 8 Tryz.underlying46 hi0 hz0 hz1 hz2 rfl (by omega) _ _ _ 0 [] (by rfl) (by first | with_reducible exact (own_newI (Nat.le_refl _)).drew | with_reducible exact ((own_newI (Nat.le_refl _)).alloc _).drew | with_reducible exact (own_newI2 (by simp) (by simp)).drew) ⟨g, 0, none⟩ j _ (fli (zs.take j)) (by rfl) (by rw [fli_len, htl]; omega) (news_i 0 _ HO.out HN.out (by (repeat (first | with_reducible exact Below.refl _ _ | with_reducible assumption | (with_reducible refine btrans ?_ (by with_reducible assumption)) | with_reducible refine bdrew ?_ | with_reducible refine balloc ?_ _))) (take_at zs j)) (fli_one _) (by unfold maxLen; omega) (by omega) (by first | (simp; done) | (simp; omega) | omega) ?_; intro g1 c1 w1 hown1 hgrow1 hat1; simp only [Nat.zero_add, List.nil_append] at hown1; have hownZ : w1.ownsRow wr.heap.size 3 1 (.slice (some ⟨g1, 0, none⟩) (0 + j) c1) j (fli (zs.take j)) := (by rw [Nat.zero_add]; exact hown1); have hB1 : Below wr.heap.size wr w1 := Below.grown (show Below wr.heap.size wr _ by (repeat (first | with_reducible exact Below.refl _ _ | with_reducible assumption | (with_reducible refine btrans ?_ (by with_reducible assumption)) | with_reducible refine bdrew ?_ | with_reducible refine balloc ?_ _))) hgrow1 (by first | (simp; done) | (simp; omega)) (fun k e => by cases e; first | omega | (simp; done)); have hgl1 := (hown1.lt g1 rfl).2; (first | (have hX1 : w1.cell? ⟨wr.heap.size + 1, 0, none⟩ = some (.int .i64 x) := by refine hgrow1.cell ?_ (by simp); ( (repeat (first | with_reducible assumption | with_reducible refine keepdrew ?_ | (with_reducible refine newcell _ _ _ _ _ _ ?_ rfl; simp; done) | with_reducible refine keepalloc ?_ _)); done)) | (have hX1 : w1.cell? ⟨wr.heap.size, 0, none⟩ = some (.int .i64 x) := by refine hgrow1.cell ?_ (by simp); ((repeat (first | with_reducible assumption | with_reducible refine keepdrew ?_ | (with_reducible refine newcell _ _ _ _ _ _ ?_ rfl; simp; done) | with_reducible refine keepalloc ?_ _)); done)) | skip))
          | (refine step_append_any (by rfl) (.tmp 24) (.tmp 26) 46 (by rfl) wr.heap.size 3 i0 _ 1 8 Tryz.underlying46 hi0 hz0 hz1 hz2 rfl (by omega) _ _ _ j (fli (zs.take j)) (by rfl) (by first | with_reducible exact hown1 | with_reducible exact hownZ | with_reducible exact hown1.alloc _ | with_reducible exact hownZ.alloc _) _ 1 1 (fli [x]) (by rfl) (by rfl) (by first | with_reducible exact news_1 hX1 | with_reducible exact news_1 (by (repeat (first | with_reducible assumption | with_reducible refine keepdrew ?_ | (with_reducible refine newcell _ _ _ _ _ _ ?_ rfl; simp; done) | with_reducible refine keepalloc ?_ _)); done)) (fli_one _) (by unfold maxLen; omega) (by omega) (by first | exact hB1.size | (have := hB1.size; simp; omega)) ?_; intro g2 c2 w2 hown2 hgrow2 hat2; have hB2 : Below wr.heap.size wr w2 := Below.grown (show Below wr.heap.size wr _ by (repeat (first | with_reducible exact Below.refl _ _ | with_reducible assumption | (with_reducible refine btrans ?_ (by with_reducible assumption)) | with_reducible refine bdrew ?_ | with_reducible refine balloc ?_ _))) hgrow2 (by first | exact hB1.size | (have := hB1.size; simp; omega)) (fun k e => by cases e; exact (hown1.lt _ rfl).1))
          | (refine step_append_any (by rfl) (.tmp 27) (.tmp 30) 46 (by rfl) wr.heap.size 3 i0 _ 1 8 Tryz.underlying46 hi0 hz0 hz1 hz2 rfl (by omega) _ _ _ (j + 1) (fli (zs.take j) ++ fli [x]) (by rfl) (hown2) _ (n - j) _ (fli (zs.drop j)) (by rfl) (by rw [fli_len, hdl]; omega) (by first | exact news_i j _ HO.out HN.out hB2 (drop_at zs j) | exact news_i 0 _ HO.out HN.out hB2 (fun k hk => absurd hk (by rw [hdl]; omega))) (fli_one _) (by unfold maxLen; omega) (by omega) (hB2.size) ?_; intro g3 c3 w3 hown3 hgrow3 hat3; have hB3 : Below wr.heap.size wr w3 := Below.grown hB2 hgrow3 hB2.size (fun k e => by cases e; exact (hown2.lt _ rfl).1)))
      all_goals
        have HO3 := hid (HEND.out _ _ _ hown3)
        have HB3 := hid hB3
        clear hown1 hownZ hown2 hown3 hgrow1 hgrow2 hgrow3 hB1 hB2 hB3
        go_wp2_with fail
        go_ret
        exact ⟨j, g3, c3, hj, HL.out, HGO.out, by rw [show j + 1 + (n - j) = n + 1 by omega]; rfl, HO3.out, HB3.out⟩
    · have c1 : (n : Int) ≤ (j : Int) := by omega
      by_cases hcj : cap = j
      · go_wp2_with fail
        go_region_held3 (fun w' => True) (trivial)
          (first
            | (refine step_append_any (by rfl) (.tmp 20) (.tmp 23) 46 (by rfl) wr.heap.size 3 i0 _ 1 8 Tryz.underlying46 hi0 hz0 hz1 hz2 rfl (by omega) _ _ _ 0 [] (by rfl) (by first | with_reducible exact (own_newI (Nat.le_refl _)).drew | with_reducible exact ((own_newI (Nat.le_refl _)).alloc _).drew | with_reducible exact (own_newI2 (by simp) (by simp)).drew) ⟨g, 0, none⟩ j _ (fli (zs.take j)) (by rfl) (by rw [fli_len, htl]; omega) (news_i 0 _ HO.out HN.out (by (repeat (first | with_reducible exact Below.refl _ _ | with_reducible assumption | (with_reducible refine btrans ?_ (by with_reducible assumption)) | with_reducible refine bdrew ?_ | with_reducible refine balloc ?_ _))) (take_at zs j)) (fli_one _) (by unfold maxLen; omega) (by omega) (by first | (simp; done) | (simp; omega) | omega) ?_; intro g1 c1 w1 hown1 hgrow1 hat1; simp only [Nat.zero_add, List.nil_append] at hown1; have hownZ : w1.ownsRow wr.heap.size 3 1 (.slice (some ⟨g1, 0, none⟩) (0 + j) c1) j (fli (zs.take j)) := (by rw [Nat.zero_add]; exact hown1); have hB1 : Below wr.heap.size wr w1 := Below.grown (show Below wr.heap.size wr _ by (repeat (first | with_reducible exact Below.refl _ _ | with_reducible assumption | (with_reducible refine btrans ?_ (by with_reducible assumption)) | with_reducible refine bdrew ?_ | with_reducible refine balloc ?_ _))) hgrow1 (by first | (simp; done) | (simp; omega)) (fun k e => by cases e; first | omega | (simp; done)); have hgl1 := (hown1.lt g1 rfl).2; (first | (have hX1 : w1.cell? ⟨wr.heap.size + 1, 0, none⟩ = some (.int .i64 x) := by refine hgrow1.cell ?_ (by simp); ( (repeat (first | with_reducible assumption | with_reducible refine keepdrew ?_ | (with_reducible refine newcell _ _ _ _ _ _ ?_ rfl; simp; done) | with_reducible refine keepalloc ?_ _)); done)) | (have hX1 : w1.cell? ⟨wr.heap.size, 0, none⟩ = some (.int .i64 x) := by refine hgrow1.cell ?_ (by simp); ((repeat (first | with_reducible assumption | with_reducible refine keepdrew ?_ | (with_reducible refine newcell _ _ _ _ _ _ ?_ rfl; simp; done) | with_reducible refine keepalloc ?_ _)); done)) | skip))
            | (refine step_append_any (by rfl) (.tmp 24) (.tmp 26) 46 (by rfl) wr.heap.size 3 i0 _ 1 8 Tryz.underlying46 hi0 hz0 hz1 hz2 rfl (by omega) _ _ _ j (fli (zs.take j)) (by rfl) (by first | with_reducible exact hown1 | with_reducible exact hownZ | with_reducible exact hown1.alloc _ | with_reducible exact hownZ.alloc _) _ 1 1 (fli [x]) (by rfl) (by rfl) (by first | with_reducible exact news_1 hX1 | with_reducible exact news_1 (by (repeat (first | with_reducible assumption | with_reducible refine keepdrew ?_ | (with_reducible refine newcell _ _ _ _ _ _ ?_ rfl; simp; done) | with_reducible refine keepalloc ?_ _)); done)) (fli_one _) (by unfold maxLen; omega) (by omega) (by first | exact hB1.size | (have := hB1.size; simp; omega)) ?_; intro g2 c2 w2 hown2 hgrow2 hat2; have hB2 : Below wr.heap.size wr w2 := Below.grown (show Below wr.heap.size wr _ by (repeat (first | with_reducible exact Below.refl _ _ | with_reducible assumption | (with_reducible refine btrans ?_ (by with_reducible assumption)) | with_reducible refine bdrew ?_ | with_reducible refine balloc ?_ _))) hgrow2 (by first | exact hB1.size | (have := hB1.size; simp; omega)) (fun k e => by cases e; exact (hown1.lt _ rfl).1))
            | (refine step_append_any (by rfl) (.tmp 27) (.tmp 30) 46 (by rfl) wr.heap.size 3 i0 _ 1 8 Tryz.underlying46 hi0 hz0 hz1 hz2 rfl (by omega) _ _ _ (j + 1) (fli (zs.take j) ++ fli [x]) (by rfl) (hown2) _ (n - j) _ (fli (zs.drop j)) (by rfl) (by rw [fli_len, hdl]; omega) (by first | exact news_i j _ HO.out HN.out hB2 (drop_at zs j) | exact news_i 0 _ HO.out HN.out hB2 (fun k hk => absurd hk (by rw [hdl]; omega))) (fli_one _) (by unfold maxLen; omega) (by omega) (hB2.size) ?_; intro g3 c3 w3 hown3 hgrow3 hat3; have hB3 : Below wr.heap.size wr w3 := Below.grown hB2 hgrow3 hB2.size (fun k e => by cases e; exact (hown2.lt _ rfl).1)))
        all_goals
          have HO3 := hid (HEND.out _ _ _ hown3)
          have HB3 := hid hB3
          clear hown1 hownZ hown2 hown3 hgrow1 hgrow2 hgrow3 hB1 hB2 hB3
          go_wp2_with fail
          go_ret
          exact ⟨j, g3, c3, hj, HL.out, HGO.out, by rw [show j + 1 + (n - j) = n + 1 by omega]; rfl, HO3.out, HB3.out⟩
      · go_wp2_with fail
        go_region_held3 (fun w' => True) (trivial)
          (first
            | (refine step_append_any (by rfl) (.tmp 20) (.tmp 23) 46 (by rfl) wr.heap.size 3 i0 _ 1 8 Tryz.underlying46 hi0 hz0 hz1 hz2 rfl (by omega) _ _ _ 0 [] (by rfl) (by first | with_reducible exact (own_newI (Nat.le_refl _)).drew | with_reducible exact ((own_newI (Nat.le_refl _)).alloc _).drew | with_reducible exact (own_newI2 (by simp) (by simp)).drew) ⟨g, 0, none⟩ j _ (fli (zs.take j)) (by rfl) (by rw [fli_len, htl]; omega) (news_i 0 _ HO.out HN.out (by (repeat (first | with_reducible exact Below.refl _ _ | with_reducible assumption | (with_reducible refine btrans ?_ (by with_reducible assumption)) | with_reducible refine bdrew ?_ | with_reducible refine balloc ?_ _))) (take_at zs j)) (fli_one _) (by unfold maxLen; omega) (by omega) (by first | (simp; done) | (simp; omega) | omega) ?_; intro g1 c1 w1 hown1 hgrow1 hat1; simp only [Nat.zero_add, List.nil_append] at hown1; have hownZ : w1.ownsRow wr.heap.size 3 1 (.slice (some ⟨g1, 0, none⟩) (0 + j) c1) j (fli (zs.take j)) := (by rw [Nat.zero_add]; exact hown1); have hB1 : Below wr.heap.size wr w1 := Below.grown (show Below wr.heap.size wr _ by (repeat (first | with_reducible exact Below.refl _ _ | with_reducible assumption | (with_reducible refine btrans ?_ (by with_reducible assumption)) | with_reducible refine bdrew ?_ | with_reducible refine balloc ?_ _))) hgrow1 (by first | (simp; done) | (simp; omega)) (fun k e => by cases e; first | omega | (simp; done)); have hgl1 := (hown1.lt g1 rfl).2; (first | (have hX1 : w1.cell? ⟨wr.heap.size + 1, 0, none⟩ = some (.int .i64 x) := by refine hgrow1.cell ?_ (by simp); ( (repeat (first | with_reducible assumption | with_reducible refine keepdrew ?_ | (with_reducible refine newcell _ _ _ _ _ _ ?_ rfl; simp; done) | with_reducible refine keepalloc ?_ _)); done)) | (have hX1 : w1.cell? ⟨wr.heap.size, 0, none⟩ = some (.int .i64 x) := by refine hgrow1.cell ?_ (by simp); ((repeat (first | with_reducible assumption | with_reducible refine keepdrew ?_ | (with_reducible refine newcell _ _ _ _ _ _ ?_ rfl; simp; done) | with_reducible refine keepalloc ?_ _)); done)) | skip))
            | (refine step_append_any (by rfl) (.tmp 24) (.tmp 26) 46 (by rfl) wr.heap.size 3 i0 _ 1 8 Tryz.underlying46 hi0 hz0 hz1 hz2 rfl (by omega) _ _ _ j (fli (zs.take j)) (by rfl) (by first | with_reducible exact hown1 | with_reducible exact hownZ | with_reducible exact hown1.alloc _ | with_reducible exact hownZ.alloc _) _ 1 1 (fli [x]) (by rfl) (by rfl) (by first | with_reducible exact news_1 hX1 | with_reducible exact news_1 (by (repeat (first | with_reducible assumption | with_reducible refine keepdrew ?_ | (with_reducible refine newcell _ _ _ _ _ _ ?_ rfl; simp; done) | with_reducible refine keepalloc ?_ _)); done)) (fli_one _) (by unfold maxLen; omega) (by omega) (by first | exact hB1.size | (have := hB1.size; simp; omega)) ?_; intro g2 c2 w2 hown2 hgrow2 hat2; have hB2 : Below wr.heap.size wr w2 := Below.grown (show Below wr.heap.size wr _ by (repeat (first | with_reducible exact Below.refl _ _ | with_reducible assumption | (with_reducible refine btrans ?_ (by with_reducible assumption)) | with_reducible refine bdrew ?_ | with_reducible refine balloc ?_ _))) hgrow2 (by first | exact hB1.size | (have := hB1.size; simp; omega)) (fun k e => by cases e; exact (hown1.lt _ rfl).1))
            | (refine step_append_any (by rfl) (.tmp 27) (.tmp 30) 46 (by rfl) wr.heap.size 3 i0 _ 1 8 Tryz.underlying46 hi0 hz0 hz1 hz2 rfl (by omega) _ _ _ (j + 1) (fli (zs.take j) ++ fli [x]) (by rfl) (hown2) _ (n - j) _ (fli (zs.drop j)) (by rfl) (by rw [fli_len, hdl]; omega) (by first | exact news_i j _ HO.out HN.out hB2 (drop_at zs j) | exact news_i 0 _ HO.out HN.out hB2 (fun k hk => absurd hk (by rw [hdl]; omega))) (fli_one _) (by unfold maxLen; omega) (by omega) (hB2.size) ?_; intro g3 c3 w3 hown3 hgrow3 hat3; have hB3 : Below wr.heap.size wr w3 := Below.grown hB2 hgrow3 hB2.size (fun k e => by cases e; exact (hown2.lt _ rfl).1)))
        all_goals
          have HO3 := hid (HEND.out _ _ _ hown3)
          have HB3 := hid hB3
          clear hown1 hownZ hown2 hown3 hgrow1 hgrow2 hgrow3 hB1 hB2 hB3
          go_wp2_with fail
          go_ret
          exact ⟨j, g3, c3, hj, HL.out, HGO.out, by rw [show j + 1 + (n - j) = n + 1 by omega]; rfl, HO3.out, HB3.out⟩
end Go.Proofs.YtehifednpbdokaaGreatDoor
namespace Go.Proofs.YtehifednpbdokaaGreatDoor
open Go.RowKit
set_option linter.unusedSimpArgs false
set_option linter.unusedVariables false
def idsT (rs : List Rw) (t : Int) : List Int := (rs.filter (fun r => thr (tr r) t)).map (fun r => r.1)
def srt (zs : List Int) : List Int := zs.mergeSort (fun x y => decide (x ≤ y))
def idsb (now : Int) (rs : List Rw) (t : Int) : List Int := if rowsb now rs = true then srt (idsT rs t) else []
theorem srt_len (zs : List Int) : (srt zs).length = zs.length := (List.mergeSort_perm zs _).length_eq
theorem srt_of {zs ys : List Int} (hp : ys.Perm zs) (hs : ys.Pairwise (· ≤ ·)) : ys = srt zs := by
  have h1 := List.pairwise_mergeSort (le := fun (x y : Int) => decide (x ≤ y)) (by intro a b c; simp; omega) (by intro a b; simp; omega) zs
  refine List.Perm.eq_of_pairwise (le := (· ≤ ·)) (fun a b _ _ h k => by omega) hs (h1.imp (fun h => by simpa using h)) (hp.trans (List.mergeSort_perm zs _).symm)
theorem ids_next {rs : List Rw} {t : Int} {i : Nat} (hi : i < rs.length) : idsT (rs.take (i + 1)) t = if thr (tr rs[i]) t = true then idsT (rs.take i) t ++ [rs[i].1] else idsT (rs.take i) t := by
  unfold idsT
  rw [List.take_add_one, List.getElem?_eq_getElem hi, List.filter_append, List.map_append]
  by_cases h : thr (tr rs[i]) t = true
  · simp [h]
  · simp [h]
theorem ids_len (rs : List Rw) (t : Int) : (idsT rs t).length ≤ rs.length := by
  unfold idsT
  rw [List.length_map]
  exact List.length_filter_le _ _
theorem ins_perm (zs : List Int) (x : Int) (j : Nat) : (zs.take j ++ x :: zs.drop j).Perm (x :: zs) := by
  have := List.perm_middle (a := x) (l₁ := zs.take j) (l₂ := zs.drop j)
  rw [List.take_append_drop] at this
  exact this
theorem ins_sorted {zs : List Int} {x : Int} {j : Nat} (hs : zs.Pairwise (· ≤ ·)) (h1 : ∀ k, k < j → zs.getD k 0 < x) (h2 : j < zs.length → x ≤ zs.getD j 0) : (zs.take j ++ x :: zs.drop j).Pairwise (· ≤ ·) := by
  have hx : ∀ y ∈ zs.drop j, x ≤ y := by
    intro y hy
    obtain ⟨m, hm, rfl⟩ := List.mem_iff_getElem.1 hy
    simp only [List.length_drop] at hm
    have hj : j < zs.length := by omega
    have h3 := h2 hj
    rw [List.getD_eq_getElem?_getD, List.getElem?_eq_getElem hj] at h3
    simp only [Option.getD_some] at h3
    rw [List.getElem_drop]
    by_cases e : m = 0
    · subst e; simpa using h3
    · have := List.pairwise_iff_getElem.1 hs j (j + m) hj (by omega) (by omega)
      omega
  have hl : ∀ y ∈ zs.take j, y < x := by
    intro y hy
    obtain ⟨m, hm, rfl⟩ := List.mem_iff_getElem.1 hy
    simp only [List.length_take] at hm
    have := h1 m (by omega)
    rw [List.getD_eq_getElem?_getD, List.getElem?_eq_getElem (by omega)] at this
    simp only [Option.getD_some] at this
    rw [List.getElem_take]; exact this
  rw [List.pairwise_append]
  refine ⟨hs.sublist (List.take_sublist _ _), ?_, ?_⟩
  · rw [List.pairwise_cons]
    exact ⟨hx, hs.sublist (List.drop_sublist _ _)⟩
  · intro y hy z hz
    have a1 := hl y hy
    simp at hz
    rcases hz with rfl | hz
    · omega
    · have := hx z hz; omega
def IA (w : World) (zs : List Int) (e : Ending) (w' : World) : Prop :=
  ∃ a' cap', e = .returned (.slice a' zs.length cap') ∧ OwnI w' a' zs ∧ (∀ b off, a' = some ⟨b, off, none⟩ → w.heap.size ≤ b) ∧ Below w.heap.size w w'
/-- A list of whole numbers that the call has made. -/
def IRow (B : Nat) (w : World) (v : Value) (zs : List Int) : Prop := ∃ g cap, v = .slice (some ⟨g, 0, none⟩) zs.length cap ∧ g < w.heap.size ∧ zs.length ≤ cap ∧ w.ownsRow B 3 1 (.slice (some ⟨g, 0, none⟩) zs.length cap) zs.length (fli zs)
theorem own_mono {B B' : Nat} {w : World} {e : TypeId} {sz : Nat} {v : Value} {n : Nat} {xs : List Value} (h : w.ownsRow B e sz v n xs) (hb : B' ≤ B) : w.ownsRow B' e sz v n xs := by
  refine ⟨h.1, ?_⟩
  rcases h.2 with q | ⟨g, c, cur, e1, q1, q2, q3⟩
  · exact .inl q
  · exact .inr ⟨g, c, cur, e1, by omega, q2, q3⟩
theorem irow_of {B g cap n : Nat} {w : World} {zs : List Int} (h : w.ownsRow B 3 1 (.slice (some ⟨g, 0, none⟩) n cap) n (fli zs)) (hn : zs.length = n) : IRow B w (.slice (some ⟨g, 0, none⟩) n cap) zs := by
  subst hn
  obtain ⟨h1, h2, h3⟩ := own_I h rfl
  exact ⟨g, cap, rfl, h3.lt g 0 rfl, h2, h⟩
theorem IRow.below {B : Nat} {w w' : World} {v : Value} {zs : List Int} (h : IRow B w v zs) (H : Below w.heap.size w w') : IRow B w' v zs := by
  obtain ⟨g, cap, rfl, h1, h2, h3⟩ := h
  refine ⟨g, cap, rfl, Nat.lt_of_lt_of_le h1 H.size, h2, h3.1, ?_⟩
  rcases h3.2 with ⟨q, _⟩ | ⟨g', c', cur, e, q1, q2, q3⟩
  · cases q
  · cases e
    exact .inr ⟨g, cap, cur, rfl, q1, by rw [H.block g h1]; exact q2, q3⟩
set_option maxRecDepth 100000 in
set_option maxHeartbeats 2000000 in
theorem spec_IdsAt {N : Nat → Prop} (now : Int) (a : Option Addr) (cap : Nat) (rs : List Rw) (t : Int) (w : World) (hm : rs.length ≤ 1099511627776) (h : Rws N w a rs) : Calls Tryz.prog 47 #[.agg #[.int .i64 now, .slice a rs.length cap], .int .i64 t] w fun e w' => IA w (idsb now rs t) e w' := by
  have HOK := hid (fun (W : World) (hb : Below w.heap.size w W) => spec_RowsOk now a cap rs W hm (h.below hb))
  have HR := hid h
  clear h
  have HNO : Hid (rowsb now rs = false → idsb now rs t = []) := hid (fun e => by unfold idsb; rw [if_neg (by rw [e]; simp)])
  have HYE : Hid (rowsb now rs = true → ∀ ys, ys.Perm (idsT rs t) → ys.Pairwise (· ≤ ·) → ys = idsb now rs t) := hid (fun e ys hp hs => by unfold idsb; rw [if_pos e]; exact srt_of hp hs)
  obtain ⟨n, hn⟩ : ∃ n, n = rs.length := ⟨_, rfl⟩
  have HN := hid hn.symm
  rw [← hn] at hm HOK ⊢
  clear hn
  generalize idsb now rs t = ib at *
  generalize rowsb now rs = ob at *
  go_enter Tryz.func47, Tryz.ntmps47
  go_upto_region 2 with fail
  have hBx : Below w.heap.size w ((w.alloc (.cells #[.int .i64 now, .slice a n cap] 36)).alloc (.cells #[] 3)) := balloc (balloc (Below.refl _ _) _) _
  have g0 := old_alloc (o' := .cells #[] 3) (new_alloc w w.heap.size (.cells #[.int .i64 now, .slice a n cap] 36) rfl)
  have ho := own_newI2 (w := w.alloc (.cells #[.int .i64 now, .slice a n cap] 36)) (B := w.heap.size) (X := w.heap.size + 1) (by simp) (by simp)
  generalize (w.alloc (.cells #[.int .i64 now, .slice a n cap] 36)).alloc (.cells #[] 3) = W0 at *
  have HI := hid (irow_of (zs := []) ho rfl)
  clear ho
  obtain ⟨d0, d1, _, _⟩ := cell2r g0
  go_wp2_with fail
  refine (HOK.out _ hBx).mono ?_
  rintro e W ⟨rfl, hz⟩
  have g1 := keepheap2 hz g0
  have hB := btrans hBx hz
  replace HI := hid (HI.out.below hz)
  clear g0 hBx hz d0 d1 HOK
  cases ob
  · have HF := hid (HNO.out rfl)
    clear HNO HYE
    go_wp2_with fail
    go_ret
    obtain ⟨g, c, e, h1, h2, h3⟩ := HI.out
    cases e
    obtain ⟨q1, q2, q3⟩ := own_I h3 rfl
    rw [HF.out]
    exact ⟨some ⟨_, 0, none⟩, _, rfl, q3, fun b off e => (by cases e; exact q1), hB⟩
  have HG1 := hid g1
  have HB1 := hid hB
  have HYE2 := hid (HYE.out rfl)
  clear g1 hB HNO HYE
  go_wp2_with fail
  go_loopw [5, 6] (fun tv ti wr => ∃ i : Nat, ∃ zs : List Int, ti = .int .i64 i ∧ i ≤ n ∧ Hid (zs.length ≤ i ∧ zs.Perm (idsT (rs.take i) t) ∧ zs.Pairwise (· ≤ ·)) ∧ Hid (IRow w.heap.size wr tv zs) ∧ Hid (wr.heap[w.heap.size]? = some (.cells #[.int .i64 now, .slice a n cap] 36 (0, 0))) ∧ Hid (Below w.heap.size w wr)) (fun _ ti _ => n - (intOf ti).toNat)
  case atStart => exact ⟨0, [], rfl, Nat.zero_le _, hid ⟨Nat.le_refl _, by simp [idsT], List.Pairwise.nil⟩, HI, HG1, HB1⟩
  case round =>
    clear HI HG1 HB1
    obtain ⟨i, zs, rfl, hi, HZ, HV, G0, HBW⟩ := hrel
    obtain ⟨g, c, rfl, hgl, hgc, hown⟩ := HV.out
    have HO := hid hown
    clear hown HV
    obtain ⟨d0, d1, _, _⟩ := cell2r G0.out
    by_cases hlt : i < n
    · have c1 : (i : Int) < (n : Int) := by omega
      have hir : i < rs.length := by rw [HN.out]; exact hlt
      obtain ⟨b, o, rfl, hbs, a', cap', k0, k1, k2, k3, k4, k5, k6, k7, _⟩ := (HR.out.below HBW.out).at i hir
      have ST := hid (fun w' => spec_there rs[i] a' cap' t w')
      have HX := hid (ids_next (t := t) hir)
      unfold rwv at ST
      clear k5 k6 k7
      generalize thr (tr rs[i]) t = q2 at *
      generalize rs[i].1 = id2 at *
      generalize rs[i].2.1 = fr at *
      generalize rs[i].2.2.1 = te at *
      generalize rs[i].2.2.2.1 = kd at *
      generalize rs[i].2.2.2.2.length = np at *
      go_wp2_with fail
      refine (ST.out _).mono ?_
      rintro e z ⟨rfl, hz⟩
      have g1 := keepheap2 hz G0.out
      have HBz := hid (btrans HBW.out hz)
      have HIz := hid ((irow_of HO.out rfl).below hz)
      replace k0 := keepcell hz k0
      have hsz := hz.size
      clear hz d0 d1 k1 k2 k3 k4
      obtain ⟨d0, d1, _, _⟩ := cell2r g1
      have HG1 := hid g1
      clear g1
      cases q2
      · have HZ2 : Hid (zs.length ≤ i + 1 ∧ zs.Perm (idsT (rs.take (i + 1)) t) ∧ zs.Pairwise (· ≤ ·)) := hid ⟨by have := HZ.out.1; omega, by rw [HX.out, if_neg (by simp)]; exact HZ.out.2.1, HZ.out.2.2⟩
        go_wp2_with fail
        go_roundw
        case rel => exact ⟨i + 1, zs, by go_num, by omega, HZ2, HIz, HG1, HBz⟩
        case measure => simp [intOf]; omega
      · have hzl := HZ.out.1
        have HX2 : Hid (idsT (rs.take (i + 1)) t = idsT (rs.take i) t ++ [id2]) := hid (by rw [HX.out]; simp)
        obtain ⟨g', c', e', hgl', hgc', hown'⟩ := HIz.out
        cases e'
        have AD := hid (add_c w.heap.size g zs.length c zs id2 z (by omega) rfl hgc' hgl' hown')
        clear hown' hgc' hgl'
        go_wp2_with fail
        refine AD.out.mono ?_
        rintro e y ⟨j, g2, c2, hj, h1, h2, rfl, hown2, hy⟩
        have HZ2 : Hid ((zs.take j ++ id2 :: zs.drop j).length ≤ i + 1 ∧ (zs.take j ++ id2 :: zs.drop j).Perm (idsT (rs.take (i + 1)) t) ∧ (zs.take j ++ id2 :: zs.drop j).Pairwise (· ≤ ·)) := hid ⟨by have := (ins_perm zs id2 j).length_eq; simp only [List.length_cons] at this; omega, by
          rw [HX2.out]
          exact (ins_perm zs id2 j).trans ((List.perm_append_singleton id2 _).symm.trans ((List.Perm.append_right [id2] HZ.out.2.1))), ins_sorted HZ.out.2.2 h1 h2⟩
        have HV2 := hid (irow_of (own_mono hown2 (show w.heap.size ≤ z.heap.size by have := HBz.out.size; omega)) (zs := zs.take j ++ id2 :: zs.drop j) (by have := (ins_perm zs id2 j).length_eq; simpa using this))
        have HG2 := hid (keepheap2 hy HG1.out)
        have HBy := hid (btrans HBz.out hy)
        clear hown2 hy h1 h2 d0 d1 k0
        go_wp2_with fail
        go_roundw
        case rel => exact ⟨i + 1, _, by go_num, by omega, HZ2, HV2, HG2, HBy⟩
        case measure => simp [intOf]; omega
    · have c1 : (n : Int) ≤ (i : Int) := by omega
      have hin : i = rs.length := by have := HN.out; omega
      have HF : Hid (zs = ib) := hid (HYE2.out zs (by have := HZ.out.2.1; rw [hin, List.take_length] at this; exact this) HZ.out.2.2)
      clear hin
      go_wp2_with fail
      go_ret
      obtain ⟨q1, q2, q3⟩ := own_I HO.out rfl
      have := HF.out
      subst this
      exact ⟨some ⟨_, 0, none⟩, _, rfl, q3, fun b off e => (by cases e; exact q1), HBW.out⟩
theorem make_ints (n : Nat) (hn : n ≤ 1099511627776) (w : World) : (Instr.makeSlice 46 (.int .i64 0) (.int .i64 n)).run Tryz.prog w = .ok (.slice (some ⟨w.heap.size, 0, none⟩) 0 n) (w.alloc (.cells (madeCells #[.int .i64 0] n) 3)) := by
  obtain ⟨i0, hi, hz0, hz1, hz2⟩ := info_parts Tryz.infoI
  have := run_make (P := Tryz.prog) w 46 3 i0 _ Tryz.underlying46 hi hz0 .i64 .i64 0 n (by omega) (by omega) (by rw [hz2]; omega) (by omega)
  rw [hz1, Nat.mul_one] at this
  exact this
end Go.Proofs.YtehifednpbdokaaGreatDoor
namespace Go.Proofs.YtehifednpbdokaaGreatDoor
open Go.RowKit
set_option linter.unusedSimpArgs false
set_option linter.unusedVariables false
theorem sort_ids (B g c : Nat) (zs : List Int) (w : World) (hm : zs.length ≤ 1099511627776) (hgl : g < w.heap.size) (h : w.ownsRow B 3 1 (.slice (some ⟨g, 0, none⟩) zs.length c) zs.length (fli zs)) : Calls Tryz.prog 91 #[.slice (some ⟨g, 0, none⟩) zs.length c] w fun e w' => e = .returned (.tuple #[]) ∧ OwnI w' (some ⟨g, 0, none⟩) (srt zs) ∧ w.grownBy w' (some g) := by
  obtain ⟨_, _, hI⟩ := own_I h rfl
  obtain ⟨b, e, h1, h2, h3⟩ : ∃ b, some (⟨g, 0, none⟩ : Addr) = some ⟨b, 0, none⟩ ∧ b < w.heap.size ∧ IAt w b 0 zs ∧ w.there b 0 zs.length := by
    rcases hI with ⟨q, _⟩ | h
    · cases q
    · exact h
  cases e
  have hH : Go.Sort.Holds (Value.int .i64) w g 0 zs.toArray := by
    intro j hj
    simp at hj
    refine ⟨?_, ?_⟩
    · have := h2 j hj
      rw [this]
      simp [List.getD_eq_getElem?_getD, List.getElem?_eq_getElem hj, getElem!_pos, hj]
    · exact (h3 j hj).2
  have hc := AnyM.slices_Sort_int Tryz.sortInt g 0 c zs w hH hgl (by omega)
  change Calls Tryz.prog 91 _ _ _ at hc
  refine hc.mono ?_
  rintro e w' ⟨rfl, q, os, rfl⟩
  have hl : (srt zs).toArray.size = zs.toArray.size := by simp [srt_len]
  have hK := Go.Sort.holds_grow (Value.int .i64) _ os g 0 _ (by simpa [Go.Sort.putRow, Go.Sort.mapBlock, Go.Sort.ahead] using hgl) (Go.Sort.holds_putRow (Value.int .i64) (Go.Sort.ahead w q) g 0 zs.toArray (srt zs).toArray (Go.Sort.holds_ahead _ w q g 0 _ hH) hl)
  have hgr : w.grownBy (Go.Sort.grow (Go.Sort.putRow (Value.int .i64) (Go.Sort.ahead w q) g 0 (srt zs).toArray) os) (some g) := by
    refine ⟨rfl, rfl, rfl, by simp [Go.Sort.putRow, Go.Sort.mapBlock, Go.Sort.ahead, Go.Sort.grow], fun k hk hne => ?_⟩
    rw [Go.Sort.heap_grow_old _ _ (by simpa [Go.Sort.putRow, Go.Sort.mapBlock, Go.Sort.ahead] using hk)]
    have : g ≠ k := fun e => hne (by rw [e])
    simp [Go.Sort.putRow, Go.Sort.mapBlock, Go.Sort.ahead, Array.getElem?_modify, this]
  refine ⟨rfl, .inr ⟨g, rfl, Nat.lt_of_lt_of_le hgl hgr.size, fun k hk => ?_, fun j hj => ?_⟩, hgr⟩
  · have := (hK k (by simpa using hk)).1
    rw [show (zs.mergeSort fun x y => decide (x ≤ y)) = srt zs from rfl]
    rw [this]
    simp [List.getD_eq_getElem?_getD, List.getElem?_eq_getElem hk, getElem!_pos, hk]
  · obtain ⟨q1, q2⟩ := hK j (by simpa using hj)
    exact ⟨by rw [show (zs.mergeSort fun x y => decide (x ≤ y)) = srt zs from rfl, q1]; rfl, q2⟩
end Go.Proofs.YtehifednpbdokaaGreatDoor
namespace Go.Proofs.YtehifednpbdokaaGreatDoor
open Go.RowKit
set_option linter.unusedSimpArgs false
set_option linter.unusedVariables false
def chgd (cs : List Ch) (x : Int) : Bool := (chf cs x).isSome
def unch (rs : List Rw) (cs : List Ch) (t : Int) : List Int := (rs.filter (fun r => thr (tr r) t && !chgd cs r.1)).map (fun r => r.1)
def chg (cs : List Ch) : List Int := (cs.filter (fun c => !c.2.1)).map (fun c => c.1)
def tids (rs : List Rw) (cs : List Ch) (t : Int) : List Int := srt (unch rs cs t ++ chg cs)
def tidsb (now : Int) (rs : List Rw) (ts : List Tx) (n : Int) : List Int := if opn now rs ts n = true then tids rs (txn ts n).2.2 (txn ts n).1 else []
theorem unch_next {rs : List Rw} {cs : List Ch} {t : Int} {i : Nat} (hi : i < rs.length) : unch (rs.take (i + 1)) cs t = if (thr (tr rs[i]) t && !chgd cs rs[i].1) = true then unch (rs.take i) cs t ++ [rs[i].1] else unch (rs.take i) cs t := by
  unfold unch
  rw [List.take_add_one, List.getElem?_eq_getElem hi, List.filter_append, List.map_append]
  cases h : (thr (tr rs[i]) t && !chgd cs rs[i].1)
  · simp only [Option.toList, List.filter_cons, h, List.filter_nil]; simp
  · simp only [Option.toList, List.filter_cons, h, List.filter_nil]; simp
theorem unch_len (rs : List Rw) (cs : List Ch) (t : Int) : (unch rs cs t).length ≤ rs.length := by
  unfold unch
  rw [List.length_map]
  exact List.length_filter_le _ _
theorem chg_next {cs : List Ch} {i : Nat} (hi : i < cs.length) : chg (cs.take (i + 1)) = if (!cs[i].2.1) = true then chg (cs.take i) ++ [cs[i].1] else chg (cs.take i) := by
  unfold chg
  rw [List.take_add_one, List.getElem?_eq_getElem hi, List.filter_append, List.map_append]
  cases h : cs[i].2.1
  · simp only [Option.toList, List.filter_cons, h, List.filter_nil]; simp
  · simp only [Option.toList, List.filter_cons, h, List.filter_nil]; simp
theorem chg_len (cs : List Ch) : (chg cs).length ≤ cs.length := by
  unfold chg
  rw [List.length_map]
  exact List.length_filter_le _ _
theorem tids_len (rs : List Rw) (cs : List Ch) (t : Int) : (tids rs cs t).length ≤ rs.length + cs.length := by
  unfold tids
  rw [srt_len, List.length_append]
  have h1 := unch_len rs cs t
  have h2 := chg_len cs
  omega
theorem tidsb_len {now : Int} {rs : List Rw} {ts : List Tx} {n : Int} {L M : Nat} (h : rs.length ≤ L) (hs : ∀ m (h : m < ts.length), ts[m].2.2.length ≤ M) : (tidsb now rs ts n).length ≤ L + M := by
  unfold tidsb
  split
  · rename_i ho
    obtain ⟨m, rfl, hm, _, e, _, _⟩ := opn_yes ho
    rw [e]
    have h1 := tids_len rs ts[m].2.2 ts[m].1
    have h2 := hs m hm
    omega
  · simp
theorem chgd_iff {cs : List Ch} {x : Int} : chgd cs x = true ↔ ∃ i, i < cs.length ∧ idc cs i = x := by
  unfold chgd chf
  rw [List.find?_isSome]
  constructor
  · rintro ⟨c, hc, h⟩
    obtain ⟨i, hi, rfl⟩ := List.getElem_of_mem hc
    exact ⟨i, hi, by rw [idc_at hi]; simpa using h⟩
  · rintro ⟨i, hi, h⟩
    exact ⟨cs[i], List.getElem_mem hi, by rw [idc_at hi] at h; simpa using h⟩
theorem some_nodup {rs : List Rw} {t : Int} {p : Rw → Bool} (h : apartR (rs.map tr) = true) (hp : ∀ r, p r = true → thr (tr r) t = true) : ((rs.filter p).map (fun r => r.1)).Nodup := by
  rw [apartR_iff, List.pairwise_map] at h
  rw [List.Nodup, List.pairwise_map, List.pairwise_filter]
  refine h.imp ?_
  intro x y hc hx hy e
  have h1 := hp x hx
  have h2 := hp y hy
  unfold clash thr tr at *
  simp only [Bool.and_eq_true, Bool.or_eq_true, decide_eq_true_eq, Bool.and_eq_false_iff, Bool.or_eq_false_iff, decide_eq_false_iff_not] at *
  omega
theorem ids_nodup {rs : List Rw} {t : Int} (h : apartR (rs.map tr) = true) : (idsT rs t).Nodup := some_nodup (p := fun r => thr (tr r) t) h (fun r hr => hr)
theorem mem_ids {rs : List Rw} {t x : Int} : x ∈ idsT rs t ↔ ∃ r ∈ rs, thr (tr r) t = true ∧ r.1 = x := by
  unfold idsT
  simp only [List.mem_map, List.mem_filter]
  constructor
  · rintro ⟨r, ⟨h1, h2⟩, h3⟩; exact ⟨r, h1, h2, h3⟩
  · rintro ⟨r, h1, h2, h3⟩; exact ⟨r, ⟨h1, h2⟩, h3⟩
theorem mem_unch {rs : List Rw} {cs : List Ch} {t x : Int} : x ∈ unch rs cs t ↔ chgd cs x = false ∧ ∃ r ∈ rs, thr (tr r) t = true ∧ r.1 = x := by
  unfold unch
  simp only [List.mem_map, List.mem_filter, Bool.and_eq_true, Bool.not_eq_true']
  constructor
  · rintro ⟨r, ⟨h1, h2, h3⟩, rfl⟩; exact ⟨h3, r, h1, h2, rfl⟩
  · rintro ⟨h3, r, h1, h2, rfl⟩; exact ⟨r, ⟨h1, h2, h3⟩, rfl⟩
theorem mem_chg {cs : List Ch} {x : Int} : x ∈ chg cs ↔ ∃ c ∈ cs, c.2.1 = false ∧ c.1 = x := by
  unfold chg
  simp only [List.mem_map, List.mem_filter, Bool.not_eq_true']
  constructor
  · rintro ⟨c, ⟨h1, h2⟩, h3⟩; exact ⟨c, h1, h2, h3⟩
  · rintro ⟨c, h1, h2, h3⟩; exact ⟨c, ⟨h1, h2⟩, h3⟩
theorem chg_nodup {cs : List Ch} (ha : ∀ i j, i < j → j < cs.length → idc cs i < idc cs j) : (chg cs).Nodup := by
  unfold chg
  rw [List.Nodup, List.pairwise_map, List.pairwise_filter, List.pairwise_iff_getElem]
  intro i j hi hj hij _ _ e
  have := ha i j hij hj
  rw [idc_at hi, idc_at hj] at this
  omega
theorem rat_yes {rs : List Rw} {t x : Int} : (rat rs x t).isSome = true ↔ ∃ r ∈ rs, thr (tr r) t = true ∧ r.1 = x := by
  unfold rat
  rw [List.find?_isSome]
  constructor
  · rintro ⟨r, h1, h2⟩
    unfold atb at h2
    simp only [Bool.and_eq_true, decide_eq_true_eq] at h2
    exact ⟨r, h1, h2.2, h2.1⟩
  · rintro ⟨r, h1, h2, h3⟩
    refine ⟨r, h1, ?_⟩
    unfold atb
    simp only [Bool.and_eq_true, decide_eq_true_eq]
    exact ⟨h3, h2⟩
/-- The numbers of the rows, and those of the first i changes. -/
def AL (rs : List Rw) (cs : List Ch) (t : Int) (i : Nat) (zs : List Int) : Prop := zs.Pairwise (· ≤ ·) ∧ zs.Nodup ∧ (∀ x, x ∈ zs ↔ x ∈ idsT rs t ∨ ∃ k, k < i ∧ k < cs.length ∧ idc cs k = x) ∧ zs.length ≤ rs.length + i
theorem AL.zero {rs : List Rw} {cs : List Ch} {t : Int} (h : apartR (rs.map tr) = true) : AL rs cs t 0 (srt (idsT rs t)) := by
  have hp : (srt (idsT rs t)).Perm (idsT rs t) := List.mergeSort_perm _ _
  have h1 := List.pairwise_mergeSort (le := fun (x y : Int) => decide (x ≤ y)) (by intro a b c; simp; omega) (by intro a b; simp; omega) (idsT rs t)
  refine ⟨h1.imp (fun h => by simpa using h), hp.nodup_iff.2 (ids_nodup h), fun x => ?_, by rw [srt_len]; have := ids_len rs t; omega⟩
  rw [hp.mem_iff]
  constructor
  · exact .inl
  · rintro (h | ⟨k, hk, _⟩)
    · exact h
    · omega
theorem AL.skip {rs : List Rw} {cs : List Ch} {t : Int} {i : Nat} {zs : List Int} (h : AL rs cs t i zs) (hm : idc cs i ∈ zs) : AL rs cs t (i + 1) zs := by
  obtain ⟨h1, h2, h3, h4⟩ := h
  refine ⟨h1, h2, fun x => ?_, by omega⟩
  rw [h3]
  constructor
  · rintro (h | ⟨k, hk, hl, e⟩)
    · exact .inl h
    · exact .inr ⟨k, by omega, hl, e⟩
  · rintro (h | ⟨k, hk, hl, e⟩)
    · exact .inl h
    · by_cases e2 : k = i
      · subst e2
        rw [← e]; exact (h3 _).1 hm
      · exact .inr ⟨k, by omega, hl, e⟩
theorem AL.add {rs : List Rw} {cs : List Ch} {t : Int} {i j : Nat} {zs : List Int} (h : AL rs cs t i zs) (hi : i < cs.length) (hm : idc cs i ∉ zs) (h1 : ∀ k, k < j → zs.getD k 0 < idc cs i) (h2 : j < zs.length → idc cs i ≤ zs.getD j 0) : AL rs cs t (i + 1) (zs.take j ++ idc cs i :: zs.drop j) := by
  obtain ⟨q1, q2, q3, q4⟩ := h
  have hp := ins_perm zs (idc cs i) j
  refine ⟨ins_sorted q1 h1 h2, hp.nodup_iff.2 (List.nodup_cons.2 ⟨hm, q2⟩), fun x => ?_, by have := hp.length_eq; simp only [List.length_cons] at this; omega⟩
  rw [hp.mem_iff, List.mem_cons, q3]
  constructor
  · rintro (h | h | ⟨k, hk, hl, e⟩)
    · exact .inr ⟨i, by omega, hi, h.symm⟩
    · exact .inl h
    · exact .inr ⟨k, by omega, hl, e⟩
  · rintro (h | ⟨k, hk, hl, e⟩)
    · exact .inr (.inl h)
    · by_cases e2 : k = i
      · subst e2; exact .inl e.symm
      · exact .inr (.inr ⟨k, by omega, hl, e⟩)
theorem AL.fin {rs : List Rw} {cs : List Ch} {t : Int} {zs : List Int} (h : AL rs cs t cs.length zs) (hr : apartR (rs.map tr) = true) (ha : ∀ i j, i < j → j < cs.length → idc cs i < idc cs j) : zs.filter (fun x => seB rs cs x t) = tids rs cs t := by
  obtain ⟨q1, q2, q3, _⟩ := h
  refine srt_of ?_ (q1.sublist List.filter_sublist)
  have hn : (unch rs cs t ++ chg cs).Nodup := by
    rw [List.nodup_append]
    refine ⟨some_nodup (t := t) hr (fun r hr => by simp only [Bool.and_eq_true] at hr; exact hr.1), chg_nodup ha, ?_⟩
    intro a h1 b h2 e
    subst e
    have h3 := (mem_unch.1 h1).1
    obtain ⟨c, hc, _, e⟩ := mem_chg.1 h2
    obtain ⟨i, hi, rfl⟩ := List.getElem_of_mem hc
    have h4 : chgd cs a = true := chgd_iff.2 ⟨i, hi, by rw [idc_at hi]; exact e⟩
    rw [h3] at h4; cases h4
  refine (List.perm_ext_iff_of_nodup (q2.sublist List.filter_sublist) hn).2 (fun x => ?_)
  rw [List.mem_filter, List.mem_append, q3, mem_unch, mem_chg]
  constructor
  · rintro ⟨hx, hs⟩
    unfold seB at hs
    cases hc : chf cs x with
    | none =>
      rw [hc] at hs
      refine .inl ⟨by unfold chgd; rw [hc]; rfl, rat_yes.1 hs⟩
    | some c =>
      rw [hc] at hs
      unfold chf at hc
      have h1 := List.mem_of_find?_eq_some hc
      have h2 := List.find?_some hc
      exact .inr ⟨c, h1, by simpa using hs, by simpa using h2⟩
  · rintro (⟨h1, h2⟩ | ⟨c, hc, hg, e⟩)
    · refine ⟨.inl (mem_ids.2 h2), ?_⟩
      unfold seB
      unfold chgd at h1
      have : chf cs x = none := by
        cases hc : chf cs x with
        | none => rfl
        | some c => rw [hc] at h1; cases h1
      rw [this]
      exact rat_yes.2 h2
    · obtain ⟨i, hi, rfl⟩ := List.getElem_of_mem hc
      refine ⟨.inr ⟨i, hi, hi, by rw [idc_at hi]; exact e⟩, ?_⟩
      unfold seB
      rw [chf_some hi (fun m h hm e2 => by have := ha m i hm hi; rw [idc_at h, idc_at hi] at this; omega) e]
      simp [hg]
theorem rowsb_apart {now : Int} {rs : List Rw} (h : rowsb now rs = true) : apartR (rs.map tr) = true := by
  unfold rowsb at h
  simp only [Bool.and_eq_true] at h
  exact h.2.2
theorem rowsb_300 {now : Int} {rs : List Rw} (h : rowsb now rs = true) : rs.length ≤ 300 := by
  unfold rowsb at h
  simp only [Bool.and_eq_true, decide_eq_true_eq] at h
  exact h.1.2
end Go.Proofs.YtehifednpbdokaaGreatDoor
