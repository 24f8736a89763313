/- The specification's items of a tree. -/
import Derived.Test.YtmdnelgnpponpaaFe
import Derived.Test.YtmdnelgnpponpaaDrawP
import Derived.Maps.AppendAt
import Derived.Deep.AppendLies
namespace Go.Proofs.Ytmdnelgnpponpaa
open Go.RowKit
set_option linter.unusedSimpArgs false
set_option linter.unusedVariables false
theorem wpList_append_any {P : Program} {w : World} {ops : Array Oper} {rest : List Oper} {o : Oper} {a : Act} {Q : Exit → Act → World → Prop} (hgd : o.guard = none) (s x : Operand) (t : TypeId)
    (ho : o.op = .call { callee := .builtin .append, args := #[s, x], argTypes := #[t, t] })
    (base : Nat) (e : TypeId) (i : TypeInfo) (z : Value) (size bytes : Nat) (ht : P.underlying t = some (.slice e)) (hi : P.info? e = some i) (hz : i.zero = some z)
    (hsize : i.size = size) (hby : i.bytes = bytes) (hzs : z.cells.size = size) (hsz : 0 < size)
    (g0 n0 cap0 : Nat) (n : Nat) (xs : List Value) (hs : a.eval s = .slice (some ⟨g0, 0, none⟩) n0 cap0) (hown : w.ownsRow base e size (.slice (some ⟨g0, 0, none⟩) n0 cap0) n xs)
    (ad : Addr) (m c : Nat) (news : List Value) (hx : a.eval x = .slice (some ad) m c) (hl : news.length = m * size) (hnews : ∀ j u, news[j]? = some u → w.cell? (ad.add j) = some u) (h1 : ∀ u ∈ news, u.oneCell' = true)
    (h63 : n + m ≤ maxLen) (hbytes : (n + m) * bytes ≤ 140737488355328) (hbase : base ≤ w.heap.size)
    (h : ∀ g cap w', w'.ownsRow base e size (.slice (some ⟨g, 0, none⟩) (n + m) cap) (n + m) (xs ++ news) → w.grownBy w' (some g0) → (g = g0 ∨ g = w.heap.size) → wpList P ops Q rest (a.put o.dst (.slice (some ⟨g, 0, none⟩) (n + m) cap)) w') : wpList P ops Q (o :: rest) a w := by
  refine wpList_plain hgd fun K hK => ?_
  obtain ⟨v', w', hr, h2, h3, h4, h5⟩ := run_append_own_at (P := P) w base t o.type e i z size bytes ht hi hz hsize hby hzs hsz _ n xs hown ad m c news hl hnews h1 h63 hbytes hbase
  have hne : v' ≠ .slice none 0 0 := fun e => by have := (h4.1 e).1; cases this
  obtain ⟨g, cap, cur, rfl, _⟩ : ∃ g cap cur, v' = .slice (some ⟨g, 0, none⟩) (n + m) cap ∧ cur = () := by
    rcases h2.2 with ⟨q, _⟩ | ⟨g, cap, cur, e, _⟩
    · exact absurd q hne
    · exact ⟨g, cap, (), e, rfl⟩
  unfold Oper.wp execOp
  simp only [ho, resolve, invoke, builtin, Sem.run_bind, Sem.run_pure, Result.andThen_ok, List.map_toArray, List.map_cons, List.map_nil, hs, hx, hr]
  refine hK _ _ (h g cap w' h2 h3 ?_)
  rcases h5 with h5 | h5
  · left; simpa [Value.ownBlock] using h5
  · right; simpa [Value.ownBlock] using h5
/-- The cells of items, one behind the other. -/
def flI (l : List It) : List Value := l.flatMap ci
theorem flI_app (a b : List It) : flI (a ++ b) = flI a ++ flI b := List.flatMap_append
theorem flI_len : ∀ l : List It, (flI l).length = l.length * 5
  | [] => rfl
  | x :: r => by
    show (ci x ++ flI r).length = _
    rw [List.length_append, flI_len r]
    simp [ci]; omega
theorem flI_one (l : List It) : ∀ u ∈ flI l, u.oneCell' = true := by
  intro u hu
  obtain ⟨x, _, hx⟩ := List.mem_flatMap.1 hu
  simp only [ci, List.mem_cons, List.not_mem_nil, or_false] at hx
  rcases hx with rfl | rfl | rfl | rfl | rfl <;> rfl
theorem flI_cell {w : World} {b : Nat} : ∀ (l : List It) (o : Nat), (∀ j (h : j < l.length), Cs w b (o + j * 5) (ci l[j])) → Cs w b o (flI l)
  | [], o, _ => fun i v e => by cases e
  | x :: r, o, h => by
    intro i v e
    have e' : (ci x ++ flI r)[i]? = some v := e
    by_cases hi : i < 5
    · have h0 := h 0 (by simp)
      rw [List.getElem?_append_left (by simp [ci]; omega)] at e'
      have := h0 i v e'
      rwa [Nat.zero_mul, Nat.add_zero] at this
    · rw [List.getElem?_append_right (by simp [ci]; omega)] at e'
      have hl : (ci x).length = 5 := rfl
      rw [hl] at e'
      have := flI_cell r (o + 5) (fun j hj => by
        have := h (j + 1) (by simp; omega)
        rw [show o + (j + 1) * 5 = o + 5 + j * 5 by omega] at this
        exact this) (i - 5) v e'
      rwa [show o + 5 + (i - 5) = o + i by omega] at this
theorem cell_flI {w : World} {b : Nat} : ∀ (l : List It) (o : Nat), Cs w b o (flI l) → ∀ j (h : j < l.length), Cs w b (o + j * 5) (ci l[j])
  | [], o, _, j, h => by cases h
  | x :: r, o, H, 0, h => fun i v e0 => by
    have e : (ci x)[i]? = some v := e0
    have := H i v (show (ci x ++ flI r)[i]? = some v by
      rw [List.getElem?_append_left (List.getElem?_eq_some_iff.1 e).1]; exact e)
    rwa [Nat.zero_mul, Nat.add_zero]
  | x :: r, o, H, j + 1, h => by
    have := cell_flI r (o + 5) (fun i v e => by
      have := H (i + 5) v (show (ci x ++ flI r)[i + 5]? = some v by
        rw [List.getElem?_append_right (by simp [ci])]
        have hl : (ci x).length = 5 := rfl
        rw [hl, Nat.add_sub_cancel]; exact e)
      rwa [show o + (i + 5) = o + 5 + i by omega] at this) j (by simpa using h)
    rw [show o + (j + 1) * 5 = o + 5 + j * 5 by omega]
    exact this
/-- Items in a row that a call has grown. -/
def ItG (w : World) (B g c : Nat) (l : List It) : Prop := w.ownsRow B 54 5 (.slice (some ⟨g, 0, none⟩) l.length c) l.length (flI l)
theorem ItG.cs {w : World} {B g c : Nat} {l : List It} (h : ItG w B g c l) : Cs w g 0 (flI l) := by
  have hc := World.ownsRow.cells h (g := g) rfl
  intro i v e
  have := hc i v e
  have ha : (⟨g, 0, none⟩ : Addr).add i = ⟨g, 0 + i, none⟩ := Addr.add_mid g 0 i
  rwa [ha] at this
theorem ItG.lt {w : World} {B g c : Nat} {l : List It} (h : ItG w B g c l) : B ≤ g ∧ g < w.heap.size := World.ownsRow.lt h g rfl
theorem ItG.r {w : World} {B g c : Nat} {l : List It} (h : ItG w B g c l) : ItR w g l := ⟨h.lt.2, fun j hj => by
  have := cell_flI l 0 h.cs j hj
  rwa [Nat.zero_add] at this⟩
theorem ItG.below {w w' : World} {B g c : Nat} {l : List It} (h : ItG w B g c l) (H : Below w.heap.size w w') : ItG w' B g c l :=
  World.ownsRow.kept h (row := none) ⟨H.os, H.tape, H.output, H.size, fun k hk _ => H.block k hk⟩ (.inr (by simp [Value.ownBlock]))
theorem itm_part (n : Nat) (t : KT) (k : Nat) : (t.its ++ (t.kids.take k).flatMap (itm n)).length ≤ (itm (n + 1) t).length := by
  show _ ≤ (t.its ++ t.kids.flatMap (itm n)).length
  conv => rhs; rw [← List.take_append_drop k t.kids]
  rw [List.flatMap_append, List.length_append, List.length_append, List.length_append]
  omega
theorem itm_take {n : Nat} {t : KT} {k : Nat} (h : k < t.kids.length) : t.its ++ (t.kids.take (k + 1)).flatMap (itm n) = t.its ++ (t.kids.take k).flatMap (itm n) ++ itm n t.kids[k] := by
  rw [List.take_add_one, List.getElem?_eq_getElem h, Option.toList_some, List.flatMap_append, List.append_assoc]
  simp
theorem kn_itm {lo : Nat} : ∀ (m n : Nat) {w : World} {ia ka : Option Addr} {t : KT}, Kn lo m w ia ka t → (itm n t).length ≤ ksz m t
  | 0, n, _, _, _, _, h => h.elim
  | m + 1, n, w, ia, ka, t, h => by
    obtain ⟨bi, bk, h1, h2, h3, h4, h5, h6, h7, h8⟩ := h
    show _ ≤ t.its.length + t.kids.length + (t.kids.map (ksz m)).sum
    cases n with
    | zero => show t.its.length ≤ _; omega
    | succ n =>
      show (t.its ++ t.kids.flatMap (itm n)).length ≤ _
      rw [List.length_append, List.length_flatMap]
      have hk : ∀ k ∈ t.kids, (itm n k).length ≤ ksz m k := by
        intro k hk
        obtain ⟨j, hj, rfl⟩ := List.getElem_of_mem hk
        obtain ⟨ia', ka', _, k2⟩ := h8 j hj
        exact kn_itm m n k2
      clear h8 h7
      generalize t.kids = l at *
      have hs : (l.map (fun a => (itm n a).length)).sum ≤ (l.map (ksz m)).sum := by
        clear h6 h5 h3 h4 h1 h2
        induction l with
        | nil => exact Nat.le_refl _
        | cons x r ih =>
          rw [List.map_cons, List.sum_cons, List.map_cons, List.sum_cons]
          have h1 := hk x (by simp)
          have h2 := ih (fun k hk' => hk k (by simp [hk']))
          omega
      omega
theorem ofG {w : World} {B g c n : Nat} {l : List It} {vs : List Value} (h : w.ownsRow B 54 5 (.slice (some ⟨g, 0, none⟩) n c) n vs) (hn : n = l.length) (hv : vs = flI l) : ItG w B g c l := by
  subst hn hv; exact h
set_option maxRecDepth 100000 in
set_option maxHeartbeats 8000000 in
theorem items_step (n : Nat) (IH : ∀ n', n = n' + 1 → ∀ (m lo : Nat) (t : KT) (ia ka : Option Addr) (w : World), Kn lo m w ia ka t → ksz m t ≤ 1048576 → Calls Try.prog 39 #[kvo t ia ka, .int .i64 n'] w fun e w' => ∃ g c, e = .returned (.slice (some ⟨g, 0, none⟩) (itm n' t).length c) ∧ ItG w' w.heap.size g c (itm n' t) ∧ Below w.heap.size w w')
    (m lo : Nat) (t : KT) (ia ka : Option Addr) (w : World) (hn20 : n ≤ 20) (h : Kn lo m w ia ka t) (hz : ksz m t ≤ 1048576) : Calls Try.prog 39 #[kvo t ia ka, .int .i64 n] w fun e w' => ∃ g c, e = .returned (.slice (some ⟨g, 0, none⟩) (itm n t).length c) ∧ ItG w' w.heap.size g c (itm n t) ∧ Below w.heap.size w w' := by
  have hlen := Nat.le_trans (kn_itm m n h) hz
  cases m with
  | zero => exact h.elim
  | succ m =>
  obtain ⟨bi, bk, rfl, rfl, h3, h4, h5, h6, h7, h8⟩ := h
  have hz2 : t.its.length ≤ 1048576 ∧ t.kids.length ≤ 1048576 := by unfold ksz at hz; omega
  obtain ⟨i0, hi0, hz0, hz1, hzz⟩ := info_parts Try.infoIt
  have hN5 := flI_len t.its
  have hsz1 : (w.alloc (.cells #[.int .i64 t.box.1, .int .i64 t.box.2.1, .int .i64 t.box.2.2.1, .int .i64 t.box.2.2.2, .bool t.lf, .slice (some ⟨bi, 0, none⟩) t.its.length t.its.length, .slice (some ⟨bk, 0, none⟩) t.kids.length t.kids.length] 34)).heap.size = w.heap.size + 1 := by simp
  have hown := World.ownsRow_made (base := w.heap.size) (e := 54) (size := 5) (w.alloc (.cells #[.int .i64 t.box.1, .int .i64 t.box.2.1, .int .i64 t.box.2.2.1, .int .i64 t.box.2.2.2, .bool t.lf, .slice (some ⟨bi, 0, none⟩) t.its.length t.its.length, .slice (some ⟨bk, 0, none⟩) t.kids.length t.kids.length] 34)) #[] 0 (by simp) (by decide) rfl
  rw [hsz1] at hown
  have HOW : Hid (((w.alloc (.cells #[.int .i64 t.box.1, .int .i64 t.box.2.1, .int .i64 t.box.2.2.1, .int .i64 t.box.2.2.2, .bool t.lf, .slice (some ⟨bi, 0, none⟩) t.its.length t.its.length, .slice (some ⟨bk, 0, none⟩) t.kids.length t.kids.length] 34)).alloc (.cells #[] 54)).ownsRow w.heap.size 54 5 (.slice (some ⟨w.heap.size + 1, 0, none⟩) 0 0) 0 []) := hid hown
  clear hown hsz1
  have hbb : Below w.heap.size w ((w.alloc (.cells #[.int .i64 t.box.1, .int .i64 t.box.2.1, .int .i64 t.box.2.2.1, .int .i64 t.box.2.2.2, .bool t.lf, .slice (some ⟨bi, 0, none⟩) t.its.length t.its.length, .slice (some ⟨bk, 0, none⟩) t.kids.length t.kids.length] 34)).alloc (.cells #[] 54)) := balloc (balloc (Below.refl _ _) _) _
  have HNW : Hid (∀ j u, (flI t.its)[j]? = some u → ((w.alloc (.cells #[.int .i64 t.box.1, .int .i64 t.box.2.1, .int .i64 t.box.2.2.1, .int .i64 t.box.2.2.2, .bool t.lf, .slice (some ⟨bi, 0, none⟩) t.its.length t.its.length, .slice (some ⟨bk, 0, none⟩) t.kids.length t.kids.length] 34)).alloc (.cells #[] 54)).cell? ((⟨bi, 0, none⟩ : Addr).add j) = some u) := hid (fun j u e => by
    rw [Addr.add_mid bi 0 j]
    exact flI_cell t.its 0 (fun j hj => by have := (h5.2.1 j hj).below h5.1 hbb; rwa [Nat.zero_add]) j u e)
  have HF1 := hid (flI_one t.its)
  have gT0 : ((w.alloc (.cells #[.int .i64 t.box.1, .int .i64 t.box.2.1, .int .i64 t.box.2.2.1, .int .i64 t.box.2.2.2, .bool t.lf, .slice (some ⟨bi, 0, none⟩) t.its.length t.its.length, .slice (some ⟨bk, 0, none⟩) t.kids.length t.kids.length] 34)).alloc (.cells #[] 54)).heap[w.heap.size]? = some (.cells #[.int .i64 t.box.1, .int .i64 t.box.2.1, .int .i64 t.box.2.2.1, .int .i64 t.box.2.2.2, .bool t.lf, .slice (some ⟨bi, 0, none⟩) t.its.length t.its.length, .slice (some ⟨bk, 0, none⟩) t.kids.length t.kids.length] 34 (0, 0)) := old_alloc (new_alloc w w.heap.size _ rfl)
  have HGT := hid gT0
  have HSZ := hid (show ((w.alloc (.cells #[.int .i64 t.box.1, .int .i64 t.box.2.1, .int .i64 t.box.2.2.1, .int .i64 t.box.2.2.2, .bool t.lf, .slice (some ⟨bi, 0, none⟩) t.its.length t.its.length, .slice (some ⟨bk, 0, none⟩) t.kids.length t.kids.length] 34)).alloc (.cells #[] 54)).heap.size = w.heap.size + 2 by simp)
  have HBB := hid hbb
  have HKD : Hid (∀ j (h : j < t.kids.length), ∃ ia' ka', Cs w bk (j * 7) (ck t.kids[j] ia' t.kids[j].its.length ka' t.kids[j].kids.length) ∧ Kn lo m w ia' ka' t.kids[j]) := hid h8
  have HKZ := hid (fun k (hk : k ∈ t.kids) => Nat.le_trans (ksz_kid hk) hz)
  have hIH := hid IH
  have HPR := hid (fun k (hn : n ≠ 0) => show (t.its ++ (t.kids.take k).flatMap (itm (n - 1))).length ≤ 1048576 from Nat.le_trans (itm_part (n - 1) t k) (by rw [show n - 1 + 1 = n by omega]; exact hlen))
  have HFN := hid (fun (hn : n ≠ 0) => show itm n t = t.its ++ (t.kids.take t.kids.length).flatMap (itm (n - 1)) by
    obtain ⟨n', rfl⟩ : ∃ n', n = n' + 1 := ⟨n - 1, by omega⟩
    rw [List.take_length]; rfl)
  have HF0 := hid (fun (hn : n = 0) => show itm n t = t.its by subst hn; rfl)
  have HTK := hid (fun k (hk : k < t.kids.length) => itm_take (n := n - 1) hk)
  clear gT0 hbb h5 h7 h8 IH hz hlen
  unfold kvo kv
  generalize t.box.1 = b0 at *
  generalize t.box.2.1 = b1 at *
  generalize t.box.2.2.1 = b2 at *
  generalize t.box.2.2.2 = b3 at *
  generalize t.lf = b4 at *
  generalize hni : t.its.length = ni at hz2 HOW HNW HGT HSZ HBB hN5 ⊢
  generalize hnk : t.kids.length = nk at hz2 HOW HNW HGT HSZ HBB ⊢
  go_enter Try.func39, Try.ntmps39
  go_wp2_with (at_builtin; (refine wpList_append_any rfl (.tmp 7) (.tmp 9) 31 rfl w.heap.size 54 i0 _ 5 40 Try.underlying31 hi0 hz0 hz1 hzz rfl (by decide) (w.heap.size + 1) 0 0 0 [] (by rfl) HOW.out ⟨bi, 0, none⟩ ni ni (flI t.its) (by rfl) hN5 HNW.out HF1.out (by unfold maxLen; omega) (by omega) (by rw [HSZ.out]; omega) ?_; intro gg cp w2 hown1 hgrow hat))
  have hgg : w.heap.size < gg := by
    rcases hat with h | h
    · omega
    · rw [HSZ.out] at h; omega
  have gT := hid (grown_blk (p := w.heap.size + 1) hgrow HGT.out (by omega))
  have B0 := hid (bgrown HBB.out hgrow (by omega))
  have G0 : Hid (ItG w2 w.heap.size gg cp t.its) := hid (ofG hown1 (by omega) (by simp))
  have hlen0 : 0 + ni = t.its.length := by omega
  clear hown1 hgrow hat HOW HNW HF1 HGT HSZ HBB hN5
  go_loopw [5, 6] (fun t5 t6 wr => ∃ (k g c : Nat) (P : List It), t6 = .int .i64 k ∧ k ≤ nk ∧ (k ≠ 0 → n ≠ 0) ∧ t5 = .slice (some ⟨g, 0, none⟩) P.length c ∧ P = (if n = 0 then t.its else t.its ++ (t.kids.take k).flatMap (itm (n - 1))) ∧ w.heap.size < g ∧ ItG wr w.heap.size g c P ∧ wr.heap[w.heap.size]? = some (.cells #[.int .i64 b0, .int .i64 b1, .int .i64 b2, .int .i64 b3, .bool b4, .slice (some ⟨bi, 0, none⟩) ni ni, .slice (some ⟨bk, 0, none⟩) nk nk] 34 (0, 0)) ∧ Below w.heap.size w wr) (fun _ t6 _ => nk - (intOf t6).toNat)
  case atStart => exact ⟨0, gg, cp, t.its, rfl, Nat.zero_le _, fun h => absurd rfl h, by rw [hni], by split <;> simp, hgg, G0.out, gT.out, B0.out⟩
  case round =>
    clear gT B0 G0
    obtain ⟨k, g, c, P, rfl, hk, hkn, rfl, hP, hgl, hG, hgT, hB⟩ := hrel
    have HG := hid hG
    have gT := hid hgT
    have B0 := hid hB
    have HP := hid hP
    clear hG hgT hB hP
    obtain ⟨a0, a1, a2, a3, a4, a5, a6, _, _, _, _, _, _, _⟩ := cell7k gT.out
    by_cases hlt : k < nk
    · have hk1 : (k : Int) < (nk : Int) := by omega
      have hk0 : (0 : Int) ≤ (k : Int) := by omega
      by_cases hn : n = 0
      · have hnI : ¬ (0 : Int) < (n : Int) := by omega
        have HPf : Hid (itm n t = P) := hid (by rw [HP.out, if_pos hn]; exact HF0.out hn)
        clear hn hkn
        go_wp2_with fail
        go_ret
        rw [HPf.out]
        exact ⟨g, c, rfl, HG.out, B0.out⟩
      · have hnI : (0 : Int) < (n : Int) := by omega
        have hkt : k < t.kids.length := by omega
        obtain ⟨ia', ka', q1, q2⟩ := HKD.out k hkt
        obtain ⟨c0, c1, c2, c3, c4, c5, c6⟩ := (q1.below h6 B0.out).knot
        have C := hid (hIH.out (n - 1) (by omega) m lo t.kids[k] ia' ka' wr (q2.below B0.out) (HKZ.out _ (List.getElem_mem hkt)))
        have hPk : t.its ++ (t.kids.take (k + 1)).flatMap (itm (n - 1)) = P ++ itm (n - 1) t.kids[k] := by rw [HTK.out k hkt, HP.out, if_neg hn]
        have hPl := HPR.out (k + 1) hn
        rw [hPk, List.length_append] at hPl
        have HPk := hid hPk
        have hQ5 := flI_len (itm (n - 1) t.kids[k])
        have HQ1 := hid (flI_one (itm (n - 1) t.kids[k]))
        have hwn : IntKind.i64.wrap ((n : Int) - 1) = ((n - 1 : Nat) : Int) := by rw [IntKind.wrap_i64]; omega
        unfold kvo kv at C
        clear q1 q2 hPk
        generalize itm (n - 1) t.kids[k] = Q at *
        generalize t.kids[k].box.1 = d0 at *
        generalize t.kids[k].box.2.1 = d1 at *
        generalize t.kids[k].box.2.2.1 = d2 at *
        generalize t.kids[k].box.2.2.2 = d3 at *
        generalize t.kids[k].lf = d4 at *
        generalize t.kids[k].its.length = d5 at c5 C
        generalize t.kids[k].kids.length = d6 at c6 C
        generalize hnn : n - 1 = nn at hwn C
        go_wp2_with fail
        refine C.out.mono ?_
        rintro e w1 ⟨g2, cc2, rfl, hG2, hb1⟩
        have HG1 := hid (HG.out.below hb1)
        have HC2 := hid (World.ownsRow.cells hG2 (g := g2) rfl)
        have gT1 := hid (keepheap hb1 gT.out)
        have B1 := hid (btrans B0.out hb1)
        have hsz1 := B1.out.size
        have hg1 := HG.out.lt
        have hhs := hb1.size
        clear hG2 hb1 C gT B0 a0 a1 a2 a3 a4 a5 a6 HG
        go_wp2_with (at_builtin; (refine wpList_append_any rfl (.tmp 22) (.tmp 30) 31 rfl w.heap.size 54 i0 _ 5 40 Try.underlying31 hi0 hz0 hz1 hzz rfl (by decide) g P.length c P.length (flI P) (by rfl) HG1.out ⟨g2, 0, none⟩ Q.length cc2 (flI Q) (by rfl) hQ5 HC2.out HQ1.out (by unfold maxLen; omega) (by omega) hsz1 ?_; intro gg cp w2 hown1 hgrow hat))
        have hgg2 : w.heap.size < gg := by
          rcases hat with h | h
          · omega
          · omega
        have gT2 := hid (grown_blk (p := g) hgrow gT1.out (by omega))
        have B2 := hid (bgrown B1.out hgrow (by omega))
        have G2 : Hid (ItG w2 w.heap.size gg cp (P ++ Q)) := hid (ofG hown1 (by rw [List.length_append]) (by rw [flI_app]))
        clear hown1 hgrow hat
        go_wp2_with fail
        go_roundw
        case rel => exact ⟨k + 1, gg, cp, P ++ Q, by go_num, by omega, fun _ => hn, by rw [List.length_append], by rw [if_neg hn]; subst hnn; exact HPk.out.symm, hgg2, G2.out, gT2.out, B2.out⟩
        case measure => simp [intOf]; omega
    · have hk1 : ¬ (k : Int) < (nk : Int) := by omega
      have HPf : Hid (itm n t = P) := hid (by
        rw [HP.out]
        split
        · exact HF0.out (by assumption)
        · have e : k = t.kids.length := by omega
          rw [e]; exact HFN.out (by assumption))
      go_wp2_with fail
      go_ret
      rw [HPf.out]
      exact ⟨g, c, rfl, HG.out, B0.out⟩
theorem spec_items (n : Nat) : n ≤ 20 → ∀ (m lo : Nat) (t : KT) (ia ka : Option Addr) (w : World), Kn lo m w ia ka t → ksz m t ≤ 1048576 → Calls Try.prog 39 #[kvo t ia ka, .int .i64 n] w fun e w' => ∃ g c, e = .returned (.slice (some ⟨g, 0, none⟩) (itm n t).length c) ∧ ItG w' w.heap.size g c (itm n t) ∧ Below w.heap.size w w' := by
  induction n with
  | zero => exact fun h20 m lo t ia ka w h hz => items_step 0 (fun n' e => by omega) m lo t ia ka w h20 h hz
  | succ n ih =>
    intro h20 m lo t ia ka w h hz
    refine items_step (n + 1) (fun n' e => ?_) m lo t ia ka w h20 h hz
    have e' : n' = n := by omega
    subst e'
    exact ih (by omega)
end Go.Proofs.Ytmdnelgnpponpaa
