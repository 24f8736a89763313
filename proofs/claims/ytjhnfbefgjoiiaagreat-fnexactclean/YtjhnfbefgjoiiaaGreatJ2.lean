/- Texts of stores, joined: Va, RwS, RwI, RwJ, Vd. -/
import Derived.Test.YtjhnfbefgjoiiaaGreatRwA0
import Derived.Maps.AppendAt
import Derived.Test.YtjhnfbefgjoiiaaGreatRwE
import Derived.Test.YtjhnfbefgjoiiaaGreatRwC
import Derived.Test.YtjhnfbefgjoiiaaGreatShapeSp
import Derived.Deep.CutRange
import Derived.Test.YtjhnfbefgjoiiaaGreatRwP
import Derived.Test.YtjhnfbefgjoiiaaGreatShapeOk
import Derived.Test.YtjhnfbefgjoiiaaGreatVb
namespace Go.Proofs.YtjhnfbefgjoiiaaGreat
open Go.RowKit
set_option linter.unusedSimpArgs false
set_option linter.unusedVariables false
/-- An append to a list of its own that is no nil, at a step of a region that draws its order; the source may be empty. -/
theorem step_append_any {P : Program} {w : World} {ops : Array Oper} {o : Oper} {a : Act} {K : Act → World → Prop} {Q : Exit → Act → World → Prop} {E : Prop} (hgd : o.guard = none) (s x : Operand) (t : TypeId)
    (ho : o.op = .call { callee := .builtin .append, args := #[s, x], argTypes := #[t, t] })
    (base : Nat) (e : TypeId) (i : TypeInfo) (z : Value) (size bytes : Nat) (ht : P.underlying t = some (.slice e)) (hi : P.info? e = some i) (hz : i.zero = some z)
    (hsize : i.size = size) (hby : i.bytes = bytes) (hzs : z.cells.size = size) (hsz : 0 < size)
    (g0 n0 cap0 : Nat) (n : Nat) (xs : List Value) (hs : a.eval s = .slice (some ⟨g0, 0, none⟩) n0 cap0) (hown : w.ownsRow base e size (.slice (some ⟨g0, 0, none⟩) n0 cap0) n xs)
    (ad : Addr) (m c : Nat) (news : List Value) (hx : a.eval x = .slice (some ad) m c) (hl : news.length = m * size) (hnews : ∀ j u, news[j]? = some u → w.cell? (ad.add j) = some u) (h1 : ∀ u ∈ news, u.oneCell' = true)
    (h63 : n + m ≤ maxLen) (hbytes : (n + m) * bytes ≤ 140737488355328) (hbase : base ≤ w.heap.size)
    (h : ∀ g cap w', w'.ownsRow base e size (.slice (some ⟨g, 0, none⟩) (n + m) cap) (n + m) (xs ++ news) → w.grownBy w' (some g0) → (g = g0 ∨ g = w.heap.size) → K (a.put o.dst (.slice (some ⟨g, 0, none⟩) (n + m) cap)) w') :
    if Region.wanted o (yielded ops a.tmps) = true then Oper.wp P o a w K Q else E := by
  have hw : Region.wanted o (yielded ops a.tmps) = true := by simp [Region.wanted, hgd]
  rw [if_pos hw]
  obtain ⟨v', w', hr, h2, h3, h4, h5⟩ := run_append_own_at (P := P) w base t o.type e i z size bytes ht hi hz hsize hby hzs hsz _ n xs hown ad m c news hl hnews h1 h63 hbytes hbase
  have hne : v' ≠ .slice none 0 0 := fun e => by have := (h4.1 e).1; cases this
  obtain ⟨g, cap, cur, rfl, _⟩ : ∃ g cap cur, v' = .slice (some ⟨g, 0, none⟩) (n + m) cap ∧ cur = () := by
    rcases h2.2 with ⟨q, _⟩ | ⟨g, cap, cur, e, _⟩
    · exact absurd q hne
    · exact ⟨g, cap, (), e, rfl⟩
  unfold Oper.wp execOp
  simp only [ho, resolve, invoke, builtin, Sem.run_bind, Sem.run_pure, Result.andThen_ok, List.map_toArray, List.map_cons, List.map_nil, hs, hx, hr]
  refine h g cap w' h2 h3 ?_
  rcases h5 with h5 | h5
  · left; simpa [Value.ownBlock] using h5
  · right; simpa [Value.ownBlock] using h5
/-- The same in a plain region. -/
theorem wpList_append_any {P : Program} {w : World} {ops : Array Oper} {rest : List Oper} {o : Oper} {a : Act} {Q : Exit → Act → World → Prop} (hgd : o.guard = none) (s x : Operand) (t : TypeId)
    (ho : o.op = .call { callee := .builtin .append, args := #[s, x], argTypes := #[t, t] })
    (base : Nat) (e : TypeId) (i : TypeInfo) (z : Value) (size bytes : Nat) (ht : P.underlying t = some (.slice e)) (hi : P.info? e = some i) (hz : i.zero = some z)
    (hsize : i.size = size) (hby : i.bytes = bytes) (hzs : z.cells.size = size) (hsz : 0 < size)
    (g0 n0 cap0 : Nat) (n : Nat) (xs : List Value) (hs : a.eval s = .slice (some ⟨g0, 0, none⟩) n0 cap0) (hown : w.ownsRow base e size (.slice (some ⟨g0, 0, none⟩) n0 cap0) n xs)
    (ad : Addr) (m c : Nat) (news : List Value) (hx : a.eval x = .slice (some ad) m c) (hl : news.length = m * size) (hnews : ∀ j u, news[j]? = some u → w.cell? (ad.add j) = some u) (h1 : ∀ u ∈ news, u.oneCell' = true)
    (h63 : n + m ≤ maxLen) (hbytes : (n + m) * bytes ≤ 140737488355328) (hbase : base ≤ w.heap.size)
    (h : ∀ g cap w', w'.ownsRow base e size (.slice (some ⟨g, 0, none⟩) (n + m) cap) (n + m) (xs ++ news) → w.grownBy w' (some g0) → (g = g0 ∨ g = w.heap.size) → wpList P ops Q rest (a.put o.dst (.slice (some ⟨g, 0, none⟩) (n + m) cap)) w') : wpList P ops Q (o :: rest) a w := by
  refine wpList_plain hgd fun K hK => ?_
  obtain ⟨v', w', hr, h2, h3, h4, h5⟩ := run_append_own_at (P := P) w base t o.type e i z size bytes ht hi hz hsize hby hzs hsz _ n xs hown ad m c news hl hnews h1 h63 hbytes hbase
  have hne : v' ≠ .slice none 0 0 := fun e => by have := (h4.1 e).1; cases this
  obtain ⟨g, cap, cur, rfl, _⟩ : ∃ g cap cur, v' = .slice (some ⟨g, 0, none⟩) (n + m) cap ∧ cur = () := by
    rcases h2.2 with ⟨q, _⟩ | ⟨g, cap, cur, e, _⟩
    · exact absurd q hne
    · exact ⟨g, cap, (), e, rfl⟩
  unfold Oper.wp execOp
  simp only [ho, resolve, invoke, builtin, Sem.run_bind, Sem.run_pure, Result.andThen_ok, List.map_toArray, List.map_cons, List.map_nil, hs, hx, hr]
  refine hK _ _ (h g cap w' h2 h3 ?_)
  rcases h5 with h5 | h5
  · left; simpa [Value.ownBlock] using h5
  · right; simpa [Value.ownBlock] using h5
set_option maxRecDepth 100000 in
set_option maxHeartbeats 1000000 in
theorem spec_copyG (kd : Int) (b off : Nat) (cap : Nat) (ps : List (Int × Int)) (w : World) (hm : ps.length ≤ 1099511627776) (h : Pts w (some ⟨b, off, none⟩) ps) (hbs : b < w.heap.size) : Calls Tryz.prog 47 #[.agg #[.int .i64 kd, .slice (some ⟨b, off, none⟩) ps.length cap]] w fun e w' => CP w kd ps e w' := by
  obtain ⟨i0, hi0, hz0, hz1, hz2⟩ := info_parts Tryz.infoPC
  have hp : PtsAt w b off ps := by
    rcases h with h | ⟨b', o', e, _, h⟩
    · subst h; intro k hk; simp at hk
    · cases e; exact h
  have hN := fl2_len ps
  have HP := hid hp
  clear hp h
  have hB3 : Below w.heap.size w (((w.alloc (.cells #[.int .i64 kd, .slice (some ⟨b, off, none⟩) ps.length cap] 55)).alloc (.cells #[.int .i64 0, .slice none 0 0] 55)).alloc (.cells #[] 122)) := balloc (balloc (balloc (Below.refl _ _) _) _) _
  have hown := own_new (w := (w.alloc (.cells #[.int .i64 kd, .slice (some ⟨b, off, none⟩) ps.length cap] 55)).alloc (.cells #[.int .i64 0, .slice none 0 0] 55)) (B := w.heap.size + 2) (by simp)
  have gA := old_alloc (o' := .cells #[] 122) (old_alloc (o' := .cells #[.int .i64 0, .slice none 0 0] 55) (new_alloc w w.heap.size (.cells #[.int .i64 kd, .slice (some ⟨b, off, none⟩) ps.length cap] 55) rfl))
  have gB := old_alloc (o' := .cells #[] 122) (new_alloc (w.alloc (.cells #[.int .i64 kd, .slice (some ⟨b, off, none⟩) ps.length cap] 55)) (w.heap.size + 1) (.cells #[.int .i64 0, .slice none 0 0] 55) (by simp))
  have hsz3 : (((w.alloc (.cells #[.int .i64 kd, .slice (some ⟨b, off, none⟩) ps.length cap] 55)).alloc (.cells #[.int .i64 0, .slice none 0 0] 55)).alloc (.cells #[] 122)).heap.size = w.heap.size + 3 := by simp
  have hsz2 : ((w.alloc (.cells #[.int .i64 kd, .slice (some ⟨b, off, none⟩) ps.length cap] 55)).alloc (.cells #[.int .i64 0, .slice none 0 0] 55)).heap.size = w.heap.size + 2 := by simp
  rw [hsz2] at hown
  have HNW := hid (fl2_news (HP.out.below hbs hB3))
  have HOW := hid hown
  have HGA := hid gA
  have HGB := hid gB
  have HB3 := hid hB3
  have HSZ := hid hsz3
  have HF1 := hid (fl2_one ps)
  clear hown gA gB hB3 hsz3 hsz2
  go_enter Tryz.func47, Tryz.ntmps47
  go_wp2_with (at_builtin; (refine wpList_append_any rfl (.tmp 3) (.tmp 5) 53 rfl (w.heap.size + 2) 122 i0 _ 2 16 Tryz.underlying53 hi0 hz0 hz1 hz2 rfl (by decide) (w.heap.size + 2) 0 0 0 [] (by rfl) HOW.out ⟨b, off, none⟩ ps.length cap (fl2 ps) (by rfl) hN HNW.out HF1.out (by unfold maxLen; omega) (by omega) (by rw [HSZ.out]; omega) ?_; intro gg cp w2 hown1 hgrow hat; have gA := grown_blk (p := w.heap.size + 2) hgrow HGA.out (by omega); have gB := grown_blk (p := w.heap.size + 2) hgrow HGB.out (by omega); obtain ⟨a0, a1, f0, f1⟩ := cell2r gA; obtain ⟨b0, b1, e0, e1⟩ := cell2r gB))
  have HO1 := hid (own_pts (ps := ps) (by simpa using hown1) (by omega))
  have HB4 := hid (bgrown (p := w.heap.size + 2) HB3.out hgrow (by omega))
  clear hown1 hgrow
  obtain ⟨h1, h2, h3⟩ := HO1.out
  have gF := set2r (set_far (q := w.heap.size) (k := 1) (u := .slice (some ⟨gg, 0, none⟩) ps.length cp) gB (by omega)) (.int .i64 kd) (.slice (some ⟨gg, 0, none⟩) ps.length cp)
  have bF := bset (bset (bset HB4.out (q := w.heap.size) (k := 1) (Nat.le_refl _) (.slice (some ⟨gg, 0, none⟩) ps.length cp)) (q := w.heap.size + 1) (k := 0) (by omega) (.int .i64 kd)) (q := w.heap.size + 1) (k := 1) (by omega) (.slice (some ⟨gg, 0, none⟩) ps.length cp)
  have oF : PtsOwn (((w2.setCell ⟨w.heap.size, 1, none⟩ (.slice (some ⟨gg, 0, none⟩) ps.length cp)).setCell ⟨w.heap.size + 1, 0, none⟩ (.int .i64 kd)).setCell ⟨w.heap.size + 1, 1, none⟩ (.slice (some ⟨gg, 0, none⟩) ps.length cp)) gg ps := by
    refine own_blk h3 ?_ (by simp; exact h3.1)
    rw [Below.heap_setCell _ _ _ _ (by dsimp only; omega), Below.heap_setCell _ _ _ _ (by dsimp only; omega), Below.heap_setCell _ _ _ _ (by dsimp only; omega)]
  generalize ((w2.setCell ⟨w.heap.size, 1, none⟩ (.slice (some ⟨gg, 0, none⟩) ps.length cp)).setCell ⟨w.heap.size + 1, 0, none⟩ (.int .i64 kd)).setCell ⟨w.heap.size + 1, 1, none⟩ (.slice (some ⟨gg, 0, none⟩) ps.length cp) = wf at *
  obtain ⟨z0, z1, _, _⟩ := cell2r gF
  exact bodyPost_ret (v := .agg #[.int .i64 kd, .slice (some ⟨gg, 0, none⟩) ps.length cp]) (by simp [results, Tryz.results47, go_sem, z0, z1]) rfl ⟨gg, cp, rfl, by omega, by omega, oF, bF⟩
set_option maxRecDepth 100000 in
set_option maxHeartbeats 2000000 in
theorem impl_copyG (kd : Int) (b off : Nat) (cap : Nat) (ps : List (Int × Int)) (w : World) (hm : ps.length ≤ 1099511627776) (h : Pts w (some ⟨b, off, none⟩) ps) (hbs : b < w.heap.size) : Calls Tryz.prog 81 #[.agg #[.int .i64 kd, .slice (some ⟨b, off, none⟩) ps.length cap]] w fun e w' => CP w kd ps e w' := by
  obtain ⟨i0, hi0, hz0, hz1, hz2⟩ := info_parts Tryz.infoPC
  have hp : PtsAt w b off ps := by
    rcases h with h | ⟨b', o', e, _, h⟩
    · subst h; intro k hk; simp at hk
    · cases e; exact h
  have hN := fl2_len ps
  have HP := hid hp
  have HF1 := hid (fl2_one ps)
  clear hp h
  go_enter Tryz.func81, Tryz.ntmps81
  go_upto_region 1 with fail
  have hB : Below w.heap.size w ((w.alloc (.cells #[.int .i64 kd, .slice (some ⟨b, off, none⟩) ps.length cap] 55)).alloc (.cells #[.int .i64 0, .slice none 0 0] 55)) := balloc (balloc (Below.refl _ _) _) _
  have gA := old_alloc (o' := .cells #[.int .i64 0, .slice none 0 0] 55) (new_alloc w w.heap.size (.cells #[.int .i64 kd, .slice (some ⟨b, off, none⟩) ps.length cap] 55) rfl)
  have gB := new_alloc (w.alloc (.cells #[.int .i64 kd, .slice (some ⟨b, off, none⟩) ps.length cap] 55)) (w.heap.size + 1) (.cells #[.int .i64 0, .slice none 0 0] 55) (by simp)
  have hsz : ((w.alloc (.cells #[.int .i64 kd, .slice (some ⟨b, off, none⟩) ps.length cap] 55)).alloc (.cells #[.int .i64 0, .slice none 0 0] 55)).heap.size = w.heap.size + 2 := by simp
  generalize ((w.alloc (.cells #[.int .i64 kd, .slice (some ⟨b, off, none⟩) ps.length cap] 55)).alloc (.cells #[.int .i64 0, .slice none 0 0] 55)) = W at *
  have HNW := hid (fl2_news (HP.out.below hbs (balloc hB (.cells #[] 122))))
  have HOW := hid (own_new (w := W) (B := w.heap.size + 2) (by omega))
  rw [hsz] at HOW
  have HGB := hid (old_alloc (o' := .cells #[] 122) gB)
  have hs3 : (W.alloc (.cells #[] 122)).heap.size = w.heap.size + 3 := by simp [hsz]
  have HB3 := hid (balloc hB (.cells #[] 122))
  obtain ⟨a0, a1, f0, f1⟩ := cell2r gA
  obtain ⟨b0, b1, e0, e1⟩ := cell2r gB
  clear gA gB hB
  go_region_held3 (fun w' => w'.cell? ⟨w.heap.size, 0, none⟩ = some (.int .i64 kd) ∧ w'.cell? ⟨w.heap.size, 1, none⟩ = some (.slice (some ⟨b, off, none⟩) ps.length cap)) ((go_split_ands; (repeat' apply And.intro) <;> (repeat (first | with_reducible assumption | with_reducible refine keepset3 ?_ (by dsimp only; omega) | with_reducible refine keepdrew ?_ | with_reducible refine keepalloc ?_ _ | (refine hgrow.cell ?_ (by simp; try omega))))))
    ((refine step_append_any (by rfl) _ _ _ (by rfl) (w.heap.size + 2) 122 i0 _ 2 16 Tryz.underlying53 hi0 hz0 hz1 hz2 rfl (by omega) (w.heap.size + 2) 0 0 0 [] (by rw [← hsz]; rfl) (HOW.out.drew) ⟨b, off, none⟩ ps.length cap (fl2 ps) (by rfl) hN HNW.out HF1.out (by unfold maxLen; omega) (by omega) (by show _ ≤ (W.alloc (.cells #[] 122)).heap.size; omega) ?_; intro gg cp w2 hown1 hgrow hat; have gB := grown_blk (p := w.heap.size + 2) hgrow HGB.out (by omega); obtain ⟨y0, y1, x0, x1⟩ := cell2r gB))
  have HO1 := hid (own_pts (ps := ps) (by simpa using hown1) (by omega))
  have HB4 := hid (bgrown (p := w.heap.size + 2) (bdrew HB3.out) hgrow (by omega))
  clear hown1 hgrow
  go_wp2_with fail
  obtain ⟨h1, h2, h3⟩ := HO1.out
  have gF := set2r gB (.int .i64 kd) (.slice (some ⟨gg, 0, none⟩) ps.length cp)
  have bF := bset (bset HB4.out (q := w.heap.size + 1) (k := 0) (by omega) (.int .i64 kd)) (q := w.heap.size + 1) (k := 1) (by omega) (.slice (some ⟨gg, 0, none⟩) ps.length cp)
  have oF : PtsOwn ((w2.setCell ⟨w.heap.size + 1, 0, none⟩ (.int .i64 kd)).setCell ⟨w.heap.size + 1, 1, none⟩ (.slice (some ⟨gg, 0, none⟩) ps.length cp)) gg ps := by
    refine own_blk h3 ?_ (by simp; exact h3.1)
    rw [Below.heap_setCell _ _ _ _ (by dsimp only; omega), Below.heap_setCell _ _ _ _ (by dsimp only; omega)]
  generalize (w2.setCell ⟨w.heap.size + 1, 0, none⟩ (.int .i64 kd)).setCell ⟨w.heap.size + 1, 1, none⟩ (.slice (some ⟨gg, 0, none⟩) ps.length cp) = wf at *
  obtain ⟨z0, z1, _, _⟩ := cell2r gF
  exact bodyPost_ret (v := .agg #[.int .i64 kd, .slice (some ⟨gg, 0, none⟩) ps.length cp]) (by simp [results, Tryz.results81, go_sem, z0, z1]) rfl ⟨gg, cp, rfl, by omega, by omega, oF, bF⟩
end Go.Proofs.YtjhnfbefgjoiiaaGreat
namespace Go.Proofs.YtjhnfbefgjoiiaaGreat
open Go.RowKit
set_option linter.unusedSimpArgs false
set_option linter.unusedVariables false
def rowb (now : Int) (r : Rw) : Bool := rwb now r && shok r.2.2.2.1 r.2.2.2.2
/-- Whether rows are right. -/
def rowsb (now : Int) (rs : List Rw) : Bool := (decide (0 ≤ now) && decide (rs.length ≤ 300)) && (rs.all (rowb now) && apartR (rs.map tr))
theorem rowsb_now {now : Int} {rs : List Rw} (h : now < 0) : rowsb now rs = false := by
  unfold rowsb; rw [show decide (0 ≤ now) = false by simpa using h]; rfl
theorem rowsb_long {now : Int} {rs : List Rw} (h : 300 < rs.length) : rowsb now rs = false := by
  unfold rowsb; rw [show decide (rs.length ≤ 300) = false by simpa using h]; simp
theorem rowsb_row {now : Int} {rs : List Rw} {m : Nat} (h : m < rs.length) (hr : rowb now rs[m] = false) : rowsb now rs = false := by
  have ha : rs.all (rowb now) = false := by
    cases ha : rs.all (rowb now)
    · rfl
    · rw [List.all_eq_true.1 ha _ (List.getElem_mem h)] at hr; cases hr
  unfold rowsb; rw [ha]; simp
theorem rowsb_clash {now : Int} {rs : List Rw} {i k : Nat} (hi : i < rs.length) (hk : k < i) (hc : clash (tr rs[i]) (tr (rs[k]'(by omega))) = true) : rowsb now rs = false := by
  have ha : apartR (rs.map tr) = false := by
    cases ha : apartR (rs.map tr)
    · rfl
    · have hp := List.pairwise_iff_getElem.1 ((apartR_iff _).1 ha) k i (by simp; omega) (by simpa using hi) hk
      simp only [List.getElem_map] at hp
      rw [clash_comm, hc] at hp; cases hp
  unfold rowsb; rw [ha]; simp
theorem rowsb_yes {now : Int} {rs : List Rw} (h0 : 0 ≤ now) (hl : rs.length ≤ 300) (hr : ∀ m (h : m < rs.length), rowb now rs[m] = true) (ha : apartR (rs.map tr) = true) : rowsb now rs = true := by
  have hall : rs.all (rowb now) = true := List.all_eq_true.2 fun x hx => by
    obtain ⟨m, hm, rfl⟩ := List.mem_iff_getElem.1 hx
    exact hr m hm
  unfold rowsb
  rw [hall, ha]
  simp [h0, hl]
theorem apartR_next {rs : List Rw} {i : Nat} (hi : i < rs.length) (ha : apartR ((rs.map tr).take i) = true) (hc : ∀ m (h : m < rs.length), m < i → clash (tr rs[i]) (tr rs[m]) = false) : apartR ((rs.map tr).take (i + 1)) = true := by
  have e : (rs.map tr).take (i + 1) = (rs.map tr).take i ++ [tr rs[i]] := by
    rw [List.take_add_one, List.getElem?_map, List.getElem?_eq_getElem hi]; rfl
  rw [e, apartR_snoc, ha, Bool.true_and, List.all_eq_true]
  intro y hy
  obtain ⟨m, hm, rfl⟩ := List.mem_iff_getElem.1 hy
  simp only [List.length_take, List.length_map] at hm
  rw [List.getElem_take, List.getElem_map, clash_comm, hc m (by omega) (by omega)]
  rfl
set_option maxRecDepth 100000 in
set_option maxHeartbeats 4000000 in
theorem spec_RowsOk {N : Nat → Prop} (now : Int) (a : Option Addr) (cap : Nat) (rs : List Rw) (w : World) (hm : rs.length ≤ 1099511627776) (h : Rws N w a rs) : Calls Tryz.prog 26 #[.agg #[.int .i64 now, .slice a rs.length cap]] w fun e w' => e = .returned (.bool (rowsb now rs)) ∧ Below w.heap.size w w' := by
  have HR := hid h
  clear h
  obtain ⟨n, hn⟩ : ∃ n, n = rs.length := ⟨_, rfl⟩
  have HN := hid hn.symm
  rw [← hn] at hm ⊢
  clear hn
  by_cases h0 : now < 0
  · rw [rowsb_now h0]
    go_enter Tryz.func26, Tryz.ntmps26
    go_wp2_with fail
    go_ret
    exact ⟨rfl, balloc (Below.refl _ _) _⟩
  by_cases hl : 300 < n
  · rw [rowsb_long (by rw [HN.out]; exact hl)]
    have hl' : (300 : Int) < (n : Int) := by omega
    go_enter Tryz.func26, Tryz.ntmps26
    go_wp2_with fail
    go_ret
    exact ⟨rfl, balloc (Below.refl _ _) _⟩
  have hl' : (n : Int) ≤ 300 := by omega
  have hld : decide ((300 : Int) < (n : Int)) = false := by rw [decide_eq_false_iff_not]; omega
  go_enter Tryz.func26, Tryz.ntmps26
  go_wp2_with fail
  have g1 := new_alloc w w.heap.size (.cells #[.int .i64 now, .slice a n cap] 28) rfl
  have hB := balloc (Below.refl w.heap.size w) (.cells #[.int .i64 now, .slice a n cap] 28)
  generalize w.alloc (.cells #[.int .i64 now, .slice a n cap] 28) = W at *
  clear hld
  go_loopw [3] (fun ti wr => ∃ i : Nat, ti = .int .i64 i ∧ i ≤ n ∧ Hid (∀ m (h : m < rs.length), m < i → rowb now rs[m] = true) ∧ Hid (apartR ((rs.map tr).take i) = true) ∧ Hid (wr.heap[w.heap.size]? = some (.cells #[.int .i64 now, .slice a n cap] 28 (0, 0))) ∧ Hid (Below w.heap.size w wr)) (fun ti _ => n - (intOf ti).toNat)
  case atStart => exact ⟨0, rfl, Nat.zero_le _, hid (fun m h hh => absurd hh (by omega)), hid (by simp [apartR]), hid g1, hid hB⟩
  case round =>
    clear g1 hB
    obtain ⟨i, rfl, hi, HA, HP, G1, HBW⟩ := hrel
    obtain ⟨d0, d1, _, _⟩ := cell2f G1.out
    by_cases hlt : i < n
    · have c1 : (i : Int) < (n : Int) := by omega
      have hir : i < rs.length := by rw [HN.out]; exact hlt
      obtain ⟨b, o, rfl, hbs, a', cap', k0, k1, k2, k3, k4, k5, k6, k7, _⟩ := (HR.out.below HBW.out).at i hir
      have HID := hid (fun w => spec_id rs[i].1 w)
      have HIN := hid (fun w => in_r rs[i].2.1 1 now w)
      have HSO := hid (fun (W : World) (hb : Below wr.heap.size wr W) => spec_ShapeOk rs[i].2.2.2.1 a' cap' rs[i].2.2.2.2 W k6 k5 (k7.below hb))
      unfold shv at HSO
      have hrb : rowb now rs[i] = (idb rs[i].1 && (decide (1 ≤ rs[i].2.1) && decide (rs[i].2.1 ≤ now)) && (decide (rs[i].2.2.1 = 0) || (decide (rs[i].2.1 < rs[i].2.2.1) && decide (rs[i].2.2.1 ≤ now))) && shok rs[i].2.2.2.1 rs[i].2.2.2.2) := rfl
      have HRB := hid hrb
      clear hrb k5 k6 k7
      have HCL := hid (fun (k : Nat) (hk : k < rs.length) (hki : k < i) (hc : clash (tr rs[i]) (tr rs[k]) = true) => rowsb_clash (now := now) (rs := rs) (i := i) (k := k) hir hki hc)
      have HRF := hid (fun (hr : rowb now rs[i] = false) => rowsb_row (now := now) hir hr)
      have HNX := hid (fun (hc : ∀ m (h : m < rs.length), m < i → clash (tr rs[i]) (tr rs[m]) = false) => apartR_next hir HP.out hc)
      have hti : tr rs[i] = (rs[i].1, rs[i].2.1, rs[i].2.2.1) := rfl
      rw [hti] at HCL HNX
      have HTH := hid (fun (t : Int) (W : World) => spec_there rs[i] a' cap' t W)
      rw [hti] at HTH
      unfold rwv at HTH
      clear hti
      generalize hrow : rowb now rs[i] = rb at *
      have HROW := hid hrow
      clear hrow
      generalize rs[i].1 = id at *
      generalize rs[i].2.1 = fr at *
      generalize rs[i].2.2.1 = te at *
      generalize rs[i].2.2.2.1 = kd at *
      generalize rs[i].2.2.2.2 = ps at *
      go_upto_region 7 with fail
      have hBx : Below wr.heap.size wr (wr.alloc (.cells #[.int .i64 id, .int .i64 fr, .int .i64 te, .int .i64 kd, .slice a' ps.length cap'] 57)) := balloc (Below.refl _ _) _
      have gx := new_alloc wr wr.heap.size (.cells #[.int .i64 id, .int .i64 fr, .int .i64 te, .int .i64 kd, .slice a' ps.length cap'] 57) rfl
      have g1 := keepheap2 hBx G1.out
      have hB := btrans HBW.out hBx
      have hlx := lt_of_block G1.out
      have HBX := hid hBx
      clear hBx d0 d1 k0 k1 k2 k3 k4
      generalize wr.alloc (.cells #[.int .i64 id, .int .i64 fr, .int .i64 te, .int .i64 kd, .slice a' ps.length cap'] 57) = W1 at *
      have hlx1 := lt_of_block gx
      have HX0 := hid (show wr.heap.size = wr.heap.size from rfl)
      obtain ⟨X, hX⟩ : ∃ X, X = wr.heap.size := ⟨_, rfl⟩
      rw [← hX] at gx hlx hlx1 ⊢
      have HXE := hid hX
      clear hX HX0
      obtain ⟨d0, d1, _, _⟩ := cell2f g1
      obtain ⟨⟨x0, x1, x2, x3, x4⟩, _⟩ := cell5g gx
      go_cut [64] from 28 to 64 (fun t wx => t = .bool (!rb) ∧ Hid (Below W1.heap.size W1 wx))
      case first =>
        generalize idb id = B1 at HID HRB
        generalize (decide (1 ≤ fr) && decide (fr ≤ now)) = B2 at HIN HRB
        generalize shok kd ps = B4 at HSO HRB
        cases B1
        · go_wp2_with fail
          refine (HID.out _).mono ?_
          rintro e z ⟨rfl, hw⟩
          replace hw := hw.symm
          subst hw
          go_wp2_with fail
          go_meet
          exact ⟨by rw [HRB.out]; simp, hid (Below.refl _ _)⟩
        cases B2
        · go_wp2_with fail
          refine (HID.out _).mono ?_
          rintro e z ⟨rfl, hw⟩
          replace hw := hw.symm
          subst hw
          go_wp2_with fail
          refine (HIN.out _).mono ?_
          rintro e z ⟨rfl, hw⟩
          replace hw := hw.symm
          subst hw
          go_wp2_with fail
          go_meet
          exact ⟨by rw [HRB.out]; simp, hid (Below.refl _ _)⟩
        cases q0 : (te != 0)
        · have hrb2 : rb = B4 := by rw [HRB.out]; have : te = 0 := by simpa using q0
                                    simp [this]
          have HRB2 := hid hrb2
          clear hrb2
          go_wp2_with fail
          refine (HID.out _).mono ?_
          rintro e z ⟨rfl, hw⟩
          replace hw := hw.symm
          subst hw
          go_wp2_with fail
          refine (HIN.out _).mono ?_
          rintro e z ⟨rfl, hw⟩
          replace hw := hw.symm
          subst hw
          go_wp2_with fail
          refine (HSO.out _ HBX.out).mono ?_
          rintro e z ⟨rfl, hz⟩
          go_wp2_with fail
          go_meet
          exact ⟨by rw [HRB2.out], hid hz⟩
        cases q1 : decide (te ≤ fr)
        · cases q2 : decide (now < te)
          · have hrb2 : rb = B4 := by
              rw [HRB.out]
              have t1 : ¬ te ≤ fr := by simpa using q1
              have t2 : ¬ now < te := by simpa using q2
              have t3 : decide (fr < te) = true := by rw [decide_eq_true_iff]; omega
              have t4 : decide (te ≤ now) = true := by rw [decide_eq_true_iff]; omega
              rw [t3, t4]; simp
            have HRB2 := hid hrb2
            clear hrb2
            go_wp2_with fail
            refine (HID.out _).mono ?_
            rintro e z ⟨rfl, hw⟩
            replace hw := hw.symm
            subst hw
            go_wp2_with fail
            refine (HIN.out _).mono ?_
            rintro e z ⟨rfl, hw⟩
            replace hw := hw.symm
            subst hw
            go_wp2_with fail
            refine (HSO.out _ HBX.out).mono ?_
            rintro e z ⟨rfl, hz⟩
            go_wp2_with fail
            go_meet
            exact ⟨by rw [HRB2.out], hid hz⟩
          · have hrb2 : rb = false := by
              rw [HRB.out]
              have t0 : ¬ te = 0 := by simpa using q0
              have t2 : now < te := by simpa using q2
              have t4 : decide (te ≤ now) = false := by rw [decide_eq_false_iff_not]; omega
              rw [t4]; simp [t0]
            have HRB2 := hid hrb2
            clear hrb2
            go_wp2_with fail
            refine (HID.out _).mono ?_
            rintro e z ⟨rfl, hw⟩
            replace hw := hw.symm
            subst hw
            go_wp2_with fail
            refine (HIN.out _).mono ?_
            rintro e z ⟨rfl, hw⟩
            replace hw := hw.symm
            subst hw
            go_wp2_with fail
            go_meet
            exact ⟨by rw [HRB2.out]; rfl, hid (Below.refl _ _)⟩
        · have hrb2 : rb = false := by
            rw [HRB.out]
            have t0 : ¬ te = 0 := by simpa using q0
            have t1 : te ≤ fr := by simpa using q1
            have t3 : decide (fr < te) = false := by rw [decide_eq_false_iff_not]; omega
            rw [t3]; simp [t0]
          have HRB2 := hid hrb2
          clear hrb2
          go_wp2_with fail
          refine (HID.out _).mono ?_
          rintro e z ⟨rfl, hw⟩
          replace hw := hw.symm
          subst hw
          go_wp2_with fail
          refine (HIN.out _).mono ?_
          rintro e z ⟨rfl, hw⟩
          replace hw := hw.symm
          subst hw
          go_wp2_with fail
          go_meet
          exact ⟨by rw [HRB2.out]; rfl, hid (Below.refl _ _)⟩
      case rest =>
        obtain ⟨rfl, HBC⟩ := hcut
        have g1' := keepheap2 HBC.out g1
        have gx' := keepheap2 HBC.out gx
        have hB' := btrans hB HBC.out
        clear d0 d1 x0 x1 x2 x3 x4 HID HIN HSO HRB
        cases rb
        · have HF := hid (HRF.out rfl)
          go_wp2_with fail
          go_ret
          exact ⟨by rw [HF.out]; rfl, hB'⟩
        go_wp2_with fail
        go_loopw [5] (fun tk wq => ∃ k : Nat, tk = .int .i64 k ∧ k ≤ i ∧ Hid (∀ m (h : m < rs.length), m < k → clash (id, fr, te) (tr rs[m]) = false) ∧ Hid (wq.heap[w.heap.size]? = some (.cells #[.int .i64 now, .slice (some ⟨b, o, none⟩) n cap] 28 (0, 0))) ∧ Hid (wq.heap[X]? = some (.cells #[.int .i64 id, .int .i64 fr, .int .i64 te, .int .i64 kd, .slice a' ps.length cap'] 57 (0, 0))) ∧ Hid (Below w.heap.size w wq)) (fun tk _ => i - (intOf tk).toNat)
        case atStart => exact ⟨0, rfl, Nat.zero_le _, hid (fun m h hh => absurd hh (by omega)), hid g1', hid gx', hid hB'⟩
        case round =>
          clear g1' gx' hB' g1 gx hB G1
          obtain ⟨k, rfl, hk, HC, G1, GX, HBQ⟩ := hrel
          obtain ⟨d0, d1, _, _⟩ := cell2f G1.out
          obtain ⟨⟨x0, x1, x2, x3, x4⟩, _⟩ := cell5g GX.out
          by_cases hlt2 : k < i
          · have c2 : (k : Int) < (i : Int) := by omega
            have c3 : (k : Int) < (n : Int) := by omega
            have hkr : k < rs.length := by rw [HN.out]; omega
            obtain ⟨b', o', hbo, hbs', a2, cap2, k0, k1, k2, k3, k4, k5, k6, k7, _⟩ := (HR.out.below HBQ.out).at k hkr
            cases hbo
            have HT2 := hid (fun (t : Int) (W : World) => spec_there rs[k] a2 cap2 t W)
            have HCK := hid (HCL.out k hkr hlt2)
            have HCA : Hid (clash (id, fr, te) (tr rs[k]) = false → ∀ m (h : m < rs.length), m < k + 1 → clash (id, fr, te) (tr rs[m]) = false) := hid (fun hf m hm hmk => by
              by_cases e : m = k
              · subst e; exact hf
              · exact HC.out m hm (by omega))
            have htk : tr rs[k] = (rs[k].1, rs[k].2.1, rs[k].2.2.1) := rfl
            rw [htk] at HT2 HCK HCA
            unfold rwv at HT2
            clear htk k5 k6 k7
            generalize rs[k].1 = id2 at *
            generalize rs[k].2.1 = fr2 at *
            generalize rs[k].2.2.1 = te2 at *
            generalize rs[k].2.2.2.1 = kd2 at *
            generalize rs[k].2.2.2.2 = ps2 at *
            have HCD := hid (show clash (id, fr, te) (id2, fr2, te2) = (decide (id2 = id) && (thr (id, fr, te) fr2 || thr (id2, fr2, te2) fr)) from rfl)
            go_upto_region 13 with fail
            have hBy : Below wr.heap.size wr (wr.alloc (.cells #[.int .i64 id2, .int .i64 fr2, .int .i64 te2, .int .i64 kd2, .slice a2 ps2.length cap2] 57)) := balloc (Below.refl _ _) _
            have gy := new_alloc wr wr.heap.size (.cells #[.int .i64 id2, .int .i64 fr2, .int .i64 te2, .int .i64 kd2, .slice a2 ps2.length cap2] 57) rfl
            have g1 := keepheap2 hBy G1.out
            have gx := keepheap2 hBy GX.out
            have hB := btrans HBQ.out hBy
            clear d0 d1 x0 x1 x2 x3 x4 k0 k1 k2 k3 k4 hBy
            generalize wr.alloc (.cells #[.int .i64 id2, .int .i64 fr2, .int .i64 te2, .int .i64 kd2, .slice a2 ps2.length cap2] 57) = W2 at *
            generalize wr.heap.size = Y at *
            obtain ⟨d0, d1, _, _⟩ := cell2f g1
            obtain ⟨⟨x0, x1, x2, x3, x4⟩, _⟩ := cell5g gx
            obtain ⟨⟨y0, y1, y2, y3, y4⟩, _⟩ := cell5g gy
            generalize hcl : clash (id, fr, te) (id2, fr2, te2) = cb at *
            have HCB := hid hcl
            clear hcl
            go_cut [91] from 75 to 91 (fun t wx => t = .bool cb ∧ Hid (Below W2.heap.size W2 wx))
            case first =>
              generalize hT1 : thr (id, fr, te) fr2 = T1 at HCD
              generalize hT2 : thr (id2, fr2, te2) fr = T2 at HCD
              have H1 := hid (HTH.out fr2)
              have H2 := hid (HT2.out fr)
              rw [hT1] at H1
              rw [hT2] at H2
              clear hT1 hT2
              cases qi : (id2 == id)
              · have hne : decide (id2 = id) = false := by simpa using qi
                go_wp2_with fail
                go_meet
                exact ⟨by rw [HCD.out, hne]; rfl, hid (Below.refl _ _)⟩
              · have heq : decide (id2 = id) = true := by simpa using qi
                have HEQ := hid heq
                clear heq
                cases T1
                · go_wp2_with fail
                  refine (H1.out _).mono ?_
                  rintro e z ⟨rfl, hz⟩
                  have gx2 := keepheap2 hz gx
                  have gy2 := keepheap2 hz gy
                  obtain ⟨⟨x0', x1', x2', x3', x4'⟩, _⟩ := cell5g gx2
                  obtain ⟨⟨y0', y1', y2', y3', y4'⟩, _⟩ := cell5g gy2
                  go_wp2_with fail
                  refine (H2.out _).mono ?_
                  rintro e z' ⟨rfl, hz'⟩
                  go_wp2_with fail
                  go_meet
                  exact ⟨by rw [HCD.out, HEQ.out]; simp, hid (btrans hz hz')⟩
                · go_wp2_with fail
                  refine (H1.out _).mono ?_
                  rintro e z ⟨rfl, hz⟩
                  go_wp2_with fail
                  go_meet
                  exact ⟨by rw [HCD.out, HEQ.out]; simp, hid hz⟩
            case rest =>
              obtain ⟨rfl, HBC2⟩ := hcut
              have g1' := keepheap2 HBC2.out g1
              have gx' := keepheap2 HBC2.out gx
              have hB' := btrans hB HBC2.out
              clear d0 d1 x0 x1 x2 x3 x4 y0 y1 y2 y3 y4
              cases cb
              · go_wp2_with fail
                go_roundw
                case rel => exact ⟨k + 1, by go_num, by omega, hid (HCA.out rfl), hid g1', hid gx', hid hB'⟩
                case measure => simp [intOf]; omega
              · have HF := hid (HCK.out rfl)
                go_wp2_with fail
                go_ret
                exact ⟨by rw [HF.out]; rfl, hB'⟩
          · have hall : ∀ m (h : m < rs.length), m < i → clash (id, fr, te) (tr rs[m]) = false := fun m h hm => HC.out m h (by omega)
            have HNA := hid (HNX.out hall)
            have c2 : (i : Int) ≤ (k : Int) := by omega
            clear hall
            have HG1 := hid G1.out
            clear d0 d1 x0 x1 x2 x3 x4
            go_wp2_with fail
            go_roundw
            case rel => exact ⟨i + 1, by go_num, by omega, hid (fun m h hm => by
              by_cases e : m = i
              · subst e; exact HROW.out
              · exact HA.out m h (by omega)), HNA, HG1, HBQ⟩
            case measure => simp [intOf]; omega
    · have hy := hid (rowsb_yes (now := now) (rs := rs) (by omega) (by rw [HN.out]; omega) (fun m h => HA.out m h (by rw [HN.out] at h; omega)) (by
        have := HP.out
        rw [List.take_of_length_le (by simp; rw [HN.out]; omega)] at this
        exact this))
      have c1 : (n : Int) ≤ (i : Int) := by omega
      go_wp2_with fail
      go_ret
      exact ⟨by rw [hy.out]; rfl, HBW.out⟩
end Go.Proofs.YtjhnfbefgjoiiaaGreat
namespace Go.Proofs.YtjhnfbefgjoiiaaGreat
open Go.RowKit
set_option linter.unusedSimpArgs false
set_option linter.unusedVariables false
theorem nbrs_take : ∀ (l : List Tr), (∀ k (h : k + 1 < l.length), nbr l[k] l[k + 1] = false) → nbrs l = true
  | [], _ => rfl
  | [_], _ => rfl
  | x :: y :: r, h => by
    simp only [nbrs, Bool.and_eq_true, Bool.not_eq_true']
    refine ⟨h 0 (by simp), nbrs_take (y :: r) (fun k hk => ?_)⟩
    exact h (k + 1) (by simp at hk ⊢; omega)
theorem nbrs_no : ∀ (l : List Tr) (k : Nat) (h : k + 1 < l.length), nbr l[k] l[k + 1] = true → nbrs l = false
  | [], k, h, _ => by simp at h
  | [_], k, h, _ => by simp at h
  | x :: y :: r, 0, h, hn => by
    have hn' : nbr x y = true := hn
    simp [nbrs, hn']
  | x :: y :: r, k + 1, h, hn => by
    have ih := nbrs_no (y :: r) k (by simp at h ⊢; omega) hn
    simp [nbrs, ih]
set_option maxRecDepth 100000 in
set_option maxHeartbeats 4000000 in
theorem rows_apart0 (a : Option Addr) (cap : Nat) (w : World) : Calls Tryz.prog 62 #[.slice a 0 cap] w fun e w' => e = .returned (.bool true) ∧ Below w.heap.size w w' := by
  go_enter Tryz.func62, Tryz.ntmps62
  go_wp2_with fail
  refine (values_c _ _ _ _).mono ?_
  rintro e z ⟨rfl, rfl⟩
  go_wp2_with fail
  have hB0 : Below w.heap.size w (w.alloc (.cells #[.slice a 0 cap] 26)) := balloc (Below.refl _ _) _
  refine (sorted_0 w.heap.size cap a _ (by simp)).mono ?_
  rintro e w1 ⟨a', cp, rfl, hB1⟩
  have hB := btrans hB0 hB1
  clear hB0 hB1
  go_wp2_with fail
  go_loopw [4] (fun ti wr => ti = .int .i64 1 ∧ Hid (Below w.heap.size w wr)) (fun ti _ => 0)
  case atStart => exact ⟨rfl, hid hB⟩
  case round =>
    clear hB
    obtain ⟨rfl, HB⟩ := hrel
    go_wp2_with fail
    go_ret
    exact ⟨rfl, HB.out⟩
set_option maxRecDepth 100000 in
set_option maxHeartbeats 4000000 in
theorem rows_apart (b off cap : Nat) (xs : List El) (w : World) (hlen : xs.length ≤ 300) (h0 : ¬ xs.length = 0) (hb : b < w.heap.size) (hc : ElsAt w b off xs) (ht : ∀ x ∈ xs, tmb (trE x)) : Calls Tryz.prog 62 #[.slice (some ⟨b, off, none⟩) xs.length cap] w fun e w' => e = .returned (.bool (apartR (xs.map trE))) ∧ Below w.heap.size w w' := by
  have h0' : 0 < xs.length := by omega
  have HSF := hid (fun (W : World) (Bs : Nat) (hb0 : Below w.heap.size w W) (hBs : W.cell? ⟨Bs, 0, none⟩ = some (.slice (some ⟨b, off, none⟩) xs.length cap)) => sorted_c Bs b off cap xs h0' (by omega) W (Nat.lt_of_lt_of_le hb hb0.size) hBs (hc.below hb hb0))
  clear hc
  obtain ⟨n, hn⟩ : ∃ n, n = xs.length := ⟨_, rfl⟩
  have HN := hid hn
  rw [← hn] at HSF h0' hlen ⊢
  clear hn h0
  go_enter Tryz.func62, Tryz.ntmps62
  go_wp2_with fail
  refine (values_c _ _ _ _).mono ?_
  rintro e z ⟨rfl, rfl⟩
  go_wp2_with fail
  have hB0 : Below w.heap.size w (w.alloc (.cells #[.slice (some ⟨b, off, none⟩) n cap] 26)) := balloc (Below.refl _ _) _
  refine (HSF.out _ _ hB0 (by simp)).mono ?_
  rintro e w1 ⟨g, cp, ys, rfl, hyl, hgl, hE, hP, hL, hB1⟩
  have hap : apartR (xs.map trE) = nbrs (ys.map trE) := apartR_sorted (hP.map trE) (fun x hx => by
    obtain ⟨y, hy, rfl⟩ := List.mem_map.1 hx
    exact ht y hy) (List.pairwise_map.2 (hL.imp (fun h => h)))
  have HAP := hid hap
  have hB := btrans hB0 hB1
  have HYL := hid hyl
  have HE := hid hE
  clear hap hP hL hB1 hB0 hE hyl HSF ht
  go_wp2_with fail
  go_loopw [4] (fun ti wr => ∃ k : Nat, ti = .int .i64 ((k + 1 : Nat) : Int) ∧ k + 1 ≤ n ∧ Hid (∀ m (h : m + 1 < ys.length), m < k → nbr (trE ys[m]) (trE ys[m + 1]) = false) ∧ Hid (g < wr.heap.size ∧ ElsAt wr g 0 ys) ∧ Hid (Below w.heap.size w wr)) (fun ti _ => n - (intOf ti).toNat)
  case atStart => exact ⟨0, rfl, by omega, hid (fun m h hh => absurd hh (by omega)), hid ⟨hgl, HE.out⟩, hid hB⟩
  case round =>
    clear hB hgl HE
    obtain ⟨k, rfl, hk, HC, HE, HB⟩ := hrel
    by_cases hlt : k + 1 < n
    · have c1 : ((k + 1 : Nat) : Int) < (n : Int) := by omega
      have hk1 : k + 1 < ys.length := by rw [HYL.out]; exact hlt
      obtain ⟨x0, x1, x2, x3, x4⟩ := HE.out.2 k (by omega)
      obtain ⟨y0, y1, y2, y3, y4⟩ := HE.out.2 (k + 1) hk1
      have HT := hid (fun (t : Int) (W : World) => impl_there ((ys[k]'(by omega)).1, (ys[k]'(by omega)).2.1, (ys[k]'(by omega)).2.2.1, (ys[k]'(by omega)).2.2.2.1, List.replicate (ys[k]'(by omega)).2.2.2.2.2.1 (0, 0)) (ys[k]'(by omega)).2.2.2.2.1 (ys[k]'(by omega)).2.2.2.2.2.2 t W)
      have HNB := hid (show nbr (trE (ys[k]'(by omega))) (trE ys[k + 1]) = (decide ((ys[k]'(by omega)).1 = ys[k + 1].1) && thr ((ys[k]'(by omega)).1, (ys[k]'(by omega)).2.1, (ys[k]'(by omega)).2.2.1) ys[k + 1].2.1) from rfl)
      have HNO := hid (fun (h : nbr (trE (ys[k]'(by omega))) (trE ys[k + 1]) = true) => nbrs_no (ys.map trE) k (by simpa using hk1) (by simpa using h))
      have HCA : Hid (nbr (trE (ys[k]'(by omega))) (trE ys[k + 1]) = false → ∀ m (h : m + 1 < ys.length), m < k + 1 → nbr (trE ys[m]) (trE ys[m + 1]) = false) := hid (fun hf m hm hmk => by
        by_cases e : m = k
        · subst e; exact hf
        · exact HC.out m hm (by omega))
      unfold rwv tr at HT
      simp only [List.length_replicate, Nat.zero_add] at HT x0 x1 x2 x3 x4 y0 y1 y2 y3 y4
      generalize nbr (trE (ys[k]'(by omega))) (trE ys[k + 1]) = nb at HNB HNO HCA
      generalize (ys[k]'(by omega)).1 = i1 at *
      generalize (ys[k]'(by omega)).2.1 = f1 at *
      generalize (ys[k]'(by omega)).2.2.1 = t1 at *
      generalize (ys[k]'(by omega)).2.2.2.1 = k1 at *
      generalize (ys[k]'(by omega)).2.2.2.2.1 = a1 at *
      generalize (ys[k]'(by omega)).2.2.2.2.2.1 = n1 at *
      generalize (ys[k]'(by omega)).2.2.2.2.2.2 = p1 at *
      generalize ys[k + 1].1 = i2 at *
      generalize ys[k + 1].2.1 = f2 at *
      generalize ys[k + 1].2.2.1 = t2 at *
      generalize ys[k + 1].2.2.2.1 = k2 at *
      generalize ys[k + 1].2.2.2.2.1 = a2 at *
      generalize ys[k + 1].2.2.2.2.2.1 = n2 at *
      generalize ys[k + 1].2.2.2.2.2.2 = p2 at *
      obtain ⟨j, hj⟩ : ∃ j : Nat, j = k + 1 := ⟨_, rfl⟩
      have HJ := hid hj
      rw [← hj] at y0 y1 y2 y3 y4 c1 ⊢
      have hj0 : (0 : Int) ≤ (j : Int) := by omega
      have hw1 : IntKind.i64.wrap ((j : Int) - 1) = (k : Int) := by rw [IntWalk.i64_in _ ⟨by omega, by omega⟩]; omega
      have hk0 : (0 : Int) ≤ (k : Int) := by omega
      have ck : (k : Int) < (n : Int) := by omega
      have hjn : j < n := by omega
      have hkn : k < n := by omega
      clear hj hk hlt hk1
      have HB2 := HB
      have HE2 := HE
      go_wp2_with fail
      go_cut [5, 6] (fun t5 t6 wx => ∃ ba bb : Nat, t5 = .pointer (some ⟨ba, 0, none⟩) ∧ t6 = .pointer (some ⟨bb, 0, none⟩) ∧ Below wr.heap.size wr wx ∧ wx.heap[ba]? = some (.cells #[.int .i64 i1, .int .i64 f1, .int .i64 t1, .int .i64 k1, .slice a1 n1 p1] 57 (0, 0)) ∧ wx.heap[bb]? = some (.cells #[.int .i64 i2, .int .i64 f2, .int .i64 t2, .int .i64 k2, .slice a2 n2 p2] 57 (0, 0)))
      case first =>
        go_region_held3 (fun w' => w'.cell? ⟨g, k * 5, none⟩ = some (.int .i64 i1) ∧ w'.cell? ⟨g, k * 5 + 1, none⟩ = some (.int .i64 f1) ∧ w'.cell? ⟨g, k * 5 + 2, none⟩ = some (.int .i64 t1) ∧ w'.cell? ⟨g, k * 5 + 3, none⟩ = some (.int .i64 k1) ∧ w'.cell? ⟨g, k * 5 + 4, none⟩ = some (.slice a1 n1 p1) ∧ w'.cell? ⟨g, j * 5, none⟩ = some (.int .i64 i2) ∧ w'.cell? ⟨g, j * 5 + 1, none⟩ = some (.int .i64 f2) ∧ w'.cell? ⟨g, j * 5 + 2, none⟩ = some (.int .i64 t2) ∧ w'.cell? ⟨g, j * 5 + 3, none⟩ = some (.int .i64 k2) ∧ w'.cell? ⟨g, j * 5 + 4, none⟩ = some (.slice a2 n2 p2)) ((go_split_ands; (repeat' apply And.intro) <;> (repeat (first | with_reducible assumption | with_reducible refine keepset ?_ (by dsimp only; omega) | with_reducible refine keepdrew ?_ | with_reducible refine keepalloc ?_ _))))
          (first
            | (fail))
        all_goals
          go_wp2_with fail
          go_meet
          first
            | exact ⟨_, _, rfl, rfl, by (repeat (first | exact Below.refl _ _ | (refine btrans ?_ (by with_reducible assumption)) | refine bdrew ?_ | refine balloc ?_ _)), old_alloc (new_alloc _ _ _ (by simp)), new_alloc _ _ _ (by simp)⟩
            | exact ⟨_, _, rfl, rfl, by (repeat (first | exact Below.refl _ _ | (refine btrans ?_ (by with_reducible assumption)) | refine bdrew ?_ | refine balloc ?_ _)), new_alloc _ _ _ (by simp), old_alloc (new_alloc _ _ _ (by simp))⟩
      case rest =>
        clear x0 x1 x2 x3 x4 y0 y1 y2 y3 y4
        obtain ⟨ba, bb, rfl, rfl, hbx, ga, gb⟩ := hcut
        obtain ⟨⟨x0, x1, x2, x3, x4⟩, _⟩ := cell5g ga
        obtain ⟨⟨y0, y1, y2, y3, y4⟩, _⟩ := cell5g gb
        clear ga gb
        have HB3 := hid (btrans HB2.out hbx)
        have HE3 := hid (And.intro (Nat.lt_of_lt_of_le HE2.out.1 hbx.size) (HE2.out.2.below HE2.out.1 hbx))
        have hadd : IntKind.i64.wrap ((j : Int) + 1) = ((j + 1 : Nat) : Int) := by rw [IntWalk.i64_in _ ⟨by omega, by omega⟩]; omega
        clear hbx HB2 HB HE HE2
        have HT2 := hid (fun W => HT.out f2 W)
        clear HT
        generalize hth : thr (i1, f1, t1) f2 = th at *
        cases qi : (i1 == i2)
        · have nbf : nb = false := by rw [HNB.out, show decide (i1 = i2) = false by simpa using qi]; rfl
          have HQ := hid (HCA.out nbf)
          clear nbf
          go_wp2_with fail
          go_roundw
          case rel => exact ⟨j, by go_num, by omega, by rw [HJ.out]; exact HQ, HE3, HB3⟩
          case measure => simp [intOf]; omega
        · have HN2 : Hid (nb = th) := hid (by rw [HNB.out, show decide (i1 = i2) = true by simpa using qi]; rfl)
          cases th
          · go_wp2_with fail
            refine (HT2.out _).mono ?_
            rintro e z ⟨rfl, hz⟩
            have HQ := hid (HCA.out HN2.out)
            have HB4 := hid (btrans HB3.out hz)
            have HE4 := hid (And.intro (Nat.lt_of_lt_of_le HE3.out.1 hz.size) (HE3.out.2.below HE3.out.1 hz))
            clear hz HE3 HB3
            go_wp2_with fail
            go_roundw
            case rel => exact ⟨j, by go_num, by omega, by rw [HJ.out]; exact HQ, HE4, HB4⟩
            case measure => simp [intOf]; omega
          · go_wp2_with fail
            refine (HT2.out _).mono ?_
            rintro e z ⟨rfl, hz⟩
            have HQ := hid (HNO.out HN2.out)
            have HB4 := hid (btrans HB3.out hz)
            clear hz HE3 HB3
            go_wp2_with fail
            go_ret
            exact ⟨by rw [HAP.out, HQ.out]; rfl, HB4.out⟩
    · have hall := nbrs_take (ys.map trE) (fun m hm => by
        simp only [List.length_map] at hm
        simpa using HC.out m hm (by rw [HYL.out] at hm; omega))
      have HALL := hid hall
      have c1 : (n : Int) ≤ ((k + 1 : Nat) : Int) := by omega
      clear hall
      go_wp2_with fail
      go_ret
      exact ⟨by rw [HAP.out, HALL.out]; rfl, HB.out⟩
end Go.Proofs.YtjhnfbefgjoiiaaGreat
namespace Go.Proofs.YtjhnfbefgjoiiaaGreat
open Go.RowKit
set_option linter.unusedSimpArgs false
set_option linter.unusedVariables false
set_option maxRecDepth 100000 in
set_option maxHeartbeats 2000000 in
theorem impl_right (now : Int) (r : Rw) (a : Option Addr) (cap : Nat) (w : World) (hm : r.2.2.2.2.length ≤ 1099511627776) (hc : r.2.2.2.2.length ≤ cap) (h : Pts w a r.2.2.2.2) : Calls Tryz.prog 61 #[rwv r a cap, .int .i64 now] w fun e w' => e = .returned (.bool (rowb now r)) ∧ Below w.heap.size w w' := by
  obtain ⟨id, fr, te, kd, ps⟩ := r
  have HS := hid (fun (W : World) (hb : Below w.heap.size w W) => impl_ShapeOk kd a cap ps W hm hc (h.below hb))
  have HID := hid (fun w => impl_id id w)
  have HRB := hid (show rowb now (id, fr, te, kd, ps) = (idb id && (decide (1 ≤ fr) && decide (fr ≤ now)) && (decide (te = 0) || (decide (fr < te) && decide (te ≤ now))) && shok kd ps) from rfl)
  unfold rwv
  unfold shv at HS
  simp only
  clear h hm hc
  generalize rowb now (id, fr, te, kd, ps) = rb at *
  generalize shok kd ps = so at *
  generalize ps.length = n at *
  generalize idb id = ib at *
  generalize hE : (decide (te = 0) || (decide (fr < te) && decide (te ≤ now))) = E at *
  go_enter Tryz.func61, Tryz.ntmps61
  go_upto_region 1 with fail
  have hBx : Below w.heap.size w (w.alloc (.cells #[.int .i64 id, .int .i64 fr, .int .i64 te, .int .i64 kd, .slice a n cap] 57)) := balloc (Below.refl _ _) _
  have gx := new_alloc w w.heap.size (.cells #[.int .i64 id, .int .i64 fr, .int .i64 te, .int .i64 kd, .slice a n cap] 57) rfl
  generalize w.alloc (.cells #[.int .i64 id, .int .i64 fr, .int .i64 te, .int .i64 kd, .slice a n cap] 57) = W1 at *
  obtain ⟨⟨x0, x1, x2, x3, x4⟩, _⟩ := cell5g gx
  go_cut [5] from 6 to 21 (fun t wx => t = .bool E ∧ wx = W1)
  case first =>
    by_cases h1 : te = 0
    · have q1 : (te == 0) = true := by simpa using h1
      go_wp2_with fail
      go_meet
      exact ⟨by rw [← hE]; simp [h1], rfl⟩
    · have q1 : (te == 0) = false := by simpa using h1
      by_cases h2 : fr < te
      · go_wp2_with fail
        go_meet
        exact ⟨by rw [← hE]; simp [h1, h2], rfl⟩
      · have q2 : decide (fr < te) = false := by simpa using h2
        have q3 : te ≤ fr := by omega
        go_wp2_with fail
        go_meet
        exact ⟨by rw [← hE, q2]; simp [h1], rfl⟩
  case rest =>
    obtain ⟨rfl, rfl⟩ := hcut
    clear hE
    cases ib
    · go_wp2_with fail
      refine (HID.out _).mono ?_
      rintro e z ⟨rfl, hw⟩
      replace hw := hw.symm
      subst hw
      go_wp2_with fail
      go_ret
      exact ⟨by rw [HRB.out]; rfl, hBx⟩
    by_cases h1 : 1 ≤ fr
    · by_cases h2 : fr ≤ now
      · cases E
        · go_wp2_with fail
          refine (HID.out _).mono ?_
          rintro e z ⟨rfl, hw⟩
          replace hw := hw.symm
          subst hw
          go_wp2_with fail
          go_ret
          exact ⟨by rw [HRB.out]; simp [h1, h2], hBx⟩
        · go_wp2_with fail
          refine (HID.out _).mono ?_
          rintro e z ⟨rfl, hw⟩
          replace hw := hw.symm
          subst hw
          go_wp2_with fail
          refine (HS.out _ hBx).mono ?_
          rintro e z ⟨rfl, hz⟩
          go_wp2_with fail
          go_ret
          exact ⟨by rw [HRB.out]; simp [h1, h2], btrans hBx hz⟩
      · have q2 : decide (fr ≤ now) = false := by simpa using h2
        have q3 : now < fr := by omega
        go_wp2_with fail
        refine (HID.out _).mono ?_
        rintro e z ⟨rfl, hw⟩
        replace hw := hw.symm
        subst hw
        go_wp2_with fail
        go_ret
        exact ⟨by rw [HRB.out, q2]; simp, hBx⟩
    · have q2 : decide (1 ≤ fr) = false := by simpa using h1
      have q3 : fr < 1 := by omega
      go_wp2_with fail
      refine (HID.out _).mono ?_
      rintro e z ⟨rfl, hw⟩
      replace hw := hw.symm
      subst hw
      go_wp2_with fail
      go_ret
      exact ⟨by rw [HRB.out, q2]; simp, hBx⟩
theorem els_of_rows {N : Nat → Prop} {w : World} {b o : Nat} (rs : List Rw) (h : RwsAt N w b o rs) : ∃ xs : List El, xs.length = rs.length ∧ xs.map trE = rs.map tr ∧ ElsAt w b o xs := by
  have hex : ∀ j : Nat, ∃ x : El, ∀ (hj : j < rs.length), trE x = tr rs[j] ∧ w.cell? ⟨b, o + j * 5, none⟩ = some (.int .i64 x.1) ∧ w.cell? ⟨b, o + j * 5 + 1, none⟩ = some (.int .i64 x.2.1) ∧ w.cell? ⟨b, o + j * 5 + 2, none⟩ = some (.int .i64 x.2.2.1) ∧ w.cell? ⟨b, o + j * 5 + 3, none⟩ = some (.int .i64 x.2.2.2.1) ∧ w.cell? ⟨b, o + j * 5 + 4, none⟩ = some (.slice x.2.2.2.2.1 x.2.2.2.2.2.1 x.2.2.2.2.2.2) := by
    intro j
    by_cases hj : j < rs.length
    · obtain ⟨a, cap, k0, k1, k2, k3, k4, _⟩ := h j hj
      exact ⟨(rs[j].1, rs[j].2.1, rs[j].2.2.1, rs[j].2.2.2.1, a, rs[j].2.2.2.2.length, cap), fun _ => ⟨rfl, k0, k1, k2, k3, k4⟩⟩
    · exact ⟨(0, 0, 0, 0, none, 0, 0), fun h' => absurd h' hj⟩
  have ⟨f, hf⟩ := Classical.axiomOfChoice hex
  refine ⟨(List.range rs.length).map f, by simp, ?_, ?_⟩
  · apply List.ext_getElem (by simp)
    intro j h1 h2
    simp only [List.length_map] at h2
    simp only [List.getElem_map, List.getElem_range]
    exact (hf j h2).1
  · intro j hj
    simp only [List.length_map, List.length_range] at hj
    have e : ((List.range rs.length).map f)[j]'(by simpa using hj) = f j := by simp
    rw [e]
    exact (hf j hj).2
theorem apart_rows {N : Nat → Prop} (now : Int) (a : Option Addr) (cap : Nat) (rs : List Rw) (w : World) (hl : rs.length ≤ 300) (h : Rws N w a rs) (hr : ∀ m (h : m < rs.length), rowb now rs[m] = true) : Calls Tryz.prog 62 #[.slice a rs.length cap] w fun e w' => e = .returned (.bool (apartR (rs.map tr))) ∧ Below w.heap.size w w' := by
  by_cases h0 : rs.length = 0
  · have e : rs = [] := List.eq_nil_of_length_eq_zero h0
    subst e
    exact rows_apart0 a cap w
  · rcases h with h | ⟨b, o, rfl, hb, hA⟩
    · subst h; exact absurd rfl h0
    · obtain ⟨xs, h1, h2, h3⟩ := els_of_rows rs hA
      rw [← h1, ← h2]
      refine rows_apart b o cap xs w (by omega) (by omega) hb h3 (fun x hx => ?_)
      have hm : trE x ∈ rs.map tr := by rw [← h2]; exact List.mem_map_of_mem hx
      obtain ⟨r, hr1, hr2⟩ := List.mem_map.1 hm
      rw [← hr2]
      obtain ⟨m, hm1, rfl⟩ := List.mem_iff_getElem.1 hr1
      have := hr m hm1
      unfold rowb at this
      simp only [Bool.and_eq_true] at this
      exact rwb_tmb this.1
set_option maxRecDepth 100000 in
set_option maxHeartbeats 4000000 in
theorem impl_RowsOk {N : Nat → Prop} (now : Int) (a : Option Addr) (cap : Nat) (rs : List Rw) (w : World) (hm : rs.length ≤ 1099511627776) (h : Rws N w a rs) : Calls Tryz.prog 30 #[.agg #[.int .i64 now, .slice a rs.length cap]] w fun e w' => e = .returned (.bool (rowsb now rs)) ∧ Below w.heap.size w w' := by
  have HAP := hid (fun (W : World) (hb : Below w.heap.size w W) (hl : rs.length ≤ 300) (hr : ∀ m (h : m < rs.length), rowb now rs[m] = true) => apart_rows now a cap rs W hl (h.below hb) hr)
  have HR := hid h
  clear h
  obtain ⟨n, hn⟩ : ∃ n, n = rs.length := ⟨_, rfl⟩
  have HN := hid hn.symm
  rw [← hn] at hm ⊢
  clear hn
  by_cases h0 : now < 0
  · rw [rowsb_now h0]
    go_enter Tryz.func30, Tryz.ntmps30
    go_wp2_with fail
    go_ret
    exact ⟨rfl, balloc (Below.refl _ _) _⟩
  by_cases hl : 300 < n
  · rw [rowsb_long (by rw [HN.out]; exact hl)]
    have hl' : (300 : Int) < (n : Int) := by omega
    go_enter Tryz.func30, Tryz.ntmps30
    go_wp2_with fail
    go_ret
    exact ⟨rfl, balloc (Below.refl _ _) _⟩
  have hl' : (n : Int) ≤ 300 := by omega
  have hld : decide ((300 : Int) < (n : Int)) = false := by rw [decide_eq_false_iff_not]; omega
  go_enter Tryz.func30, Tryz.ntmps30
  go_wp2_with fail
  have g1 := new_alloc w w.heap.size (.cells #[.int .i64 now, .slice a n cap] 28) rfl
  have hB := balloc (Below.refl w.heap.size w) (.cells #[.int .i64 now, .slice a n cap] 28)
  generalize w.alloc (.cells #[.int .i64 now, .slice a n cap] 28) = W at *
  clear hld
  go_loopw [17] (fun ti wr => ∃ i : Nat, ti = .int .i64 i ∧ i ≤ n ∧ Hid (∀ m (h : m < rs.length), m < i → rowb now rs[m] = true) ∧ Hid (wr.heap[w.heap.size]? = some (.cells #[.int .i64 now, .slice a n cap] 28 (0, 0))) ∧ Hid (Below w.heap.size w wr)) (fun ti _ => n - (intOf ti).toNat)
  case atStart => exact ⟨0, rfl, Nat.zero_le _, hid (fun m h hh => absurd hh (by omega)), hid g1, hid hB⟩
  case round =>
    clear g1 hB
    obtain ⟨i, rfl, hi, HA, G1, HBW⟩ := hrel
    obtain ⟨d0, d1, _, _⟩ := cell2f G1.out
    by_cases hlt : i < n
    · have c1 : (i : Int) < (n : Int) := by omega
      have hir : i < rs.length := by rw [HN.out]; exact hlt
      obtain ⟨b, o, rfl, hbs, a', cap', k0, k1, k2, k3, k4, k5, k6, k7, _⟩ := (HR.out.below HBW.out).at i hir
      have HRI := hid (fun (W : World) (hb : Below wr.heap.size wr W) => impl_right now rs[i] a' cap' W k6 k5 (k7.below hb))
      unfold rwv at HRI
      have HRF := hid (fun (hr : rowb now rs[i] = false) => rowsb_row (now := now) hir hr)
      clear k5 k6 k7
      have HROW : Hid (∀ rb, rowb now rs[i] = rb → rb = true → ∀ m (h : m < rs.length), m < i + 1 → rowb now rs[m] = true) := hid (fun rb e1 e2 m h hm => by
        by_cases e : m = i
        · subst e; rw [e1, e2]
        · exact HA.out m h (by omega))
      have hrow : ∃ rb, rowb now rs[i] = rb := ⟨_, rfl⟩
      obtain ⟨rb, hrb⟩ := hrow
      have HR2 := hid (HROW.out rb hrb)
      have HR3 : Hid (rb = false → rowsb now rs = false) := hid (fun e => HRF.out (by rw [hrb, e]))
      rw [hrb] at HRI
      clear hrb HROW HRF
      generalize rs[i].1 = id at *
      generalize rs[i].2.1 = fr at *
      generalize rs[i].2.2.1 = te at *
      generalize rs[i].2.2.2.1 = kd at *
      generalize rs[i].2.2.2.2.length = np at *
      go_upto_region 6 with fail
      have hBx : Below wr.heap.size wr (wr.alloc (.cells #[.int .i64 id, .int .i64 fr, .int .i64 te, .int .i64 kd, .slice a' np cap'] 57)) := balloc (Below.refl _ _) _
      have gx := new_alloc wr wr.heap.size (.cells #[.int .i64 id, .int .i64 fr, .int .i64 te, .int .i64 kd, .slice a' np cap'] 57) rfl
      have g1 := keepheap2 hBx G1.out
      have hB := btrans HBW.out hBx
      clear d0 d1 k0 k1 k2 k3 k4
      generalize wr.alloc (.cells #[.int .i64 id, .int .i64 fr, .int .i64 te, .int .i64 kd, .slice a' np cap'] 57) = W1 at *
      obtain ⟨⟨x0, x1, x2, x3, x4⟩, _⟩ := cell5g gx
      obtain ⟨d0, d1, _, _⟩ := cell2f g1
      cases rb
      · go_wp2_with fail
        refine (HRI.out _ hBx).mono ?_
        rintro e z ⟨rfl, hz⟩
        have HF := hid (HR3.out trivial)
        go_wp2_with fail
        go_ret
        exact ⟨by rw [HF.out]; rfl, btrans hB hz⟩
      · go_wp2_with fail
        refine (HRI.out _ hBx).mono ?_
        rintro e z ⟨rfl, hz⟩
        have HF := hid (HR2.out trivial)
        have G2 := hid (keepheap2 hz g1)
        have HB2 := hid (btrans hB hz)
        clear hz hB gx g1 x0 x1 x2 x3 x4 d0 d1
        go_wp2_with fail
        go_roundw
        case rel => exact ⟨i + 1, by go_num, by omega, HF, G2, HB2⟩
        case measure => simp [intOf]; omega
    · have hall : ∀ m (h : m < rs.length), rowb now rs[m] = true := fun m h => HA.out m h (by rw [HN.out] at h; omega)
      have HF := hid (show rowsb now rs = apartR (rs.map tr) by
        unfold rowsb
        have e1 : decide (0 ≤ now) = true := by simpa using (show 0 ≤ now by omega)
        have e2 : decide (rs.length ≤ 300) = true := by rw [HN.out]; simpa using (show n ≤ 300 by omega)
        have e3 : rs.all (rowb now) = true := by
          rw [List.all_eq_true]
          intro x hx
          obtain ⟨m, hm1, rfl⟩ := List.mem_iff_getElem.1 hx
          exact hall m hm1
        rw [e1, e2, e3]
        rfl)
      have hcc := HAP.out wr HBW.out (by rw [HN.out]; omega) hall
      rw [HN.out] at hcc
      have HC := hid hcc
      clear hcc
      have c1 : (n : Int) ≤ (i : Int) := by omega
      clear hall
      go_wp2_with fail
      refine HC.out.mono ?_
      rintro e z ⟨rfl, hz⟩
      go_wp2_with fail
      go_ret
      exact ⟨by rw [HF.out]; rfl, btrans HBW.out hz⟩
end Go.Proofs.YtjhnfbefgjoiiaaGreat
namespace Go.Proofs.YtjhnfbefgjoiiaaGreat
open Go.RowKit
set_option linter.unusedSimpArgs false
set_option linter.unusedVariables false
/-- A copy of a row. -/
def RC (w : World) (r : Rw) (e : Ending) (w' : World) : Prop :=
  ∃ g cp, e = .returned (rwv r (some ⟨g, 0, none⟩) cp) ∧ r.2.2.2.2.length ≤ cp ∧ w.heap.size ≤ g ∧ PtsOwn w' g r.2.2.2.2 ∧ Below w.heap.size w w'
set_option maxRecDepth 100000 in
set_option maxHeartbeats 1000000 in
theorem row_copied (r : Rw) (b off cap : Nat) (w : World) (hm : r.2.2.2.2.length ≤ 1099511627776) (hbs : b < w.heap.size) (h : Pts w (some ⟨b, off, none⟩) r.2.2.2.2) : Calls Tryz.prog 60 #[rwv r (some ⟨b, off, none⟩) cap] w fun e w' => RC w r e w' := by
  obtain ⟨id, fr, te, kd, ps⟩ := r
  unfold RC rwv
  simp only at *
  have hB : Below w.heap.size w ((w.alloc (.cells #[.int .i64 id, .int .i64 fr, .int .i64 te, .int .i64 kd, .slice (some ⟨b, off, none⟩) ps.length cap] 57)).alloc (.cells #[.int .i64 0, .int .i64 0, .int .i64 0, .int .i64 0, .slice none 0 0] 57)) := balloc (balloc (Below.refl _ _) _) _
  have HC := hid (impl_copyG kd b off cap ps _ hm (h.below hB) (Nat.lt_of_lt_of_le hbs hB.size))
  clear h
  have g0 := old_alloc (o' := .cells #[.int .i64 0, .int .i64 0, .int .i64 0, .int .i64 0, .slice none 0 0] 57) (new_alloc w w.heap.size (.cells #[.int .i64 id, .int .i64 fr, .int .i64 te, .int .i64 kd, .slice (some ⟨b, off, none⟩) ps.length cap] 57) rfl)
  have g1 := new_alloc (w.alloc (.cells #[.int .i64 id, .int .i64 fr, .int .i64 te, .int .i64 kd, .slice (some ⟨b, off, none⟩) ps.length cap] 57)) (w.heap.size + 1) (.cells #[.int .i64 0, .int .i64 0, .int .i64 0, .int .i64 0, .slice none 0 0] 57) (by simp)
  go_enter Tryz.func60, Tryz.ntmps60
  go_upto_region 1 with fail
  generalize (w.alloc (.cells #[.int .i64 id, .int .i64 fr, .int .i64 te, .int .i64 kd, .slice (some ⟨b, off, none⟩) ps.length cap] 57)).alloc (.cells #[.int .i64 0, .int .i64 0, .int .i64 0, .int .i64 0, .slice none 0 0] 57) = W at *
  obtain ⟨⟨x0, x1, x2, x3, x4⟩, _⟩ := cell5g g0
  go_wp2_with fail
  refine HC.out.mono ?_
  rintro e y ⟨g, cp, rfl, hcp, hgs, ho, hy⟩
  have hWs := lt_of_block g1
  replace g0 := keepheap2 hy g0
  replace g1 := keepheap2 hy g1
  have HB := hid (btrans hB hy)
  have HO := hid ho
  have hgw : w.heap.size + 1 < g := by omega
  clear hB hy ho HC x0 x1 x2 x3 x4
  obtain ⟨⟨x0, x1, x2, x3, x4⟩, y0, y1, y2, y3, y4⟩ := cell5g g0
  obtain ⟨⟨v0, v1, v2, v3, v4⟩, u0, u1, u2, u3, u4⟩ := cell5g g1
  go_wp2_with fail
  have gF := set5 (set_far (q := w.heap.size) (k := 4) (u := .slice (some ⟨g, 0, none⟩) ps.length cp) (set_far (q := w.heap.size) (k := 3) (u := .int .i64 kd) g1 (by omega)) (by omega)) (.int .i64 id) (.int .i64 fr) (.int .i64 te) (.int .i64 kd) (.slice (some ⟨g, 0, none⟩) ps.length cp)
  have bF := bset (bset (bset (bset (bset (bset (bset HB.out (q := w.heap.size) (k := 3) (Nat.le_refl _) (.int .i64 kd)) (q := w.heap.size) (k := 4) (Nat.le_refl _) (.slice (some ⟨g, 0, none⟩) ps.length cp)) (q := w.heap.size + 1) (k := 0) (by omega) (.int .i64 id)) (q := w.heap.size + 1) (k := 1) (by omega) (.int .i64 fr)) (q := w.heap.size + 1) (k := 2) (by omega) (.int .i64 te)) (q := w.heap.size + 1) (k := 3) (by omega) (.int .i64 kd)) (q := w.heap.size + 1) (k := 4) (by omega) (.slice (some ⟨g, 0, none⟩) ps.length cp)
  have oF := own_blk (w' := (((((((y.setCell ⟨w.heap.size, 3, none⟩ (.int .i64 kd)).setCell ⟨w.heap.size, 4, none⟩ (.slice (some ⟨g, 0, none⟩) ps.length cp)).setCell ⟨w.heap.size + 1, 0, none⟩ (.int .i64 id)).setCell ⟨w.heap.size + 1, 1, none⟩ (.int .i64 fr)).setCell ⟨w.heap.size + 1, 2, none⟩ (.int .i64 te)).setCell ⟨w.heap.size + 1, 3, none⟩ (.int .i64 kd)).setCell ⟨w.heap.size + 1, 4, none⟩ (.slice (some ⟨g, 0, none⟩) ps.length cp))) HO.out (by rw [Below.heap_setCell _ _ _ _ (by dsimp only; omega), Below.heap_setCell _ _ _ _ (by dsimp only; omega), Below.heap_setCell _ _ _ _ (by dsimp only; omega), Below.heap_setCell _ _ _ _ (by dsimp only; omega), Below.heap_setCell _ _ _ _ (by dsimp only; omega), Below.heap_setCell _ _ _ _ (by dsimp only; omega), Below.heap_setCell _ _ _ _ (by dsimp only; omega)]) (by simp only [World.size_setCell]; exact HO.out.1)
  generalize (((((((y.setCell ⟨w.heap.size, 3, none⟩ (.int .i64 kd)).setCell ⟨w.heap.size, 4, none⟩ (.slice (some ⟨g, 0, none⟩) ps.length cp)).setCell ⟨w.heap.size + 1, 0, none⟩ (.int .i64 id)).setCell ⟨w.heap.size + 1, 1, none⟩ (.int .i64 fr)).setCell ⟨w.heap.size + 1, 2, none⟩ (.int .i64 te)).setCell ⟨w.heap.size + 1, 3, none⟩ (.int .i64 kd)).setCell ⟨w.heap.size + 1, 4, none⟩ (.slice (some ⟨g, 0, none⟩) ps.length cp)) = wf at *
  obtain ⟨⟨z0, z1, z2, z3, z4⟩, _⟩ := cell5g gF
  exact bodyPost_ret (v := .agg #[.int .i64 id, .int .i64 fr, .int .i64 te, .int .i64 kd, .slice (some ⟨g, 0, none⟩) ps.length cp]) (by simp [results, Tryz.results60, go_sem, z0, z1, z2, z3, z4]) rfl ⟨g, cp, rfl, hcp, by omega, oF, bF⟩
/-- What a function tells of a row that it copies. -/
def RT (w : World) (r : Rw) (q : Bool) (e : Ending) (w' : World) : Prop :=
  ∃ g cp, e = .returned (.tuple #[rwv r (some ⟨g, 0, none⟩) cp, .bool q]) ∧ r.2.2.2.2.length ≤ cp ∧ w.heap.size ≤ g ∧ PtsOwn w' g r.2.2.2.2 ∧ Below w.heap.size w w'
def allb (_ : Rw) : Bool := true
set_option maxRecDepth 100000 in
set_option maxHeartbeats 1000000 in
theorem copied_1 (r : Rw) (b off cap : Nat) (w : World) (hm : r.2.2.2.2.length ≤ 1099511627776) (hbs : b < w.heap.size) (h : Pts w (some ⟨b, off, none⟩) r.2.2.2.2) : Calls Tryz.prog 59 #[rwv r (some ⟨b, off, none⟩) cap] w fun e w' => RT w r (allb r) e w' := by
  show Calls Tryz.prog 59 #[rwv r (some ⟨b, off, none⟩) cap] w fun e w' => RT w r true e w'
  have HC := hid (fun (W : World) (hb : Below w.heap.size w W) => row_copied r b off cap W hm (Nat.lt_of_lt_of_le hbs hb.size) (h.below hb))
  clear h
  obtain ⟨id, fr, te, kd, ps⟩ := r
  unfold RT
  unfold RC rwv at *
  simp only at *
  have hB : Below w.heap.size w ((w.alloc (.cells #[.int .i64 id, .int .i64 fr, .int .i64 te, .int .i64 kd, .slice (some ⟨b, off, none⟩) ps.length cap] 57)).alloc (.cells #[.int .i64 0, .int .i64 0, .int .i64 0, .int .i64 0, .slice none 0 0] 57)) := balloc (balloc (Below.refl _ _) _) _
  have g0 := old_alloc (o' := .cells #[.int .i64 0, .int .i64 0, .int .i64 0, .int .i64 0, .slice none 0 0] 57) (new_alloc w w.heap.size (.cells #[.int .i64 id, .int .i64 fr, .int .i64 te, .int .i64 kd, .slice (some ⟨b, off, none⟩) ps.length cap] 57) rfl)
  have g1 := new_alloc (w.alloc (.cells #[.int .i64 id, .int .i64 fr, .int .i64 te, .int .i64 kd, .slice (some ⟨b, off, none⟩) ps.length cap] 57)) (w.heap.size + 1) (.cells #[.int .i64 0, .int .i64 0, .int .i64 0, .int .i64 0, .slice none 0 0] 57) (by simp)
  go_enter Tryz.func59, Tryz.ntmps59
  go_upto_region 1 with fail
  generalize (w.alloc (.cells #[.int .i64 id, .int .i64 fr, .int .i64 te, .int .i64 kd, .slice (some ⟨b, off, none⟩) ps.length cap] 57)).alloc (.cells #[.int .i64 0, .int .i64 0, .int .i64 0, .int .i64 0, .slice none 0 0] 57) = W at *
  obtain ⟨⟨x0, x1, x2, x3, x4⟩, _⟩ := cell5g g0
  go_wp2_with fail
  refine (HC.out _ hB).mono ?_
  rintro e y ⟨g, cp, rfl, hcp, hgs, ho, hy⟩
  have hWs := lt_of_block g1
  replace g1 := keepheap2 hy g1
  have HB := hid (btrans hB hy)
  have HO := hid ho
  clear hB hy ho HC x0 x1 x2 x3 x4 g0
  obtain ⟨⟨v0, v1, v2, v3, v4⟩, u0, u1, u2, u3, u4⟩ := cell5g g1
  go_wp2_with fail
  have gF := set5 g1 (.int .i64 id) (.int .i64 fr) (.int .i64 te) (.int .i64 kd) (.slice (some ⟨g, 0, none⟩) ps.length cp)
  have bF := bset (bset (bset (bset (bset HB.out (q := w.heap.size + 1) (k := 0) (by omega) (.int .i64 id)) (q := w.heap.size + 1) (k := 1) (by omega) (.int .i64 fr)) (q := w.heap.size + 1) (k := 2) (by omega) (.int .i64 te)) (q := w.heap.size + 1) (k := 3) (by omega) (.int .i64 kd)) (q := w.heap.size + 1) (k := 4) (by omega) (.slice (some ⟨g, 0, none⟩) ps.length cp)
  have oF := own_blk (w' := (((((y.setCell ⟨w.heap.size + 1, 0, none⟩ (.int .i64 id)).setCell ⟨w.heap.size + 1, 1, none⟩ (.int .i64 fr)).setCell ⟨w.heap.size + 1, 2, none⟩ (.int .i64 te)).setCell ⟨w.heap.size + 1, 3, none⟩ (.int .i64 kd)).setCell ⟨w.heap.size + 1, 4, none⟩ (.slice (some ⟨g, 0, none⟩) ps.length cp))) HO.out (by rw [Below.heap_setCell _ _ _ _ (by dsimp only; omega), Below.heap_setCell _ _ _ _ (by dsimp only; omega), Below.heap_setCell _ _ _ _ (by dsimp only; omega), Below.heap_setCell _ _ _ _ (by dsimp only; omega), Below.heap_setCell _ _ _ _ (by dsimp only; omega)]) (by simp only [World.size_setCell]; exact HO.out.1)
  generalize (((((y.setCell ⟨w.heap.size + 1, 0, none⟩ (.int .i64 id)).setCell ⟨w.heap.size + 1, 1, none⟩ (.int .i64 fr)).setCell ⟨w.heap.size + 1, 2, none⟩ (.int .i64 te)).setCell ⟨w.heap.size + 1, 3, none⟩ (.int .i64 kd)).setCell ⟨w.heap.size + 1, 4, none⟩ (.slice (some ⟨g, 0, none⟩) ps.length cp)) = wf at *
  obtain ⟨⟨z0, z1, z2, z3, z4⟩, _⟩ := cell5g gF
  exact bodyPost_ret (v := .tuple #[.agg #[.int .i64 id, .int .i64 fr, .int .i64 te, .int .i64 kd, .slice (some ⟨g, 0, none⟩) ps.length cp], .bool true]) (by simp [results, Tryz.results59, go_sem, z0, z1, z2, z3, z4]) rfl ⟨g, cp, rfl, hcp, by omega, oF, bF⟩
def vkeep (t : Int) (r : Rw) : Bool := !(decide (r.2.2.1 ≠ 0) && decide (r.2.2.1 ≤ t))
end Go.Proofs.YtjhnfbefgjoiiaaGreat
