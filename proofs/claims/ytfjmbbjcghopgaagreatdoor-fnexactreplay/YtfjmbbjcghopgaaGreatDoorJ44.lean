/- Texts of stores, joined: Va, Vd, Vc, Ve, Vf. -/
import Derived.Test.YtfjmbbjcghopgaaGreatDoorJ19
import Derived.Maps.AppendAt
import Derived.Test.YtfjmbbjcghopgaaGreatDoorJ36
import Derived.Test.YtfjmbbjcghopgaaGreatDoorJ35
import Derived.Test.YtfjmbbjcghopgaaGreatDoorJ42
import Derived.Test.YtfjmbbjcghopgaaGreatDoorJ16
namespace Go.Proofs.YtfjmbbjcghopgaaGreatDoor
open Go.RowKit
set_option linter.unusedSimpArgs false
set_option linter.unusedVariables false
/-- The same in a plain region. -/
theorem wpList_append_any {P : Program} {w : World} {ops : Array Oper} {rest : List Oper} {o : Oper} {a : Act} {Q : Exit → Act → World → Prop} (hgd : o.guard = none) (s x : Operand) (t : TypeId)
    (ho : o.op = .call { callee := .builtin .append, args := #[s, x], argTypes := #[t, t] })
    (base : Nat) (e : TypeId) (i : TypeInfo) (z : Value) (size bytes : Nat) (ht : P.underlying t = some (.slice e)) (hi : P.info? e = some i) (hz : i.zero = some z)
    (hsize : i.size = size) (hby : i.bytes = bytes) (hzs : z.cells.size = size) (hsz : 0 < size)
    (g0 n0 cap0 : Nat) (n : Nat) (xs : List Value) (hs : a.eval s = .slice (some ⟨g0, 0, none⟩) n0 cap0) (hown : w.ownsRow base e size (.slice (some ⟨g0, 0, none⟩) n0 cap0) n xs)
    (ad : Addr) (m c : Nat) (news : List Value) (hx : a.eval x = .slice (some ad) m c) (hl : news.length = m * size) (hnews : ∀ j u, news[j]? = some u → w.cell? (ad.add j) = some u) (h1 : ∀ u ∈ news, u.oneCell' = true)
    (h63 : n + m ≤ maxLen) (hbytes : (n + m) * bytes ≤ 140737488355328) (hbase : base ≤ w.heap.size)
    (h : ∀ g cap w', w'.ownsRow base e size (.slice (some ⟨g, 0, none⟩) (n + m) cap) (n + m) (xs ++ news) → w.grownBy w' (some g0) → (g = g0 ∨ g = w.heap.size) → wpList P ops Q rest (a.put o.dst (.slice (some ⟨g, 0, none⟩) (n + m) cap)) w') : wpList P ops Q (o :: rest) a w := by
  refine wpList_plain hgd fun K hK => ?_
  obtain ⟨v', w', hr, h2, h3, h4, h5⟩ := run_append_own_at (P := P) w base t o.type e i z size bytes ht hi hz hsize hby hzs hsz _ n xs hown ad m c news hl hnews h1 h63 hbytes hbase
  have hne : v' ≠ .slice none 0 0 := fun e => by have := (h4.1 e).1; cases this
  obtain ⟨g, cap, cur, rfl, _⟩ : ∃ g cap cur, v' = .slice (some ⟨g, 0, none⟩) (n + m) cap ∧ cur = () := by
    rcases h2.2 with ⟨q, _⟩ | ⟨g, cap, cur, e, _⟩
    · exact absurd q hne
    · exact ⟨g, cap, (), e, rfl⟩
  unfold Oper.wp execOp
  simp only [ho, resolve, invoke, builtin, Sem.run_bind, Sem.run_pure, Result.andThen_ok, List.map_toArray, List.map_cons, List.map_nil, hs, hx, hr]
  refine hK _ _ (h g cap w' h2 h3 ?_)
  rcases h5 with h5 | h5
  · left; simpa [Value.ownBlock] using h5
  · right; simpa [Value.ownBlock] using h5
set_option maxRecDepth 100000 in
set_option maxHeartbeats 1000000 in
theorem spec_copyG (kd : Int) (b off : Nat) (cap : Nat) (ps : List (Int × Int)) (w : World) (hm : ps.length ≤ 1099511627776) (h : Pts w (some ⟨b, off, none⟩) ps) (hbs : b < w.heap.size) : Calls Tryz.prog 24 #[.agg #[.int .i64 kd, .slice (some ⟨b, off, none⟩) ps.length cap]] w fun e w' => CP w kd ps e w' := by
  obtain ⟨i0, hi0, hz0, hz1, hz2⟩ := info_parts Tryz.infoPC
  have hp : PtsAt w b off ps := by
    rcases h with h | ⟨b', o', e, _, h⟩
    · subst h; intro k hk; simp at hk
    · cases e; exact h
  have hN := fl2_len ps
  have HP := hid hp
  clear hp h
  have hB3 : Below w.heap.size w (((w.alloc (.cells #[.int .i64 kd, .slice (some ⟨b, off, none⟩) ps.length cap] 52)).alloc (.cells #[.int .i64 0, .slice none 0 0] 52)).alloc (.cells #[] 86)) := balloc (balloc (balloc (Below.refl _ _) _) _) _
  have hown := own_new (w := (w.alloc (.cells #[.int .i64 kd, .slice (some ⟨b, off, none⟩) ps.length cap] 52)).alloc (.cells #[.int .i64 0, .slice none 0 0] 52)) (B := w.heap.size + 2) (by simp)
  have gA := old_alloc (o' := .cells #[] 86) (old_alloc (o' := .cells #[.int .i64 0, .slice none 0 0] 52) (new_alloc w w.heap.size (.cells #[.int .i64 kd, .slice (some ⟨b, off, none⟩) ps.length cap] 52) rfl))
  have gB := old_alloc (o' := .cells #[] 86) (new_alloc (w.alloc (.cells #[.int .i64 kd, .slice (some ⟨b, off, none⟩) ps.length cap] 52)) (w.heap.size + 1) (.cells #[.int .i64 0, .slice none 0 0] 52) (by simp))
  have hsz3 : (((w.alloc (.cells #[.int .i64 kd, .slice (some ⟨b, off, none⟩) ps.length cap] 52)).alloc (.cells #[.int .i64 0, .slice none 0 0] 52)).alloc (.cells #[] 86)).heap.size = w.heap.size + 3 := by simp
  have hsz2 : ((w.alloc (.cells #[.int .i64 kd, .slice (some ⟨b, off, none⟩) ps.length cap] 52)).alloc (.cells #[.int .i64 0, .slice none 0 0] 52)).heap.size = w.heap.size + 2 := by simp
  rw [hsz2] at hown
  have HNW := hid (fl2_news (HP.out.below hbs hB3))
  have HOW := hid hown
  have HGA := hid gA
  have HGB := hid gB
  have HB3 := hid hB3
  have HSZ := hid hsz3
  have HF1 := hid (fl2_one ps)
  clear hown gA gB hB3 hsz3 hsz2
  go_enter Tryz.func24, Tryz.ntmps24
  go_wp2_with (at_builtin; (refine wpList_append_any rfl (.tmp 3) (.tmp 5) 50 rfl (w.heap.size + 2) 86 i0 _ 2 16 Tryz.underlying50 hi0 hz0 hz1 hz2 rfl (by decide) (w.heap.size + 2) 0 0 0 [] (by rfl) HOW.out ⟨b, off, none⟩ ps.length cap (fl2 ps) (by rfl) hN HNW.out HF1.out (by unfold maxLen; omega) (by omega) (by rw [HSZ.out]; omega) ?_; intro gg cp w2 hown1 hgrow hat; have gA := grown_blk (p := w.heap.size + 2) hgrow HGA.out (by omega); have gB := grown_blk (p := w.heap.size + 2) hgrow HGB.out (by omega); obtain ⟨a0, a1, f0, f1⟩ := cell2r gA; obtain ⟨b0, b1, e0, e1⟩ := cell2r gB))
  have HO1 := hid (own_pts (ps := ps) (by simpa using hown1) (by omega))
  have HB4 := hid (bgrown (p := w.heap.size + 2) HB3.out hgrow (by omega))
  clear hown1 hgrow
  obtain ⟨h1, h2, h3⟩ := HO1.out
  have gF := set2r (set_far (q := w.heap.size) (k := 1) (u := .slice (some ⟨gg, 0, none⟩) ps.length cp) gB (by omega)) (.int .i64 kd) (.slice (some ⟨gg, 0, none⟩) ps.length cp)
  have bF := bset (bset (bset HB4.out (q := w.heap.size) (k := 1) (Nat.le_refl _) (.slice (some ⟨gg, 0, none⟩) ps.length cp)) (q := w.heap.size + 1) (k := 0) (by omega) (.int .i64 kd)) (q := w.heap.size + 1) (k := 1) (by omega) (.slice (some ⟨gg, 0, none⟩) ps.length cp)
  have oF : PtsOwn (((w2.setCell ⟨w.heap.size, 1, none⟩ (.slice (some ⟨gg, 0, none⟩) ps.length cp)).setCell ⟨w.heap.size + 1, 0, none⟩ (.int .i64 kd)).setCell ⟨w.heap.size + 1, 1, none⟩ (.slice (some ⟨gg, 0, none⟩) ps.length cp)) gg ps := by
    refine own_blk h3 ?_ (by simp; exact h3.1)
    rw [Below.heap_setCell _ _ _ _ (by dsimp only; omega), Below.heap_setCell _ _ _ _ (by dsimp only; omega), Below.heap_setCell _ _ _ _ (by dsimp only; omega)]
  generalize ((w2.setCell ⟨w.heap.size, 1, none⟩ (.slice (some ⟨gg, 0, none⟩) ps.length cp)).setCell ⟨w.heap.size + 1, 0, none⟩ (.int .i64 kd)).setCell ⟨w.heap.size + 1, 1, none⟩ (.slice (some ⟨gg, 0, none⟩) ps.length cp) = wf at *
  obtain ⟨z0, z1, _, _⟩ := cell2r gF
  exact bodyPost_ret (v := .agg #[.int .i64 kd, .slice (some ⟨gg, 0, none⟩) ps.length cp]) (by simp [results, Tryz.results24, go_sem, z0, z1]) rfl ⟨gg, cp, rfl, by omega, by omega, oF, bF⟩
set_option maxRecDepth 100000 in
set_option maxHeartbeats 2000000 in
theorem impl_copyG (kd : Int) (b off : Nat) (cap : Nat) (ps : List (Int × Int)) (w : World) (hm : ps.length ≤ 1099511627776) (h : Pts w (some ⟨b, off, none⟩) ps) (hbs : b < w.heap.size) : Calls Tryz.prog 44 #[.agg #[.int .i64 kd, .slice (some ⟨b, off, none⟩) ps.length cap]] w fun e w' => CP w kd ps e w' := by
  obtain ⟨i0, hi0, hz0, hz1, hz2⟩ := info_parts Tryz.infoPC
  have hp : PtsAt w b off ps := by
    rcases h with h | ⟨b', o', e, _, h⟩
    · subst h; intro k hk; simp at hk
    · cases e; exact h
  have hN := fl2_len ps
  have HP := hid hp
  have HF1 := hid (fl2_one ps)
  clear hp h
  go_enter Tryz.func44, Tryz.ntmps44
  go_upto_region 1 with fail
  have hB : Below w.heap.size w ((w.alloc (.cells #[.int .i64 kd, .slice (some ⟨b, off, none⟩) ps.length cap] 52)).alloc (.cells #[.int .i64 0, .slice none 0 0] 52)) := balloc (balloc (Below.refl _ _) _) _
  have gA := old_alloc (o' := .cells #[.int .i64 0, .slice none 0 0] 52) (new_alloc w w.heap.size (.cells #[.int .i64 kd, .slice (some ⟨b, off, none⟩) ps.length cap] 52) rfl)
  have gB := new_alloc (w.alloc (.cells #[.int .i64 kd, .slice (some ⟨b, off, none⟩) ps.length cap] 52)) (w.heap.size + 1) (.cells #[.int .i64 0, .slice none 0 0] 52) (by simp)
  have hsz : ((w.alloc (.cells #[.int .i64 kd, .slice (some ⟨b, off, none⟩) ps.length cap] 52)).alloc (.cells #[.int .i64 0, .slice none 0 0] 52)).heap.size = w.heap.size + 2 := by simp
  generalize ((w.alloc (.cells #[.int .i64 kd, .slice (some ⟨b, off, none⟩) ps.length cap] 52)).alloc (.cells #[.int .i64 0, .slice none 0 0] 52)) = W at *
  have HNW := hid (fl2_news (HP.out.below hbs (balloc hB (.cells #[] 86))))
  have HOW := hid (own_new (w := W) (B := w.heap.size + 2) (by omega))
  rw [hsz] at HOW
  have HGB := hid (old_alloc (o' := .cells #[] 86) gB)
  have hs3 : (W.alloc (.cells #[] 86)).heap.size = w.heap.size + 3 := by simp [hsz]
  have HB3 := hid (balloc hB (.cells #[] 86))
  obtain ⟨a0, a1, f0, f1⟩ := cell2r gA
  obtain ⟨b0, b1, e0, e1⟩ := cell2r gB
  clear gA gB hB
  go_region_held3 (fun w' => w'.cell? ⟨w.heap.size, 0, none⟩ = some (.int .i64 kd) ∧ w'.cell? ⟨w.heap.size, 1, none⟩ = some (.slice (some ⟨b, off, none⟩) ps.length cap)) ((go_split_ands; (repeat' apply And.intro) <;> (repeat (first | with_reducible assumption | with_reducible refine keepset3 ?_ (by dsimp only; omega) | with_reducible refine keepdrew ?_ | with_reducible refine keepalloc ?_ _ | (refine hgrow.cell ?_ (by simp; try omega))))))
    ((refine step_append_any (by rfl) _ _ _ (by rfl) (w.heap.size + 2) 86 i0 _ 2 16 Tryz.underlying50 hi0 hz0 hz1 hz2 rfl (by omega) (w.heap.size + 2) 0 0 0 [] (by rw [← hsz]; rfl) (HOW.out.drew) ⟨b, off, none⟩ ps.length cap (fl2 ps) (by rfl) hN HNW.out HF1.out (by unfold maxLen; omega) (by omega) (by show _ ≤ (W.alloc (.cells #[] 86)).heap.size; omega) ?_; intro gg cp w2 hown1 hgrow hat; have gB := grown_blk (p := w.heap.size + 2) hgrow HGB.out (by omega); obtain ⟨y0, y1, x0, x1⟩ := cell2r gB))
  have HO1 := hid (own_pts (ps := ps) (by simpa using hown1) (by omega))
  have HB4 := hid (bgrown (p := w.heap.size + 2) (bdrew HB3.out) hgrow (by omega))
  clear hown1 hgrow
  go_wp2_with fail
  obtain ⟨h1, h2, h3⟩ := HO1.out
  have gF := set2r gB (.int .i64 kd) (.slice (some ⟨gg, 0, none⟩) ps.length cp)
  have bF := bset (bset HB4.out (q := w.heap.size + 1) (k := 0) (by omega) (.int .i64 kd)) (q := w.heap.size + 1) (k := 1) (by omega) (.slice (some ⟨gg, 0, none⟩) ps.length cp)
  have oF : PtsOwn ((w2.setCell ⟨w.heap.size + 1, 0, none⟩ (.int .i64 kd)).setCell ⟨w.heap.size + 1, 1, none⟩ (.slice (some ⟨gg, 0, none⟩) ps.length cp)) gg ps := by
    refine own_blk h3 ?_ (by simp; exact h3.1)
    rw [Below.heap_setCell _ _ _ _ (by dsimp only; omega), Below.heap_setCell _ _ _ _ (by dsimp only; omega)]
  generalize (w2.setCell ⟨w.heap.size + 1, 0, none⟩ (.int .i64 kd)).setCell ⟨w.heap.size + 1, 1, none⟩ (.slice (some ⟨gg, 0, none⟩) ps.length cp) = wf at *
  obtain ⟨z0, z1, _, _⟩ := cell2r gF
  exact bodyPost_ret (v := .agg #[.int .i64 kd, .slice (some ⟨gg, 0, none⟩) ps.length cp]) (by simp [results, Tryz.results44, go_sem, z0, z1]) rfl ⟨gg, cp, rfl, by omega, by omega, oF, bF⟩
end Go.Proofs.YtfjmbbjcghopgaaGreatDoor
namespace Go.Proofs.YtfjmbbjcghopgaaGreatDoor
open Go.RowKit
set_option linter.unusedSimpArgs false
set_option linter.unusedVariables false
def vkeep (t : Int) (r : Rw) : Bool := !(decide (r.2.2.1 ≠ 0) && decide (r.2.2.1 ≤ t))
end Go.Proofs.YtfjmbbjcghopgaaGreatDoor
namespace Go.Proofs.YtfjmbbjcghopgaaGreatDoor
open Go.RowKit
set_option linter.unusedSimpArgs false
set_option linter.unusedVariables false
set_option maxRecDepth 100000 in
set_option maxHeartbeats 2000000 in
theorem mark_rowSX (base hi g cap : Nat) (rs : List Rw) (c cp : Nat → Nat) (w : World) (hbg : base ≤ g) (hgh : g < hi) (hih : hi ≤ w.heap.size) (hm : rs.length ≤ 1048576) (hl : ∀ m (h : m < rs.length), rs[m].2.2.2.2.length ≤ 1048576) (ht : w.there g 0 (rs.length * 5)) (hr : ∀ j (h : j < rs.length), RowC w g (j * 5) rs[j] (c j) (cp j)) (hc : ∀ j, j < rs.length → base ≤ c j ∧ c j < hi ∧ c j ≠ g) (hd : ∀ i j, i < j → j < rs.length → c i ≠ c j) : Calls Tryz.prog 15 #[.slice (some ⟨g, 0, none⟩) rs.length cap, .int .i64 1] w fun e w' => e = .returned (.int .i64 (kk rs rs.length)) ∧ (∀ j (h : j < (mrk rs).length), RowC w' g (j * 5) (mrk rs)[j] (c j) (cp j)) ∧ Mid base hi w w' := by
  have HL := hid hl
  have HR := hid hr
  have HC := hid hc
  have HD : Hid (∀ i j, i ≠ j → i < rs.length → j < rs.length → c i ≠ c j) := hid (fun i j hne hi' hj' => by
    rcases Nat.lt_or_gt_of_ne hne with h | h
    · exact hd i j h hj'
    · exact fun e => hd j i h hi' e.symm)
  have HK := hid (kk_bound hl)
  clear hl hr hc hd
  obtain ⟨n, hn⟩ : ∃ n, n = rs.length := ⟨_, rfl⟩
  have HN := hid hn.symm
  rw [← hn] at hm ht ⊢
  clear hn
  have HTT := hid ht
  clear ht
  have HF : Hid (∀ (W : World) (q : Int), q = kk rs n → (∀ i (h : i < rs.length), i < n → ∀ (h' : i < (mrk rs).length), RowC W g (i * 5) (mrk rs)[i] (c i) (cp i)) → (Ending.returned (.int .i64 q) = .returned (.int .i64 (kk rs n)) ∧ ∀ j (h : j < (mrk rs).length), RowC W g (j * 5) (mrk rs)[j] (c j) (cp j))) := hid (fun W q hq h => ⟨by rw [hq], fun j hj => by
    have hj' := hj
    rw [mrk_len] at hj'
    exact h j hj' (by rw [HN.out] at hj'; exact hj') hj⟩)
  have hmid0 := mid_refl base hi w
  go_enter Tryz.func15, Tryz.ntmps15
  go_wp2_with fail
  go_loopw [1, 5] (fun tk' ti wr => ∃ j : Nat, ∃ k : Int, ti = .int .i64 j ∧ tk' = .int .i64 k ∧ j ≤ n ∧ Hid (k = kk rs j) ∧ Hid (Mid base hi w wr) ∧ Hid (wr.there g 0 (n * 5)) ∧ Hid (∀ i (h : i < rs.length), i < j → ∀ (h' : i < (mrk rs).length), RowC wr g (i * 5) (mrk rs)[i] (c i) (cp i)) ∧ Hid (∀ i (h : i < rs.length), j ≤ i → RowC wr g (i * 5) rs[i] (c i) (cp i))) (fun _ ti _ => n - (intOf ti).toNat)
  case atStart => exact ⟨0, 1, rfl, rfl, Nat.zero_le _, hid (by simp [kk]), hid hmid0, HTT, hid (fun i h hh => absurd hh (by omega)), hid (fun i h _ => HR.out i h)⟩
  case round =>
    clear hmid0
    obtain ⟨j, k, rfl, rfl, hj, HKJ, HM, HT, HA, HZ⟩ := hrel
    by_cases hlt : j < n
    · have c1 : (j : Int) < (n : Int) := by omega
      have hjr : j < rs.length := by rw [HN.out]; exact hlt
      obtain ⟨hk0, hk1⟩ := HK.out j (by omega)
      rw [← HKJ.out] at hk0 hk1
      have hk2 : k ≤ 2199027449858 := by omega
      have HKN := hid (kk_next hjr)
      rw [← HKJ.out] at HKN
      have HMA := hid (mrk_at hjr)
      rw [← HKJ.out] at HMA
      obtain ⟨_, _, _, _, q4, q5⟩ := HZ.out j hjr (Nat.le_refl _)
      obtain ⟨hcb, hch, hcg⟩ := HC.out j hjr
      have hnp := HL.out j hjr
      have HDJ : Hid (∀ i, i < rs.length → i ≠ j → c j ≠ c i) := hid (fun i hi' hne => fun e => HD.out i j hne hi' hjr e.symm)
      generalize hps : rs[j].2.2.2.2 = ps at *
      clear hps
      obtain ⟨u0, z0, y0⟩ := there_at HT.out (show j * 5 < n * 5 by omega)
      obtain ⟨u1, z1, y1⟩ := there_at HT.out (show j * 5 + 1 < n * 5 by omega)
      obtain ⟨u2, z2, y2⟩ := there_at HT.out (show j * 5 + 2 < n * 5 by omega)
      obtain ⟨u3, z3, y3⟩ := there_at HT.out (show j * 5 + 3 < n * 5 by omega)
      have z1' : (wr.setCell ⟨g, j * 5, none⟩ (.int .i64 k)).cell? ⟨g, j * 5 + 1, none⟩ = some u1 := by rw [World.cell?_setCell_other _ _ _ _ (by simp)]; exact z1
      have z2' : ((wr.setCell ⟨g, j * 5, none⟩ (.int .i64 k)).setCell ⟨g, j * 5 + 1, none⟩ (.int .i64 (k + 1))).cell? ⟨g, j * 5 + 2, none⟩ = some u2 := by rw [World.cell?_setCell_other _ _ _ _ (by simp), World.cell?_setCell_other _ _ _ _ (by simp)]; exact z2
      have z3' : (((wr.setCell ⟨g, j * 5, none⟩ (.int .i64 k)).setCell ⟨g, j * 5 + 1, none⟩ (.int .i64 (k + 1))).setCell ⟨g, j * 5 + 2, none⟩ (.int .i64 (k + 1 + 1))).cell? ⟨g, j * 5 + 3, none⟩ = some u3 := by rw [World.cell?_setCell_other _ _ _ _ (by simp), World.cell?_setCell_other _ _ _ _ (by simp), World.cell?_setCell_other _ _ _ _ (by simp)]; exact z3
      have z4' : ((((wr.setCell ⟨g, j * 5, none⟩ (.int .i64 k)).setCell ⟨g, j * 5 + 1, none⟩ (.int .i64 (k + 1))).setCell ⟨g, j * 5 + 2, none⟩ (.int .i64 (k + 1 + 1))).setCell ⟨g, j * 5 + 3, none⟩ (.int .i64 (k + 1 + 1 + 1))).cell? ⟨g, j * 5 + 4, none⟩ = some (.slice (some ⟨c j, 0, none⟩) ps.length (cp j)) := by rw [World.cell?_setCell_other _ _ _ _ (by simp), World.cell?_setCell_other _ _ _ _ (by simp), World.cell?_setCell_other _ _ _ _ (by simp), World.cell?_setCell_other _ _ _ _ (by simp)]; exact q4
      have x0 : ((((wr.setCell ⟨g, j * 5, none⟩ (.int .i64 k)).setCell ⟨g, j * 5 + 1, none⟩ (.int .i64 (k + 1))).setCell ⟨g, j * 5 + 2, none⟩ (.int .i64 (k + 1 + 1))).setCell ⟨g, j * 5 + 3, none⟩ (.int .i64 (k + 1 + 1 + 1))).cell? ⟨g, j * 5, none⟩ = some (.int .i64 k) := by rw [World.cell?_setCell_other _ _ _ _ (by simp), World.cell?_setCell_other _ _ _ _ (by simp), World.cell?_setCell_other _ _ _ _ (by simp)]; exact World.cell?_setCell_same _ _ _ z0
      have x1 : ((((wr.setCell ⟨g, j * 5, none⟩ (.int .i64 k)).setCell ⟨g, j * 5 + 1, none⟩ (.int .i64 (k + 1))).setCell ⟨g, j * 5 + 2, none⟩ (.int .i64 (k + 1 + 1))).setCell ⟨g, j * 5 + 3, none⟩ (.int .i64 (k + 1 + 1 + 1))).cell? ⟨g, j * 5 + 1, none⟩ = some (.int .i64 (k + 1)) := by rw [World.cell?_setCell_other _ _ _ _ (by simp), World.cell?_setCell_other _ _ _ _ (by simp)]; exact World.cell?_setCell_same _ _ _ z1'
      have x2 : ((((wr.setCell ⟨g, j * 5, none⟩ (.int .i64 k)).setCell ⟨g, j * 5 + 1, none⟩ (.int .i64 (k + 1))).setCell ⟨g, j * 5 + 2, none⟩ (.int .i64 (k + 1 + 1))).setCell ⟨g, j * 5 + 3, none⟩ (.int .i64 (k + 1 + 1 + 1))).cell? ⟨g, j * 5 + 2, none⟩ = some (.int .i64 (k + 2)) := by rw [World.cell?_setCell_other _ _ _ _ (by simp)]; rw [show k + 2 = k + 1 + 1 by omega]; exact World.cell?_setCell_same _ _ _ z2'
      have x3 : ((((wr.setCell ⟨g, j * 5, none⟩ (.int .i64 k)).setCell ⟨g, j * 5 + 1, none⟩ (.int .i64 (k + 1))).setCell ⟨g, j * 5 + 2, none⟩ (.int .i64 (k + 1 + 1))).setCell ⟨g, j * 5 + 3, none⟩ (.int .i64 (k + 1 + 1 + 1))).cell? ⟨g, j * 5 + 3, none⟩ = some (.int .i64 (k + 3)) := by rw [show k + 3 = k + 1 + 1 + 1 by omega]; exact World.cell?_setCell_same _ _ _ z3'
      have y1' : (wr.setCell ⟨g, j * 5, none⟩ (.int .i64 k)).frozen? ⟨g, j * 5 + 1, none⟩ = false := by rw [World.frozen?_setCell]; exact y1
      have y2' : ((wr.setCell ⟨g, j * 5, none⟩ (.int .i64 k)).setCell ⟨g, j * 5 + 1, none⟩ (.int .i64 (k + 1))).frozen? ⟨g, j * 5 + 2, none⟩ = false := by rw [World.frozen?_setCell, World.frozen?_setCell]; exact y2
      have y3' : (((wr.setCell ⟨g, j * 5, none⟩ (.int .i64 k)).setCell ⟨g, j * 5 + 1, none⟩ (.int .i64 (k + 1))).setCell ⟨g, j * 5 + 2, none⟩ (.int .i64 (k + 1 + 1))).frozen? ⟨g, j * 5 + 3, none⟩ = false := by rw [World.frozen?_setCell, World.frozen?_setCell, World.frozen?_setCell]; exact y3
      have p4 : PtsOwn ((((wr.setCell ⟨g, j * 5, none⟩ (.int .i64 k)).setCell ⟨g, j * 5 + 1, none⟩ (.int .i64 (k + 1))).setCell ⟨g, j * 5 + 2, none⟩ (.int .i64 (k + 1 + 1))).setCell ⟨g, j * 5 + 3, none⟩ (.int .i64 (k + 1 + 1 + 1))) (c j) ps := own_blk q5 (by rw [Below.heap_setCell _ _ _ _ (by dsimp only; omega), Below.heap_setCell _ _ _ _ (by dsimp only; omega), Below.heap_setCell _ _ _ _ (by dsimp only; omega), Below.heap_setCell _ _ _ _ (by dsimp only; omega)]) (by simp only [World.size_setCell]; exact q5.1)
      have MP := hid (mark_ptsK _ (c j) ps.length (cp j) ps (k + 1 + 1 + 1 + 1) (by omega) (by omega) hnp rfl p4)
      have HM4 := hid (show Mid base hi w ((((wr.setCell ⟨g, j * 5, none⟩ (.int .i64 k)).setCell ⟨g, j * 5 + 1, none⟩ (.int .i64 (k + 1))).setCell ⟨g, j * 5 + 2, none⟩ (.int .i64 (k + 1 + 1))).setCell ⟨g, j * 5 + 3, none⟩ (.int .i64 (k + 1 + 1 + 1))) from mid_set (mid_set (mid_set (mid_set HM.out hbg hgh _) hbg hgh _) hbg hgh _) hbg hgh _)
      have HT4 := hid (show ((((wr.setCell ⟨g, j * 5, none⟩ (.int .i64 k)).setCell ⟨g, j * 5 + 1, none⟩ (.int .i64 (k + 1))).setCell ⟨g, j * 5 + 2, none⟩ (.int .i64 (k + 1 + 1))).setCell ⟨g, j * 5 + 3, none⟩ (.int .i64 (k + 1 + 1 + 1))).there g 0 (n * 5) from there_set (there_set (there_set (there_set HT.out _) _) _) _)
      have HA4 : Hid (∀ i (h : i < rs.length), i < j → ∀ (h' : i < (mrk rs).length), RowC ((((wr.setCell ⟨g, j * 5, none⟩ (.int .i64 k)).setCell ⟨g, j * 5 + 1, none⟩ (.int .i64 (k + 1))).setCell ⟨g, j * 5 + 2, none⟩ (.int .i64 (k + 1 + 1))).setCell ⟨g, j * 5 + 3, none⟩ (.int .i64 (k + 1 + 1 + 1))) g (i * 5) (mrk rs)[i] (c i) (cp i)) := hid (fun i h h1 h' => ((((HA.out i h h1 h').setg (fun e => (HC.out i h).2.2 e.symm) (by omega) _).setg (fun e => (HC.out i h).2.2 e.symm) (by omega) _).setg (fun e => (HC.out i h).2.2 e.symm) (by omega) _).setg (fun e => (HC.out i h).2.2 e.symm) (by omega) _)
      have HZ4 : Hid (∀ i (h : i < rs.length), j + 1 ≤ i → RowC ((((wr.setCell ⟨g, j * 5, none⟩ (.int .i64 k)).setCell ⟨g, j * 5 + 1, none⟩ (.int .i64 (k + 1))).setCell ⟨g, j * 5 + 2, none⟩ (.int .i64 (k + 1 + 1))).setCell ⟨g, j * 5 + 3, none⟩ (.int .i64 (k + 1 + 1 + 1))) g (i * 5) rs[i] (c i) (cp i)) := hid (fun i h h1 => ((((HZ.out i h (by omega)).setg (fun e => (HC.out i h).2.2 e.symm) (by omega) _).setg (fun e => (HC.out i h).2.2 e.symm) (by omega) _).setg (fun e => (HC.out i h).2.2 e.symm) (by omega) _).setg (fun e => (HC.out i h).2.2 e.symm) (by omega) _)
      have HX : Hid (((((wr.setCell ⟨g, j * 5, none⟩ (.int .i64 k)).setCell ⟨g, j * 5 + 1, none⟩ (.int .i64 (k + 1))).setCell ⟨g, j * 5 + 2, none⟩ (.int .i64 (k + 1 + 1))).setCell ⟨g, j * 5 + 3, none⟩ (.int .i64 (k + 1 + 1 + 1))).cell? ⟨g, j * 5, none⟩ = some (.int .i64 k) ∧ ((((wr.setCell ⟨g, j * 5, none⟩ (.int .i64 k)).setCell ⟨g, j * 5 + 1, none⟩ (.int .i64 (k + 1))).setCell ⟨g, j * 5 + 2, none⟩ (.int .i64 (k + 1 + 1))).setCell ⟨g, j * 5 + 3, none⟩ (.int .i64 (k + 1 + 1 + 1))).cell? ⟨g, j * 5 + 1, none⟩ = some (.int .i64 (k + 1)) ∧ ((((wr.setCell ⟨g, j * 5, none⟩ (.int .i64 k)).setCell ⟨g, j * 5 + 1, none⟩ (.int .i64 (k + 1))).setCell ⟨g, j * 5 + 2, none⟩ (.int .i64 (k + 1 + 1))).setCell ⟨g, j * 5 + 3, none⟩ (.int .i64 (k + 1 + 1 + 1))).cell? ⟨g, j * 5 + 2, none⟩ = some (.int .i64 (k + 2)) ∧ ((((wr.setCell ⟨g, j * 5, none⟩ (.int .i64 k)).setCell ⟨g, j * 5 + 1, none⟩ (.int .i64 (k + 1))).setCell ⟨g, j * 5 + 2, none⟩ (.int .i64 (k + 1 + 1))).setCell ⟨g, j * 5 + 3, none⟩ (.int .i64 (k + 1 + 1 + 1))).cell? ⟨g, j * 5 + 3, none⟩ = some (.int .i64 (k + 3)) ∧ ((((wr.setCell ⟨g, j * 5, none⟩ (.int .i64 k)).setCell ⟨g, j * 5 + 1, none⟩ (.int .i64 (k + 1))).setCell ⟨g, j * 5 + 2, none⟩ (.int .i64 (k + 1 + 1))).setCell ⟨g, j * 5 + 3, none⟩ (.int .i64 (k + 1 + 1 + 1))).cell? ⟨g, j * 5 + 4, none⟩ = some (.slice (some ⟨c j, 0, none⟩) ps.length (cp j))) := hid ⟨x0, x1, x2, x3, z4'⟩
      clear x0 x1 x2 x3 p4 q4 q5 z1 z2 z3 y1 y2 y3 HM HT HA HZ
      go_wp2_with fail
      refine MP.out.mono ?_
      rintro e w1 ⟨rfl, hp1, hg⟩
      have hgne : some g ≠ some (c j) := fun e => hcg (by cases e; rfl)
      have HM5 := hid (mid_grown HM4.out hg hcb hch)
      have HT5 : Hid (w1.there g 0 (n * 5)) := hid (fun i hi' => by
        obtain ⟨s1, s2⟩ := HT4.out i hi'
        have hgs : g < ((((wr.setCell ⟨g, j * 5, none⟩ (.int .i64 k)).setCell ⟨g, j * 5 + 1, none⟩ (.int .i64 (k + 1))).setCell ⟨g, j * 5 + 2, none⟩ (.int .i64 (k + 1 + 1))).setCell ⟨g, j * 5 + 3, none⟩ (.int .i64 (k + 1 + 1 + 1))).heap.size := by have := HM4.out.2.2.2.1; omega
        have hb := hg.block g hgs hgne
        simp only [World.cell?, World.frozen?, hb]; exact ⟨s1, s2⟩)
      have HA5 : Hid (∀ i (h : i < rs.length), i < j + 1 → ∀ (h' : i < (mrk rs).length), RowC w1 g (i * 5) (mrk rs)[i] (c i) (cp i)) := hid (fun i h h1 h' => by
        by_cases e : i = j
        · subst e
          rw [HMA.out]
          obtain ⟨s0, s1, s2, s3, s4⟩ := HX.out
          refine ⟨hg.cell s0 hgne, hg.cell s1 hgne, hg.cell s2 hgne, hg.cell s3 hgne, ?_, ?_⟩
          · rw [tkk_len]; exact hg.cell s4 hgne
          · rw [show k + 4 = k + 1 + 1 + 1 + 1 by omega]; exact hp1
        · exact (HA4.out i h (by omega) h').grown hg hcg (HDJ.out i h e))
      have HZ5 : Hid (∀ i (h : i < rs.length), j + 1 ≤ i → RowC w1 g (i * 5) rs[i] (c i) (cp i)) := hid (fun i h h1 => (HZ4.out i h h1).grown hg hcg (HDJ.out i h (by omega)))
      have HK5 : Hid (k + 1 + 1 + 1 + 1 + 2 * (ps.length : Int) = kk rs (j + 1)) := hid (by rw [HKN.out]; omega)
      clear hg hp1 MP HM4 HT4 HA4 HZ4 HX z4' z1' z2' z3' y1' y2' y3'
      go_wp2_with fail
      go_roundw
      case rel => exact ⟨j + 1, _, by go_num, rfl, by omega, HK5, HM5, HT5, HA5, HZ5⟩
      case measure => simp [intOf]; omega
    · obtain rfl : j = n := by omega
      have c1 : (j : Int) ≤ (j : Int) := by omega
      go_wp2_with fail
      go_ret
      obtain ⟨e1, e2⟩ := HF.out wr k HKJ.out HA.out
      exact ⟨e1, e2, HM.out⟩
set_option maxHeartbeats 400000 in
theorem mark_rowsX (base hi : Nat) (now : Int) (a : Option Addr) (n cap : Nat) (rs : List Rw) (xs : List El) (w : World) (hn : rs.length = n) (hm : rs.length ≤ 1048576) (hl : ∀ m (h : m < rs.length), rs[m].2.2.2.2.length ≤ 1048576) (h : RowsX base hi w (.slice a n cap) rs xs) : Calls Tryz.prog 7 #[.agg #[.int .i64 now, .slice a n cap], .int .i64 1] w fun e w' => e = .returned (.int .i64 (kk rs rs.length)) ∧ Rws (fun _ => True) w' a (mrk rs) ∧ Mid base hi w w' := by
  subst hn
  have hB : Below w.heap.size w (w.alloc (.cells #[.int .i64 now, .slice a rs.length cap] 24)) := balloc (Below.refl _ _) _
  have HM : Hid (Calls Tryz.prog 15 #[.slice a rs.length cap, .int .i64 1] (w.alloc (.cells #[.int .i64 now, .slice a rs.length cap] 24)) fun e w' => e = .returned (.int .i64 (kk rs rs.length)) ∧ Rws (fun _ => True) w' a (mrk rs) ∧ Mid base hi (w.alloc (.cells #[.int .i64 now, .slice a rs.length cap] 24)) w') := hid (by
    have hX := h.below hB
    rcases hX.rows with ⟨rfl, _, e⟩ | ⟨g, cp', e, h1, h2, h3, h4, h5, c, cpf, h6, h7⟩
    · cases e
      go_enter Tryz.func15, Tryz.ntmps15
      go_wp2_with fail
      go_loopw [1, 5] (fun tk' ti wr => tk' = .int .i64 1 ∧ ti = .int .i64 0 ∧ wr = (w.alloc (.cells #[.int .i64 now, .slice none 0 0] 24))) (fun _ _ _ => 0)
      case atStart => exact ⟨rfl, rfl, rfl⟩
      case round =>
        obtain ⟨rfl, rfl, rfl⟩ := hrel
        go_wp2_with fail
        go_ret
        exact ⟨by simp [kk], .inl (by simp [mrk]), mid_refl _ _ _⟩
    · cases e
      refine (mark_rowSX base hi g cap rs c cpf _ h1 h2 h3 hm hl h5 (fun j hj => (h6 j hj).1) (fun j hj => ⟨(h6 j hj).2.2.2.1, (h6 j hj).2.2.2.2.1, (h6 j hj).2.2.2.2.2⟩) h7).mono ?_
      rintro e w' ⟨rfl, hr, hmid⟩
      refine ⟨rfl, .inr ⟨g, 0, rfl, by have := hmid.2.2.2.1; omega, fun j hj => ?_⟩, hmid⟩
      rw [Nat.zero_add]
      have hj' := hj
      rw [mrk_len] at hj'
      have e2 := mrk_at hj'
      refine (hr j hj).at ?_ ?_
      · rw [e2]; simp only [tkk_len]; exact (h6 j hj').2.1
      · rw [e2]; simp only [tkk_len]; exact (h6 j hj').2.2.1)
  clear h hl
  go_enter Tryz.func7, Tryz.ntmps7
  go_wp2_with fail
  refine HM.out.mono ?_
  rintro e w1 ⟨rfl, hr, hmid⟩
  have HRR := hid hr
  have HMM := hid (mid_trans (mid_below hB) hmid)
  clear hmid hr
  go_wp2_with fail
  go_ret
  exact ⟨rfl, HRR.out, HMM.out⟩
set_option maxRecDepth 100000 in
set_option maxHeartbeats 2000000 in
theorem held_rowSX {N : Nat → Prop} (a : Option Addr) (n cap : Nat) (rs : List Rw) (w : World) (hn : rs.length = n) (hm : n ≤ 1048576) (hl : ∀ m (h : m < rs.length), rs[m].2.2.2.2.length ≤ 1048576) (h : Rws N w a (mrk rs)) : Calls Tryz.prog 16 #[.slice a n cap, .int .i64 1] w fun e w' => e = .returned (.int .i64 (kk rs n)) ∧ w' = w := by
  have HL := hid hl
  have HR := hid h
  have HN := hid hn
  have HK := hid (kk_bound hl)
  clear hl h hn
  have HF : Hid (∀ k : Int, k = kk rs n → Ending.returned (.int .i64 k) = .returned (.int .i64 (kk rs n))) := hid (fun k e => by rw [e])
  go_enter Tryz.func16, Tryz.ntmps16
  go_wp2_with fail
  go_loopw [1, 5] (fun tk' ti wr => ∃ j : Nat, ∃ k : Int, ti = .int .i64 j ∧ tk' = .int .i64 k ∧ j ≤ n ∧ Hid (k = kk rs j) ∧ wr = w) (fun _ ti _ => n - (intOf ti).toNat)
  case atStart => exact ⟨0, 1, rfl, rfl, Nat.zero_le _, hid (by simp [kk]), rfl⟩
  case round =>
    obtain ⟨j, k, rfl, rfl, hj, HKJ, hw⟩ := hrel
    subst hw
    by_cases hlt : j < n
    · have c1 : (j : Int) < (n : Int) := by omega
      have hjr : j < rs.length := by rw [HN.out]; exact hlt
      obtain ⟨hk0, hk1⟩ := HK.out j (by omega)
      rw [← HKJ.out] at hk0 hk1
      have hk2 : k ≤ 2199027449858 := by omega
      have HKN := hid (kk_next hjr)
      rw [← HKJ.out] at HKN
      have hma := mrk_at hjr
      rw [← HKJ.out] at hma
      obtain ⟨b, o, rfl, hbs, a', cap', k0, k1, k2, k3, k4, k5, k6, k7, _⟩ := HR.out.at j (by rw [mrk_len]; exact hjr)
      rw [hma] at k0 k1 k2 k3 k4 k5 k6 k7
      simp only [tkk_len] at k0 k1 k2 k3 k4 k5 k6 k7
      have hnp := HL.out j hjr
      generalize hps : rs[j].2.2.2.2.length = np at *
      clear hps hma
      rw [show k + 2 = k + 1 + 1 by omega] at k2
      rw [show k + 3 = k + 1 + 1 + 1 by omega] at k3
      rw [show k + 4 = k + 1 + 1 + 1 + 1 by omega] at k7
      have HP := hid (held_ptsK wr a' cap' np (k + 1 + 1 + 1 + 1) (by omega) (by omega) hnp k7)
      have HK5 : Hid (k + 1 + 1 + 1 + 1 + 2 * (np : Int) = kk rs (j + 1)) := hid (by rw [HKN.out]; omega)
      have hpos : ¬ (k + 1 + 1 + 1 + 1 + 2 * (np : Int) < 0) := by omega
      clear k5 k6 k7
      go_wp2_with fail
      refine HP.out.mono ?_
      rintro e w1 ⟨rfl, hw1⟩
      replace hw1 := hw1.symm
      subst hw1
      go_wp2_with fail
      go_roundw
      case rel => exact ⟨j + 1, _, by go_num, rfl, by omega, HK5, by first | rfl | trivial⟩
      case measure => simp [intOf]; omega
    · obtain rfl : j = n := by omega
      have c1 : (j : Int) ≤ (j : Int) := by omega
      go_wp2_with fail
      go_ret
      exact ⟨HF.out k HKJ.out, rfl⟩
set_option maxHeartbeats 400000 in
theorem held_rowsX {N : Nat → Prop} (now : Int) (a : Option Addr) (n cap : Nat) (rs : List Rw) (w : World) (hn : rs.length = n) (hm : n ≤ 1048576) (hl : ∀ m (h : m < rs.length), rs[m].2.2.2.2.length ≤ 1048576) (h : Rws N w a (mrk rs)) : Calls Tryz.prog 8 #[.agg #[.int .i64 now, .slice a n cap], .int .i64 1] w fun e w' => e = .returned (.int .i64 (kk rs n)) ∧ Below w.heap.size w w' := by
  have hB : Below w.heap.size w (w.alloc (.cells #[.int .i64 now, .slice a n cap] 24)) := balloc (Below.refl _ _) _
  have HM := hid (held_rowSX a n cap rs _ hn hm hl (h.below hB))
  have hkp := (kk_bound hl n (by omega)).1
  clear h hl
  have hz : ¬ (kk rs n < 0) := by omega
  generalize kk rs n = kn at *
  go_enter Tryz.func8, Tryz.ntmps8
  go_wp2_with fail
  refine HM.out.mono ?_
  rintro e w1 ⟨rfl, hw⟩
  replace hw := hw.symm
  subst hw
  go_wp2_with fail
  go_ret
  exact ⟨rfl, hB⟩
end Go.Proofs.YtfjmbbjcghopgaaGreatDoor
namespace Go.Proofs.YtfjmbbjcghopgaaGreatDoor
open Go.RowKit
set_option linter.unusedSimpArgs false
set_option linter.unusedVariables false
/-- Rows as the law hands them in: each list of points has an address. -/
def RwsS (w : World) (B : Nat) (rs : List Rw) : Prop := B < w.heap.size ∧ ∀ j (h : j < rs.length), ∃ c cp, c < w.heap.size ∧ w.cell? ⟨B, j * 5, none⟩ = some (.int .i64 rs[j].1) ∧ w.cell? ⟨B, j * 5 + 1, none⟩ = some (.int .i64 rs[j].2.1) ∧ w.cell? ⟨B, j * 5 + 2, none⟩ = some (.int .i64 rs[j].2.2.1) ∧ w.cell? ⟨B, j * 5 + 3, none⟩ = some (.int .i64 rs[j].2.2.2.1) ∧ w.cell? ⟨B, j * 5 + 4, none⟩ = some (.slice (some ⟨c, 0, none⟩) rs[j].2.2.2.2.length cp) ∧ rs[j].2.2.2.2.length ≤ 1099511627776 ∧ Pts w (some ⟨c, 0, none⟩) rs[j].2.2.2.2
theorem RwsS.below {w w' : World} {B : Nat} {rs : List Rw} (h : RwsS w B rs) (H : Below w.heap.size w w') : RwsS w' B rs := by
  refine ⟨Nat.lt_of_lt_of_le h.1 H.size, fun j hj => ?_⟩
  obtain ⟨c, cp, a0, a1, a2, a3, a4, a5, a6, a7⟩ := h.2 j hj
  exact ⟨c, cp, Nat.lt_of_lt_of_le a0 H.size, keepcell H a1, keepcell H a2, keepcell H a3, keepcell H a4, keepcell H a5, a6, a7.below H⟩
theorem flt_next {rs : List Rw} {p : Rw → Bool} {i : Nat} (hi : i < rs.length) : (rs.take (i + 1)).filter p = if p rs[i] = true then (rs.take i).filter p ++ [rs[i]] else (rs.take i).filter p := by
  rw [List.take_add_one, List.getElem?_eq_getElem hi, List.filter_append]
  by_cases h : p rs[i] = true
  · simp [h]
  · simp [h]
theorem kept_form {base hi : Nat} {w : World} {v : Value} {rs : List Rw} {xs : List El} (h : RowsX base hi w v rs xs) : ∃ a cap, v = .slice a rs.length cap := by
  rcases h.rows with ⟨rfl, _, e⟩ | ⟨g, cap, e, _⟩
  · exact ⟨none, 0, e⟩
  · exact ⟨_, cap, e⟩
/-- Rows that a call answers, in memory of its own. -/
def VR (w : World) (now : Int) (rs : List Rw) (e : Ending) (w' : World) : Prop :=
  ∃ a cap xs, e = .returned (.agg #[.int .i64 now, .slice a rs.length cap]) ∧ RowsX w.heap.size w'.heap.size w' (.slice a rs.length cap) rs xs ∧ Below w.heap.size w w'
def vacb (now : Int) (rs : List Rw) (t : Int) : List Rw := if rowsb now rs = true then rs.filter (vkeep t) else rs
end Go.Proofs.YtfjmbbjcghopgaaGreatDoor
namespace Go.Proofs.YtfjmbbjcghopgaaGreatDoor
open Go.RowKit
set_option linter.unusedSimpArgs false
set_option linter.unusedVariables false
theorem set1r {w : World} {p : Nat} {o0 o1 : Value} {t : TypeId} (h : w.heap[p]? = some (.cells #[o0, o1] t (0, 0))) (b : Value) : (w.setCell ⟨p, 1, none⟩ b).heap[p]? = some (.cells #[o0, b] t (0, 0)) := by
  have hlt := lt_of_block h
  have h' : w.heap[p] = .cells #[o0, o1] t (0, 0) := by simpa [Array.getElem?_eq_getElem hlt] using h
  show (w.heap.modify p _)[p]? = _
  rw [Array.getElem?_eq_getElem (by simpa using hlt), Array.getElem_modify_self, h']
  rfl
theorem own_nilR {w : World} {B : Nat} : w.ownsRow B 54 5 (.slice none 0 0) 0 [] := ⟨by simp, .inl ⟨rfl, rfl⟩⟩
end Go.Proofs.YtfjmbbjcghopgaaGreatDoor
