/- Texts of stores, joined: Sd, Se, Sf, Sg, Sh, Th. -/
import Derived.Test.YtckhhmhfdciokaaGreatJ6
import Derived.Test.YtckhhmhfdciokaaGreatJ2
import Derived.Test.YtckhhmhfdciokaaGreatRwS
import Derived.Test.YtckhhmhfdciokaaGreatJ5
import Derived.Test.YtckhhmhfdciokaaGreatRwO
import Derived.Test.YtckhhmhfdciokaaGreatRwE
namespace Go.Proofs.YtckhhmhfdciokaaGreat
open Go.RowKit
set_option linter.unusedSimpArgs false
set_option linter.unusedVariables false
def chd : Ch := (0, false, 0, [])
def chb (x : Ch) : Bool := idb x.1 && (x.2.1 || shok x.2.2.1 x.2.2.2)
def asc (cs : List Ch) (i : Nat) : Bool := decide (i = 0) || decide ((cs.getD (i - 1) chd).1 < (cs.getD i chd).1)
def edi (cs : List Ch) (i : Nat) : Bool := chb (cs.getD i chd) && asc cs i
/-- Whether changes can stand in a store. -/
def edb (cs : List Ch) : Bool := (List.range cs.length).all (edi cs)
theorem edb_no {cs : List Ch} {i : Nat} (hi : i < cs.length) (h : edi cs i = false) : edb cs = false := by
  unfold edb
  rw [List.all_eq_false]
  exact ⟨i, List.mem_range.2 hi, by simp [h]⟩
theorem edb_yes {cs : List Ch} (h : ∀ i, i < cs.length → edi cs i = true) : edb cs = true := by
  unfold edb
  rw [List.all_eq_true]
  exact fun i hi => h i (List.mem_range.1 hi)
theorem getD_ch {cs : List Ch} {i : Nat} (h : i < cs.length) : cs.getD i chd = cs[i] := by
  rw [List.getD_eq_getElem?_getD, List.getElem?_eq_getElem h]; rfl
/-- Whether a transaction can stand in a store. -/
def txb (now : Int) (x : Tx) : Bool := ((decide (0 ≤ x.1) && decide (x.1 ≤ now)) && (x.2.1 || decide (x.2.2.length = 0))) && edb x.2.2
end Go.Proofs.YtckhhmhfdciokaaGreat
namespace Go.Proofs.YtckhhmhfdciokaaGreat
open Go.RowKit
set_option linter.unusedSimpArgs false
set_option linter.unusedVariables false
end Go.Proofs.YtckhhmhfdciokaaGreat
namespace Go.Proofs.YtckhhmhfdciokaaGreat
open Go.RowKit
set_option linter.unusedSimpArgs false
set_option linter.unusedVariables false
def storeb (now : Int) (rs : List Rw) (ts : List Tx) : Bool := rowsb now rs && (decide (ts.length ≤ 40) && ts.all (txb now))
end Go.Proofs.YtckhhmhfdciokaaGreat
namespace Go.Proofs.YtckhhmhfdciokaaGreat
open Go.RowKit
set_option linter.unusedSimpArgs false
set_option linter.unusedVariables false
theorem cellsCh : Tryz.prog.cellsOf 47 = 4 := by kernel_rfl
theorem cellsRws : Tryz.prog.cellsOf 24 = 2 := by kernel_rfl
set_option maxRecDepth 100000 in
theorem open_ch {H : Type} {enc : TypeId × Value → H} {W : World} {base fuel : Nat} {cs : List Value} {x : DataW H × List MemPlace} (h : DataW.trod enc Tryz.prog W base (fun _ => true) true fuel 47 cs = some x) : ∃ (r : Ch) (a : Option Addr) (cap : Nat), cs = [.int .i64 r.1, .bool r.2.1, .int .i64 r.2.2.1, .slice a r.2.2.2.length cap] ∧ PtsIn W a cap r.2.2.2 := by
  obtain ⟨xs, n, _, _, hlen, hxl, hf⟩ := DataW.trod_struct Tryz.underlying47 h
  rw [cellsCh] at hlen
  match xs, hxl, cs, hlen with
  | [y0, y1, y2], _, [v0, v1, v2, v3], _ =>
    have g0 : DataW.trod enc Tryz.prog W base (fun _ => true) true n 3 (([v0, v1, v2, v3].drop 0).take (Tryz.prog.cellsOf 3)) = some y0 := hf 0 _ rfl
    have g1 : DataW.trod enc Tryz.prog W base (fun _ => true) true n 4 (([v0, v1, v2, v3].drop 1).take (Tryz.prog.cellsOf 4)) = some y1 := hf 1 _ rfl
    have g2 : DataW.trod enc Tryz.prog W base (fun _ => true) true n 45 (([v0, v1, v2, v3].drop 2).take (Tryz.prog.cellsOf 45)) = some y2 := hf 2 _ rfl
    rw [show Tryz.prog.cellsOf 3 = 1 by kernel_rfl] at g0
    rw [show Tryz.prog.cellsOf 4 = 1 by kernel_rfl] at g1
    rw [cellsShape] at g2
    simp at g0 g1 g2
    obtain ⟨z0, e0, _, _⟩ := DataW.trod_int Tryz.underlying3 g0
    obtain ⟨z1, e1, _⟩ := DataW.trod_bool Tryz.underlying4 g1
    obtain ⟨xs', n', _, _, _, hxl', hf'⟩ := DataW.trod_struct Tryz.underlying45 g2
    match xs', hxl' with
    | [u0, u1], _ =>
      have q0 : DataW.trod enc Tryz.prog W base (fun _ => true) true n' 3 (([v2, v3].drop 0).take (Tryz.prog.cellsOf 3)) = some u0 := hf' 0 _ rfl
      have q1 : DataW.trod enc Tryz.prog W base (fun _ => true) true n' 43 (([v2, v3].drop 1).take (Tryz.prog.cellsOf 43)) = some u1 := hf' 1 _ rfl
      rw [show Tryz.prog.cellsOf 3 = 1 by kernel_rfl] at q0
      rw [show Tryz.prog.cellsOf 43 = 1 by kernel_rfl] at q1
      simp at q0 q1
      obtain ⟨z3, e3, _, _⟩ := DataW.trod_int Tryz.underlying3 q0
      obtain ⟨a, cap, ps, e4, hp⟩ := open_points q1
      simp at e0 e1 e3
      exact ⟨(z0, z1, z3, ps), a, cap, by simp [e0, e1, e3, e4], hp⟩
theorem open_chs {H : Type} {enc : TypeId × Value → H} {W : World} {base fuel : Nat} {v : Value} {x : DataW H × List MemPlace} (h : DataW.trod enc Tryz.prog W base (fun _ => true) true fuel 25 [v] = some x) : ∃ (a : Option Addr) (cap : Nat) (xs : List Ch), v = .slice a xs.length cap ∧ xs.length ≤ cap ∧ xs.length ≤ 9223372036854775807 ∧ Chs (fun _ => True) 9223372036854775807 W a xs := by
  rcases Go.Deep.open_slice Tryz.underlying25 h with ⟨hcs, _⟩ | ⟨a, len, cap, m, n, D, Pl, hcs, _, hl, hm, hmm, _, hall⟩
  · simp at hcs
    exact ⟨none, 0, [], hcs, by simp, by simp, .inl rfl⟩
  · simp at hcs
    have hlm : len ≤ m := by rw [hmm]; simp; exact hl
    have hM : len ≤ 9223372036854775807 := Nat.le_trans hl hm
    by_cases h0 : len = 0
    · subst h0
      exact ⟨some a, cap, [], hcs, by simp, by simp, .inl rfl⟩
    rw [cellsCh] at hall
    have each : ∀ j : Nat, ∃ r : Ch, j < len → ∃ (a' : Option Addr) (cap' : Nat), W.cells? base (a.add (j * 4)) 4 = some [.int .i64 r.1, .bool r.2.1, .int .i64 r.2.2.1, .slice a' r.2.2.2.length cap'] ∧ PtsIn W a' cap' r.2.2.2 := by
      intro j
      by_cases hj : j < len
      · obtain ⟨cs', h1, h2⟩ := hall j (by omega)
        obtain ⟨r, a', cap', e, hp⟩ := open_ch h2
        subst e
        exact ⟨r, fun _ => ⟨a', cap', h1, hp⟩⟩
      · exact ⟨(0, false, 0, []), fun h' => absurd h' hj⟩
    have ⟨f, hf⟩ := Classical.axiomOfChoice each
    have hspot : a.spot = none := by
      obtain ⟨_, _, h1, _⟩ := hf 0 (by omega)
      have h00 := (World.cells?_some h1).2.2 0 (by omega)
      simp only [Nat.zero_mul, Addr.add, if_true] at h00
      unfold World.cell? at h00
      split at h00
      · split at h00
        · cases h00
        · rename_i q; simpa using q
      · cases h00
    obtain ⟨b, o, s⟩ := a
    simp only at hspot
    subst hspot
    have hblk : b < W.heap.size := by
      obtain ⟨_, _, h1, _⟩ := hf 0 (by omega)
      have h00 := (World.cells?_some h1).2.2 0 (by omega)
      rw [Go.Deep.add_add, Addr.add_mid] at h00
      exact World.block_lt_of_cell? W _ (h00.trans rfl)
    refine ⟨some ⟨b, o, none⟩, cap, (List.range len).map f, by simpa using hcs, by simpa using hl, by simpa using hM, .inr ⟨b, o, rfl, hblk, fun j hj => ?_⟩⟩
    simp only [List.length_map, List.length_range] at hj
    have e : ((List.range len).map f)[j]'(by simpa using hj) = f j := by simp
    rw [e]
    obtain ⟨a', cap', h1, hp⟩ := hf j hj
    have hc := (World.cells?_some h1).2.2
    have c0 := hc 0 (by omega)
    have c1 := hc 1 (by omega)
    have c2 := hc 2 (by omega)
    have c3 := hc 3 (by omega)
    rw [Go.Deep.add_add, Addr.add_mid] at c0 c1 c2 c3
    exact ⟨a', cap', c0, c1, c2, c3, hp.2.1, Nat.le_trans hp.2.1 hp.2.2, hp.1, fun _ _ _ => trivial⟩
theorem setk3a {w : World} {p : Nat} {o0 o1 o2 : Value} {t : TypeId} (h : w.heap[p]? = some (.cells #[o0, o1, o2] t (0, 0))) (a b : Value) : ((w.setCell ⟨p, 0, none⟩ a).setCell ⟨p, 1, none⟩ b).heap[p]? = some (.cells #[a, b, o2] t (0, 0)) := by
  have st : ∀ (W : World) (cs : Array Value) (k : Nat) (u : Value), W.heap[p]? = some (.cells cs t (0, 0)) → (W.setCell ⟨p, k, none⟩ u).heap[p]? = some (.cells (cs.setIfInBounds k u) t (0, 0)) := by
    intro W cs k u h
    have hlt := lt_of_block h
    have h' : W.heap[p] = .cells cs t (0, 0) := by simpa [Array.getElem?_eq_getElem hlt] using h
    show (W.heap.modify p _)[p]? = _
    rw [Array.getElem?_eq_getElem (by simpa using hlt), Array.getElem_modify_self, h']
    rfl
  have e4 := st _ _ 1 b (st _ _ 0 a h)
  simpa using e4
end Go.Proofs.YtckhhmhfdciokaaGreat
namespace Go.Proofs.YtckhhmhfdciokaaGreat
open Go.RowKit
set_option linter.unusedSimpArgs false
set_option linter.unusedVariables false
theorem putO_ch {hi : Nat} {w : World} {B k n b : Nat} {x : Ch} (ht : w.there B 0 (n * 4)) (hk : k < n) (hb : B < b) (hbh : b < hi) (ho : w.there b 0 (x.2.2.2.length * 2)) (u0 u1 u2 : Value) :
    ChO hi ((((w.setCell ⟨B, k * 4, none⟩ u0).setCell ⟨B, k * 4 + 1, none⟩ u1).setCell ⟨B, k * 4 + 2, none⟩ u2).setCell ⟨B, k * 4 + 3, none⟩ (.slice (some ⟨b, 0, none⟩) x.2.2.2.length x.2.2.2.length)) B (k * 4) x := by
  obtain ⟨v, hv, _⟩ := there_at (there_set (there_set (there_set ht u0 (p := B) (k := k * 4)) u1 (p := B) (k := k * 4 + 1)) u2 (p := B) (k := k * 4 + 2)) (show k * 4 + 3 < n * 4 by omega)
  exact ⟨b, World.cell?_setCell_same _ _ _ hv, hb, hbh, there_set (there_set (there_set (there_set ho _) _) _) _⟩
theorem putO_tx {hi : Nat} {w : World} {B k n b : Nat} {x : Tx} (ht : w.there B 0 (n * 3)) (hk : k < n) (hb : B < b) (hbh : b < hi) (ho : ChsO hi w b x.2.2) (u0 u1 : Value) :
    TxO hi (((w.setCell ⟨B, k * 3, none⟩ u0).setCell ⟨B, k * 3 + 1, none⟩ u1).setCell ⟨B, k * 3 + 2, none⟩ (.slice (some ⟨b, 0, none⟩) x.2.2.length x.2.2.length)) B (k * 3) x b := by
  obtain ⟨v, hv, _⟩ := there_at (there_set (there_set ht u0 (p := B) (k := k * 3)) u1 (p := B) (k := k * 3 + 1)) (show k * 3 + 2 < n * 3 by omega)
  exact ⟨World.cell?_setCell_same _ _ _ hv, hb, hbh, ((ho.set (by omega) _).set (by omega) _).set (by omega) _⟩
set_option maxHeartbeats 2000000 in
theorem to_chsO {N : Nat → Prop} (a : Option Addr) (cap : Nat) (xs : List Ch) (w : World) (hm : xs.length ≤ 1099511627776) (h : Chs N 1099511627776 w a xs) : Calls Tryz.prog 8 #[.slice a xs.length cap] w fun e w' => ∃ B, e = .returned (.slice (some ⟨B, 0, none⟩) xs.length xs.length) ∧ w.heap.size ≤ B ∧ (B < w'.heap.size ∧ ChsAt (fun c => B < c) 1099511627776 w' B 0 xs) ∧ ChsO w'.heap.size w' B xs ∧ Below w.heap.size w w' := by
  have HR := hid h
  clear h
  have hmk := make_chs xs.length hm
  obtain ⟨n, hn⟩ : ∃ n, n = xs.length := ⟨_, rfl⟩
  have HN := hid hn.symm
  rw [← hn] at hmk hm ⊢
  clear hn
  go_enter Tryz.func8, Tryz.ntmps8
  go_wp2_with fail
  have hB : Below w.heap.size w (w.alloc (.cells (madeCells #[.int .i64 0, .bool false, .int .i64 0, .slice none 0 0] (n * 4)) 57)) := balloc (Below.refl _ _) _
  have hT := made_ownch w n
  have hl : w.heap.size < (w.alloc (.cells (madeCells #[.int .i64 0, .bool false, .int .i64 0, .slice none 0 0] (n * 4)) 57)).heap.size := by simp
  generalize w.alloc (.cells (madeCells #[.int .i64 0, .bool false, .int .i64 0, .slice none 0 0] (n * 4)) 57) = W at *
  clear hmk
  go_loopw [4] (fun ti wr => ∃ j : Nat, ti = .int .i64 j ∧ j ≤ n ∧ Hid (w.heap.size < wr.heap.size) ∧ Hid (∀ i (hi : i < xs.length), i < j → ChAt (fun c => w.heap.size < c) 1099511627776 wr w.heap.size (i * 4) xs[i]) ∧ Hid (wr.there w.heap.size 0 (n * 4)) ∧ Hid (∀ i (hi : i < xs.length), i < j → ChO wr.heap.size wr w.heap.size (i * 4) xs[i]) ∧ Hid (Below w.heap.size w wr)) (fun ti _ => n - (intOf ti).toNat)
  case atStart => exact ⟨0, rfl, Nat.zero_le _, hid hl, hid (fun i hi h => absurd h (by omega)), hid hT, hid (fun i hi h => absurd h (by omega)), hid hB⟩
  case round =>
    clear hB hT hl
    obtain ⟨j, rfl, hj, HL, HP, HT, HOW, HBW⟩ := hrel
    by_cases hlt : j < n
    · have c1 : (j : Int) < (n : Int) := by omega
      have hjr : j < xs.length := by rw [HN.out]; exact hlt
      obtain ⟨b, o, rfl, hbs, hr⟩ := (HR.out.below HBW.out).at j hjr
      obtain ⟨a', cap', k0, k1, k2, q1, q2, q3, q4, q5⟩ := hr
      have TR := hid (to_ch (N := N) xs[j] a' cap' wr q3 q2 q4)
      have HPR := hid (fun (W : World) (bb : Nat) => put_ch (w := W) (B := w.heap.size) (k := j) (n := n) (b := bb) (xs := xs) hjr HN.out)
      have HK6 := hid q3
      have HLN : Hid (∀ (X : World) (hX : ∀ i (hi : i < xs.length), i < j → ChO X.heap.size X w.heap.size (i * 4) xs[i]) (hY : ChO X.heap.size X w.heap.size (j * 4) xs[j]), ∀ i (hi : i < xs.length), i < j + 1 → ChO X.heap.size X w.heap.size (i * 4) xs[i]) := hid (fun X hX hY i hi h => by
        by_cases e : i = j
        · subst e; exact hY
        · exact hX i hi (by omega))
      have HPO := hid (fun (W : World) (bb : Nat) (hbb : w.heap.size < bb) (hbh : bb < W.heap.size) (hT : W.there w.heap.size 0 (n * 4)) (ho : W.there bb 0 (xs[j].2.2.2.length * 2)) => putO_ch (hi := W.heap.size) (x := xs[j]) hT hlt hbb hbh ho)
      unfold chv at TR
      clear q2 q3 q4 q5
      generalize xs[j].1 = id at *
      generalize xs[j].2.1 = go at *
      generalize xs[j].2.2.1 = kd at *
      generalize xs[j].2.2.2 = inn at *
      go_wp2_with fail
      refine TR.out.mono ?_
      rintro e w1 ⟨bb, rfl, hbb, ho, hb1⟩
      have hP := fun i (hi : i < xs.length) (h : i < j) => (HP.out i hi h).below hb1
      have hT := there_below HT.out HL.out hb1
      have hB := btrans HBW.out hb1
      have hL : w.heap.size < w1.heap.size := Nat.lt_of_lt_of_le HL.out hb1.size
      have hbl : w.heap.size < bb := Nat.lt_of_lt_of_le HL.out hbb
      have HPUT := hid (HPR.out w1 bb hP hT hbl HK6.out ho)
      have HOLD := hid (fun i (hi : i < xs.length) (h : i < j) => ((HOW.out i hi h).below (Nat.le_refl _) hb1).mono hb1.size)
      have HNEW := hid (HPO.out w1 bb hbl ho.1 hT ho.2.2)
      have q := fun i (hi : i < n * 4) => hT i hi
      obtain ⟨v0, s0, r0⟩ := there_at hT (show j * 4 < n * 4 by omega)
      obtain ⟨v1, s1, r1⟩ := there_at hT (show j * 4 + 1 < n * 4 by omega)
      obtain ⟨v2, s2, r2⟩ := there_at hT (show j * 4 + 2 < n * 4 by omega)
      obtain ⟨v3, s3, r3⟩ := there_at hT (show j * 4 + 3 < n * 4 by omega)
      clear q hP HPR HPO hb1 ho TR
      have HL1 := hid hL
      have HB1 := hid hB
      clear hT
      go_wp2_with fail
      go_roundw
      case rel => exact ⟨j + 1, by go_num, by omega, hid (by simpa using hL), hid HPUT.out.1, hid HPUT.out.2, hid (HLN.out _ (fun i hi h => by simpa using (((((HOLD.out i hi h).set (.inr (by omega)) _).set (.inr (by omega)) _).set (.inr (by omega)) _).set (.inr (by omega)) _)) (by simpa using HNEW.out _ _ _)), hid ((bset (bset (bset (bset hB (by omega) _) (by omega) _) (by omega) _) (by omega) _))⟩
      case measure => simp [intOf]; omega
    · obtain rfl : n = j := by omega
      have c1 : (n : Int) ≤ (n : Int) := by omega
      go_wp2_with fail
      go_ret
      exact ⟨w.heap.size, rfl, Nat.le_refl _, ⟨HL.out, fun i hi => by have := HP.out i hi (by rw [HN.out] at hi; exact hi); simpa using this⟩, ⟨by rw [HN.out]; exact HT.out, fun i hi => HOW.out i hi (by rw [HN.out] at hi; exact hi)⟩, HBW.out⟩
end Go.Proofs.YtckhhmhfdciokaaGreat
namespace Go.Proofs.YtckhhmhfdciokaaGreat
open Go.RowKit
set_option linter.unusedSimpArgs false
set_option linter.unusedVariables false
def OwnC (hi : Nat) (w : World) (B : Nat) (xs : List Ch) : Prop := B < hi ∧ hi ≤ w.heap.size ∧ ChsO hi w B xs
theorem OwnC.below {hi : Nat} {w w' : World} {B : Nat} {xs : List Ch} (h : OwnC hi w B xs) (H : Below w.heap.size w w') : OwnC hi w' B xs :=
  ⟨h.1, Nat.le_trans h.2.1 H.size, h.2.2.below (Nat.lt_of_lt_of_le h.1 h.2.1) h.2.1 H⟩
def APS (w : World) (now : Int) (rs : List Rw) (cs : List Ch) (e : Ending) (w' : World) : Prop :=
  ∃ a c xs, e = .returned (.tuple #[.agg #[.int .i64 (apnow now rs cs), .slice a (aprs now rs cs).length c], .bool (apb now rs cs)]) ∧ RowsX w.heap.size w'.heap.size w' (.slice a (aprs now rs cs).length c) (aprs now rs cs) xs ∧ Below w.heap.size w w'
theorem APR.form {w : World} {now : Int} {rs : List Rw} {cs : List Ch} {e : Ending} {w' : World} (h : APR w now rs cs e w') : APS w now rs cs e w' := by
  obtain ⟨v, xs, h1, h2, h3⟩ := h
  obtain ⟨a, c, rfl⟩ := kept_form h2
  exact ⟨a, c, xs, h1, h2, h3⟩
theorem apl_all (t : Int) (Q : List (Int × Int) → Prop) : ∀ (cs : List Ch) (rs : List Rw), (∀ r ∈ rs, Q r.2.2.2.2) → (∀ c ∈ cs, Q c.2.2.2) → ∀ r ∈ apl t rs cs, Q r.2.2.2.2
  | [], rs, h1, _ => h1
  | c :: cs, rs, h1, h2 => by
    refine apl_all t Q cs (stp t rs c) (fun r hr => ?_) (fun d hd => h2 d (by simp [hd]))
    unfold stp at hr
    rw [List.mem_append] at hr
    rcases hr with hr | hr
    · obtain ⟨r', hr', rfl⟩ := List.mem_map.1 hr
      rw [show (endR t c.1 r').2.2.2 = r'.2.2.2 from endR_pts _ _ _]
      exact h1 r' hr'
    · cases hg : c.2.1
      · simp [hg] at hr
        subst hr
        exact h2 c (by simp)
      · simp [hg] at hr
theorem aprs_len {now : Int} {rs : List Rw} {cs : List Ch} (h : rs.length ≤ 1048576) : (aprs now rs cs).length ≤ 1048576 := by
  unfold aprs
  split
  · rename_i hb
    unfold apb at hb
    simp only [Bool.and_eq_true, decide_eq_true_eq] at hb
    rw [apl_len]; omega
  · exact h
theorem aprs_lens {now : Int} {rs : List Rw} {cs : List Ch} (h : ∀ m (h : m < rs.length), rs[m].2.2.2.2.length ≤ 1048576) (h2 : ∀ m (h : m < cs.length), cs[m].2.2.2.length ≤ 1048576) : ∀ m (h : m < (aprs now rs cs).length), (aprs now rs cs)[m].2.2.2.2.length ≤ 1048576 := by
  have hr : ∀ r ∈ rs, r.2.2.2.2.length ≤ 1048576 := fun r hr => by
    obtain ⟨m, hm, rfl⟩ := List.getElem_of_mem hr; exact h m hm
  have hc : ∀ c ∈ cs, c.2.2.2.length ≤ 1048576 := fun c hc => by
    obtain ⟨m, hm, rfl⟩ := List.getElem_of_mem hc; exact h2 m hm
  have key : ∀ r ∈ aprs now rs cs, r.2.2.2.2.length ≤ 1048576 := by
    unfold aprs
    split
    · exact apl_all (now + 1) (fun l => l.length ≤ 1048576) cs rs hr hc
    · exact hr
  exact fun m hm => key _ (List.getElem_mem hm)
set_option maxRecDepth 100000 in
set_option maxHeartbeats 8000000 in
theorem apply_w (now0 : Int) (a0 : Option Addr) (cap0 : Nat) (rs0 : List Rw) (a1 : Option Addr) (cap1 : Nat) (cs1 : List Ch) (w : World) (hl0 : rs0.length ≤ 9223372036854775807) (w0 : RwsL w a0 rs0) (hl1 : cs1.length ≤ 9223372036854775807) (w1 : Chs (fun _ => True) 9223372036854775807 w a1 cs1) : Calls Tryz.prog 3 #[.agg #[.int .i64 now0, .slice a0 rs0.length cap0], .slice a1 cs1.length cap1] w fun e w' => e = .returned (.bool true) ∧ Below w.heap.size w w' := by
  have HR0 := hid w0
  have HC0 := hid w1
  clear w0 w1
  obtain ⟨nr, hnr⟩ : ∃ x, x = rs0.length := ⟨_, rfl⟩
  obtain ⟨nc, hnc⟩ : ∃ x, x = cs1.length := ⟨_, rfl⟩
  have HNR := hid hnr.symm
  have HNC := hid hnc.symm
  have SZ := hid (fun (W : World) (hb : Below w.heap.size w W) => sz_allL now0 a0 cap0 rs0 W hl0 (HR0.out.below hb))
  have SC := hid (fun (v : Int) (h0 : 0 ≤ v) (h1 : v ≤ 1048576) (W : World) (hb : Below w.heap.size w W) => sz_chs a1 cap1 cs1 v W hl1 h0 h1 (HC0.out.below hb))
  obtain ⟨GV, hGV⟩ : ∃ GV : Prop, GV = (rs0.length ≤ 1048576 ∧ ∀ m (h : m < rs0.length), rs0[m].2.2.2.2.length ≤ 1048576) := ⟨_, rfl⟩
  rw [← hGV] at SZ
  have HGV := hid hGV
  clear hGV
  rw [← hnr] at SZ
  rw [← hnc] at SC
  rw [← hnr, ← hnc]
  clear hnr hnc
  have gT := new_alloc w w.heap.size (.cells #[.int .i64 now0, .slice a0 nr cap0] 24) rfl
  have hB : Below w.heap.size w (w.alloc (.cells #[.int .i64 now0, .slice a0 nr cap0] 24)) := balloc (Below.refl _ _) _
  go_enter Tryz.func3, Tryz.ntmps3
  go_upto_region 1 with fail
  generalize w.alloc (.cells #[.int .i64 now0, .slice a0 nr cap0] 24) = W0 at *
  obtain ⟨d0, d1, _, _⟩ := cell2f gT
  go_wp2_with fail
  refine (SZ.out _ hB).mono ?_
  rintro e y0 ⟨⟨v, rfl, hv⟩, hc⟩
  replace gT := keepheap2 hc gT
  replace hB := btrans hB hc
  clear hc SZ d0 d1
  rcases hv with rfl | ⟨hv0, hv1, HV⟩
  · go_wp2_with fail
    go_ret
    exact ⟨rfl, hB⟩
  have hv2 : ¬ v < 0 := by omega
  go_wp2_with fail
  refine (SC.out v hv0 hv1 _ hB).mono ?_
  rintro e y1 ⟨⟨u, rfl, hu⟩, hc⟩
  replace gT := keepheap2 hc gT
  replace hB := btrans hB hc
  clear hc SC
  rcases hu with rfl | ⟨hu0, hu1, HU⟩
  · go_wp2_with fail
    go_ret
    exact ⟨rfl, hB⟩
  have hu2 : ¬ u < 0 := by omega
  have HV2 : Hid (rs0.length ≤ 1048576 ∧ ∀ m (h : m < rs0.length), rs0[m].2.2.2.2.length ≤ 1048576) := hid (by rw [← HGV.out]; exact HV.out)
  clear HV HGV
  have HP := hid (HR0.out.rws HV2.out.2)
  have HQ := hid (HC0.out.small HU.out)
  have hmr : rs0.length ≤ 1099511627776 := by have := HV2.out.1; omega
  have hmc : cs1.length ≤ 1099511627776 := by have := HU.out.1; omega
  have TR := hid (fun (W : World) (hb : Below w.heap.size w W) => to_rowsO now0 a0 cap0 rs0 W hmr (HP.out.below hb))
  have TC := hid (fun (W : World) (hb : Below w.heap.size w W) => to_chsO a1 cap1 cs1 W hmc (HQ.out.below hb))
  have CS := hid (fun (b c : Nat) (W : World) (hs : RwsS W b rs0) (hw : Rws (fun c => b < c) W (some ⟨b, 0, none⟩) rs0) (hc : Chs (fun d => c < d) 1099511627776 W (some ⟨c, 0, none⟩) cs1) => (spec_Apply now0 b rs0 (some ⟨c, 0, none⟩) cs1.length cs1 W hmr hs hw HU.out.1 hc).mono (fun e w' h => APR.form h))
  have CI := hid (fun (b c : Nat) (W : World) (hs : RwsS W b rs0) (hw : Rws (fun c => b < c) W (some ⟨b, 0, none⟩) rs0) (hc : Chs (fun d => c < d) 1099511627776 W (some ⟨c, 0, none⟩) cs1) => (impl_Apply now0 b rs0 (some ⟨c, 0, none⟩) cs1.length cs1 W hmr hs hw hmc hc).mono (fun e w' h => APR.form h))
  unfold APS at CS CI
  have hql : (aprs now0 rs0 cs1).length ≤ 1048576 := aprs_len HV2.out.1
  have HQL := hid (aprs_lens (now := now0) HV2.out.2 HU.out.2)
  generalize aprs now0 rs0 cs1 = qs at *
  generalize apnow now0 rs0 cs1 = nw at *
  generalize apb now0 rs0 cs1 = ab at *
  have hqm : qs.length ≤ 1099511627776 := by omega
  have hkp : ¬ (kk qs qs.length < 0) := by have := (kk_bound HQL.out qs.length (Nat.le_refl _)).1; omega
  have EQ := hid (fun (a b : Option Addr) (c d : Nat) (W : World) (h1 : Rws (fun _ => True) W a qs) (h2 : Rws (fun _ => True) W b qs) => eq_rows nw a b c d qs W hqm h1 h2)
  have ER := hid (fun (a b : Option Addr) (c d : Nat) (W : World) {N1 N2 : Nat → Prop} (h1 : Rws N1 W a rs0) (h2 : Rws N2 W b rs0) => eq_rows now0 a b c d rs0 W hmr h1 h2)
  have EC := hid (fun (a b : Option Addr) (c d : Nat) (W : World) {N1 N2 : Nat → Prop} (h1 : Chs N1 1099511627776 W a cs1) (h2 : Chs N2 1099511627776 W b cs1) => eq_chs a b c d cs1 W hmc h1 h2)
  have MR := hid (fun (lo hi B : Nat) (W : World) (h1 : lo ≤ B) (h2 : Own3 hi W B rs0) => mark_rowsB lo hi B now0 rs0 W h1 h2.1 h2.2.1 HV2.out.1 HV2.out.2 h2.2.2.1 h2.2.2.2)
  have MC := hid (fun (lo hi B : Nat) (k0 : Int) (W : World) (h1 : lo ≤ B) (h2 : B < hi) (h3 : hi ≤ W.heap.size) (h4 : 0 ≤ k0) (h5 : k0 ≤ 4000000000000000000) (ho : ChsO hi W B cs1) => mark_chs lo hi B cs1 k0 W h1 h2 h3 HU.out h4 h5 ho)
  obtain ⟨nq, hnq⟩ : ∃ x, x = qs.length := ⟨_, rfl⟩
  have HNQ := hid hnq.symm
  have MX := hid (fun (base hi : Nat) (a : Option Addr) (cap : Nat) (xs : List El) (W : World) (h : RowsX base hi W (.slice a qs.length cap) qs xs) => mark_rowsX base hi nw a qs.length cap qs xs W rfl hql HQL.out h)
  have HH := hid (fun (a : Option Addr) (cap : Nat) (W : World) (h : Rws (fun _ => True) W a (mrk qs)) => held_rowsX nw a qs.length cap qs W rfl hql HQL.out h)
  generalize kk qs qs.length = kq at *
  rw [← hnq] at EQ MX HH CS CI
  rw [HNR.out] at TR CS CI ER MR
  rw [HNC.out] at TC CS CI EC MC
  clear hnq
  have hkn : (kq != kq) = false := by simp
  have hab : (ab != ab) = false := by simp
  have hTl := lt_of_block gT
  obtain ⟨d0, d1, _, _⟩ := cell2f gT
  go_wp2_with fail
  refine (TR.out _ hB).mono ?_
  rintro e y2 ⟨b1, rfl, hg1, hl1, ho1, ht1, hr1, hc⟩
  replace gT := keepheap2 hc gT
  replace hB := btrans hB hc
  have hzy2 := hc.size
  clear hc
  have T1 := hid (rwsS_of hl1 ho1 hr1 (Nat.le_refl _))
  have R1 := hid (show Rws (fun c => b1 < c) y2 (some ⟨b1, 0, none⟩) rs0 from .inr ⟨b1, 0, rfl, hl1, ho1⟩)
  have O1 : Hid (Own3 y2.heap.size y2 b1 rs0) := hid ⟨hl1, Nat.le_refl _, by rw [HNR.out]; exact ht1, hr1⟩
  clear ho1 ht1 hr1
  clear d0 d1
  go_wp2_with fail
  refine (TC.out _ hB).mono ?_
  rintro e y3 ⟨c2, rfl, hg2, hlo2, hr2, hc⟩
  replace gT := keepheap2 hc gT
  replace T1 := hid (T1.out.below hc)
  replace R1 := hid (R1.out.below hc)
  replace O1 := hid (O1.out.below hc)
  replace hB := btrans hB hc
  have hzy3 := hc.size
  clear hc
  obtain ⟨hl2, ho2⟩ := hlo2
  have C2 := hid (show Chs (fun c => c2 < c) 1099511627776 y3 (some ⟨c2, 0, none⟩) cs1 from .inr ⟨c2, 0, rfl, hl2, ho2⟩)
  have D2 : Hid (OwnC y3.heap.size y3 c2 cs1) := hid ⟨hl2, Nat.le_refl _, hr2⟩
  clear ho2 hr2
  go_wp2_with fail
  refine (CS.out b1 c2 _ T1.out R1.out C2.out).mono ?_
  rintro e y4 ⟨sa, sc, sx, rfl, hX, hc⟩
  replace gT := keepheap2 hc gT
  replace T1 := hid (T1.out.below hc)
  replace R1 := hid (R1.out.below hc)
  replace O1 := hid (O1.out.below hc)
  replace C2 := hid (C2.out.below hc)
  replace D2 := hid (D2.out.below hc)
  replace hB := btrans hB hc
  have hzy4 := hc.size
  clear hc
  have S00 := hid hX.rws
  have S0 := hid hX.rws
  obtain ⟨Y4, hY4⟩ : ∃ Y, Y = y4 := ⟨_, rfl⟩
  have HBS : Hid (BS Y4 y4) := hid (by rw [hY4]; exact Below.refl _ _)
  have hY4s : Y4.heap.size ≤ y4.heap.size := by rw [hY4]; exact Nat.le_refl _
  replace S00 : Hid (Rws (fun _ => True) Y4 sa qs) := hid (by rw [hY4]; exact S00.out)
  clear hY4
  clear hX hg1 hl1 hg2 hl2
  clear T1 R1 O1 C2 D2
  go_upto_region 9 with fail
  have hal : Below y4.heap.size y4 (y4.alloc (.cells #[.int .i64 nw, .slice sa nq sc] 30)) := balloc (Below.refl _ _) _
  have gNew := new_alloc y4 y4.heap.size (.cells #[.int .i64 nw, .slice sa nq sc] 30) rfl
  have hsa : (y4.alloc (.cells #[.int .i64 nw, .slice sa nq sc] 30)).heap.size = y4.heap.size + 1 := by simp
  have hsa1 := Nat.le_of_eq hsa
  have hsa2 := Nat.le_of_eq hsa.symm
  clear hsa
  replace gT := keepheap2 hal gT
  replace S0 := hid (S0.out.below hal)
  replace HBS := hid (HBS.out.below hal)
  replace hB := btrans hB hal
  clear hal
  generalize y4.alloc (.cells #[.int .i64 nw, .slice sa nq sc] 30) = z1 at *
  generalize y4.heap.size = s1 at *
  have gS := gNew
  have hs1a := hsa1
  have hs1b := hsa2
  clear gNew hsa1 hsa2
  have hs1T : w.heap.size < s1 := by omega
  obtain ⟨d0, d1, _, _⟩ := cell2f gT
  go_wp2_with fail
  refine (TR.out _ hB).mono ?_
  rintro e y5 ⟨b3, rfl, hg3, hl3, ho3, ht3, hr3, hc⟩
  replace gT := keepheap2 hc gT
  replace gS := keepheap2 hc gS
  replace S0 := hid (S0.out.below hc)
  replace HBS := hid (HBS.out.below hc)
  replace hB := btrans hB hc
  have hzy5 := hc.size
  clear hc
  have T3 := hid (rwsS_of hl3 ho3 hr3 (Nat.le_refl _))
  have R3 := hid (show Rws (fun c => b3 < c) y5 (some ⟨b3, 0, none⟩) rs0 from .inr ⟨b3, 0, rfl, hl3, ho3⟩)
  have O3 : Hid (Own3 y5.heap.size y5 b3 rs0) := hid ⟨hl3, Nat.le_refl _, by rw [HNR.out]; exact ht3, hr3⟩
  clear ho3 ht3 hr3
  clear d0 d1
  go_upto_region 10 with fail
  have hal : Below y5.heap.size y5 (y5.alloc (.cells #[.int .i64 now0, .slice (some ⟨b3, 0, none⟩) nr nr] 30)) := balloc (Below.refl _ _) _
  have gNew := new_alloc y5 y5.heap.size (.cells #[.int .i64 now0, .slice (some ⟨b3, 0, none⟩) nr nr] 30) rfl
  have hsa : (y5.alloc (.cells #[.int .i64 now0, .slice (some ⟨b3, 0, none⟩) nr nr] 30)).heap.size = y5.heap.size + 1 := by simp
  have hsa1 := Nat.le_of_eq hsa
  have hsa2 := Nat.le_of_eq hsa.symm
  clear hsa
  replace gT := keepheap2 hal gT
  replace gS := keepheap2 hal gS
  replace S0 := hid (S0.out.below hal)
  replace HBS := hid (HBS.out.below hal)
  replace T3 := hid (T3.out.below hal)
  replace R3 := hid (R3.out.below hal)
  replace O3 := hid (O3.out.below hal)
  replace hB := btrans hB hal
  clear hal
  generalize y5.alloc (.cells #[.int .i64 now0, .slice (some ⟨b3, 0, none⟩) nr nr] 30) = z2 at *
  generalize y5.heap.size = s2 at *
  have gX := gNew
  have hs2a := hsa1
  have hs2b := hsa2
  clear gNew hsa1 hsa2
  go_wp2_with fail
  refine (TC.out _ hB).mono ?_
  rintro e y6 ⟨c4, rfl, hg4, hlo4, hr4, hc⟩
  replace gT := keepheap2 hc gT
  replace gS := keepheap2 hc gS
  replace gX := keepheap2 hc gX
  replace S0 := hid (S0.out.below hc)
  replace HBS := hid (HBS.out.below hc)
  replace T3 := hid (T3.out.below hc)
  replace R3 := hid (R3.out.below hc)
  replace O3 := hid (O3.out.below hc)
  replace hB := btrans hB hc
  have hzy6 := hc.size
  clear hc
  obtain ⟨hl4, ho4⟩ := hlo4
  have C4 := hid (show Chs (fun c => c4 < c) 1099511627776 y6 (some ⟨c4, 0, none⟩) cs1 from .inr ⟨c4, 0, rfl, hl4, ho4⟩)
  have D4 : Hid (OwnC y6.heap.size y6 c4 cs1) := hid ⟨hl4, Nat.le_refl _, hr4⟩
  clear ho4 hr4
  obtain ⟨d0, d1, _, _⟩ := cell2f gX
  go_wp2_with fail
  refine (CI.out b3 c4 _ T3.out R3.out C4.out).mono ?_
  rintro e y7 ⟨ga, gc, gx, rfl, hX, hc⟩
  replace gT := keepheap2 hc gT
  replace gS := keepheap2 hc gS
  replace gX := keepheap2 hc gX
  replace S0 := hid (S0.out.below hc)
  replace HBS := hid (HBS.out.below hc)
  replace T3 := hid (T3.out.below hc)
  replace R3 := hid (R3.out.below hc)
  replace O3 := hid (O3.out.below hc)
  replace C4 := hid (C4.out.below hc)
  replace D4 := hid (D4.out.below hc)
  replace hB := btrans hB hc
  have hzy7 := hc.size
  clear hc
  have G0 : Hid (RowsX y6.heap.size y7.heap.size y7 (.slice ga nq gc) qs gx) := hid hX
  clear hX d0 d1
  go_upto_region 12 with fail
  have hal : Below y7.heap.size y7 (y7.alloc (.cells #[.int .i64 nw, .slice ga nq gc] 30)) := balloc (Below.refl _ _) _
  have gNew := new_alloc y7 y7.heap.size (.cells #[.int .i64 nw, .slice ga nq gc] 30) rfl
  have hsa : (y7.alloc (.cells #[.int .i64 nw, .slice ga nq gc] 30)).heap.size = y7.heap.size + 1 := by simp
  have hsa1 := Nat.le_of_eq hsa
  have hsa2 := Nat.le_of_eq hsa.symm
  clear hsa
  replace gT := keepheap2 hal gT
  replace gS := keepheap2 hal gS
  replace gX := keepheap2 hal gX
  replace S0 := hid (S0.out.below hal)
  replace HBS := hid (HBS.out.below hal)
  replace T3 := hid (T3.out.below hal)
  replace R3 := hid (R3.out.below hal)
  replace O3 := hid (O3.out.below hal)
  replace C4 := hid (C4.out.below hal)
  replace D4 := hid (D4.out.below hal)
  replace G0 := hid (G0.out.below hal)
  replace hB := btrans hB hal
  clear hal
  generalize y7.alloc (.cells #[.int .i64 nw, .slice ga nq gc] 30) = z3 at *
  generalize y7.heap.size = s3 at *
  have gG := gNew
  have hs3a := hsa1
  have hs3b := hsa2
  clear gNew hsa1 hsa2
  obtain ⟨d0, d1, _, _⟩ := cell2f gG
  obtain ⟨e0, e1, _, _⟩ := cell2f gS
  go_wp2_with fail
  refine (EQ.out _ _ _ _ _ G0.out.rws S0.out).mono ?_
  rintro e y8 ⟨rfl, hc⟩
  replace gT := keepheap2 hc gT
  replace gS := keepheap2 hc gS
  replace gX := keepheap2 hc gX
  replace gG := keepheap2 hc gG
  replace S0 := hid (S0.out.below hc)
  replace HBS := hid (HBS.out.below hc)
  replace T3 := hid (T3.out.below hc)
  replace R3 := hid (R3.out.below hc)
  replace O3 := hid (O3.out.below hc)
  replace C4 := hid (C4.out.below hc)
  replace D4 := hid (D4.out.below hc)
  replace G0 := hid (G0.out.below hc)
  replace hB := btrans hB hc
  have hzy8 := hc.size
  clear hc
  clear d0 d1 e0 e1
  go_upto_region 14 with fail
  obtain ⟨d0, d1, _, _⟩ := cell2f gX
  obtain ⟨e0, e1, _, _⟩ := cell2f gT
  refine wp_region_held_drew (S := (fun w' => w'.cell? ⟨s2, 0, none⟩ = some (.int .i64 now0) ∧ w'.cell? ⟨s2, 1, none⟩ = some (.slice (some ⟨b3, 0, none⟩) nr nr) ∧ w'.cell? ⟨w.heap.size, 0, none⟩ = some (.int .i64 now0) ∧ w'.cell? ⟨w.heap.size, 1, none⟩ = some (.slice a0 nr cap0))) (by kernel_rfl) ?_ (fun hHeld => ?_)
  · (repeat' apply And.intro) <;> (repeat (first | with_reducible assumption | with_reducible refine keepdrew ?_ | with_reducible refine keepcell (by with_reducible assumption) ?_ | with_reducible refine keepalloc ?_ _))
  refine wpAnyH_take (i := 0) (v := ?_) rfl (by kernel_rfl) (by kernel_rfl) (by kernel_rfl) (fun _ _ _ h => h) (Or.inl ⟨by rfl, ?_⟩) hHeld ?_
  rotate_left
  · intro w hSw; (try dsimp only at hSw); go_simp; try (with_reducible rfl)
  try simp only [sq]
  refine wpAnyH_take (i := 1) (v := ?_) rfl (by kernel_rfl) (by kernel_rfl) (by kernel_rfl) (fun _ _ _ h => h) (Or.inl ⟨by rfl, ?_⟩) hHeld ?_
  rotate_left
  · intro w hSw; (try dsimp only at hSw); go_simp; try (with_reducible rfl)
  try simp only [sq]
  refine wpAnyH_ready (rs := [2]) (by kernel_rfl) (by simp) ?_
  refine AllReadyH.cons rfl (fun K hK => ?_) AllReadyH.nil
  try simp only [sq]
  go_simp
  (first
      | (go_at_call 7; refine (TR.out _ (bdrew hB)).mono ?_; rintro e m1 ⟨c1', rfl, hg1, hl1, ho1, ht1, hr1, hm1⟩; have U1 := hid (show Rws (fun c => c1' < c) m1 (some ⟨c1', 0, none⟩) rs0 from .inr ⟨c1', 0, rfl, hl1, ho1⟩); clear ho1; have Z := hid (R3.out.below (show Below y8.heap.size y8 m1 by (repeat (first | with_reducible exact Below.refl _ _ | with_reducible assumption | (with_reducible refine btrans ?_ (by with_reducible assumption)) | with_reducible refine bdrew ?_ | with_reducible refine balloc ?_ _))))))
  go_wp2_with fail
  refine hK.out _ _ ?_ (fun hHeld => ?_)
  · (repeat' apply And.intro) <;> (repeat (first | with_reducible assumption | with_reducible refine keepdrew ?_ | with_reducible refine keepcell (by with_reducible assumption) ?_ | with_reducible refine keepalloc ?_ _))
  clear hK K
  try simp only [sq]
  refine wpAnyH_ready (rs := [3]) (by kernel_rfl) (by simp) ?_
  refine AllReadyH.cons rfl (fun K hK => ?_) AllReadyH.nil
  try simp only [sq]
  go_simp
  (first
      | (go_at_call 10; refine (ER.out _ _ _ _ _ Z.out U1.out).mono ?_; rintro e m2 ⟨rfl, hm2⟩))
  go_wp2_with fail
  refine hK.out _ _ ?_ (fun hHeld => ?_)
  · (repeat' apply And.intro) <;> (repeat (first | with_reducible assumption | with_reducible refine keepdrew ?_ | with_reducible refine keepcell (by with_reducible assumption) ?_ | with_reducible refine keepalloc ?_ _))
  clear hK K
  try simp only [sq]
  refine wpAnyH_take (i := 4) (v := ?_) rfl (by kernel_rfl) (by kernel_rfl) (by kernel_rfl) (fun _ _ _ h => h) (Or.inl ⟨by rfl, ?_⟩) hHeld ?_
  rotate_left
  · intro w hSw; (try dsimp only at hSw); go_simp; try (with_reducible rfl)
  try simp only [sq]
  refine wpAnyH_done (by kernel_rfl) ?_ _
  have hc : Below y8.heap.size y8 m2 := by (repeat (first | with_reducible exact Below.refl _ _ | with_reducible assumption | (with_reducible refine btrans ?_ (by with_reducible assumption)) | with_reducible refine bdrew ?_ | with_reducible refine balloc ?_ _))
  replace gT := keepheap2 hc gT
  replace gS := keepheap2 hc gS
  replace gX := keepheap2 hc gX
  replace gG := keepheap2 hc gG
  replace S0 := hid (S0.out.below hc)
  replace HBS := hid (HBS.out.below hc)
  replace T3 := hid (T3.out.below hc)
  replace R3 := hid (R3.out.below hc)
  replace O3 := hid (O3.out.below hc)
  replace C4 := hid (C4.out.below hc)
  replace D4 := hid (D4.out.below hc)
  replace G0 := hid (G0.out.below hc)
  replace hB := btrans hB hc
  have hzm2 := hc.size
  clear hc hm1 hm2 hHeld U1 Z hg1 hl1 ht1 hr1 d0 d1 e0 e1
  go_wp2_with fail
  refine (TC.out _ hB).mono ?_
  rintro e y9 ⟨c5, rfl, hg5, hlo5, hr5, hc⟩
  replace gT := keepheap2 hc gT
  replace gS := keepheap2 hc gS
  replace gX := keepheap2 hc gX
  replace gG := keepheap2 hc gG
  replace S0 := hid (S0.out.below hc)
  replace HBS := hid (HBS.out.below hc)
  replace T3 := hid (T3.out.below hc)
  replace R3 := hid (R3.out.below hc)
  replace O3 := hid (O3.out.below hc)
  replace C4 := hid (C4.out.below hc)
  replace D4 := hid (D4.out.below hc)
  replace G0 := hid (G0.out.below hc)
  replace hB := btrans hB hc
  have hzy9 := hc.size
  clear hc
  obtain ⟨hl5, ho5⟩ := hlo5
  have C5 := hid (show Chs (fun c => c5 < c) 1099511627776 y9 (some ⟨c5, 0, none⟩) cs1 from .inr ⟨c5, 0, rfl, hl5, ho5⟩)
  have D5 : Hid (OwnC y9.heap.size y9 c5 cs1) := hid ⟨hl5, Nat.le_refl _, hr5⟩
  clear ho5 hr5
  go_wp2_with fail
  refine (EC.out _ _ _ _ _ C4.out C5.out).mono ?_
  rintro e y10 ⟨rfl, hc⟩
  replace gT := keepheap2 hc gT
  replace gS := keepheap2 hc gS
  replace gX := keepheap2 hc gX
  replace gG := keepheap2 hc gG
  replace S0 := hid (S0.out.below hc)
  replace HBS := hid (HBS.out.below hc)
  replace T3 := hid (T3.out.below hc)
  replace R3 := hid (R3.out.below hc)
  replace O3 := hid (O3.out.below hc)
  replace C4 := hid (C4.out.below hc)
  replace D4 := hid (D4.out.below hc)
  replace G0 := hid (G0.out.below hc)
  replace C5 := hid (C5.out.below hc)
  replace D5 := hid (D5.out.below hc)
  replace hB := btrans hB hc
  have hzy10 := hc.size
  clear hc
  clear C5 D5
  clear hg5 hl5
  obtain ⟨d0, d1, _, _⟩ := cell2f gX
  go_wp2_with fail
  have HSL : Hid (SizeLe Y4 b3) := hid (by unfold SizeLe; omega)
  refine (MR.out b3 s2 b3 _ (Nat.le_refl _) O3.out).mono ?_
  rintro e k1 ⟨⟨kv, rfl, hkv0, hkv1⟩, hmid, hth⟩
  replace gT := (mid_blk hmid (lt_of_block gT) (by omega)).trans gT
  replace gS := (mid_blk hmid (lt_of_block gS) (by omega)).trans gS
  replace gX := (mid_blk hmid (lt_of_block gX) (by omega)).trans gX
  replace gG := (mid_blk hmid (lt_of_block gG) (by omega)).trans gG
  have hzk1 := hmid.2.2.2.1
  replace hB := mid_B hB hmid (by omega) hB.size
  replace HBS := hid (bs_mid HBS.out hmid HSL.out)
  replace S0 : Hid (Rws (fun _ => True) k1 sa qs) := hid (S00.out.below HBS.out)
  replace G0 : Hid (RowsX y6.heap.size s3 k1 (.slice ga nq gc) qs gx) := hid (G0.out.frame (fun c h1 h2 => mid_blk hmid (Nat.lt_of_lt_of_le h2 G0.out.2.2.2.1) (by omega)) hmid.2.2.2.1)
  replace D4 : Hid (OwnC y6.heap.size k1 c4 cs1) := hid ⟨D4.out.1, Nat.le_trans D4.out.2.1 hmid.2.2.2.1, D4.out.2.2.mid hmid hth (Nat.lt_of_lt_of_le D4.out.1 D4.out.2.1) D4.out.2.1 (by omega)⟩
  clear hmid hth d0 d1 HSL
  clear T3 R3 O3 C4
  have HSL : Hid (SizeLe Y4 c4) := hid (by unfold SizeLe; omega)
  go_wp2_with fail
  refine (MC.out c4 y6.heap.size c4 kv _ (Nat.le_refl _) D4.out.1 D4.out.2.1 hkv0 (by omega) D4.out.2.2).mono ?_
  rintro e k2 ⟨⟨ku, rfl, hku0, hku1⟩, hmid, hth⟩
  replace gT := (mid_blk hmid (lt_of_block gT) (by omega)).trans gT
  replace gS := (mid_blk hmid (lt_of_block gS) (by omega)).trans gS
  replace gX := (mid_blk hmid (lt_of_block gX) (by omega)).trans gX
  replace gG := (mid_blk hmid (lt_of_block gG) (by omega)).trans gG
  have hzk2 := hmid.2.2.2.1
  replace hB := mid_B hB hmid (by omega) hB.size
  replace HBS := hid (bs_mid HBS.out hmid HSL.out)
  replace S0 : Hid (Rws (fun _ => True) k2 sa qs) := hid (S00.out.below HBS.out)
  replace G0 : Hid (RowsX y6.heap.size s3 k2 (.slice ga nq gc) qs gx) := hid (G0.out.frame (fun c h1 h2 => mid_blk hmid (Nat.lt_of_lt_of_le h2 G0.out.2.2.2.1) (by omega)) hmid.2.2.2.1)
  clear hmid hth HSL
  clear D4
  have hku2 : ¬ ku < 0 := by omega
  obtain ⟨d0, d1, _, _⟩ := cell2f gG
  obtain ⟨e0, e1, _, _⟩ := cell2f gS
  go_wp2_with fail
  refine (EQ.out _ _ _ _ _ G0.out.rws S0.out).mono ?_
  rintro e y11 ⟨rfl, hc⟩
  replace gT := keepheap2 hc gT
  replace gS := keepheap2 hc gS
  replace gX := keepheap2 hc gX
  replace gG := keepheap2 hc gG
  replace S0 := hid (S0.out.below hc)
  replace HBS := hid (HBS.out.below hc)
  replace G0 := hid (G0.out.below hc)
  replace hB := btrans hB hc
  have hzy11 := hc.size
  clear hc
  clear d0 d1 e0 e1
  obtain ⟨d0, d1, _, _⟩ := cell2f gG
  go_wp2_with fail
  have HSL : Hid (SizeLe Y4 y6.heap.size) := hid (by unfold SizeLe; omega)
  refine (MX.out y6.heap.size s3 ga gc gx _ G0.out).mono ?_
  rintro e k3 ⟨rfl, hmo, hmid⟩
  replace gT := (mid_blk hmid (lt_of_block gT) (by omega)).trans gT
  replace gS := (mid_blk hmid (lt_of_block gS) (by omega)).trans gS
  replace gX := (mid_blk hmid (lt_of_block gX) (by omega)).trans gX
  replace gG := (mid_blk hmid (lt_of_block gG) (by omega)).trans gG
  have hzk3 := hmid.2.2.2.1
  replace hB := mid_B hB hmid (by omega) hB.size
  replace HBS := hid (bs_mid HBS.out hmid HSL.out)
  replace S0 : Hid (Rws (fun _ => True) k3 sa qs) := hid (S00.out.below HBS.out)
  clear G0 hmid HSL d0 d1
  have G0 := hid hmo
  clear hmo
  obtain ⟨d0, d1, _, _⟩ := cell2f gG
  go_wp2_with fail
  refine (HH.out ga gc _ G0.out).mono ?_
  rintro e y12 ⟨rfl, hc⟩
  replace gT := keepheap2 hc gT
  replace gS := keepheap2 hc gS
  replace gX := keepheap2 hc gX
  replace gG := keepheap2 hc gG
  replace S0 := hid (S0.out.below hc)
  replace HBS := hid (HBS.out.below hc)
  replace G0 := hid (G0.out.below hc)
  replace hB := btrans hB hc
  have hzy12 := hc.size
  clear hc
  clear d0 d1
  obtain ⟨d0, d1, _, _⟩ := cell2f gT
  go_wp2_with fail
  refine (TR.out _ hB).mono ?_
  rintro e y13 ⟨b6, rfl, hg6, hl6, ho6, ht6, hr6, hc⟩
  replace gT := keepheap2 hc gT
  replace gS := keepheap2 hc gS
  replace gX := keepheap2 hc gX
  replace gG := keepheap2 hc gG
  replace S0 := hid (S0.out.below hc)
  replace HBS := hid (HBS.out.below hc)
  replace G0 := hid (G0.out.below hc)
  replace hB := btrans hB hc
  have hzy13 := hc.size
  clear hc
  have T6 := hid (rwsS_of hl6 ho6 hr6 (Nat.le_refl _))
  have R6 := hid (show Rws (fun c => b6 < c) y13 (some ⟨b6, 0, none⟩) rs0 from .inr ⟨b6, 0, rfl, hl6, ho6⟩)
  have O6 : Hid (Own3 y13.heap.size y13 b6 rs0) := hid ⟨hl6, Nat.le_refl _, by rw [HNR.out]; exact ht6, hr6⟩
  clear ho6 ht6 hr6
  clear d0 d1
  go_wp2_with fail
  refine (TC.out _ hB).mono ?_
  rintro e y14 ⟨c7, rfl, hg7, hlo7, hr7, hc⟩
  replace gT := keepheap2 hc gT
  replace gS := keepheap2 hc gS
  replace gX := keepheap2 hc gX
  replace gG := keepheap2 hc gG
  replace S0 := hid (S0.out.below hc)
  replace HBS := hid (HBS.out.below hc)
  replace G0 := hid (G0.out.below hc)
  replace T6 := hid (T6.out.below hc)
  replace R6 := hid (R6.out.below hc)
  replace O6 := hid (O6.out.below hc)
  replace hB := btrans hB hc
  have hzy14 := hc.size
  clear hc
  obtain ⟨hl7, ho7⟩ := hlo7
  have C7 := hid (show Chs (fun c => c7 < c) 1099511627776 y14 (some ⟨c7, 0, none⟩) cs1 from .inr ⟨c7, 0, rfl, hl7, ho7⟩)
  have D7 : Hid (OwnC y14.heap.size y14 c7 cs1) := hid ⟨hl7, Nat.le_refl _, hr7⟩
  clear ho7 hr7
  go_wp2_with fail
  refine (CI.out b6 c7 _ T6.out R6.out C7.out).mono ?_
  rintro e y15 ⟨ha, hcp, hx, rfl, hX, hc⟩
  replace gT := keepheap2 hc gT
  replace gS := keepheap2 hc gS
  replace gX := keepheap2 hc gX
  replace gG := keepheap2 hc gG
  replace S0 := hid (S0.out.below hc)
  replace HBS := hid (HBS.out.below hc)
  replace G0 := hid (G0.out.below hc)
  replace T6 := hid (T6.out.below hc)
  replace R6 := hid (R6.out.below hc)
  replace O6 := hid (O6.out.below hc)
  replace C7 := hid (C7.out.below hc)
  replace D7 := hid (D7.out.below hc)
  replace hB := btrans hB hc
  have hzy15 := hc.size
  clear hc
  have H0 := hid hX.rws
  clear hX
  clear T6 R6 O6 C7 D7
  clear hg6 hl6 hg7 hl7
  go_upto_region 32 with fail
  have hal : Below y15.heap.size y15 (y15.alloc (.cells #[.int .i64 nw, .slice ha nq hcp] 30)) := balloc (Below.refl _ _) _
  have gNew := new_alloc y15 y15.heap.size (.cells #[.int .i64 nw, .slice ha nq hcp] 30) rfl
  have hsa : (y15.alloc (.cells #[.int .i64 nw, .slice ha nq hcp] 30)).heap.size = y15.heap.size + 1 := by simp
  have hsa1 := Nat.le_of_eq hsa
  have hsa2 := Nat.le_of_eq hsa.symm
  clear hsa
  replace gT := keepheap2 hal gT
  replace gS := keepheap2 hal gS
  replace gX := keepheap2 hal gX
  replace gG := keepheap2 hal gG
  replace S0 := hid (S0.out.below hal)
  replace HBS := hid (HBS.out.below hal)
  replace G0 := hid (G0.out.below hal)
  replace H0 := hid (H0.out.below hal)
  replace hB := btrans hB hal
  clear hal
  generalize y15.alloc (.cells #[.int .i64 nw, .slice ha nq hcp] 30) = z4 at *
  generalize y15.heap.size = s4 at *
  have gH := gNew
  have hs4a := hsa1
  have hs4b := hsa2
  clear gNew hsa1 hsa2
  obtain ⟨d0, d1, _, _⟩ := cell2f gH
  obtain ⟨e0, e1, _, _⟩ := cell2f gS
  go_wp2_with fail
  refine (EQ.out _ _ _ _ _ H0.out S0.out).mono ?_
  rintro e y16 ⟨rfl, hc⟩
  replace gT := keepheap2 hc gT
  replace gS := keepheap2 hc gS
  replace gX := keepheap2 hc gX
  replace gG := keepheap2 hc gG
  replace gH := keepheap2 hc gH
  replace S0 := hid (S0.out.below hc)
  replace HBS := hid (HBS.out.below hc)
  replace G0 := hid (G0.out.below hc)
  replace H0 := hid (H0.out.below hc)
  replace hB := btrans hB hc
  have hzy16 := hc.size
  clear hc
  clear d0 d1 e0 e1
  obtain ⟨d0, d1, _, _⟩ := cell2f gG
  go_wp2_with fail
  refine (HH.out ga gc _ G0.out).mono ?_
  rintro e y17 ⟨rfl, hc⟩
  replace gT := keepheap2 hc gT
  replace gS := keepheap2 hc gS
  replace gX := keepheap2 hc gX
  replace gG := keepheap2 hc gG
  replace gH := keepheap2 hc gH
  replace S0 := hid (S0.out.below hc)
  replace HBS := hid (HBS.out.below hc)
  replace G0 := hid (G0.out.below hc)
  replace H0 := hid (H0.out.below hc)
  replace hB := btrans hB hc
  have hzy17 := hc.size
  clear hc
  clear d0 d1
  go_wp2_with fail
  go_ret
  exact ⟨rfl, hB⟩
end Go.Proofs.YtckhhmhfdciokaaGreat
