/- Texts of stores, joined: Vg, Xp, Pd, Zac, Zaf, Zag, Zb, Zc, Zd, Ze, Xm0, Xm3. -/
import Derived.Test.YtnajddjalagmoaaGreatDoorJ3
import Derived.Test.YtnajddjalagmoaaGreatDoorJ1
import Derived.Test.YtnajddjalagmoaaGreatDoorSj
import Derived.Test.YtnajddjalagmoaaGreatDoorJ2
import Derived.BigQuiet
import Derived.Laws.CopyRow
import Derived.Deep.AppendLies
import Derived.Deep.RegionLaw
namespace Go.Proofs.YtnajddjalagmoaaGreatDoor
open Go.RowKit
set_option linter.unusedSimpArgs false
set_option linter.unusedVariables false
/-- Rows in a new list, their points where they lay in W0. -/
def RowsY (base lo : Nat) (W0 w : World) (v : Value) (rs : List Rw) (xs : List El) : Prop :=
  xs.length = rs.length ∧ w.ownsRow base 126 5 v rs.length (flat5 xs) ∧ ∀ j (h : j < rs.length), ∃ c cp, xs[j]? = some (elR rs[j] c cp) ∧ rs[j].2.2.2.2.length ≤ cp ∧ rs[j].2.2.2.2.length ≤ 1099511627776 ∧ lo ≤ c ∧ Pts W0 (some ⟨c, 0, none⟩) rs[j].2.2.2.2
theorem RowsY.frame {base lo : Nat} {W0 w w' : World} {v : Value} {rs : List Rw} {xs : List El} (h : RowsY base lo W0 w v rs xs) (hb : ∀ g, v.ownBlock = some g → w'.heap[g]? = w.heap[g]?) : RowsY base lo W0 w' v rs xs := ⟨h.1, own_frame h.2.1 hb, h.2.2⟩
theorem RowsY.form {base lo : Nat} {W0 w : World} {v : Value} {rs : List Rw} {xs : List El} (h : RowsY base lo W0 w v rs xs) : ∃ a cap, v = .slice a rs.length cap := by
  rcases h.2.1.2 with ⟨q, hn⟩ | ⟨g, cap, cur, e, _⟩
  · exact ⟨none, 0, by rw [q, hn]⟩
  · exact ⟨_, cap, e⟩
theorem pts_blk {W w : World} {c : Nat} {ps : List (Int × Int)} (h : Pts W (some ⟨c, 0, none⟩) ps) (e : c < W.heap.size → w.heap[c]? = W.heap[c]?) (hs : W.heap.size ≤ w.heap.size) : Pts w (some ⟨c, 0, none⟩) ps := by
  rcases h with h | ⟨b, off, ea, hb, hp⟩
  · exact .inl h
  · cases ea
    refine .inr ⟨c, 0, rfl, by omega, fun k hk => ?_⟩
    simp only [World.cell?, e hb]
    exact hp k hk
theorem RowsY.rws {base lo : Nat} {W0 w : World} {a : Option Addr} {n cap : Nat} {rs : List Rw} {xs : List El} (h : RowsY base lo W0 w (.slice a n cap) rs xs) (H : ∀ b, lo ≤ b → b < W0.heap.size → w.heap[b]? = W0.heap[b]?) (hs : W0.heap.size ≤ w.heap.size) : Rws (fun _ => True) w a rs := by
  obtain ⟨h1, h2, h3⟩ := h
  have h2' := h2
  rcases h2.2 with ⟨q, hn⟩ | ⟨g, cp, cur, e, hb, hg, hc, _⟩
  · exact .inl (List.length_eq_zero_iff.1 hn)
  · cases e
    refine .inr ⟨g, 0, rfl, (Array.getElem?_eq_some_iff.1 hg).1, fun j hj => ?_⟩
    obtain ⟨c, cpj, a1, a2, a3, a5, a4⟩ := h3 j hj
    have hjx : j < xs.length := by omega
    have ex : xs[j] = elR rs[j] c cpj := by
      rw [List.getElem?_eq_getElem hjx] at a1
      exact Option.some.inj a1
    obtain ⟨f0, f1, f2, f3, f4⟩ := flat5_at xs j hjx
    rw [ex] at f0 f1 f2 f3 f4
    rw [Nat.zero_add]
    refine ⟨some ⟨c, 0, none⟩, cpj, ?_, ?_, ?_, ?_, ?_, a2, a3, pts_blk a4 (fun hc => H c a5 hc) hs, fun _ _ _ => trivial⟩
    · rw [World.ownsRow.cellAt h2' _ (by omega)]; exact f0
    · rw [World.ownsRow.cellAt h2' _ (by omega)]; exact f1
    · rw [World.ownsRow.cellAt h2' _ (by omega)]; exact f2
    · rw [World.ownsRow.cellAt h2' _ (by omega)]; exact f3
    · rw [World.ownsRow.cellAt h2' _ (by omega)]; exact f4
end Go.Proofs.YtnajddjalagmoaaGreatDoor
namespace Go.Proofs.YtnajddjalagmoaaGreatDoor
open Go.RowKit
set_option linter.unusedSimpArgs false
set_option linter.unusedVariables false
theorem Txs.any {N : Nat → Prop} {M : Nat} {w : World} {a : Option Addr} {ts : List Tx} (h : Txs N M w a ts) : Txs (fun _ => True) M w a ts := by
  rcases h with h | ⟨b, o, e, hb, h⟩
  · exact .inl h
  · refine .inr ⟨b, o, e, hb, fun j hj => ?_⟩
    obtain ⟨a', cap', q0, q1, q2, q3, q4, q5, q6⟩ := h j hj
    refine ⟨a', cap', q0, q1, q2, q3, q4, ?_, fun _ _ _ => trivial⟩
    rcases q5 with q5 | ⟨b2, o2, e2, hb2, q5⟩
    · exact .inl q5
    · refine .inr ⟨b2, o2, e2, hb2, fun i hi => ?_⟩
      obtain ⟨a4, cap4, p0, p1, p2, p3, p4, p5, p6, p7⟩ := q5 i hi
      exact ⟨a4, cap4, p0, p1, p2, p3, p4, p5, p6, fun _ _ _ => trivial⟩
/-- Rows do not lie in a block that holds a store. -/
theorem Rws.off {N : Nat → Prop} {w w' : World} {a : Option Addr} {rs : List Rw} {Q : Nat} {x y z : Value} {t : TypeId} (h : Rws N w a rs) (hq : w.heap[Q]? = some (.cells #[x, y, z] t (0, 0))) (hy : ∀ i, y ≠ .int .i64 i) (hf : ∀ b, b ≠ Q → w'.heap[b]? = w.heap[b]?) (hs : w.heap.size ≤ w'.heap.size) : Rws N w' a rs := by
  have c1 : w.cell? ⟨Q, 1, none⟩ = some y := by simp [World.cell?, hq]
  have c3 : ∀ k, w.cell? ⟨Q, k + 3, none⟩ = none := fun k => by simp [World.cell?, hq]
  rcases h with h | ⟨b, o, e, hb, h⟩
  · exact .inl h
  · cases rs with
    | nil => exact .inl rfl
    | cons r0 rr =>
    have hbQ : b ≠ Q := by
      intro e
      subst e
      obtain ⟨_, _, _, _, _, _, h4, _⟩ := h 0 (by simp)
      have := c3 (o + 0 * 5 + 1)
      rw [show o + 0 * 5 + 1 + 3 = o + 0 * 5 + 4 by omega] at this
      rw [this] at h4
      cases h4
    refine .inr ⟨b, o, e, by omega, fun j hj => ?_⟩
    obtain ⟨a', cap', k0, k1, k2, k3, k4, k5, k6, k7, k8⟩ := h j hj
    have hc : ∀ k, w'.cell? ⟨b, k, none⟩ = w.cell? ⟨b, k, none⟩ := fun k => World.cell?_of_block (w := w) (hf b hbQ)
    refine ⟨a', cap', by rw [hc]; exact k0, by rw [hc]; exact k1, by rw [hc]; exact k2, by rw [hc]; exact k3, by rw [hc]; exact k4, k5, k6, ?_, k8⟩
    rcases k7 with k7 | ⟨c, off, e2, hc2, k7⟩
    · exact .inl k7
    · cases hps : ((r0 :: rr)[j]).2.2.2.2 with
      | nil => exact .inl rfl
      | cons p0 pr =>
      rw [hps] at k7
      have hcQ : c ≠ Q := by
        intro e3
        subst e3
        obtain ⟨m0, m1⟩ := k7 0 (by simp)
        have hlt : off + 0 * 2 + 1 < 3 := by
          rcases Nat.lt_or_ge (off + 0 * 2 + 1) 3 with q | q
          · exact q
          · have := c3 (off + 0 * 2 + 1 - 3)
            rw [show off + 0 * 2 + 1 - 3 + 3 = off + 0 * 2 + 1 by omega] at this
            rw [this] at m1
            cases m1
        rcases (show off = 0 ∨ off = 1 by omega) with q | q
        · subst q
          have m1' : w.cell? ⟨c, 1, none⟩ = _ := m1
          rw [c1] at m1'
          exact hy _ (Option.some.inj m1')
        · subst q
          have m0' : w.cell? ⟨c, 1, none⟩ = _ := m0
          rw [c1] at m0'
          exact hy _ (Option.some.inj m0')
      refine .inr ⟨c, off, e2, by omega, fun k hk => ?_⟩
      obtain ⟨m0, m1⟩ := k7 k hk
      have hcc : ∀ k, w'.cell? ⟨c, k, none⟩ = w.cell? ⟨c, k, none⟩ := fun k => World.cell?_of_block (w := w) (hf c hcQ)
      exact ⟨by rw [hcc]; exact m0, by rw [hcc]; exact m1⟩
def txL (ts : List Tx) : Prop := ∀ j (h : j < ts.length), ts[j].2.2.length ≤ 1099511627776
end Go.Proofs.YtnajddjalagmoaaGreatDoor
namespace Go.Proofs.YtnajddjalagmoaaGreatDoor
open Go.RowKit
set_option linter.unusedSimpArgs false
set_option linter.unusedVariables false
theorem opn_at {now : Int} {rs : List Rw} {ts : List Tx} {n : Int} (h : opn now rs ts n = true) : ∃ m : Nat, n = (m : Int) ∧ ∃ hm : m < ts.length, storeb now rs ts = true ∧ ts[m].2.1 = true := by
  rw [gob_opn] at h
  simp only [Bool.and_eq_true] at h
  obtain ⟨h1, h2⟩ := h
  unfold gob at h2
  simp only [Bool.and_eq_true, decide_eq_true_eq] at h2
  obtain ⟨q1, q2, q3⟩ := h2
  obtain ⟨m, rfl⟩ : ∃ m : Nat, n = (m : Int) := ⟨n.toNat, by omega⟩
  have hm : m < ts.length := by omega
  rw [txn_at hm] at q3
  exact ⟨m, rfl, hm, h1, q3⟩
end Go.Proofs.YtnajddjalagmoaaGreatDoor
namespace Go.Proofs.YtnajddjalagmoaaGreatDoor
open Go.RowKit
set_option linter.unusedSimpArgs false
set_option linter.unusedVariables false
/-- The place of an id. -/
def Pl (cs : List Ch) (id : Int) (i : Nat) : Prop := i ≤ cs.length ∧ (∀ t, t < i → idc cs t < id) ∧ (∀ t, i ≤ t → t < cs.length → id ≤ idc cs t)
theorem Pl.uniq {cs : List Ch} {id : Int} {i j : Nat} (h : Pl cs id i) (k : Pl cs id j) : i = j := by
  rcases Nat.lt_trichotomy i j with q | q | q
  · have h1 := k.2.1 i q
    have h2 := h.2.2 i (Nat.le_refl _) (by have := k.1; omega)
    omega
  · exact q
  · have h1 := h.2.1 j q
    have h2 := k.2.2 j (Nat.le_refl _) (by have := h.1; omega)
    omega
def pl : List Ch → Int → Nat
  | [], _ => 0
  | c :: r, id => if c.1 < id then pl r id + 1 else 0
theorem idc_succ (c : Ch) (r : List Ch) (t : Nat) : idc (c :: r) (t + 1) = idc r t := by simp [idc]
theorem idc_zero (c : Ch) (r : List Ch) : idc (c :: r) 0 = c.1 := by simp [idc]
theorem pl_Pl : ∀ {cs : List Ch} {id : Int} (ha : ∀ i j, i < j → j < cs.length → idc cs i < idc cs j), Pl cs id (pl cs id)
  | [], id, _ => ⟨Nat.le_refl _, fun t h => absurd h (by simp [pl]), fun t _ h => absurd h (by simp)⟩
  | c :: r, id, ha => by
    have hr : ∀ i j, i < j → j < r.length → idc r i < idc r j := fun i j h1 h2 => by
      have := ha (i + 1) (j + 1) (by omega) (by simpa using h2)
      rwa [idc_succ, idc_succ] at this
    obtain ⟨k1, k2, k3⟩ := pl_Pl (id := id) hr
    unfold pl
    by_cases h : c.1 < id
    · rw [if_pos h]
      refine ⟨by simpa using k1, fun t ht => ?_, fun t h1 h2 => ?_⟩
      · cases t with
        | zero => rw [idc_zero]; exact h
        | succ s => rw [idc_succ]; exact k2 s (by omega)
      · cases t with
        | zero => omega
        | succ s => rw [idc_succ]; exact k3 s (by omega) (by simpa using h2)
    · rw [if_neg h]
      refine ⟨Nat.zero_le _, fun t ht => absurd ht (by omega), fun t h1 h2 => ?_⟩
      cases t with
      | zero => rw [idc_zero]; omega
      | succ s =>
        have := ha 0 (s + 1) (by omega) h2
        rw [idc_zero] at this
        omega
/-- The changes with one in its place. -/
def putC (cs : List Ch) (x : Ch) : List Ch := if pl cs x.1 < cs.length ∧ idc cs (pl cs x.1) = x.1 then cs.set (pl cs x.1) x else cs.take (pl cs x.1) ++ [x] ++ cs.drop (pl cs x.1)
/-- A put is let: an id, a shape. -/
def pob (id kd : Int) (ps : List (Int × Int)) : Bool := idb id && shok kd ps
def ptX (ts : List Tx) (m : Nat) (id kd : Int) (ps : List (Int × Int)) : List Tx := if h : m < ts.length then (if pob id kd ps = true then ts.set m (ts[m].1, ts[m].2.1, putC ts[m].2.2 (id, false, kd, ps)) else ts) else ts
/-- The transactions behind a put. -/
def ptT (now : Int) (rs : List Rw) (ts : List Tx) (n id kd : Int) (ps : List (Int × Int)) : List Tx := if opn now rs ts n = true then ptX ts n.toNat id kd ps else ts
def ptN (now : Int) (rs : List Rw) (ts : List Tx) (n id kd : Int) (ps : List (Int × Int)) : Int := if opn now rs ts n = true then (if pob id kd ps = true then 0 else 2) else 1
theorem ptX_len (ts : List Tx) (m : Nat) (id kd : Int) (ps : List (Int × Int)) : (ptX ts m id kd ps).length = ts.length := by
  unfold ptX
  split
  · split
    · rw [List.length_set]
    · rfl
  · rfl
theorem ptX_yes {ts : List Tx} {m : Nat} {id kd : Int} {ps : List (Int × Int)} (h : m < ts.length) (hp : pob id kd ps = true) : ptX ts m id kd ps = ts.set m (ts[m].1, ts[m].2.1, putC ts[m].2.2 (id, false, kd, ps)) := by
  unfold ptX; rw [dif_pos h, if_pos hp]
theorem ptX_no {ts : List Tx} {m : Nat} {id kd : Int} {ps : List (Int × Int)} (hp : pob id kd ps = false) : ptX ts m id kd ps = ts := by
  unfold ptX
  split
  · rw [if_neg (by simp [hp])]
  · rfl
theorem opn_ed {now : Int} {rs : List Rw} {ts : List Tx} {m : Nat} (h : opn now rs ts (m : Int) = true) (hm : m < ts.length) : ∀ i j, i < j → j < ts[m].2.2.length → idc ts[m].2.2 i < idc ts[m].2.2 j := by
  obtain ⟨m', e, hm', _, _, he, _⟩ := opn_yes h
  have : m' = m := by omega
  subst this
  exact edb_asc he
end Go.Proofs.YtnajddjalagmoaaGreatDoor
namespace Go.Proofs.YtnajddjalagmoaaGreatDoor
open Go.RowKit
set_option linter.unusedSimpArgs false
set_option linter.unusedVariables false
set_option linter.unnecessarySimpa false
theorem take_one {α : Type} {l : List α} {i : Nat} (h : i < l.length) : l.take (i + 1) = l.take i ++ [l[i]] := by
  rw [List.take_add_one, List.getElem?_eq_getElem h]; rfl
/-- Whether an id is among the changes. -/
def hit (cs : List Ch) (id : Int) : Prop := pl cs id < cs.length ∧ idc cs (pl cs id) = id
theorem putC_hit {cs : List Ch} {x : Ch} (h : hit cs x.1) : putC cs x = cs.set (pl cs x.1) x := by
  have h' : pl cs x.1 < cs.length ∧ idc cs (pl cs x.1) = x.1 := h
  unfold putC; rw [if_pos h']
theorem putC_new {cs : List Ch} {x : Ch} (h : ¬ hit cs x.1) : putC cs x = cs.take (pl cs x.1) ++ [x] ++ cs.drop (pl cs x.1) := by
  have h' : ¬ (pl cs x.1 < cs.length ∧ idc cs (pl cs x.1) = x.1) := h
  unfold putC; rw [if_neg h']
/-- What stands behind i rounds. -/
def sl (cs : List Ch) (x : Ch) (i : Nat) : List Ch := if i ≤ pl cs x.1 then cs.take i else (if pl cs x.1 < cs.length ∧ idc cs (pl cs x.1) = x.1 then cs.take (pl cs x.1) ++ [x] ++ (cs.take i).drop (pl cs x.1 + 1) else cs.take (pl cs x.1) ++ [x] ++ (cs.take i).drop (pl cs x.1))
theorem sl_le {cs : List Ch} {x : Ch} {i : Nat} (h : i ≤ pl cs x.1) : sl cs x i = cs.take i := by unfold sl; rw [if_pos h]
theorem sl_be1 {cs : List Ch} {x : Ch} {i : Nat} (h : pl cs x.1 < i) (hh : hit cs x.1) : sl cs x i = cs.take (pl cs x.1) ++ [x] ++ (cs.take i).drop (pl cs x.1 + 1) := by
  have h' : pl cs x.1 < cs.length ∧ idc cs (pl cs x.1) = x.1 := hh
  have h2 : ¬ i ≤ pl cs x.1 := by omega
  unfold sl; rw [if_neg h2, if_pos h']
theorem sl_be2 {cs : List Ch} {x : Ch} {i : Nat} (h : pl cs x.1 < i) (hh : ¬ hit cs x.1) : sl cs x i = cs.take (pl cs x.1) ++ [x] ++ (cs.take i).drop (pl cs x.1) := by
  have h' : ¬ (pl cs x.1 < cs.length ∧ idc cs (pl cs x.1) = x.1) := hh
  have h2 : ¬ i ≤ pl cs x.1 := by omega
  unfold sl; rw [if_neg h2, if_neg h']
theorem sl_lt {cs : List Ch} {x : Ch} {i : Nat} (hi : i < cs.length) (h : i < pl cs x.1) : sl cs x (i + 1) = sl cs x i ++ [cs[i]] := by
  rw [sl_le (by omega), sl_le (by omega), take_one hi]
theorem sl_gt {cs : List Ch} {x : Ch} {i : Nat} (hi : i < cs.length) (h : pl cs x.1 < i) : sl cs x (i + 1) = sl cs x i ++ [cs[i]] := by
  have hl : (cs.take i).length = i := by rw [List.length_take]; omega
  by_cases hh : hit cs x.1
  · rw [sl_be1 (by omega) hh, sl_be1 h hh, take_one hi, List.drop_append_of_le_length (by omega)]; simp
  · rw [sl_be2 (by omega) hh, sl_be2 h hh, take_one hi, List.drop_append_of_le_length (by omega)]; simp
theorem sl_hit {cs : List Ch} {x : Ch} (h : hit cs x.1) : sl cs x (pl cs x.1 + 1) = sl cs x (pl cs x.1) ++ [x] := by
  have hp := h.1
  rw [sl_be1 (by omega) h, sl_le (Nat.le_refl _), take_one hp]
  have hl : (cs.take (pl cs x.1)).length = pl cs x.1 := by rw [List.length_take]; omega
  have : (cs.take (pl cs x.1) ++ [cs[pl cs x.1]]).drop (pl cs x.1 + 1) = [] := List.drop_eq_nil_of_le (by simp; omega)
  rw [this]; simp
theorem sl_new {cs : List Ch} {x : Ch} (hp : pl cs x.1 < cs.length) (h : ¬ hit cs x.1) : sl cs x (pl cs x.1 + 1) = sl cs x (pl cs x.1) ++ [x] ++ [cs[pl cs x.1]] := by
  rw [sl_be2 (by omega) h, sl_le (Nat.le_refl _), take_one hp]
  have hl : (cs.take (pl cs x.1)).length = pl cs x.1 := by rw [List.length_take]; omega
  rw [List.drop_append_of_le_length (by omega), List.drop_eq_nil_of_le (by omega)]; simp
theorem sl_end {cs : List Ch} {x : Ch} (hp : pl cs x.1 < cs.length) : sl cs x cs.length = putC cs x := by
  by_cases h : hit cs x.1
  · rw [sl_be1 hp h, putC_hit h, List.take_length, List.set_eq_take_append_cons_drop, if_pos hp]
    simp
  · rw [sl_be2 hp h, putC_new h, List.take_length]
theorem sl_last {cs : List Ch} {x : Ch} (hp : pl cs x.1 = cs.length) : sl cs x cs.length ++ [x] = putC cs x := by
  rw [sl_le (by omega), List.take_length, putC_new (fun h => by have := h.1; omega), hp]
  simp
/-- Changes that the call has listed anew; their points are where they were. -/
def OI (N : Nat → Prop) (w0 : World) (base : Nat) (w : World) (tv : Value) (xs : List Ch) : Prop :=
  ∃ (g c : Nat) (qs : List (Ch × Value)), tv = .slice (some ⟨g, 0, none⟩) xs.length c ∧ qs.map Prod.fst = xs ∧ w.ownsRow base 66 4 tv xs.length (flatK KC qs) ∧ ∀ q ∈ qs, ∃ a cap, q.2 = .slice a q.1.2.2.2.length cap ∧ q.1.2.2.2.length ≤ cap ∧ q.1.2.2.2.length ≤ 1099511627776 ∧ Pts w0 a q.1.2.2.2 ∧ (∀ c off, a = some ⟨c, off, none⟩ → N c)
theorem OI.below {N : Nat → Prop} {w0 : World} {base : Nat} {w w' : World} {tv : Value} {xs : List Ch} (h : OI N w0 base w tv xs) (H : Below w.heap.size w w') : OI N w0 base w' tv xs := by
  obtain ⟨g, c, qs, e, h1, h2, h3⟩ := h
  refine ⟨g, c, qs, e, h1, ⟨h2.1, ?_⟩, h3⟩
  rcases h2.2 with q | ⟨g', c', cur, e', q1, q2, q3⟩
  · exact .inl q
  · exact .inr ⟨g', c', cur, e', q1, by rw [H.block g' (lt_of_block q2)]; exact q2, q3⟩
theorem OI.chs {N : Nat → Prop} {w0 : World} {base : Nat} {w : World} {tv : Value} {xs : List Ch} (h : OI N w0 base w tv xs) (H : Below w0.heap.size w0 w) : ∃ g c, tv = .slice (some ⟨g, 0, none⟩) xs.length c ∧ base ≤ g ∧ g < w.heap.size ∧ xs.length ≤ c ∧ Chs N 1099511627776 w (some ⟨g, 0, none⟩) xs := by
  obtain ⟨g, c, qs, rfl, h1, h2, h3⟩ := h
  have hl : qs.length = xs.length := by rw [← h1, List.length_map]
  rcases h2.2 with ⟨q, _⟩ | ⟨g', c', cur, e', q1, q2, q3, q4, q5, q6⟩
  · cases q
  · cases e'
    refine ⟨g, c, rfl, q1, lt_of_block q2, q3, .inr ⟨g, 0, rfl, lt_of_block q2, fun j hj => ?_⟩⟩
    have hj' : j < qs.length := by omega
    obtain ⟨a, cap, e1, e2, e3, e4, e5⟩ := h3 qs[j] (List.getElem_mem hj')
    have ex : qs[j].1 = xs[j] := by simp only [← h1, List.getElem_map]
    have hc : ∀ t, t < 4 → w.cell? ⟨g, j * 4 + t, none⟩ = (KC.vals qs[j].1 qs[j].2)[t]? := fun t ht => by
      have h5 : (flatK KC qs)[j * 4 + t]? = (KC.vals qs[j].1 qs[j].2)[t]? := flatX_at KC qs j t hj' ht
      rw [← h5, ← q6]
      have hlt : j * 4 + t < xs.length * 4 := by omega
      rw [List.getElem?_take_of_lt hlt, Array.getElem?_toList]
      simp [World.cell?, q2]
    rw [e1] at hc
    have c0 := hc 0 (by omega)
    have c1 := hc 1 (by omega)
    have c2 := hc 2 (by omega)
    have c3 := hc 3 (by omega)
    rw [← ex]
    refine ⟨a, cap, by simpa [KC] using c0, by simpa [KC] using c1, by simpa [KC] using c2, by simpa [KC] using c3, e2, e3, e4.below H, e5⟩
theorem Chs.imp {N N' : Nat → Prop} {M : Nat} {w : World} {a : Option Addr} {xs : List Ch} (h : Chs N M w a xs) (hn : ∀ c, N c → N' c) : Chs N' M w a xs := by
  rcases h with h | ⟨b, o, e, hb, h⟩
  · exact .inl h
  · refine .inr ⟨b, o, e, hb, fun j hj => ?_⟩
    obtain ⟨a, cap, k0, k1, k2, q1, q2, q3, q4, q5⟩ := h j hj
    exact ⟨a, cap, k0, k1, k2, q1, q2, q3, q4, fun c off e => hn c (q5 c off e)⟩
end Go.Proofs.YtnajddjalagmoaaGreatDoor
namespace Go.Proofs.YtnajddjalagmoaaGreatDoor
open Go.RowKit
set_option linter.unusedSimpArgs false
set_option linter.unusedVariables false
/-- A list of changes that the specification answers. -/
def SQ (N : Nat → Prop) (w : World) (xs : List Ch) (e : Ending) (w' : World) : Prop := ∃ g c, e = .returned (.slice (some ⟨g, 0, none⟩) xs.length c) ∧ w.heap.size ≤ g ∧ g < w'.heap.size ∧ xs.length ≤ c ∧ Chs N 1099511627776 w' (some ⟨g, 0, none⟩) xs ∧ Below w.heap.size w w'
theorem sq_mk {N : Nat → Prop} {w w' : World} {tv : Value} {xs ys : List Ch} (h : OI N w (w.heap.size + 1) w' tv xs) (e : xs = ys) (hb : Below w.heap.size w w') : SQ N w ys (.returned tv) w' := by
  subst e
  obtain ⟨g, c, rfl, h1, h2, h3, h4⟩ := h.chs hb
  exact ⟨g, c, rfl, by omega, h2, h3, h4, hb⟩
theorem sl_len {cs : List Ch} {x : Ch} {i : Nat} (hi : i ≤ cs.length) : (sl cs x i).length ≤ i + 1 := by
  by_cases h : i ≤ pl cs x.1
  · rw [sl_le h, List.length_take]; omega
  · by_cases hh : hit cs x.1
    · rw [sl_be1 (by omega) hh]; simp; omega
    · rw [sl_be2 (by omega) hh]; simp; omega
theorem grown_oi {w0 : World} {base : Nat} {w w' : World} {b : Nat} {o : Obj} {r : Option Nat} (g : w.heap[b]? = some o) (hg : w.grownBy w' r) (h : r ≠ some b) : w'.heap[b]? = some o := (hg.block b (lt_of_block g) (fun e => h e.symm)).trans g
def OQ (N : Nat → Prop) (w0 : World) (qs : List (Ch × Value)) (xs : List Ch) : Prop := qs.map Prod.fst = xs ∧ ∀ q ∈ qs, ∃ a cap, q.2 = .slice a q.1.2.2.2.length cap ∧ q.1.2.2.2.length ≤ cap ∧ q.1.2.2.2.length ≤ 1099511627776 ∧ Pts w0 a q.1.2.2.2 ∧ (∀ c off, a = some ⟨c, off, none⟩ → N c)
theorem OQ.snoc {N : Nat → Prop} {w0 : World} {xs : List Ch} {qs : List (Ch × Value)} {x : Ch} {a : Option Addr} {cap : Nat} (h : OQ N w0 qs xs) (hc : x.2.2.2.length ≤ cap) (hm : x.2.2.2.length ≤ 1099511627776) (hp : Pts w0 a x.2.2.2) (hn : ∀ c off, a = some ⟨c, off, none⟩ → N c) : OQ N w0 (qs ++ [(x, .slice a x.2.2.2.length cap)]) (xs ++ [x]) := by
  refine ⟨by rw [List.map_append, h.1]; rfl, fun q hq => ?_⟩
  rcases List.mem_append.1 hq with hq | hq
  · exact h.2 q hq
  · simp at hq; subst hq; exact ⟨a, cap, rfl, hc, hm, hp, hn⟩
theorem oi_mk {N : Nat → Prop} {w0 : World} {base g c n : Nat} {w : World} {xs : List Ch} {qs : List (Ch × Value)} (h : OQ N w0 qs xs) (hn : xs.length = n) (ho : w.ownsRow base 66 4 (.slice (some ⟨g, 0, none⟩) n c) n (flatK KC qs)) : OI N w0 base w (.slice (some ⟨g, 0, none⟩) n c) xs := by
  subst hn
  exact ⟨g, c, qs, rfl, h.1, ho, h.2⟩
set_option maxRecDepth 100000 in
set_option maxHeartbeats 8000000 in
theorem spec_set {N : Nat → Prop} (a : Option Addr) (cap : Nat) (cs : List Ch) (x : Ch) (xa : Option Addr) (xc : Nat) (w : World) (hm : cs.length ≤ 1099511627776) (h : Chs N 1099511627776 w a cs) (hasc : ∀ i j, i < j → j < cs.length → idc cs i < idc cs j) (hxc : x.2.2.2.length ≤ xc) (hxm : x.2.2.2.length ≤ 1099511627776) (hxp : Pts w xa x.2.2.2) (hxN : ∀ c off, xa = some ⟨c, off, none⟩ → N c) : Calls Tryz.prog 25 #[.slice a cs.length cap, .agg #[.int .i64 x.1, .bool x.2.1, .int .i64 x.2.2.1, .slice xa x.2.2.2.length xc]] w fun e w' => SQ N w (putC cs x) e w' := by
  obtain ⟨i0, hi0, hz0, hz1, hz2⟩ := info_parts Tryz.infoCh
  have HR := hid h
  have HPL := hid (pl_Pl (id := x.1) hasc)
  have HAS := hid hasc
  have HSNX : Hid (∀ {xs : List Ch} {qs : List (Ch × Value)}, OQ N w qs xs → OQ N w (qs ++ [(x, .slice xa x.2.2.2.length xc)]) (xs ++ [x])) := hid (fun h => h.snoc hxc hxm hxp hxN)
  have HXV : Hid (∀ (qs : List (Ch × Value)) v, flatK KC (qs ++ [(x, v)]) = flatK KC qs ++ [.int .i64 x.1, .bool x.2.1, .int .i64 x.2.2.1, v]) := hid (fun qs v => flatK_snoc KC qs (x, v))
  have HEND := hid (@sl_end cs x)
  have HLAST := hid (@sl_last cs x)
  have HLEN := hid (fun i (hi : i ≤ cs.length) => @sl_len cs x i hi)
  have HLT := hid (fun i (hi : i < cs.length) h => @sl_lt cs x i hi h)
  have HGT := hid (fun i (hi : i < cs.length) h => @sl_gt cs x i hi h)
  have HHIT := hid (@sl_hit cs x)
  have HNEW := hid (@sl_new cs x)
  have HZ : Hid (sl cs x 0 = []) := hid (by rw [sl_le (Nat.zero_le _)]; rfl)
  have HHD : Hid (hit cs x.1 ↔ pl cs x.1 < cs.length ∧ idc cs (pl cs x.1) = x.1) := hid Iff.rfl
  clear h hasc hxp hxc hxm hxN
  have gB := old_alloc (o' := .cells #[] 66) (new_alloc w w.heap.size (.cells #[.int .i64 x.1, .bool x.2.1, .int .i64 x.2.2.1, .slice xa x.2.2.2.length xc] 66) rfl)
  have hB : Below w.heap.size w ((w.alloc (.cells #[.int .i64 x.1, .bool x.2.1, .int .i64 x.2.2.1, .slice xa x.2.2.2.length xc] 66)).alloc (.cells #[] 66)) := balloc (balloc (Below.refl _ _) _) _
  have hOI : OI N w (w.heap.size + 1) ((w.alloc (.cells #[.int .i64 x.1, .bool x.2.1, .int .i64 x.2.2.1, .slice xa x.2.2.2.length xc] 66)).alloc (.cells #[] 66)) (.slice (some ⟨w.heap.size + 1, 0, none⟩) 0 0) (sl cs x 0) := by
    rw [HZ.out]
    have := World.ownsRow_made (base := w.heap.size + 1) (e := 66) (size := 4) (w.alloc (.cells #[.int .i64 x.1, .bool x.2.1, .int .i64 x.2.2.1, .slice xa x.2.2.2.length xc] 66)) #[] 0 (by simp) (by decide) rfl
    refine ⟨w.heap.size + 1, 0, [], rfl, rfl, ?_, fun q hq => by simp at hq⟩
    simpa [flatK] using this
  have HOI0 := hid hOI
  clear hOI HZ
  generalize putC cs x = F at *
  obtain ⟨id, hid'⟩ : ∃ id, id = x.1 := ⟨_, rfl⟩
  obtain ⟨xg, hxg⟩ : ∃ xg, xg = x.2.1 := ⟨_, rfl⟩
  obtain ⟨xk, hxk⟩ : ∃ xk, xk = x.2.2.1 := ⟨_, rfl⟩
  obtain ⟨xn, hxn⟩ : ∃ xn, xn = x.2.2.2.length := ⟨_, rfl⟩
  have HID := hid hid'
  rw [← hid', ← hxg, ← hxk, ← hxn] at gB hB HOI0 ⊢
  rw [← hxn] at HSNX
  rw [← hid', ← hxg, ← hxk] at HXV
  rw [← hid'] at HPL HHD HHIT HNEW HLT HGT HEND HLAST
  clear hid' hxg hxk hxn
  generalize pl cs id = p at *
  go_enter Tryz.func25, Tryz.ntmps25
  go_upto_region 2 with fail
  generalize (w.alloc (.cells #[.int .i64 id, .bool xg, .int .i64 xk, .slice xa xn xc] 66)).alloc (.cells #[] 66) = W at *
  go_wp2_with fail
  go_loopw [5, 6, 7] (fun t5 t6 ti wr => ∃ (i : Nat) (pb : Bool), ti = .int .i64 i ∧ t6 = .bool pb ∧ i ≤ cs.length ∧ Hid (pb = decide (p < i)) ∧ Hid (OI N w (w.heap.size + 1) wr t5 (sl cs x i)) ∧ Hid (wr.heap[w.heap.size]? = some (.cells #[.int .i64 id, .bool xg, .int .i64 xk, .slice xa xn xc] 66 (0, 0))) ∧ Hid (Below w.heap.size w wr)) (fun _ _ ti _ => cs.length - (intOf ti).toNat)
  case atStart => exact ⟨0, false, rfl, rfl, Nat.zero_le _, hid (by simp), HOI0, hid gB, hid hB⟩
  case round =>
    clear HOI0 gB hB
    obtain ⟨i, pb, rfl, rfl, hi, HPB, HOI, HGB, HB⟩ := hrel
    have gB := HGB.out
    obtain ⟨⟨x0, x1, x2, x3⟩, _⟩ := cellk4 gB
    clear HGB
    have hsl := HLEN.out i hi
    obtain ⟨ln, hln⟩ : ∃ ln, ln = (sl cs x i).length := ⟨_, rfl⟩
    have HLN := hid hln.symm
    have hl1 : ln ≤ i + 1 := by omega
    obtain ⟨g5, c5, qs, e5, hq1, hown, hq3⟩ := HOI.out
    rw [HLN.out] at e5 hown
    subst e5
    have HOWN := hid hown
    have HQ : Hid (OQ N w qs (sl cs x i)) := hid ⟨hq1, hq3⟩
    clear HOI hq1 hq3 hown hln hsl
    by_cases hlt : i < cs.length
    · have d1 : (i : Int) < (cs.length : Int) := by omega
      obtain ⟨bb, o, rfl, hbs, a', cap', k0, k1, k2, k3, k4, k5, k6, k7⟩ := HR.out.at i hlt
      have KW0 := hid k0
      have KW1 := hid k1
      have KW2 := hid k2
      have KW3 := hid k3
      replace k0 := keepcell HB.out k0
      replace k1 := keepcell HB.out k1
      replace k2 := keepcell HB.out k2
      replace k3 := keepcell HB.out k3
      have HSNC : Hid (∀ {xs : List Ch} {qs : List (Ch × Value)}, OQ N w qs xs → OQ N w (qs ++ [(cs[i], .slice a' cs[i].2.2.2.length cap')]) (xs ++ [cs[i]])) := hid (fun h => h.snoc k4 k5 k6 k7)
      have HCV : Hid (∀ (qs : List (Ch × Value)) v, flatK KC (qs ++ [(cs[i], v)]) = flatK KC qs ++ [.int .i64 cs[i].1, .bool cs[i].2.1, .int .i64 cs[i].2.2.1, v]) := hid (fun qs v => flatK_snoc KC qs (cs[i], v))
      have hci : idc cs i = cs[i].1 := idc_at hlt
      have HLTi := hid (HLT.out i hlt)
      have HGTi := hid (HGT.out i hlt)
      have HNEWi : Hid (i = p → ¬ hit cs id → sl cs x (i + 1) = sl cs x i ++ [x] ++ [cs[i]]) := hid (fun e hn => by subst e; exact HNEW.out hlt hn)
      have HHITi : Hid (i = p → hit cs id → sl cs x (i + 1) = sl cs x i ++ [x]) := hid (fun e hn => by subst e; exact HHIT.out hn)
      have HHDi : Hid (i = p → (hit cs id ↔ cs[i].1 = id)) := hid (fun e => by
        rw [HHD.out, ← e, hci]
        exact ⟨fun q => q.2, fun q => ⟨hlt, q⟩⟩)
      have HL1 : Hid (i < p → cs[i].1 < id) := hid (fun q => by have := HPL.out.2.1 i q; rw [hci] at this; exact this)
      have HL2 : Hid (i = p → id ≤ cs[i].1) := hid (fun q => by have := HPL.out.2.2 i (by omega) hlt; rw [hci] at this; exact this)
      have HL3 : Hid (p < i → id < cs[i].1) := hid (fun q => by
        have h1 := HPL.out.2.2 p (Nat.le_refl _) (by omega)
        have h2 := HAS.out p i q hlt
        rw [hci] at h2; omega)
      clear k4 k5 k6 k7 hci
      generalize cs[i] = ce at *
      obtain ⟨ci, gn, kd, inn⟩ := ce
      simp only at k0 k1 k2 k3 HSNC HCV HHDi HL1 HL2 HL3 KW0 KW1 KW2 KW3
      generalize inn.length = np at *
      obtain ⟨S0, hS0⟩ : ∃ S0, S0 = sl cs x i := ⟨_, rfl⟩
      obtain ⟨S1, hS1⟩ : ∃ S1, S1 = sl cs x (i + 1) := ⟨_, rfl⟩
      have HS1 := hid hS1.symm
      rw [← hS0] at HLN HQ HLTi HGTi HNEWi HHITi
      rw [← hS1] at HLTi HGTi HNEWi HHITi
      clear hS0 hS1
      rcases Nat.lt_trichotomy i p with hip | hip | hip
      · have e1 := HL1.out hip
        have e2 : ¬ (id ≤ ci) := by omega
        have e3 : ¬ (ci = id) := by omega
        have hpb : pb = false := by rw [HPB.out]; simp; omega
        have HPB2 : Hid (false = decide (p < i + 1)) := hid (by simp; omega)
        have HSE := hid (HLTi.out hip)
        clear HL1 HL2 HL3 HHDi HHITi HNEWi HLTi HGTi HPB
        subst hpb
        go_upto_region 6 with fail
        refine wp_region_held_drew (S := (fun w' => w'.cell? ⟨bb, o + i * 4, none⟩ = some (.int .i64 ci) ∧ w'.cell? ⟨w.heap.size, 0, none⟩ = some (.int .i64 id))) (by kernel_rfl) ?_ (fun hHeld => ?_)
        · (repeat' apply And.intro) <;> (repeat (first | with_reducible assumption | with_reducible refine keepdrew ?_ | with_reducible refine keepcell (by with_reducible assumption) ?_ | with_reducible refine keepalloc ?_ _))
        replace gB : wr.drew.heap[w.heap.size]? = _ := gB
        replace HOWN : Hid (wr.drew.ownsRow (w.heap.size + 1) 66 4 (.slice (some ⟨g5, 0, none⟩) ln c5) ln (flatK KC qs)) := hid HOWN.out
        replace HB := hid (bdrew HB.out)
        replace k0 : wr.drew.cell? _ = _ := k0
        replace k1 : wr.drew.cell? _ = _ := k1
        replace k2 : wr.drew.cell? _ = _ := k2
        replace k3 : wr.drew.cell? _ = _ := k3
        replace x0 : wr.drew.cell? _ = _ := x0
        replace x1 : wr.drew.cell? _ = _ := x1
        replace x2 : wr.drew.cell? _ = _ := x2
        replace x3 : wr.drew.cell? _ = _ := x3
        generalize wr.drew = Z1 at *
        refine wpAnyH_take (i := 0) (v := ?_) rfl (by kernel_rfl) (by kernel_rfl) (by kernel_rfl) (fun _ _ _ h => h) (Or.inl ⟨by rfl, ?_⟩) hHeld ?_
        rotate_left
        · intro w hSw; (try dsimp only at hSw); go_simp; try (with_reducible rfl)
        try simp only [sq]
        refine wpAnyH_take (i := 1) (v := ?_) rfl (by kernel_rfl) (by kernel_rfl) (by kernel_rfl) (fun _ _ _ h => h) (Or.inl ⟨by rfl, ?_⟩) hHeld ?_
        rotate_left
        · intro w hSw; (try dsimp only at hSw); go_simp; try (with_reducible rfl)
        try simp only [sq]
        refine wpAnyH_take (i := 2) (v := ?_) rfl (by kernel_rfl) (by kernel_rfl) (by kernel_rfl) (fun _ _ _ h => h) (Or.inl ⟨by rfl, ?_⟩) hHeld ?_
        rotate_left
        · intro w hSw; (try dsimp only at hSw); go_simp; try (with_reducible rfl)
        try simp only [sq]
        refine wpAnyH_take (i := 3) (v := ?_) rfl (by kernel_rfl) (by kernel_rfl) (by kernel_rfl) (fun _ _ _ h => h) (Or.inl ⟨by rfl, ?_⟩) hHeld ?_
        rotate_left
        · intro w hSw; (try dsimp only at hSw); go_simp; try (with_reducible rfl)
        try simp only [sq]
        refine wpAnyH_take (i := 4) (v := ?_) rfl (by kernel_rfl) (by kernel_rfl) (by kernel_rfl) (fun _ _ _ h => h) (Or.inl ⟨by rfl, ?_⟩) hHeld ?_
        rotate_left
        · intro w hSw; (try dsimp only at hSw); go_simp; try (with_reducible rfl)
        try simp only [sq]
        refine wpAnyH_take (i := 5) (v := ?_) rfl (by kernel_rfl) (by kernel_rfl) (by kernel_rfl) (fun _ _ _ h => h) (Or.inl ⟨by rfl, ?_⟩) hHeld ?_
        rotate_left
        · intro w hSw; (try dsimp only at hSw); go_simp; try (with_reducible rfl)
        try simp only [sq]
        refine wpAnyH_take (i := 6) (v := ?_) rfl (by kernel_rfl) (by kernel_rfl) (by kernel_rfl) (fun _ _ _ h => h) (Or.inl ⟨by rfl, ?_⟩) hHeld ?_
        rotate_left
        · intro w hSw; (try dsimp only at hSw); go_simp; try (with_reducible rfl)
        try simp only [sq]
        refine wpAnyH_take (i := 7) (v := ?_) rfl (by kernel_rfl) (by kernel_rfl) (by kernel_rfl) (fun _ _ _ h => h) (Or.inl ⟨by rfl, ?_⟩) hHeld ?_
        rotate_left
        · intro w hSw; (try dsimp only at hSw); go_simp; try (with_reducible rfl)
        try simp only [sq]
        refine wpAnyH_take (i := 8) (v := ?_) rfl (by kernel_rfl) (by kernel_rfl) (by kernel_rfl) (fun _ _ _ h => h) (Or.inl ⟨by rfl, ?_⟩) hHeld ?_
        rotate_left
        · intro w hSw; (try dsimp only at hSw); go_simp; try (with_reducible rfl)
        try simp only [sq]
        refine wpAnyH_take (i := 9) (v := ?_) rfl (by kernel_rfl) (by kernel_rfl) (by kernel_rfl) (fun _ _ _ h => h) (Or.inl ⟨by rfl, ?_⟩) hHeld ?_
        rotate_left
        · intro w hSw; (try dsimp only at hSw); go_simp; try (with_reducible rfl)
        try simp only [sq]
        refine wpAnyH_take (i := 10) (v := ?_) rfl (by kernel_rfl) (by kernel_rfl) (by kernel_rfl) (fun _ _ _ h => h) (Or.inl ⟨by rfl, ?_⟩) hHeld ?_
        rotate_left
        · intro w hSw; (try dsimp only at hSw); go_simp; try (with_reducible rfl)
        try simp only [sq]
        refine wpAnyH_take (i := 11) (v := ?_) rfl (by kernel_rfl) (by kernel_rfl) (by kernel_rfl) (fun _ _ _ h => h) (Or.inl ⟨by rfl, ?_⟩) hHeld ?_
        rotate_left
        · intro w hSw; (try dsimp only at hSw); go_simp; try (with_reducible rfl)
        try simp only [sq]
        refine wpAnyH_done (by kernel_rfl) ?_ _
        clear hHeld
        go_wp2_with fail
        refine wp_region_held_drew (S := (fun w' => w'.cell? ⟨bb, o + i * 4, none⟩ = some (.int .i64 ci) ∧ w'.cell? ⟨w.heap.size, 0, none⟩ = some (.int .i64 id))) (by kernel_rfl) ?_ (fun hHeld => ?_)
        · (repeat' apply And.intro) <;> (repeat (first | with_reducible assumption | with_reducible refine keepdrew ?_ | with_reducible refine keepcell (by with_reducible assumption) ?_ | with_reducible refine keepalloc ?_ _))
        replace gB : Z1.drew.heap[w.heap.size]? = _ := gB
        replace HOWN : Hid (Z1.drew.ownsRow (w.heap.size + 1) 66 4 (.slice (some ⟨g5, 0, none⟩) ln c5) ln (flatK KC qs)) := hid HOWN.out
        replace HB := hid (bdrew HB.out)
        replace k0 : Z1.drew.cell? _ = _ := k0
        replace k1 : Z1.drew.cell? _ = _ := k1
        replace k2 : Z1.drew.cell? _ = _ := k2
        replace k3 : Z1.drew.cell? _ = _ := k3
        replace x0 : Z1.drew.cell? _ = _ := x0
        replace x1 : Z1.drew.cell? _ = _ := x1
        replace x2 : Z1.drew.cell? _ = _ := x2
        replace x3 : Z1.drew.cell? _ = _ := x3
        generalize Z1.drew = Z2 at *
        refine wpAnyH_take (i := 0) (v := ?_) rfl (by kernel_rfl) (by kernel_rfl) (by kernel_rfl) (fun _ _ _ h => h) (Or.inl ⟨by rfl, ?_⟩) hHeld ?_
        rotate_left
        · intro w hSw; (try dsimp only at hSw); go_simp; try (with_reducible rfl)
        try simp only [sq]
        refine wpAnyH_take (i := 1) (v := ?_) rfl (by kernel_rfl) (by kernel_rfl) (by kernel_rfl) (fun _ _ _ h => h) (Or.inl ⟨by rfl, ?_⟩) hHeld ?_
        rotate_left
        · intro w hSw; (try dsimp only at hSw); go_simp; try (with_reducible rfl)
        try simp only [sq]
        refine wpAnyH_take (i := 2) (v := ?_) rfl (by kernel_rfl) (by kernel_rfl) (by kernel_rfl) (fun _ _ _ h => h) (Or.inl ⟨by rfl, ?_⟩) hHeld ?_
        rotate_left
        · intro w hSw; (try dsimp only at hSw); go_simp; try (with_reducible rfl)
        try simp only [sq]
        refine wpAnyH_take (i := 3) (v := ?_) rfl (by kernel_rfl) (by kernel_rfl) (by kernel_rfl) (fun _ _ _ h => h) (Or.inl ⟨by rfl, ?_⟩) hHeld ?_
        rotate_left
        · intro w hSw; (try dsimp only at hSw); go_simp; try (with_reducible rfl)
        try simp only [sq]
        refine wpAnyH_take (i := 4) (v := ?_) rfl (by kernel_rfl) (by kernel_rfl) (by kernel_rfl) (fun _ _ _ h => h) (Or.inl ⟨by rfl, ?_⟩) hHeld ?_
        rotate_left
        · intro w hSw; (try dsimp only at hSw); go_simp; try (with_reducible rfl)
        try simp only [sq]
        refine wpAnyH_take (i := 5) (v := ?_) rfl (by kernel_rfl) (by kernel_rfl) (by kernel_rfl) (fun _ _ _ h => h) (Or.inl ⟨by rfl, ?_⟩) hHeld ?_
        rotate_left
        · intro w hSw; (try dsimp only at hSw); go_simp; try (with_reducible rfl)
        try simp only [sq]
        refine wpAnyH_take (i := 6) (v := ?_) rfl (by kernel_rfl) (by kernel_rfl) (by kernel_rfl) (fun _ _ _ h => h) (Or.inl ⟨by rfl, ?_⟩) hHeld ?_
        rotate_left
        · intro w hSw; (try dsimp only at hSw); go_simp; try (with_reducible rfl)
        try simp only [sq]
        refine wpAnyH_take (i := 7) (v := ?_) rfl (by kernel_rfl) (by kernel_rfl) (by kernel_rfl) (fun _ _ _ h => h) (Or.inl ⟨by rfl, ?_⟩) hHeld ?_
        rotate_left
        · intro w hSw; (try dsimp only at hSw); go_simp; try (with_reducible rfl)
        try simp only [sq]
        refine wpAnyH_done (by kernel_rfl) ?_ _
        clear hHeld
        have hwY := HB.out.size
        have hbY := lt_of_block gB
        have hown := HOWN.out
        go_wp2_with (at_builtin; (refine wpList_append_lies _ rfl (.tmp 39) (.tmp 44) 60 rfl (w.heap.size + 1) 66 i0 _ 4 48 Tryz.underlying60 hi0 hz0 hz1 hz2 rfl (by decide) (.slice (some ⟨g5, 0, none⟩) (ln) c5) (ln) (flatK KC qs) rfl (hown.alloc _) ⟨Z2.heap.size, 0, none⟩ 1 1 [.int .i64 ci, .bool gn, .int .i64 kd, .slice a' np cap'] rfl rfl (World.news_of_block (cs := #[.int .i64 ci, .bool gn, .int .i64 kd, .slice a' np cap']) (t := 66) (fr := (0, 0)) (heap_alloc_new Z2 _)) (by simp [Value.oneCell']) (by omega) (by unfold maxLen; omega) (by omega) (by simp; omega) (Z2.heap.size + 1) (by simp) ?_; intro gg cq w2 hown2 hgrow hat hlt2))
        go_roundw
        case rel =>
          refine ⟨i + 1, _, by go_num, rfl, by omega, HPB2, hid ?_, hid ?_, hid ?_⟩
          · rw [HS1.out, HSE.out]
            exact oi_mk (HSNC.out HQ.out) (by rw [List.length_append, HLN.out]; rfl) (by rw [HCV.out]; exact hown2)
          · exact grown_oi (w0 := w) (base := 0) (old_alloc gB) hgrow (fun e => by have := (hown.lt _ e).1; omega)
          · exact Below.grown (balloc HB.out _) hgrow (by simp; omega) (fun k e => by have := (hown.lt k e).1; omega)
        case measure => simp [intOf]; omega
      · have e2 := HL2.out hip
        have hpb : pb = false := by rw [HPB.out]; simp; omega
        have HPB2 : Hid (true = decide (p < i + 1)) := hid (by simp; omega)
        have HHI := hid (HHITi.out hip)
        have HNE := hid (HNEWi.out hip)
        have HDI := hid (HHDi.out hip)
        clear hip
        clear HL1 HL2 HL3 HHDi HHITi HNEWi HLTi HGTi HPB
        subst hpb
        go_upto_region 6 with fail
        refine wp_region_held_drew (S := (fun w' => w'.cell? ⟨bb, o + i * 4, none⟩ = some (.int .i64 ci) ∧ w'.cell? ⟨w.heap.size, 0, none⟩ = some (.int .i64 id))) (by kernel_rfl) ?_ (fun hHeld => ?_)
        · (repeat' apply And.intro) <;> (repeat (first | with_reducible assumption | with_reducible refine keepdrew ?_ | with_reducible refine keepcell (by with_reducible assumption) ?_ | with_reducible refine keepalloc ?_ _))
        replace gB : wr.drew.heap[w.heap.size]? = _ := gB
        replace HOWN : Hid (wr.drew.ownsRow (w.heap.size + 1) 66 4 (.slice (some ⟨g5, 0, none⟩) ln c5) ln (flatK KC qs)) := hid HOWN.out
        replace HB := hid (bdrew HB.out)
        replace k0 : wr.drew.cell? _ = _ := k0
        replace k1 : wr.drew.cell? _ = _ := k1
        replace k2 : wr.drew.cell? _ = _ := k2
        replace k3 : wr.drew.cell? _ = _ := k3
        replace x0 : wr.drew.cell? _ = _ := x0
        replace x1 : wr.drew.cell? _ = _ := x1
        replace x2 : wr.drew.cell? _ = _ := x2
        replace x3 : wr.drew.cell? _ = _ := x3
        generalize wr.drew = Z1 at *
        refine wpAnyH_take (i := 0) (v := ?_) rfl (by kernel_rfl) (by kernel_rfl) (by kernel_rfl) (fun _ _ _ h => h) (Or.inl ⟨by rfl, ?_⟩) hHeld ?_
        rotate_left
        · intro w hSw; (try dsimp only at hSw); go_simp; try (with_reducible rfl)
        try simp only [sq]
        refine wpAnyH_take (i := 1) (v := ?_) rfl (by kernel_rfl) (by kernel_rfl) (by kernel_rfl) (fun _ _ _ h => h) (Or.inl ⟨by rfl, ?_⟩) hHeld ?_
        rotate_left
        · intro w hSw; (try dsimp only at hSw); go_simp; try (with_reducible rfl)
        try simp only [sq]
        refine wpAnyH_take (i := 2) (v := ?_) rfl (by kernel_rfl) (by kernel_rfl) (by kernel_rfl) (fun _ _ _ h => h) (Or.inl ⟨by rfl, ?_⟩) hHeld ?_
        rotate_left
        · intro w hSw; (try dsimp only at hSw); go_simp; try (with_reducible rfl)
        try simp only [sq]
        refine wpAnyH_take (i := 3) (v := ?_) rfl (by kernel_rfl) (by kernel_rfl) (by kernel_rfl) (fun _ _ _ h => h) (Or.inl ⟨by rfl, ?_⟩) hHeld ?_
        rotate_left
        · intro w hSw; (try dsimp only at hSw); go_simp; try (with_reducible rfl)
        try simp only [sq]
        refine wpAnyH_take (i := 4) (v := ?_) rfl (by kernel_rfl) (by kernel_rfl) (by kernel_rfl) (fun _ _ _ h => h) (Or.inl ⟨by rfl, ?_⟩) hHeld ?_
        rotate_left
        · intro w hSw; (try dsimp only at hSw); go_simp; try (with_reducible rfl)
        try simp only [sq]
        refine wpAnyH_take (i := 5) (v := ?_) rfl (by kernel_rfl) (by kernel_rfl) (by kernel_rfl) (fun _ _ _ h => h) (Or.inl ⟨by rfl, ?_⟩) hHeld ?_
        rotate_left
        · intro w hSw; (try dsimp only at hSw); go_simp; try (with_reducible rfl)
        try simp only [sq]
        refine wpAnyH_take (i := 6) (v := ?_) rfl (by kernel_rfl) (by kernel_rfl) (by kernel_rfl) (fun _ _ _ h => h) (Or.inl ⟨by rfl, ?_⟩) hHeld ?_
        rotate_left
        · intro w hSw; (try dsimp only at hSw); go_simp; try (with_reducible rfl)
        try simp only [sq]
        refine wpAnyH_take (i := 7) (v := ?_) rfl (by kernel_rfl) (by kernel_rfl) (by kernel_rfl) (fun _ _ _ h => h) (Or.inl ⟨by rfl, ?_⟩) hHeld ?_
        rotate_left
        · intro w hSw; (try dsimp only at hSw); go_simp; try (with_reducible rfl)
        try simp only [sq]
        refine wpAnyH_take (i := 8) (v := ?_) rfl (by kernel_rfl) (by kernel_rfl) (by kernel_rfl) (fun _ _ _ h => h) (Or.inl ⟨by rfl, ?_⟩) hHeld ?_
        rotate_left
        · intro w hSw; (try dsimp only at hSw); go_simp; try (with_reducible rfl)
        try simp only [sq]
        refine wpAnyH_take (i := 9) (v := ?_) rfl (by kernel_rfl) (by kernel_rfl) (by kernel_rfl) (fun _ _ _ h => h) (Or.inl ⟨by rfl, ?_⟩) hHeld ?_
        rotate_left
        · intro w hSw; (try dsimp only at hSw); go_simp; try (with_reducible rfl)
        try simp only [sq]
        refine wpAnyH_take (i := 10) (v := ?_) rfl (by kernel_rfl) (by kernel_rfl) (by kernel_rfl) (fun _ _ _ h => h) (Or.inl ⟨by rfl, ?_⟩) hHeld ?_
        rotate_left
        · intro w hSw; (try dsimp only at hSw); go_simp; try (with_reducible rfl)
        try simp only [sq]
        refine wpAnyH_take (i := 11) (v := ?_) rfl (by kernel_rfl) (by kernel_rfl) (by kernel_rfl) (fun _ _ _ h => h) (Or.inl ⟨by rfl, ?_⟩) hHeld ?_
        rotate_left
        · intro w hSw; (try dsimp only at hSw); go_simp; try (with_reducible rfl)
        try simp only [sq]
        refine wpAnyH_done (by kernel_rfl) ?_ _
        clear hHeld
        have hwY := HB.out.size
        have hbY := lt_of_block gB
        have hown := HOWN.out
        go_wp2_with (at_builtin; (refine wpList_append_lies _ rfl (.tmp 27) (.tmp 29) 60 rfl (w.heap.size + 1) 66 i0 _ 4 48 Tryz.underlying60 hi0 hz0 hz1 hz2 rfl (by decide) (.slice (some ⟨g5, 0, none⟩) (ln) c5) (ln) (flatK KC qs) rfl (hown.alloc _) ⟨Z1.heap.size, 0, none⟩ 1 1 [.int .i64 id, .bool xg, .int .i64 xk, .slice xa xn xc] rfl rfl (World.news_of_block (cs := #[.int .i64 id, .bool xg, .int .i64 xk, .slice xa xn xc]) (t := 66) (fr := (0, 0)) (heap_alloc_new Z1 _)) (by simp [Value.oneCell']) (by omega) (by unfold maxLen; omega) (by omega) (by simp; omega) (Z1.heap.size + 1) (by simp) ?_; intro gg cq V1 hown2 hgrow hat hlt2))
        have hB1 : Below w.heap.size w V1 := Below.grown (balloc HB.out _) hgrow (by simp; omega) (fun k e => by have := (hown.lt k e).1; omega)
        replace gB : V1.heap[w.heap.size]? = _ := grown_oi (w0 := w) (base := 0) (old_alloc gB) hgrow (fun e => by have := (hown.lt _ e).1; omega)
        clear k0 k1 k2 k3 x0 x1 x2 x3
        have k0 := keepcell hB1 KW0.out
        have k1 := keepcell hB1 KW1.out
        have k2 := keepcell hB1 KW2.out
        have k3 := keepcell hB1 KW3.out
        obtain ⟨⟨x0, x1, x2, x3⟩, _⟩ := cellk4 gB
        have HOWN : Hid (V1.ownsRow (w.heap.size + 1) 66 4 (.slice (some ⟨gg, 0, none⟩) (ln + 1) cq) (ln + 1) (flatK KC qs ++ [.int .i64 id, .bool xg, .int .i64 xk, .slice xa xn xc])) := hid hown2
        have HB := hid hB1
        clear hown hown2 hgrow hat hlt2 hB1 hwY hbY
        by_cases heq : ci = id
        · have hhit : hit cs id := HDI.out.2 heq
          have HSE := hid (HHI.out hhit)
          clear HHI HNE HDI hhit
          subst heq
          go_upto_region 9 with fail
          refine wp_region_held_drew (S := (fun w' => w'.cell? ⟨bb, o + i * 4, none⟩ = some (.int .i64 ci) ∧ w'.cell? ⟨w.heap.size, 0, none⟩ = some (.int .i64 ci))) (by kernel_rfl) ?_ (fun hHeld => ?_)
          · (repeat' apply And.intro) <;> (repeat (first | with_reducible assumption | with_reducible refine keepdrew ?_ | with_reducible refine keepcell (by with_reducible assumption) ?_ | with_reducible refine keepalloc ?_ _))
          replace gB : V1.drew.heap[w.heap.size]? = _ := gB
          replace HOWN : Hid (V1.drew.ownsRow (w.heap.size + 1) 66 4 (.slice (some ⟨gg, 0, none⟩) (ln + 1) cq) (ln + 1) (flatK KC qs ++ [.int .i64 ci, .bool xg, .int .i64 xk, .slice xa xn xc])) := hid HOWN.out
          replace HB := hid (bdrew HB.out)
          replace k0 : V1.drew.cell? _ = _ := k0
          replace k1 : V1.drew.cell? _ = _ := k1
          replace k2 : V1.drew.cell? _ = _ := k2
          replace k3 : V1.drew.cell? _ = _ := k3
          replace x0 : V1.drew.cell? _ = _ := x0
          replace x1 : V1.drew.cell? _ = _ := x1
          replace x2 : V1.drew.cell? _ = _ := x2
          replace x3 : V1.drew.cell? _ = _ := x3
          generalize V1.drew = Z2 at *
          refine wpAnyH_take (i := 0) (v := ?_) rfl (by kernel_rfl) (by kernel_rfl) (by kernel_rfl) (fun _ _ _ h => h) (Or.inl ⟨by rfl, ?_⟩) hHeld ?_
          rotate_left
          · intro w hSw; (try dsimp only at hSw); go_simp; try (with_reducible rfl)
          try simp only [sq]
          refine wpAnyH_take (i := 1) (v := ?_) rfl (by kernel_rfl) (by kernel_rfl) (by kernel_rfl) (fun _ _ _ h => h) (Or.inl ⟨by rfl, ?_⟩) hHeld ?_
          rotate_left
          · intro w hSw; (try dsimp only at hSw); go_simp; try (with_reducible rfl)
          try simp only [sq]
          refine wpAnyH_take (i := 2) (v := ?_) rfl (by kernel_rfl) (by kernel_rfl) (by kernel_rfl) (fun _ _ _ h => h) (Or.inl ⟨by rfl, ?_⟩) hHeld ?_
          rotate_left
          · intro w hSw; (try dsimp only at hSw); go_simp; try (with_reducible rfl)
          try simp only [sq]
          refine wpAnyH_take (i := 3) (v := ?_) rfl (by kernel_rfl) (by kernel_rfl) (by kernel_rfl) (fun _ _ _ h => h) (Or.inl ⟨by rfl, ?_⟩) hHeld ?_
          rotate_left
          · intro w hSw; (try dsimp only at hSw); go_simp; try (with_reducible rfl)
          try simp only [sq]
          refine wpAnyH_take (i := 4) (v := ?_) rfl (by kernel_rfl) (by kernel_rfl) (by kernel_rfl) (fun _ _ _ h => h) (Or.inl ⟨by rfl, ?_⟩) hHeld ?_
          rotate_left
          · intro w hSw; (try dsimp only at hSw); go_simp; try (with_reducible rfl)
          try simp only [sq]
          refine wpAnyH_take (i := 5) (v := ?_) rfl (by kernel_rfl) (by kernel_rfl) (by kernel_rfl) (fun _ _ _ h => h) (Or.inl ⟨by rfl, ?_⟩) hHeld ?_
          rotate_left
          · intro w hSw; (try dsimp only at hSw); go_simp; try (with_reducible rfl)
          try simp only [sq]
          refine wpAnyH_take (i := 6) (v := ?_) rfl (by kernel_rfl) (by kernel_rfl) (by kernel_rfl) (fun _ _ _ h => h) (Or.inl ⟨by rfl, ?_⟩) hHeld ?_
          rotate_left
          · intro w hSw; (try dsimp only at hSw); go_simp; try (with_reducible rfl)
          try simp only [sq]
          refine wpAnyH_take (i := 7) (v := ?_) rfl (by kernel_rfl) (by kernel_rfl) (by kernel_rfl) (fun _ _ _ h => h) (Or.inl ⟨by rfl, ?_⟩) hHeld ?_
          rotate_left
          · intro w hSw; (try dsimp only at hSw); go_simp; try (with_reducible rfl)
          try simp only [sq]
          refine wpAnyH_done (by kernel_rfl) ?_ _
          clear hHeld
          go_wp2_with fail
          go_roundw
          case rel =>
            refine ⟨i + 1, _, by go_num, rfl, by omega, HPB2, hid ?_, hid gB, HB⟩
            rw [HS1.out, HSE.out]
            exact oi_mk (HSNX.out HQ.out) (by rw [List.length_append, HLN.out]; rfl) (by rw [HXV.out]; exact HOWN.out)
          case measure => simp [intOf]; omega
        · have hhit : ¬ hit cs id := fun q => heq (HDI.out.1 q)
          have HSE := hid (HNE.out hhit)
          clear HHI HNE HDI hhit
          go_upto_region 9 with fail
          refine wp_region_held_drew (S := (fun w' => w'.cell? ⟨bb, o + i * 4, none⟩ = some (.int .i64 ci) ∧ w'.cell? ⟨w.heap.size, 0, none⟩ = some (.int .i64 id))) (by kernel_rfl) ?_ (fun hHeld => ?_)
          · (repeat' apply And.intro) <;> (repeat (first | with_reducible assumption | with_reducible refine keepdrew ?_ | with_reducible refine keepcell (by with_reducible assumption) ?_ | with_reducible refine keepalloc ?_ _))
          replace gB : V1.drew.heap[w.heap.size]? = _ := gB
          replace HOWN : Hid (V1.drew.ownsRow (w.heap.size + 1) 66 4 (.slice (some ⟨gg, 0, none⟩) (ln + 1) cq) (ln + 1) (flatK KC qs ++ [.int .i64 id, .bool xg, .int .i64 xk, .slice xa xn xc])) := hid HOWN.out
          replace HB := hid (bdrew HB.out)
          replace k0 : V1.drew.cell? _ = _ := k0
          replace k1 : V1.drew.cell? _ = _ := k1
          replace k2 : V1.drew.cell? _ = _ := k2
          replace k3 : V1.drew.cell? _ = _ := k3
          replace x0 : V1.drew.cell? _ = _ := x0
          replace x1 : V1.drew.cell? _ = _ := x1
          replace x2 : V1.drew.cell? _ = _ := x2
          replace x3 : V1.drew.cell? _ = _ := x3
          generalize V1.drew = Z2 at *
          refine wpAnyH_take (i := 0) (v := ?_) rfl (by kernel_rfl) (by kernel_rfl) (by kernel_rfl) (fun _ _ _ h => h) (Or.inl ⟨by rfl, ?_⟩) hHeld ?_
          rotate_left
          · intro w hSw; (try dsimp only at hSw); go_simp; try (with_reducible rfl)
          try simp only [sq]
          refine wpAnyH_take (i := 1) (v := ?_) rfl (by kernel_rfl) (by kernel_rfl) (by kernel_rfl) (fun _ _ _ h => h) (Or.inl ⟨by rfl, ?_⟩) hHeld ?_
          rotate_left
          · intro w hSw; (try dsimp only at hSw); go_simp; try (with_reducible rfl)
          try simp only [sq]
          refine wpAnyH_take (i := 2) (v := ?_) rfl (by kernel_rfl) (by kernel_rfl) (by kernel_rfl) (fun _ _ _ h => h) (Or.inl ⟨by rfl, ?_⟩) hHeld ?_
          rotate_left
          · intro w hSw; (try dsimp only at hSw); go_simp; try (with_reducible rfl)
          try simp only [sq]
          refine wpAnyH_take (i := 3) (v := ?_) rfl (by kernel_rfl) (by kernel_rfl) (by kernel_rfl) (fun _ _ _ h => h) (Or.inl ⟨by rfl, ?_⟩) hHeld ?_
          rotate_left
          · intro w hSw; (try dsimp only at hSw); go_simp; try (with_reducible rfl)
          try simp only [sq]
          refine wpAnyH_take (i := 4) (v := ?_) rfl (by kernel_rfl) (by kernel_rfl) (by kernel_rfl) (fun _ _ _ h => h) (Or.inl ⟨by rfl, ?_⟩) hHeld ?_
          rotate_left
          · intro w hSw; (try dsimp only at hSw); go_simp; try (with_reducible rfl)
          try simp only [sq]
          refine wpAnyH_take (i := 5) (v := ?_) rfl (by kernel_rfl) (by kernel_rfl) (by kernel_rfl) (fun _ _ _ h => h) (Or.inl ⟨by rfl, ?_⟩) hHeld ?_
          rotate_left
          · intro w hSw; (try dsimp only at hSw); go_simp; try (with_reducible rfl)
          try simp only [sq]
          refine wpAnyH_take (i := 6) (v := ?_) rfl (by kernel_rfl) (by kernel_rfl) (by kernel_rfl) (fun _ _ _ h => h) (Or.inl ⟨by rfl, ?_⟩) hHeld ?_
          rotate_left
          · intro w hSw; (try dsimp only at hSw); go_simp; try (with_reducible rfl)
          try simp only [sq]
          refine wpAnyH_take (i := 7) (v := ?_) rfl (by kernel_rfl) (by kernel_rfl) (by kernel_rfl) (fun _ _ _ h => h) (Or.inl ⟨by rfl, ?_⟩) hHeld ?_
          rotate_left
          · intro w hSw; (try dsimp only at hSw); go_simp; try (with_reducible rfl)
          try simp only [sq]
          refine wpAnyH_done (by kernel_rfl) ?_ _
          clear hHeld
          have hwY := HB.out.size
          have hbY := lt_of_block gB
          have hown := HOWN.out
          go_wp2_with (at_builtin; (refine wpList_append_lies _ rfl (.tmp 39) (.tmp 44) 60 rfl (w.heap.size + 1) 66 i0 _ 4 48 Tryz.underlying60 hi0 hz0 hz1 hz2 rfl (by decide) (.slice (some ⟨gg, 0, none⟩) (ln + 1) cq) (ln + 1) (flatK KC qs ++ [.int .i64 id, .bool xg, .int .i64 xk, .slice xa xn xc]) rfl (hown.alloc _) ⟨Z2.heap.size, 0, none⟩ 1 1 [.int .i64 ci, .bool gn, .int .i64 kd, .slice a' np cap'] rfl rfl (World.news_of_block (cs := #[.int .i64 ci, .bool gn, .int .i64 kd, .slice a' np cap']) (t := 66) (fr := (0, 0)) (heap_alloc_new Z2 _)) (by simp [Value.oneCell']) (by omega) (by unfold maxLen; omega) (by omega) (by simp; omega) (Z2.heap.size + 1) (by simp) ?_; intro gg2 cq2 w2 hown2 hgrow hat hlt2))
          go_roundw
          case rel =>
            refine ⟨i + 1, _, by go_num, rfl, by omega, HPB2, hid ?_, hid ?_, hid ?_⟩
            · rw [HS1.out, HSE.out]
              exact oi_mk (HSNC.out (HSNX.out HQ.out)) (by simp [HLN.out]) (by rw [HCV.out, HXV.out]; exact hown2)
            · exact grown_oi (w0 := w) (base := 0) (old_alloc gB) hgrow (fun e => by have := (hown.lt _ e).1; omega)
            · exact Below.grown (balloc HB.out _) hgrow (by simp; omega) (fun k e => by have := (hown.lt k e).1; omega)
          case measure => simp [intOf]; omega
      · have e1 := HL3.out hip
        have e3 : ¬ (ci = id) := by omega
        have hpb : pb = true := by rw [HPB.out]; simp; omega
        have HPB2 : Hid (true = decide (p < i + 1)) := hid (by simp; omega)
        have HSE := hid (HGTi.out hip)
        clear HL1 HL2 HL3 HHDi HHITi HNEWi HLTi HGTi HPB
        subst hpb
        go_upto_region 6 with fail
        refine wp_region_held_drew (S := (fun w' => w'.cell? ⟨bb, o + i * 4, none⟩ = some (.int .i64 ci) ∧ w'.cell? ⟨w.heap.size, 0, none⟩ = some (.int .i64 id))) (by kernel_rfl) ?_ (fun hHeld => ?_)
        · (repeat' apply And.intro) <;> (repeat (first | with_reducible assumption | with_reducible refine keepdrew ?_ | with_reducible refine keepcell (by with_reducible assumption) ?_ | with_reducible refine keepalloc ?_ _))
        replace gB : wr.drew.heap[w.heap.size]? = _ := gB
        replace HOWN : Hid (wr.drew.ownsRow (w.heap.size + 1) 66 4 (.slice (some ⟨g5, 0, none⟩) ln c5) ln (flatK KC qs)) := hid HOWN.out
        replace HB := hid (bdrew HB.out)
        replace k0 : wr.drew.cell? _ = _ := k0
        replace k1 : wr.drew.cell? _ = _ := k1
        replace k2 : wr.drew.cell? _ = _ := k2
        replace k3 : wr.drew.cell? _ = _ := k3
        replace x0 : wr.drew.cell? _ = _ := x0
        replace x1 : wr.drew.cell? _ = _ := x1
        replace x2 : wr.drew.cell? _ = _ := x2
        replace x3 : wr.drew.cell? _ = _ := x3
        generalize wr.drew = Z1 at *
        refine wpAnyH_take (i := 0) (v := ?_) rfl (by kernel_rfl) (by kernel_rfl) (by kernel_rfl) (fun _ _ _ h => h) (Or.inl ⟨by rfl, ?_⟩) hHeld ?_
        rotate_left
        · intro w hSw; (try dsimp only at hSw); go_simp; try (with_reducible rfl)
        try simp only [sq]
        refine wpAnyH_take (i := 1) (v := ?_) rfl (by kernel_rfl) (by kernel_rfl) (by kernel_rfl) (fun _ _ _ h => h) (Or.inl ⟨by rfl, ?_⟩) hHeld ?_
        rotate_left
        · intro w hSw; (try dsimp only at hSw); go_simp; try (with_reducible rfl)
        try simp only [sq]
        refine wpAnyH_take (i := 2) (v := ?_) rfl (by kernel_rfl) (by kernel_rfl) (by kernel_rfl) (fun _ _ _ h => h) (Or.inl ⟨by rfl, ?_⟩) hHeld ?_
        rotate_left
        · intro w hSw; (try dsimp only at hSw); go_simp; try (with_reducible rfl)
        try simp only [sq]
        refine wpAnyH_take (i := 3) (v := undef) rfl (by kernel_rfl) (by kernel_rfl) (by kernel_rfl) (fun _ _ _ h => h) (Or.inr ⟨by rfl, rfl⟩) hHeld ?_
        try simp only [sq]
        refine wpAnyH_take (i := 4) (v := undef) rfl (by kernel_rfl) (by kernel_rfl) (by kernel_rfl) (fun _ _ _ h => h) (Or.inr ⟨by rfl, rfl⟩) hHeld ?_
        try simp only [sq]
        refine wpAnyH_take (i := 5) (v := undef) rfl (by kernel_rfl) (by kernel_rfl) (by kernel_rfl) (fun _ _ _ h => h) (Or.inr ⟨by rfl, rfl⟩) hHeld ?_
        try simp only [sq]
        refine wpAnyH_take (i := 6) (v := undef) rfl (by kernel_rfl) (by kernel_rfl) (by kernel_rfl) (fun _ _ _ h => h) (Or.inr ⟨by rfl, rfl⟩) hHeld ?_
        try simp only [sq]
        refine wpAnyH_take (i := 7) (v := undef) rfl (by kernel_rfl) (by kernel_rfl) (by kernel_rfl) (fun _ _ _ h => h) (Or.inr ⟨by rfl, rfl⟩) hHeld ?_
        try simp only [sq]
        refine wpAnyH_take (i := 8) (v := undef) rfl (by kernel_rfl) (by kernel_rfl) (by kernel_rfl) (fun _ _ _ h => h) (Or.inr ⟨by rfl, rfl⟩) hHeld ?_
        try simp only [sq]
        refine wpAnyH_take (i := 9) (v := undef) rfl (by kernel_rfl) (by kernel_rfl) (by kernel_rfl) (fun _ _ _ h => h) (Or.inr ⟨by rfl, rfl⟩) hHeld ?_
        try simp only [sq]
        refine wpAnyH_take (i := 10) (v := undef) rfl (by kernel_rfl) (by kernel_rfl) (by kernel_rfl) (fun _ _ _ h => h) (Or.inr ⟨by rfl, rfl⟩) hHeld ?_
        try simp only [sq]
        refine wpAnyH_take (i := 11) (v := ?_) rfl (by kernel_rfl) (by kernel_rfl) (by kernel_rfl) (fun _ _ _ h => h) (Or.inl ⟨by rfl, ?_⟩) hHeld ?_
        rotate_left
        · intro w hSw; (try dsimp only at hSw); go_simp; try (with_reducible rfl)
        try simp only [sq]
        refine wpAnyH_done (by kernel_rfl) ?_ _
        clear hHeld
        go_wp2_with fail
        refine wp_region_held_drew (S := (fun w' => w'.cell? ⟨bb, o + i * 4, none⟩ = some (.int .i64 ci) ∧ w'.cell? ⟨w.heap.size, 0, none⟩ = some (.int .i64 id))) (by kernel_rfl) ?_ (fun hHeld => ?_)
        · (repeat' apply And.intro) <;> (repeat (first | with_reducible assumption | with_reducible refine keepdrew ?_ | with_reducible refine keepcell (by with_reducible assumption) ?_ | with_reducible refine keepalloc ?_ _))
        replace gB : Z1.drew.heap[w.heap.size]? = _ := gB
        replace HOWN : Hid (Z1.drew.ownsRow (w.heap.size + 1) 66 4 (.slice (some ⟨g5, 0, none⟩) ln c5) ln (flatK KC qs)) := hid HOWN.out
        replace HB := hid (bdrew HB.out)
        replace k0 : Z1.drew.cell? _ = _ := k0
        replace k1 : Z1.drew.cell? _ = _ := k1
        replace k2 : Z1.drew.cell? _ = _ := k2
        replace k3 : Z1.drew.cell? _ = _ := k3
        replace x0 : Z1.drew.cell? _ = _ := x0
        replace x1 : Z1.drew.cell? _ = _ := x1
        replace x2 : Z1.drew.cell? _ = _ := x2
        replace x3 : Z1.drew.cell? _ = _ := x3
        generalize Z1.drew = Z2 at *
        refine wpAnyH_take (i := 0) (v := ?_) rfl (by kernel_rfl) (by kernel_rfl) (by kernel_rfl) (fun _ _ _ h => h) (Or.inl ⟨by rfl, ?_⟩) hHeld ?_
        rotate_left
        · intro w hSw; (try dsimp only at hSw); go_simp; try (with_reducible rfl)
        try simp only [sq]
        refine wpAnyH_take (i := 1) (v := ?_) rfl (by kernel_rfl) (by kernel_rfl) (by kernel_rfl) (fun _ _ _ h => h) (Or.inl ⟨by rfl, ?_⟩) hHeld ?_
        rotate_left
        · intro w hSw; (try dsimp only at hSw); go_simp; try (with_reducible rfl)
        try simp only [sq]
        refine wpAnyH_take (i := 2) (v := ?_) rfl (by kernel_rfl) (by kernel_rfl) (by kernel_rfl) (fun _ _ _ h => h) (Or.inl ⟨by rfl, ?_⟩) hHeld ?_
        rotate_left
        · intro w hSw; (try dsimp only at hSw); go_simp; try (with_reducible rfl)
        try simp only [sq]
        refine wpAnyH_take (i := 3) (v := ?_) rfl (by kernel_rfl) (by kernel_rfl) (by kernel_rfl) (fun _ _ _ h => h) (Or.inl ⟨by rfl, ?_⟩) hHeld ?_
        rotate_left
        · intro w hSw; (try dsimp only at hSw); go_simp; try (with_reducible rfl)
        try simp only [sq]
        refine wpAnyH_take (i := 4) (v := ?_) rfl (by kernel_rfl) (by kernel_rfl) (by kernel_rfl) (fun _ _ _ h => h) (Or.inl ⟨by rfl, ?_⟩) hHeld ?_
        rotate_left
        · intro w hSw; (try dsimp only at hSw); go_simp; try (with_reducible rfl)
        try simp only [sq]
        refine wpAnyH_take (i := 5) (v := ?_) rfl (by kernel_rfl) (by kernel_rfl) (by kernel_rfl) (fun _ _ _ h => h) (Or.inl ⟨by rfl, ?_⟩) hHeld ?_
        rotate_left
        · intro w hSw; (try dsimp only at hSw); go_simp; try (with_reducible rfl)
        try simp only [sq]
        refine wpAnyH_take (i := 6) (v := ?_) rfl (by kernel_rfl) (by kernel_rfl) (by kernel_rfl) (fun _ _ _ h => h) (Or.inl ⟨by rfl, ?_⟩) hHeld ?_
        rotate_left
        · intro w hSw; (try dsimp only at hSw); go_simp; try (with_reducible rfl)
        try simp only [sq]
        refine wpAnyH_take (i := 7) (v := ?_) rfl (by kernel_rfl) (by kernel_rfl) (by kernel_rfl) (fun _ _ _ h => h) (Or.inl ⟨by rfl, ?_⟩) hHeld ?_
        rotate_left
        · intro w hSw; (try dsimp only at hSw); go_simp; try (with_reducible rfl)
        try simp only [sq]
        refine wpAnyH_done (by kernel_rfl) ?_ _
        clear hHeld
        have hwY := HB.out.size
        have hbY := lt_of_block gB
        have hown := HOWN.out
        go_wp2_with (at_builtin; (refine wpList_append_lies _ rfl (.tmp 39) (.tmp 44) 60 rfl (w.heap.size + 1) 66 i0 _ 4 48 Tryz.underlying60 hi0 hz0 hz1 hz2 rfl (by decide) (.slice (some ⟨g5, 0, none⟩) (ln) c5) (ln) (flatK KC qs) rfl (hown.alloc _) ⟨Z2.heap.size, 0, none⟩ 1 1 [.int .i64 ci, .bool gn, .int .i64 kd, .slice a' np cap'] rfl rfl (World.news_of_block (cs := #[.int .i64 ci, .bool gn, .int .i64 kd, .slice a' np cap']) (t := 66) (fr := (0, 0)) (heap_alloc_new Z2 _)) (by simp [Value.oneCell']) (by omega) (by unfold maxLen; omega) (by omega) (by simp; omega) (Z2.heap.size + 1) (by simp) ?_; intro gg cq w2 hown2 hgrow hat hlt2))
        go_roundw
        case rel =>
          refine ⟨i + 1, _, by go_num, rfl, by omega, HPB2, hid ?_, hid ?_, hid ?_⟩
          · rw [HS1.out, HSE.out]
            exact oi_mk (HSNC.out HQ.out) (by rw [List.length_append, HLN.out]; rfl) (by rw [HCV.out]; exact hown2)
          · exact grown_oi (w0 := w) (base := 0) (old_alloc gB) hgrow (fun e => by have := (hown.lt _ e).1; omega)
          · exact Below.grown (balloc HB.out _) hgrow (by simp; omega) (fun k e => by have := (hown.lt k e).1; omega)
        case measure => simp [intOf]; omega
    · have d1 : (cs.length : Int) ≤ (i : Int) := by omega
      have hin : i = cs.length := by omega
      by_cases hp : p < cs.length
      · have hpb : pb = true := by rw [HPB.out]; simp; omega
        have HF : Hid (sl cs x i = F) := hid (by rw [hin]; exact HEND.out hp)
        clear hin HPB
        subst hpb
        go_wp2_with fail
        go_ret
        exact sq_mk (oi_mk HQ.out HLN.out HOWN.out) HF.out HB.out
      · have hpn : p = cs.length := by have := HPL.out.1; omega
        have hpb : pb = false := by rw [HPB.out]; simp; omega
        have HF : Hid (sl cs x i ++ [x] = F) := hid (by rw [hin]; exact HLAST.out hpn)
        clear hin HPB hpn hp
        subst hpb
        have hwY := HB.out.size
        have hbY := lt_of_block gB
        have hown := HOWN.out
        go_wp2_with (at_builtin; (refine wpList_append_lies _ rfl (.tmp 48) (.tmp 50) 60 rfl (w.heap.size + 1) 66 i0 _ 4 48 Tryz.underlying60 hi0 hz0 hz1 hz2 rfl (by decide) (.slice (some ⟨g5, 0, none⟩) (ln) c5) (ln) (flatK KC qs) rfl (hown.alloc _) ⟨wr.heap.size, 0, none⟩ 1 1 [.int .i64 id, .bool xg, .int .i64 xk, .slice xa xn xc] rfl rfl (World.news_of_block (cs := #[.int .i64 id, .bool xg, .int .i64 xk, .slice xa xn xc]) (t := 66) (fr := (0, 0)) (heap_alloc_new wr _)) (by simp [Value.oneCell']) (by omega) (by unfold maxLen; omega) (by omega) (by simp; omega) (wr.heap.size + 1) (by simp) ?_; intro gg cq w2 hown2 hgrow hat hlt2))
        go_ret
        exact sq_mk (oi_mk (HSNX.out HQ.out) (by rw [List.length_append, HLN.out]; rfl) (by rw [HXV.out]; exact hown2)) HF.out (Below.grown (balloc HB.out _) hgrow (by simp; omega) (fun k e => by have := (hown.lt k e).1; omega))
end Go.Proofs.YtnajddjalagmoaaGreatDoor
namespace Go.Proofs.YtnajddjalagmoaaGreatDoor
open Go.RowKit
set_option linter.unusedSimpArgs false
set_option linter.unusedVariables false
theorem run_copy_any {P : Program} (w : World) (dT sT ty elem : TypeId) (size n : Nat) (g o dLen dCap : Nat) (a : Addr) (sLen sCap : Nat) (cur : Array Value) (t : TypeId) (cs : List Value)
    (hu : P.underlying dT = some (.slice elem)) (hs : (P.info? elem).map (·.size) = some size)
    (hg : w.heap[g]? = some (.cells cur t (0, 0))) (hm : Nat.min sLen dLen = n) (hn : cs.length = n * size)
    (hsrc : ∀ j v, cs[j]? = some v → w.cell? (a.add j) = some v) (hfit : o + cs.length ≤ cur.size) (h1 : ∀ v ∈ cs, v.oneCell' = true) :
    (Builtin.copy_ #[dT, sT] ty #[.slice (some ⟨g, o, none⟩) dLen dCap, .slice (some a) sLen sCap]).run P w =
      .ok (goInt n) (w.setRow g (cur.toList.take o ++ cs ++ cur.toList.drop (o + cs.length)).toArray) := by
  have hl := run_loadCells_list (P := P) w a cs hsrc
  have hst := run_storeCells_at P g o t cs 0 cur w hg (by simpa using hfit) h1
  cases hq : P.info? elem with
  | none => simp [hq] at hs
  | some i =>
    have hi : i.size = size := by simpa [hq] using hs
    simp [Builtin.copy_, run_underlying hu, Builtin.lenOf, Builtin.firstCells, sizeOf, typeInfo, hq, hi, hm, ← hn, hl, hst]
theorem wp_copy_any {P : Program} {w : World} {o : Oper} {a : Act} {K : Act → World → Prop} {Q : Exit → Act → World → Prop} (d s : Operand) (dT sT : TypeId)
    (ho : o.op = .call { callee := .builtin .copy, args := #[d, s], argTypes := #[dT, sT] }) (elem : TypeId) (hu : P.underlying dT = some (.slice elem)) (size n : Nat) (hsz : (P.info? elem).map (·.size) = some size)
    (g off dLen dCap : Nat) (ad : Addr) (sLen sCap : Nat) (hd : a.eval d = .slice (some ⟨g, off, none⟩) dLen dCap) (hs : a.eval s = .slice (some ad) sLen sCap)
    (cur : Array Value) (t : TypeId) (hg : w.heap[g]? = some (.cells cur t (0, 0))) (cs : List Value) (hm : Nat.min sLen dLen = n) (hn : cs.length = n * size)
    (hsrc : ∀ j v, cs[j]? = some v → w.cell? (ad.add j) = some v) (hfit : off + cs.length ≤ cur.size) (h1 : ∀ v ∈ cs, v.oneCell' = true)
    (h : K (a.put o.dst (goInt n)) (w.setRow g (cur.toList.take off ++ cs ++ cur.toList.drop (off + cs.length)).toArray)) : o.wp P a w K Q := by
  have hrun := run_copy_any (P := P) w dT sT o.type elem size n g off dLen dCap ad sLen sCap cur t cs hu hsz hg hm hn hsrc hfit h1
  unfold Oper.wp execOp
  simp only [ho, resolve, invoke, builtin, Sem.run_bind, Sem.run_pure, Result.andThen_ok, List.map_toArray, List.map_cons, List.map_nil, hd, hs, hrun]
  exact h
theorem wpList_copy_any {P : Program} {w : World} {ops : Array Oper} {rest : List Oper} {o : Oper} {a : Act} {Q : Exit → Act → World → Prop} (hgd : o.guard = none) (d s : Operand) (dT sT : TypeId)
    (ho : o.op = .call { callee := .builtin .copy, args := #[d, s], argTypes := #[dT, sT] }) (elem : TypeId) (hu : P.underlying dT = some (.slice elem)) (size n : Nat) (hsz : (P.info? elem).map (·.size) = some size)
    (g off dLen dCap : Nat) (ad : Addr) (sLen sCap : Nat) (hd : a.eval d = .slice (some ⟨g, off, none⟩) dLen dCap) (hs : a.eval s = .slice (some ad) sLen sCap)
    (cur : Array Value) (t : TypeId) (hg : w.heap[g]? = some (.cells cur t (0, 0))) (cs : List Value) (hm : Nat.min sLen dLen = n) (hn : cs.length = n * size)
    (hsrc : ∀ j v, cs[j]? = some v → w.cell? (ad.add j) = some v) (hfit : off + cs.length ≤ cur.size) (h1 : ∀ v ∈ cs, v.oneCell' = true)
    (h : wpList P ops Q rest (a.put o.dst (goInt n)) (w.setRow g (cur.toList.take off ++ cs ++ cur.toList.drop (off + cs.length)).toArray)) : wpList P ops Q (o :: rest) a w :=
  wpList_plain hgd fun _ hK => wp_copy_any d s dT sT ho elem hu size n hsz g off dLen dCap ad sLen sCap hd hs cur t hg cs hm hn hsrc hfit h1 (hK _ _ h)
theorem step_copy_any {P : Program} {ops : Array Oper} {o : Oper} {a : Act} {w : World} {K : Act → World → Prop} {Q : Exit → Act → World → Prop} {E : Prop} (hgd : o.guard = none) (d s : Operand) (dT sT : TypeId)
    (ho : o.op = .call { callee := .builtin .copy, args := #[d, s], argTypes := #[dT, sT] }) (elem : TypeId) (hu : P.underlying dT = some (.slice elem)) (size n : Nat) (hsz : (P.info? elem).map (·.size) = some size)
    (g off dLen dCap : Nat) (ad : Addr) (sLen sCap : Nat) (hd : a.eval d = .slice (some ⟨g, off, none⟩) dLen dCap) (hs : a.eval s = .slice (some ad) sLen sCap)
    (cur : Array Value) (t : TypeId) (hg : w.heap[g]? = some (.cells cur t (0, 0))) (cs : List Value) (hm : Nat.min sLen dLen = n) (hn : cs.length = n * size)
    (hsrc : ∀ j v, cs[j]? = some v → w.cell? (ad.add j) = some v) (hfit : off + cs.length ≤ cur.size) (h1 : ∀ v ∈ cs, v.oneCell' = true)
    (h : K (a.put o.dst (goInt n)) (w.setRow g (cur.toList.take off ++ cs ++ cur.toList.drop (off + cs.length)).toArray)) :
    if Region.wanted o (yielded ops a.tmps) = true then Oper.wp P o a w K Q else E := by
  have hw : Region.wanted o (yielded ops a.tmps) = true := by simp [Region.wanted, hgd]
  rw [if_pos hw]
  exact wp_copy_any d s dT sT ho elem hu size n hsz g off dLen dCap ad sLen sCap hd hs cur t hg cs hm hn hsrc hfit h1 h
theorem grown_row {w : World} {g : Nat} (cs : Array Value) : w.grownBy (w.setRow g cs) (some g) :=
  ⟨rfl, rfl, rfl, by simp [World.setRow], fun k _ hk => setRow_other w g k cs (fun e => hk (by rw [e]))⟩
end Go.Proofs.YtnajddjalagmoaaGreatDoor
namespace Go.Proofs.YtnajddjalagmoaaGreatDoor
open Go.RowKit
set_option linter.unusedSimpArgs false
set_option linter.unusedVariables false
theorem wpList_copy_row {P : Program} {w : World} {ops : Array Oper} {rest : List Oper} {o : Oper} {a : Act} {Q : Exit → Act → World → Prop} (hgd : o.guard = none) (d s : Operand) (dT sT : TypeId)
    (ho : o.op = .call { callee := .builtin .copy, args := #[d, s], argTypes := #[dT, sT] }) (elem : TypeId) (hu : P.underlying dT = some (.slice elem)) (size n : Nat) (hsz : (P.info? elem).map (·.size) = some size)
    (g off dLen dCap : Nat) (ad : Addr) (sLen sCap : Nat) (hd : a.eval d = .slice (some ⟨g, off, none⟩) dLen dCap) (hs : a.eval s = .slice (some ad) sLen sCap)
    (cur : Array Value) (t : TypeId) (hg : w.heap[g]? = some (.cells cur t (0, 0))) (cs : List Value) (hm : Nat.min sLen dLen = n) (hn : cs.length = n * size)
    (hsrc : ∀ j v, cs[j]? = some v → w.cell? (ad.add j) = some v) (hfit : off + cs.length ≤ cur.size) (h1 : ∀ v ∈ cs, v.oneCell' = true)
    (new : Array Value) (hnew : (cur.toList.take off ++ cs ++ cur.toList.drop (off + cs.length)).toArray = new)
    (h : ∀ w', Hid (w'.heap[g]? = some (.cells new t (0, 0))) → Hid (w.grownBy w' (some g)) → wpList P ops Q rest (a.put o.dst (goInt n)) w') : wpList P ops Q (o :: rest) a w := by
  subst hnew
  exact wpList_copy_any hgd d s dT sT ho elem hu size n hsz g off dLen dCap ad sLen sCap hd hs cur t hg cs hm hn hsrc hfit h1 (h _ (hid (setRow_heap w g cur _ t _ hg)) (hid (grown_row _)))
theorem step_copy_row {P : Program} {ops : Array Oper} {o : Oper} {a : Act} {w : World} {K : Act → World → Prop} {Q : Exit → Act → World → Prop} {E : Prop} (hgd : o.guard = none) (d s : Operand) (dT sT : TypeId)
    (ho : o.op = .call { callee := .builtin .copy, args := #[d, s], argTypes := #[dT, sT] }) (elem : TypeId) (hu : P.underlying dT = some (.slice elem)) (size n : Nat) (hsz : (P.info? elem).map (·.size) = some size)
    (g off dLen dCap : Nat) (ad : Addr) (sLen sCap : Nat) (hd : a.eval d = .slice (some ⟨g, off, none⟩) dLen dCap) (hs : a.eval s = .slice (some ad) sLen sCap)
    (cur : Array Value) (t : TypeId) (hg : w.heap[g]? = some (.cells cur t (0, 0))) (cs : List Value) (hm : Nat.min sLen dLen = n) (hn : cs.length = n * size)
    (hsrc : ∀ j v, cs[j]? = some v → w.cell? (ad.add j) = some v) (hfit : off + cs.length ≤ cur.size) (h1 : ∀ v ∈ cs, v.oneCell' = true)
    (new : Array Value) (hnew : (cur.toList.take off ++ cs ++ cur.toList.drop (off + cs.length)).toArray = new)
    (h : ∀ w', Hid (w'.heap[g]? = some (.cells new t (0, 0))) → Hid (w.grownBy w' (some g)) → K (a.put o.dst (goInt n)) w') :
    if Region.wanted o (yielded ops a.tmps) = true then Oper.wp P o a w K Q else E := by
  subst hnew
  exact step_copy_any hgd d s dT sT ho elem hu size n hsz g off dLen dCap ad sLen sCap hd hs cur t hg cs hm hn hsrc hfit h1 (h _ (hid (setRow_heap w g cur _ t _ hg)) (hid (grown_row _)))
end Go.Proofs.YtnajddjalagmoaaGreatDoor
namespace Go.Proofs.YtnajddjalagmoaaGreatDoor
open Go.RowKit
set_option linter.unusedSimpArgs false
set_option linter.unusedVariables false
theorem flatK_set {α : Type} (K : Kd α) (q : α × Value) : ∀ (ps : List (α × Value)) (i : Nat), i < ps.length → flatK K (ps.set i q) = (flatK K ps).take (i * K.sz) ++ K.vals q.1 q.2 ++ (flatK K ps).drop (i * K.sz + K.sz)
  | [], i, h => absurd h (by simp)
  | p :: ps, 0, _ => by
    simp only [flatK, List.set_cons_zero, List.flatMap_cons, Nat.zero_mul, List.take_zero, List.nil_append, Nat.zero_add]
    have h := K.len p.1 p.2
    rw [← h, List.drop_left]
  | p :: ps, i + 1, h => by
    have ih := flatK_set K q ps i (by simpa using h)
    have hl := K.len p.1 p.2
    simp only [flatK, List.set_cons_succ, List.flatMap_cons] at ih ⊢
    rw [ih, show (i + 1) * K.sz = K.sz + i * K.sz by rw [Nat.succ_mul]; omega]
    rw [← hl, List.take_length_add_append, show (K.vals p.1 p.2).length + i * (K.vals p.1 p.2).length + (K.vals p.1 p.2).length = (K.vals p.1 p.2).length + (i * (K.vals p.1 p.2).length + (K.vals p.1 p.2).length) by omega, List.drop_length_add_append]
    simp only [List.append_assoc]
end Go.Proofs.YtnajddjalagmoaaGreatDoor
namespace Go.Proofs.YtnajddjalagmoaaGreatDoor
open Go.RowKit
set_option linter.unusedSimpArgs false
set_option linter.unusedVariables false
theorem flatK_one {α : Type} {K : Kd α} {t : TypeId} {base hi : Nat} {w : World} {v : Value} {xs : List α} {ps : List (α × Value)} (h : LX K t base hi w v xs ps) : ∀ u ∈ flatK K ps, u.oneCell' = true := by
  obtain ⟨h1, h2, h3, h4, lo, up, h5, h6⟩ := h
  intro u hu
  unfold flatK at hu
  rw [List.mem_flatMap] at hu
  obtain ⟨q, hq, hu⟩ := hu
  obtain ⟨j, hj, rfl⟩ := List.getElem_of_mem hq
  exact K.one (h5 j hj).1 u hu
end Go.Proofs.YtnajddjalagmoaaGreatDoor
namespace Go.Proofs.YtnajddjalagmoaaGreatDoor
open Go.RowKit
set_option linter.unusedSimpArgs false
set_option linter.unusedVariables false
def kcn (xs : List Ch) : Int := (xs.map (fun r => 3 + 2 * (r.2.2.2.length : Int))).sum
def kkc (k0 : Int) (xs : List Ch) (j : Nat) : Int := k0 + kcn (xs.take j)
theorem kkc_next {k0 : Int} {xs : List Ch} {j : Nat} (h : j < xs.length) : kkc k0 xs (j + 1) = kkc k0 xs j + 3 + 2 * (xs[j].2.2.2.length : Int) := by
  unfold kkc kcn
  rw [List.take_add_one, List.getElem?_eq_getElem h, List.map_append, List.sum_append]
  simp only [Option.toList, List.map_cons, List.map_nil, List.sum_cons, List.sum_nil]
  omega
theorem kkc_bound {k0 : Int} {xs : List Ch} (hl : ∀ m (h : m < xs.length), xs[m].2.2.2.length ≤ 1048576) : ∀ j, j ≤ xs.length → k0 ≤ kkc k0 xs j ∧ kkc k0 xs j ≤ k0 + (j : Int) * 2097155 := by
  intro j
  induction j with
  | zero => intro _; simp [kkc, kcn]
  | succ j ih =>
    intro hj
    obtain ⟨h1, h2⟩ := ih (by omega)
    have h3 := hl j (by omega)
    rw [kkc_next (by omega)]
    constructor <;> omega
def mke (k : Int) (r : Ch) : Ch := (k, ((k + 1) % 3 == 0), k + 2, tkk (k + 3) r.2.2.2.length)
def mkc (k0 : Int) (xs : List Ch) : List Ch := xs.mapIdx (fun j r => mke (kkc k0 xs j) r)
theorem mkc_len (k0 : Int) (xs : List Ch) : (mkc k0 xs).length = xs.length := by simp [mkc]
theorem mkc_at {k0 : Int} {xs : List Ch} {j : Nat} (h : j < xs.length) : (mkc k0 xs)[j]'(by rw [mkc_len]; exact h) = mke (kkc k0 xs j) xs[j] := by simp [mkc]
def ktn (ts : List Tx) : Int := (ts.map (fun r => 2 + kcn r.2.2)).sum
def kkt (k0 : Int) (ts : List Tx) (j : Nat) : Int := k0 + ktn (ts.take j)
theorem kkt_next {k0 : Int} {ts : List Tx} {j : Nat} (h : j < ts.length) : kkt k0 ts (j + 1) = kkc (kkt k0 ts j + 2) ts[j].2.2 ts[j].2.2.length := by
  unfold kkt ktn kkc
  rw [List.take_add_one, List.getElem?_eq_getElem h, List.map_append, List.sum_append, List.take_length]
  simp only [Option.toList, List.map_cons, List.map_nil, List.sum_cons, List.sum_nil]
  omega
theorem kkt_bound {k0 : Int} {ts : List Tx} (hl : ∀ m (h : m < ts.length), chS ts[m].2.2) : ∀ j, j ≤ ts.length → k0 ≤ kkt k0 ts j ∧ kkt k0 ts j ≤ k0 + (j : Int) * 2199026401282 := by
  intro j
  induction j with
  | zero => intro _; simp [kkt, ktn]
  | succ j ih =>
    intro hj
    obtain ⟨h1, h2⟩ := ih (by omega)
    have h3 := hl j (by omega)
    obtain ⟨h4, h5⟩ := kkc_bound (k0 := kkt k0 ts j + 2) h3.2 ts[j].2.2.length (Nat.le_refl _)
    have h6 := h3.1
    rw [kkt_next (by omega)]
    constructor <;> omega
def mkt (k : Int) (r : Tx) : Tx := (k, ((k + 1) % 3 == 0), mkc (k + 2) r.2.2)
def mks (k0 : Int) (ts : List Tx) : List Tx := ts.mapIdx (fun j r => mkt (kkt k0 ts j) r)
theorem mks_len (k0 : Int) (ts : List Tx) : (mks k0 ts).length = ts.length := by simp [mks]
theorem mks_at {k0 : Int} {ts : List Tx} {j : Nat} (h : j < ts.length) : (mks k0 ts)[j]'(by rw [mks_len]; exact h) = mkt (kkt k0 ts j) ts[j] := by simp [mks]
def rwS (xs : List Rw) : Prop := xs.length ≤ 1048576 ∧ ∀ m (h : m < xs.length), xs[m].2.2.2.2.length ≤ 1048576
def krn (xs : List Rw) : Int := (xs.map (fun r => 4 + 2 * (r.2.2.2.2.length : Int))).sum
def kkr (k0 : Int) (xs : List Rw) (j : Nat) : Int := k0 + krn (xs.take j)
theorem kkr_next {k0 : Int} {xs : List Rw} {j : Nat} (h : j < xs.length) : kkr k0 xs (j + 1) = kkr k0 xs j + 4 + 2 * (xs[j].2.2.2.2.length : Int) := by
  unfold kkr krn
  rw [List.take_add_one, List.getElem?_eq_getElem h, List.map_append, List.sum_append]
  simp only [Option.toList, List.map_cons, List.map_nil, List.sum_cons, List.sum_nil]
  omega
theorem kkr_bound {k0 : Int} {xs : List Rw} (hl : ∀ m (h : m < xs.length), xs[m].2.2.2.2.length ≤ 1048576) : ∀ j, j ≤ xs.length → k0 ≤ kkr k0 xs j ∧ kkr k0 xs j ≤ k0 + (j : Int) * 2097156 := by
  intro j
  induction j with
  | zero => intro _; simp [kkr, krn]
  | succ j ih =>
    intro hj
    obtain ⟨h1, h2⟩ := ih (by omega)
    have h3 := hl j (by omega)
    rw [kkr_next (by omega)]
    constructor <;> omega
def mkr1 (k : Int) (r : Rw) : Rw := (k, k + 1, k + 2, k + 3, tkk (k + 4) r.2.2.2.2.length)
def mkr (k0 : Int) (xs : List Rw) : List Rw := xs.mapIdx (fun j r => mkr1 (kkr k0 xs j) r)
theorem mkr_len (k0 : Int) (xs : List Rw) : (mkr k0 xs).length = xs.length := by simp [mkr]
theorem mkr_at {k0 : Int} {xs : List Rw} {j : Nat} (h : j < xs.length) : (mkr k0 xs)[j]'(by rw [mkr_len]; exact h) = mkr1 (kkr k0 xs j) xs[j] := by simp [mkr]
end Go.Proofs.YtnajddjalagmoaaGreatDoor
namespace Go.Proofs.YtnajddjalagmoaaGreatDoor
open Go.RowKit
set_option linter.unusedSimpArgs false
set_option linter.unusedVariables false
set_option maxRecDepth 100000 in
set_option maxHeartbeats 4000000 in
theorem mark_rwsX (base hi : Nat) (v : Value) (xs : List Rw) (k0 : Int) (w : World) (hs : rwS xs) (h0 : 0 ≤ k0) (h1 : k0 ≤ 2000000000000000000) (h : LC KR base hi w v xs) : Calls Tryz.prog 68 #[v, .int .i64 k0] w fun e w' => e = .returned (.int .i64 (kkr k0 xs xs.length)) ∧ LC KR base hi w' v (mkr k0 xs) ∧ Mid base hi w w' := by
  obtain ⟨hih, h⟩ := h
  rcases h with ⟨rfl, rfl⟩ | ⟨g, cap, ss, lo, up, rfl, hcap, hbg, hgh, hth, hel, hd⟩
  · go_enter Tryz.func68, Tryz.ntmps68
    go_wp2_with fail
    go_loopw [1, 5] (fun tk' ti wr => tk' = .int .i64 k0 ∧ ti = .int .i64 0 ∧ wr = w) (fun _ _ _ => 0)
    case atStart => exact ⟨rfl, rfl, rfl⟩
    case round =>
      obtain ⟨rfl, rfl, rfl⟩ := hrel
      go_wp2_with fail
      go_ret
      exact ⟨by simp [kkr, krn], ⟨hih, .inl ⟨by simp [mkr], rfl⟩⟩, mid_refl _ _ _⟩
  have HL := hid hs.2
  have hm := hs.1
  have HE := hid (fun j hj => (hel j hj).1)
  have HC := hid (fun j hj => (hel j hj).2)
  have HD := hid hd
  have HK := hid (kkr_bound (k0 := k0) hs.2)
  clear hs hel hd
  obtain ⟨n, hn⟩ : ∃ n, n = xs.length := ⟨_, rfl⟩
  have HN := hid hn.symm
  rw [← hn] at hm hth hcap ⊢
  have HTT := hid hth
  have HF : Hid (∀ (W : World) (q : Int), q = kkr k0 xs n → Mid base hi w W → W.there g 0 (n * 5) → (∀ i (h : i < xs.length), i < n → ElX KR W g i (mkr1 (kkr k0 xs i) xs[i]) (ss i) (lo i) (up i)) → (Ending.returned (.int .i64 q) = .returned (.int .i64 (kkr k0 xs n)) ∧ LC KR base hi W (.slice (some ⟨g, 0, none⟩) n cap) (mkr k0 xs))) := hid (fun W q hq hM hT h => ⟨by rw [hq], by
    refine ⟨Nat.le_trans hih hM.2.2.2.1, .inr ⟨g, cap, ss, lo, up, by rw [mkr_len, ← hn], by rw [mkr_len, ← hn]; exact hcap, hbg, hgh, by rw [mkr_len, ← hn]; exact hT, fun j hj => ?_, fun i j hne hi' hj => ?_⟩⟩
    · have hj' := hj
      rw [mkr_len] at hj'
      rw [mkr_at hj']
      exact ⟨h j hj' (by omega), HC.out j hj'⟩
    · rw [mkr_len] at hi' hj
      exact HD.out i j hne hi' hj⟩)
  clear hth hcap hn
  have hmid0 := mid_refl base hi w
  have hgw : g < w.heap.size := by omega
  go_enter Tryz.func68, Tryz.ntmps68
  go_wp2_with fail
  go_loopw [1, 5] (fun tk' ti wr => ∃ j : Nat, ∃ k : Int, ti = .int .i64 j ∧ tk' = .int .i64 k ∧ j ≤ n ∧ Hid (k = kkr k0 xs j) ∧ Hid (Mid base hi w wr) ∧ Hid (wr.there g 0 (n * 5)) ∧ Hid (∀ i (h : i < xs.length), i < j → ElX KR wr g i (mkr1 (kkr k0 xs i) xs[i]) (ss i) (lo i) (up i)) ∧ Hid (∀ i (h : i < xs.length), j ≤ i → ElX KR wr g i xs[i] (ss i) (lo i) (up i))) (fun _ ti _ => n - (intOf ti).toNat)
  case atStart => exact ⟨0, k0, rfl, rfl, Nat.zero_le _, hid (by simp [kkr, krn]), hid hmid0, HTT, hid (fun i h hh => absurd hh (by omega)), hid (fun i h _ => HE.out i h)⟩
  case round =>
    clear hmid0
    obtain ⟨j, k, rfl, rfl, hj, HKJ, HM, HT, HA, HZ⟩ := hrel
    by_cases hlt : j < n
    · have c1 : (j : Int) < (n : Int) := by omega
      have hjr : j < xs.length := by rw [HN.out]; exact hlt
      obtain ⟨hk0, hk1⟩ := HK.out j (by omega)
      rw [← HKJ.out] at hk0 hk1
      have hk2 : k ≤ 4400000000000000000 := by omega
      have hk3 : 0 ≤ k := by omega
      have HKN := hid (kkr_next (k0 := k0) hjr)
      rw [← HKJ.out] at HKN
      obtain ⟨zc, zs⟩ := HZ.out j hjr (Nat.le_refl _)
      obtain ⟨hcb, hch, hcg⟩ := HC.out j hjr
      have hws := HM.out.2.2.2.1
      obtain ⟨_, c, cp, esv, b1, b2, b3, b4, b5⟩ := zs
      have hnp := HL.out j hjr
      have HMK : Hid (∀ W, (∀ t, t < 5 → W.cell? ⟨g, j * 5 + t, none⟩ = ([.int .i64 k, .int .i64 (k + 1), .int .i64 (k + 2), .int .i64 (k + 3), ss j] : List Value)[t]?) → PtsOwn W c (tkk (k + 4) xs[j].2.2.2.2.length) → up j ≤ W.heap.size → ElX KR W g j (mkr1 (kkr k0 xs j) xs[j]) (ss j) (lo j) (up j)) := hid (fun W h1 h2 h3 => by
        rw [← HKJ.out]
        refine ⟨h1, h3, c, cp, ?_, ?_, ?_, b3, b4, h2⟩
        · simp only [mkr1, tkk_len]; exact esv
        · simp only [mkr1, tkk_len]; exact b1
        · simp only [mkr1, tkk_len]; exact b2)
      generalize hps : xs[j].2.2.2.2 = ps at *
      clear hps
      obtain ⟨sv, hsv⟩ : ∃ sv, sv = ss j := ⟨_, rfl⟩
      have HSJ := hid hsv
      rw [← hsv] at zc HMK esv
      clear hsv
      subst esv
      have q3 := zc 4 (by decide)
      simp only [KR, List.getElem?_cons_succ, List.getElem?_cons_zero] at q3
      have HDJ : Hid (∀ i, i < xs.length → i ≠ j → up i ≤ lo j ∨ up j ≤ lo i) := hid (fun i hi' hne => HD.out i j hne hi' hjr)
      obtain ⟨u0, z0, y0⟩ := there_at HT.out (show j * 5 < n * 5 by omega)
      obtain ⟨u1, z1, y1⟩ := there_at HT.out (show j * 5 + 1 < n * 5 by omega)
      obtain ⟨u2, z2, y2⟩ := there_at HT.out (show j * 5 + 2 < n * 5 by omega)
      obtain ⟨u3, z3, y3⟩ := there_at HT.out (show j * 5 + 3 < n * 5 by omega)
      have z1' : ∀ a0, (wr.setCell ⟨g, j * 5, none⟩ a0).cell? ⟨g, j * 5 + 1, none⟩ = some u1 := fun a0 => by rw [World.cell?_setCell_other _ _ _ _ (by simp)]; exact z1
      have y1' : ∀ a0, (wr.setCell ⟨g, j * 5, none⟩ a0).frozen? ⟨g, j * 5 + 1, none⟩ = false := fun a0 => by rw [World.frozen?_setCell]; exact y1
      have z2' : ∀ a0 a1, ((wr.setCell ⟨g, j * 5, none⟩ a0).setCell ⟨g, j * 5 + 1, none⟩ a1).cell? ⟨g, j * 5 + 2, none⟩ = some u2 := fun a0 a1 => by rw [World.cell?_setCell_other _ _ _ _ (by simp), World.cell?_setCell_other _ _ _ _ (by simp)]; exact z2
      have y2' : ∀ a0 a1, ((wr.setCell ⟨g, j * 5, none⟩ a0).setCell ⟨g, j * 5 + 1, none⟩ a1).frozen? ⟨g, j * 5 + 2, none⟩ = false := fun a0 a1 => by rw [World.frozen?_setCell, World.frozen?_setCell]; exact y2
      have z3' : ∀ a0 a1 a2, (((wr.setCell ⟨g, j * 5, none⟩ a0).setCell ⟨g, j * 5 + 1, none⟩ a1).setCell ⟨g, j * 5 + 2, none⟩ a2).cell? ⟨g, j * 5 + 3, none⟩ = some u3 := fun a0 a1 a2 => by rw [World.cell?_setCell_other _ _ _ _ (by simp), World.cell?_setCell_other _ _ _ _ (by simp), World.cell?_setCell_other _ _ _ _ (by simp)]; exact z3
      have y3' : ∀ a0 a1 a2, (((wr.setCell ⟨g, j * 5, none⟩ a0).setCell ⟨g, j * 5 + 1, none⟩ a1).setCell ⟨g, j * 5 + 2, none⟩ a2).frozen? ⟨g, j * 5 + 3, none⟩ = false := fun a0 a1 a2 => by rw [World.frozen?_setCell, World.frozen?_setCell, World.frozen?_setCell]; exact y3
      have zl' : ∀ a0 a1 a2 a3, ((((wr.setCell ⟨g, j * 5, none⟩ a0).setCell ⟨g, j * 5 + 1, none⟩ a1).setCell ⟨g, j * 5 + 2, none⟩ a2).setCell ⟨g, j * 5 + 3, none⟩ a3).cell? ⟨g, j * 5 + 4, none⟩ = some (.slice (some ⟨c, 0, none⟩) ps.length cp) := fun a0 a1 a2 a3 => by rw [World.cell?_setCell_other _ _ _ _ (by simp), World.cell?_setCell_other _ _ _ _ (by simp), World.cell?_setCell_other _ _ _ _ (by simp), World.cell?_setCell_other _ _ _ _ (by simp)]; exact q3
      have HM3 := hid (fun a0 a1 a2 a3 => (mid_set (mid_set (mid_set (mid_set (HM.out) hbg hgh a0) hbg hgh a1) hbg hgh a2) hbg hgh a3 : Mid base hi w ((((wr.setCell ⟨g, j * 5, none⟩ a0).setCell ⟨g, j * 5 + 1, none⟩ a1).setCell ⟨g, j * 5 + 2, none⟩ a2).setCell ⟨g, j * 5 + 3, none⟩ a3)))
      have HT3 := hid (fun a0 a1 a2 a3 => (there_set (there_set (there_set (there_set (HT.out) a0) a1) a2) a3 : ((((wr.setCell ⟨g, j * 5, none⟩ a0).setCell ⟨g, j * 5 + 1, none⟩ a1).setCell ⟨g, j * 5 + 2, none⟩ a2).setCell ⟨g, j * 5 + 3, none⟩ a3).there g 0 (n * 5)))
      have HA3 : Hid (∀ a0 a1 a2 a3 i (h : i < xs.length), i < j → ElX KR ((((wr.setCell ⟨g, j * 5, none⟩ a0).setCell ⟨g, j * 5 + 1, none⟩ a1).setCell ⟨g, j * 5 + 2, none⟩ a2).setCell ⟨g, j * 5 + 3, none⟩ a3) g i (mkr1 (kkr k0 xs i) xs[i]) (ss i) (lo i) (up i)) := hid (fun a0 a1 a2 a3 i h h1 => (((((HA.out i h h1).set (HC.out i h).2.2 (by show _ < i * 5 ∨ i * 5 + 5 ≤ _; omega) a0).set (HC.out i h).2.2 (by show _ < i * 5 ∨ i * 5 + 5 ≤ _; omega) a1).set (HC.out i h).2.2 (by show _ < i * 5 ∨ i * 5 + 5 ≤ _; omega) a2).set (HC.out i h).2.2 (by show _ < i * 5 ∨ i * 5 + 5 ≤ _; omega) a3))
      have HZ3 : Hid (∀ a0 a1 a2 a3 i (h : i < xs.length), j + 1 ≤ i → ElX KR ((((wr.setCell ⟨g, j * 5, none⟩ a0).setCell ⟨g, j * 5 + 1, none⟩ a1).setCell ⟨g, j * 5 + 2, none⟩ a2).setCell ⟨g, j * 5 + 3, none⟩ a3) g i xs[i] (ss i) (lo i) (up i)) := hid (fun a0 a1 a2 a3 i h h1 => (((((HZ.out i h (by omega)).set (HC.out i h).2.2 (by show _ < i * 5 ∨ i * 5 + 5 ≤ _; omega) a0).set (HC.out i h).2.2 (by show _ < i * 5 ∨ i * 5 + 5 ≤ _; omega) a1).set (HC.out i h).2.2 (by show _ < i * 5 ∨ i * 5 + 5 ≤ _; omega) a2).set (HC.out i h).2.2 (by show _ < i * 5 ∨ i * 5 + 5 ≤ _; omega) a3))
      have x0 : ∀ a0 a1 a2 a3, ((((wr.setCell ⟨g, j * 5, none⟩ a0).setCell ⟨g, j * 5 + 1, none⟩ a1).setCell ⟨g, j * 5 + 2, none⟩ a2).setCell ⟨g, j * 5 + 3, none⟩ a3).cell? ⟨g, j * 5, none⟩ = some a0 := fun a0 a1 a2 a3 => by rw [World.cell?_setCell_other _ _ _ _ (by simp), World.cell?_setCell_other _ _ _ _ (by simp), World.cell?_setCell_other _ _ _ _ (by simp)]; exact World.cell?_setCell_same _ _ _ z0
      have x1 : ∀ a0 a1 a2 a3, ((((wr.setCell ⟨g, j * 5, none⟩ a0).setCell ⟨g, j * 5 + 1, none⟩ a1).setCell ⟨g, j * 5 + 2, none⟩ a2).setCell ⟨g, j * 5 + 3, none⟩ a3).cell? ⟨g, j * 5 + 1, none⟩ = some a1 := fun a0 a1 a2 a3 => by rw [World.cell?_setCell_other _ _ _ _ (by simp), World.cell?_setCell_other _ _ _ _ (by simp)]; exact World.cell?_setCell_same _ _ _ (z1' a0)
      have x2 : ∀ a0 a1 a2 a3, ((((wr.setCell ⟨g, j * 5, none⟩ a0).setCell ⟨g, j * 5 + 1, none⟩ a1).setCell ⟨g, j * 5 + 2, none⟩ a2).setCell ⟨g, j * 5 + 3, none⟩ a3).cell? ⟨g, j * 5 + 2, none⟩ = some a2 := fun a0 a1 a2 a3 => by rw [World.cell?_setCell_other _ _ _ _ (by simp)]; exact World.cell?_setCell_same _ _ _ (z2' a0 a1)
      have x3 : ∀ a0 a1 a2 a3, ((((wr.setCell ⟨g, j * 5, none⟩ a0).setCell ⟨g, j * 5 + 1, none⟩ a1).setCell ⟨g, j * 5 + 2, none⟩ a2).setCell ⟨g, j * 5 + 3, none⟩ a3).cell? ⟨g, j * 5 + 3, none⟩ = some a3 := fun a0 a1 a2 a3 => by exact World.cell?_setCell_same _ _ _ (z3' a0 a1 a2)
      have HX := hid (fun a0 a1 a2 a3 => (⟨x0 a0 a1 a2 a3, x1 a0 a1 a2 a3, x2 a0 a1 a2 a3, x3 a0 a1 a2 a3, zl' a0 a1 a2 a3⟩ : ((((wr.setCell ⟨g, j * 5, none⟩ a0).setCell ⟨g, j * 5 + 1, none⟩ a1).setCell ⟨g, j * 5 + 2, none⟩ a2).setCell ⟨g, j * 5 + 3, none⟩ a3).cell? ⟨g, j * 5, none⟩ = some a0 ∧ ((((wr.setCell ⟨g, j * 5, none⟩ a0).setCell ⟨g, j * 5 + 1, none⟩ a1).setCell ⟨g, j * 5 + 2, none⟩ a2).setCell ⟨g, j * 5 + 3, none⟩ a3).cell? ⟨g, j * 5 + 1, none⟩ = some a1 ∧ ((((wr.setCell ⟨g, j * 5, none⟩ a0).setCell ⟨g, j * 5 + 1, none⟩ a1).setCell ⟨g, j * 5 + 2, none⟩ a2).setCell ⟨g, j * 5 + 3, none⟩ a3).cell? ⟨g, j * 5 + 2, none⟩ = some a2 ∧ ((((wr.setCell ⟨g, j * 5, none⟩ a0).setCell ⟨g, j * 5 + 1, none⟩ a1).setCell ⟨g, j * 5 + 2, none⟩ a2).setCell ⟨g, j * 5 + 3, none⟩ a3).cell? ⟨g, j * 5 + 3, none⟩ = some a3 ∧ ((((wr.setCell ⟨g, j * 5, none⟩ a0).setCell ⟨g, j * 5 + 1, none⟩ a1).setCell ⟨g, j * 5 + 2, none⟩ a2).setCell ⟨g, j * 5 + 3, none⟩ a3).cell? ⟨g, j * 5 + 4, none⟩ = some (.slice (some ⟨c, 0, none⟩) ps.length cp)))
      have HP3 := hid (fun a0 a1 a2 a3 => (own_blk b5 (by rw [Below.heap_setCell _ _ _ _ (by dsimp only; omega), Below.heap_setCell _ _ _ _ (by dsimp only; omega), Below.heap_setCell _ _ _ _ (by dsimp only; omega), Below.heap_setCell _ _ _ _ (by dsimp only; omega)]) (by simp only [World.size_setCell]; exact b5.1) : PtsOwn ((((wr.setCell ⟨g, j * 5, none⟩ a0).setCell ⟨g, j * 5 + 1, none⟩ a1).setCell ⟨g, j * 5 + 2, none⟩ a2).setCell ⟨g, j * 5 + 3, none⟩ a3) c ps))
      have HSZ := hid (fun a0 a1 a2 a3 => (by simp only [World.size_setCell] : ((((wr.setCell ⟨g, j * 5, none⟩ a0).setCell ⟨g, j * 5 + 1, none⟩ a1).setCell ⟨g, j * 5 + 2, none⟩ a2).setCell ⟨g, j * 5 + 3, none⟩ a3).heap.size = wr.heap.size))
      clear b5 zc
      clear HM HT HA HZ q3 z1 y1 z2 y2 z3 y3 x0 x1 x2 x3
      go_wp2_with fail
      refine (mark_ptsK _ c ps.length cp ps (k + 1 + 1 + 1 + 1) (by omega) (by omega) hnp rfl (HP3.out _ _ _ _)).mono ?_
      rintro e w1 ⟨rfl, hp1, hg⟩
      have hgne : some g ≠ some c := fun e => by cases e; omega
      have hsz1 := hg.size
      rw [HSZ.out] at hsz1
      have HM5 := hid (mid_grown (HM3.out (.int .i64 k) (.int .i64 (k + 1)) (.int .i64 (k + 1 + 1)) (.int .i64 (k + 1 + 1 + 1))) hg (by omega) (by omega))
      have HT5 : Hid (w1.there g 0 (n * 5)) := hid (fun i hi' => by
        obtain ⟨s1, s2⟩ := HT3.out (.int .i64 k) (.int .i64 (k + 1)) (.int .i64 (k + 1 + 1)) (.int .i64 (k + 1 + 1 + 1)) i hi'
        have hb := hg.block g (by rw [HSZ.out]; omega) hgne
        simp only [World.cell?, World.frozen?, hb]; exact ⟨s1, s2⟩)
      have HFR : Hid (∀ i, i < xs.length → i ≠ j → ∀ q, lo i ≤ q → q < up i → q < wr.heap.size → w1.heap[q]? = _) := hid (fun i hi' hne q q1 q2 q3 => hg.block q (by rw [HSZ.out]; exact q3) (fun e => by cases e; have := HDJ.out i hi' hne; omega))
      have HA5 : Hid (∀ i (h : i < xs.length), i < j + 1 → ElX KR w1 g i (mkr1 (kkr k0 xs i) xs[i]) (ss i) (lo i) (up i)) := hid (fun i h h1 => by
        by_cases e : i = j
        · subst e
          obtain ⟨s0, s1, s2, s3, s4⟩ := HX.out (.int .i64 k) (.int .i64 (k + 1)) (.int .i64 (k + 1 + 1)) (.int .i64 (k + 1 + 1 + 1))
          rw [← HSJ.out]
          refine HMK.out w1 (fun t ht => ?_) (by rw [show k + 4 = k + 1 + 1 + 1 + 1 by omega]; exact hp1) (by omega)
          rcases (show t = 0 ∨ t = 1 ∨ t = 2 ∨ t = 3 ∨ t = 4 by omega) with e | e | e | e | e <;> subst e
          · exact hg.cell s0 hgne
          · exact hg.cell s1 hgne
          · show _ = some (Value.int .i64 (k + 2)); rw [show k + 2 = k + 1 + 1 by omega]; exact hg.cell s2 hgne
          · show _ = some (Value.int .i64 (k + 3)); rw [show k + 3 = k + 1 + 1 + 1 by omega]; exact hg.cell s3 hgne
          · exact hg.cell s4 hgne
        · have hx := HA3.out (.int .i64 k) (.int .i64 (k + 1)) (.int .i64 (k + 1 + 1)) (.int .i64 (k + 1 + 1 + 1)) i h (by omega)
          have htp := KR.top hx.2
          rw [HSZ.out] at htp
          exact hx.blk (hg.block g (by rw [HSZ.out]; omega) hgne) (fun q q1 q2 => HFR.out i h e q q1 q2 (by omega)) (by rw [HSZ.out]; exact hsz1))
      have HZ5 : Hid (∀ i (h : i < xs.length), j + 1 ≤ i → ElX KR w1 g i xs[i] (ss i) (lo i) (up i)) := hid (fun i h h1 => by
        have hx := HZ3.out (.int .i64 k) (.int .i64 (k + 1)) (.int .i64 (k + 1 + 1)) (.int .i64 (k + 1 + 1 + 1)) i h h1
        have htp := KR.top hx.2
        rw [HSZ.out] at htp
        exact hx.blk (hg.block g (by rw [HSZ.out]; omega) hgne) (fun q q1 q2 => HFR.out i h (by omega) q q1 q2 (by omega)) (by rw [HSZ.out]; exact hsz1))
      have HK5 : Hid (k + 1 + 1 + 1 + 1 + 2 * (ps.length : Int) = kkr k0 xs (j + 1)) := hid (by rw [HKN.out]; omega)
      clear hg hp1 HM3 HT3 HA3 HZ3 HX HFR HP3 HSZ zl' z1' z2' z3' y1' y2' y3' 
      go_wp2_with fail
      go_roundw
      case rel => exact ⟨j + 1, _, by go_num, rfl, by omega, HK5, HM5, HT5, HA5, HZ5⟩
      case measure => simp [intOf]; omega
    · obtain rfl : j = n := by omega
      have c1 : (j : Int) ≤ (j : Int) := by omega
      go_wp2_with fail
      go_ret
      obtain ⟨e1, e2⟩ := HF.out wr k HKJ.out HM.out HT.out HA.out
      exact ⟨e1, e2, HM.out⟩
end Go.Proofs.YtnajddjalagmoaaGreatDoor
