/- Bounds of the specification. -/
import Derived.Test.YtfajjnkkablneaaGreatDoorBb0
namespace Go.Proofs.YtfajjnkkablneaaGreatDoor
open Go.RowKit
set_option linter.unusedSimpArgs false
set_option linter.unusedVariables false
/-- What l06Row tells of an id that is there. -/
def RB (w : World) (rk : Int) (rp : List (Int × Int)) (rb : Bool) (e : Ending) (w' : World) : Prop :=
  ∃ gq cq, e = .returned (.tuple #[.agg #[.int .i64 rk, .slice (some ⟨gq, 0, none⟩) rp.length cq], .bool rb]) ∧ rp.length ≤ cq ∧ w.heap.size ≤ gq ∧ gq < w'.heap.size ∧ Pts w' (some ⟨gq, 0, none⟩) rp ∧ Below w.heap.size w w'
theorem spec_rowB {N : Nat → Prop} (now : Int) (a : Option Addr) (cap : Nat) (rs : List Rw) (id t : Int) (w : World) (hm : rs.length ≤ 1099511627776) (h : Rws N w a rs) (hid2 : id ∈ idsb now rs t) : Calls Tryz.prog 11 #[.agg #[.int .i64 now, .slice a rs.length cap], .int .i64 id, .int .i64 t] w fun e w' => RB w (raK (rat rs id t)) (raP (rat rs id t)) (rat rs id t).isSome e w' := by
  obtain ⟨hr, hs⟩ := idsb_row hid2
  refine (spec_row now a cap rs id t w hm h (fun m hm => (shok_aok (rowsb_sh hr hm)).2.1)).mono ?_
  rintro e w' ⟨a', cap', rfl, hc, ho, hn, hb⟩
  rcases ho with ⟨_, q⟩ | ⟨b, rfl, ho⟩
  · have := (shok_aok hs).2.1
    rw [q] at this
    simp at this
  · exact ⟨b, cap', rfl, hc, hn b 0 rfl, ho.1, ho.pts, hb⟩
/-- The shape that was found, in its own place. -/
def RQ (W : World) (rk : Int) (rp : List (Int × Int)) (tv : Value) (wx : World) : Prop :=
  ∃ ba gq cq, tv = .pointer (some ⟨ba, 0, none⟩) ∧ W.heap.size ≤ ba ∧ wx.heap[ba]? = some (.cells #[.int .i64 rk, .slice (some ⟨gq, 0, none⟩) rp.length cq] 38 (0, 0)) ∧ rp.length ≤ cq ∧ Pts wx (some ⟨gq, 0, none⟩) rp ∧ Below W.heap.size W wx ∧ W.heap.size ≤ gq ∧ gq < wx.heap.size ∧ ba ≠ gq
theorem rq_mk {W Z : World} {rk : Int} {rp : List (Int × Int)} {xb gq cq : Nat} (gX : Z.heap[xb]? = some (.cells #[.int .i64 0, .slice none 0 0] 38 (0, 0))) (hcq : rp.length ≤ cq) (hp : Pts Z (some ⟨gq, 0, none⟩) rp) (hne : xb ≠ gq) (hxb : W.heap.size ≤ xb) (hD : Below W.heap.size W Z) (hlo : W.heap.size ≤ gq) (hhi : gq < Z.heap.size) : RQ W rk rp (.pointer (some ⟨xb, 0, none⟩)) ((Z.setCell ⟨xb, 0, none⟩ (.int .i64 rk)).setCell ⟨xb, 1, none⟩ (.slice (some ⟨gq, 0, none⟩) rp.length cq)) := by
  refine ⟨xb, gq, cq, rfl, hxb, set2r gX _ _, hcq, ?_, bset (bset hD (q := xb) (k := 0) hxb _) (q := xb) (k := 1) hxb _, hlo, by simpa using hhi, hne⟩
  rcases hp with h | ⟨b, off, ea, hb, hp⟩
  · exact .inl h
  · cases ea
    refine .inr ⟨gq, 0, rfl, by simpa using hb, fun k hk => ?_⟩
    rw [World.cell?_setCell_far _ _ _ _ (by dsimp only; omega), World.cell?_setCell_far _ _ _ _ (by dsimp only; omega), World.cell?_setCell_far _ _ _ _ (by dsimp only; omega), World.cell?_setCell_far _ _ _ _ (by dsimp only; omega)]
    exact hp k hk
/-- Where the walk of Bounds stands. -/
def SB (w : World) (now : Int) (a : Option Addr) (n0 cap : Nat) (gi ob : Nat) (ids : List Int) (zs : List (Int × Int)) (wr : World) : Prop :=
  wr.heap[w.heap.size]? = some (.cells #[.int .i64 now, .slice a n0 cap] 29 (0, 0)) ∧ wr.heap[w.heap.size + 1]? = some (.cells #[.int .i64 0, .int .i64 0, .int .i64 0, .int .i64 0] 175 (0, 0)) ∧ wr.heap[ob]? = some (.cells #[.int .i64 (aX zs), .int .i64 (aY zs), .int .i64 (bX zs), .int .i64 (bY' zs)] 175 (0, 0)) ∧ gi < wr.heap.size ∧ IAt wr gi 0 ids ∧ Below w.heap.size w wr
theorem IAt.blk {w w' : World} {b off : Nat} {zs : List Int} (h : IAt w b off zs) (e : w'.heap[b]? = w.heap[b]?) : IAt w' b off zs := fun k hk => by
  have hc : ∀ k, w'.cell? ⟨b, k, none⟩ = w.cell? ⟨b, k, none⟩ := fun k => by simp only [World.cell?, e]
  rw [hc]
  exact h k hk
/-- The ids that were told, with a block for them. -/
theorem ids_blk {w : World} {a1 : Option Addr} {ids : List Int} (h : OwnI w a1 ids) (d : Nat) (hd : d < w.heap.size) : ∃ gi, (0 < ids.length → a1 = some ⟨gi, 0, none⟩) ∧ gi < w.heap.size ∧ IAt w gi 0 ids := by
  rcases h with ⟨rfl, rfl⟩ | ⟨b, rfl, hb, hi, _⟩
  · exact ⟨d, fun h => absurd h (by simp), hd, fun k hk => absurd hk (by simp)⟩
  · exact ⟨b, fun _ => rfl, hb, hi⟩
end Go.Proofs.YtfajjnkkablneaaGreatDoor
