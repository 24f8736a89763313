/- Whether two figures meet: the landed function. -/
import Derived.Test.YtmnnbifekbacnaaDoorMeet2
namespace Go.Proofs.YtmnnbifekbacnaaDoor
open Go.RowKit
set_option linter.unusedSimpArgs false
set_option linter.unusedVariables false
theorem hask0 (a : Option Addr) (cap : Nat) (ps : List (Int × Int)) (px py : Int) (w : World) (hm : ps.length ≤ 1099511627776) (hc : ps.length ≤ cap) (hs : shok 0 ps = true) (i1 : In px) (i2 : In py) (h : Pts w a ps) : Calls Tryd.prog 80 #[.slice a ps.length cap, .agg #[.int .i64 px, .int .i64 py]] w fun e w' => e = .returned (.bool (hasP 0 ps px py)) ∧ Below w.heap.size w w' := by
  have ha := shok_allok hs
  rcases shok_kind hs with ⟨e, hl⟩ | ⟨e, hl, hl2⟩ | ⟨e, hl⟩ | ⟨e, hl, hl2⟩ <;> first | (exact absurd e (by omega)) | skip
  obtain ⟨x, y, rfl⟩ := one_of hl
  exact dot_has x y px py a cap w h
theorem hask1 (a : Option Addr) (cap : Nat) (ps : List (Int × Int)) (px py : Int) (w : World) (hm : ps.length ≤ 1099511627776) (hc : ps.length ≤ cap) (hs : shok 1 ps = true) (i1 : In px) (i2 : In py) (h : Pts w a ps) : Calls Tryd.prog 82 #[.slice a ps.length cap, .agg #[.int .i64 px, .int .i64 py]] w fun e w' => e = .returned (.bool (hasP 1 ps px py)) ∧ Below w.heap.size w w' := by
  have ha := shok_allok hs
  rcases shok_kind hs with ⟨e, hl⟩ | ⟨e, hl, hl2⟩ | ⟨e, hl⟩ | ⟨e, hl, hl2⟩ <;> first | (exact absurd e (by omega)) | skip
  exact path_has px py a cap ps w hm hc h (by omega) i1 i2 ha
theorem hask2 (a : Option Addr) (cap : Nat) (ps : List (Int × Int)) (px py : Int) (w : World) (hm : ps.length ≤ 1099511627776) (hc : ps.length ≤ cap) (hs : shok 2 ps = true) (i1 : In px) (i2 : In py) (h : Pts w a ps) : Calls Tryd.prog 87 #[.slice a ps.length cap, .agg #[.int .i64 px, .int .i64 py]] w fun e w' => e = .returned (.bool (hasP 2 ps px py)) ∧ Below w.heap.size w w' := by
  have ha := shok_allok hs
  rcases shok_kind hs with ⟨e, hl⟩ | ⟨e, hl, hl2⟩ | ⟨e, hl⟩ | ⟨e, hl, hl2⟩ <;> first | (exact absurd e (by omega)) | skip
  obtain ⟨x, y, u, v, rfl⟩ := two_of hl
  exact block_has x y u v px py a cap w hc h
theorem hask3 (a : Option Addr) (cap : Nat) (ps : List (Int × Int)) (px py : Int) (w : World) (hm : ps.length ≤ 1099511627776) (hc : ps.length ≤ cap) (hs : shok 3 ps = true) (i1 : In px) (i2 : In py) (h : Pts w a ps) : Calls Tryd.prog 90 #[.slice a ps.length cap, .agg #[.int .i64 px, .int .i64 py]] w fun e w' => e = .returned (.bool (hasP 3 ps px py)) ∧ Below w.heap.size w w' := by
  have ha := shok_allok hs
  rcases shok_kind hs with ⟨e, hl⟩ | ⟨e, hl, hl2⟩ | ⟨e, hl⟩ | ⟨e, hl, hl2⟩ <;> first | (exact absurd e (by omega)) | skip
  exact ring_has px py a cap ps w hm hc h i1 i2 ha
theorem me_dot (n : Nat) (v : Value) (w : World) : Sem.run Tryd.prog (method (n + 1) 69 v "loop.example/g00229/impl.has") w = .ok (80, v) w := by kernel_rfl
theorem me_path (n : Nat) (v : Value) (w : World) : Sem.run Tryd.prog (method (n + 1) 70 v "loop.example/g00229/impl.has") w = .ok (82, v) w := by kernel_rfl
theorem me_block (n : Nat) (v : Value) (w : World) : Sem.run Tryd.prog (method (n + 1) 71 v "loop.example/g00229/impl.has") w = .ok (87, v) w := by kernel_rfl
theorem me_ring (n : Nat) (v : Value) (w : World) : Sem.run Tryd.prog (method (n + 1) 72 v "loop.example/g00229/impl.has") w = .ok (90, v) w := by kernel_rfl
theorem na_dot (n : Nat) (v : Value) (w : World) : Sem.run Tryd.prog (nilAhead (n + 1) 69 v "loop.example/g00229/impl.has") w = .ok (some false) w := by kernel_rfl
theorem na_path (n : Nat) (v : Value) (w : World) : Sem.run Tryd.prog (nilAhead (n + 1) 70 v "loop.example/g00229/impl.has") w = .ok (some false) w := by kernel_rfl
theorem na_block (n : Nat) (v : Value) (w : World) : Sem.run Tryd.prog (nilAhead (n + 1) 71 v "loop.example/g00229/impl.has") w = .ok (some false) w := by kernel_rfl
theorem na_ring (n : Nat) (v : Value) (w : World) : Sem.run Tryd.prog (nilAhead (n + 1) 72 v "loop.example/g00229/impl.has") w = .ok (some false) w := by kernel_rfl
end Go.Proofs.YtmnnbifekbacnaaDoor
