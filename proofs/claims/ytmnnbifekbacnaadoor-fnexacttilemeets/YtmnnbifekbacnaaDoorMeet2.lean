/- Whether two figures meet: the landed function. -/
import Derived.Test.YtmnnbifekbacnaaDoorMeet
import Derived.Test.YtmnnbifekbacnaaDoorHas3
import Derived.Test.YtmnnbifekbacnaaDoorSides4
import Derived.Test.YtmnnbifekbacnaaDoorSides5
namespace Go.Proofs.YtmnnbifekbacnaaDoor
open Go.RowKit
set_option linter.unusedSimpArgs false
set_option linter.unusedVariables false
/-- The sides of a shape of kind k. -/
def sdl (k : Int) (ps : List (Int × Int)) : List Sd :=
  if k = 0 then [((ps.getD 0 (0, 0)).1, (ps.getD 0 (0, 0)).2, (ps.getD 0 (0, 0)).1, (ps.getD 0 (0, 0)).2)]
  else if k = 1 then alongSides ps
  else if k = 2 then ringSides (corners (ps.getD 0 (0, 0)).1 (ps.getD 0 (0, 0)).2 (ps.getD 1 (0, 0)).1 (ps.getD 1 (0, 0)).2)
  else ringSides ps
def figv (k : Int) (a : Option Addr) (n cap : Nat) : Value :=
  if k = 0 then .iface 69 (.slice a n cap) else if k = 1 then .iface 70 (.slice a n cap) else if k = 2 then .iface 71 (.slice a n cap) else .iface 72 (.slice a n cap)
theorem one_of {ps : List (Int × Int)} (h : ps.length = 1) : ∃ x y, ps = [(x, y)] := by
  match ps, h with
  | [(x, y)], _ => exact ⟨x, y, rfl⟩
theorem two_of {ps : List (Int × Int)} (h : ps.length = 2) : ∃ x y u v, ps = [(x, y), (u, v)] := by
  match ps, h with
  | [(x, y), (u, v)], _ => exact ⟨x, y, u, v, rfl⟩
theorem corners_len (x y u v : Int) : (ringSides (corners x y u v)).length = 4 := by rw [ringSides_len]; rfl
theorem sides_any (k : Int) (a : Option Addr) (cap : Nat) (ps : List (Int × Int)) (w : World) (hm : ps.length ≤ 1099511627776) (hc : ps.length ≤ cap) (hs : shok k ps = true) (h : Pts w a ps) : Calls Tryd.prog 20 #[figv k a ps.length cap] w fun e w' => ∃ b, e = .returned (.slice (some ⟨b, 0, none⟩) (sdl k ps).length (sdl k ps).length) ∧ w.heap.size ≤ b ∧ b < w'.heap.size ∧ SdAt w' b 0 (sdl k ps) ∧ Below w.heap.size w w' := by
  rcases shok_kind hs with ⟨rfl, hl⟩ | ⟨rfl, hl, hl2⟩ | ⟨rfl, hl⟩ | ⟨rfl, hl, hl2⟩
  · obtain ⟨x, y, rfl⟩ := one_of hl
    exact of_dot x y a cap w h
  · exact of_path a cap ps w hm hc h (by omega)
  · obtain ⟨x, y, u, v, rfl⟩ := two_of hl
    exact of_block x y u v a cap w hc h
  · have := of_ring a cap ps w hm hc h
    refine this.mono ?_
    rintro e w' ⟨b, he, h1, h2, h3, h4⟩
    refine ⟨b, ?_, h1, h2, h3, h4⟩
    rw [he]; simp [sdl, ringSides_len]
theorem sides_spec (k : Int) (a : Option Addr) (cap : Nat) (ps : List (Int × Int)) (w : World) (hm : ps.length ≤ 1099511627776) (hc : ps.length ≤ cap) (hs : shok k ps = true) (h : Pts w a ps) : Calls Tryd.prog 31 #[shv k a ps.length cap] w fun e w' => ∃ b cp, e = .returned (.slice (some ⟨b, 0, none⟩) (sdl k ps).length cp) ∧ w.heap.size ≤ b ∧ b < w'.heap.size ∧ (sdl k ps).length ≤ cp ∧ SdAt w' b 0 (sdl k ps) ∧ Below w.heap.size w w' := by
  rcases shok_kind hs with ⟨rfl, hl⟩ | ⟨rfl, hl, hl2⟩ | ⟨rfl, hl⟩ | ⟨rfl, hl, hl2⟩
  · obtain ⟨x, y, rfl⟩ := one_of hl
    exact spec_sides0 x y a cap w h
  · exact spec_sides1 a cap ps w hm hc h (by omega) (by omega)
  · obtain ⟨x, y, u, v, rfl⟩ := two_of hl
    exact spec_sides2 x y u v a cap w h hc
  · have := spec_sides3 a cap ps w hm hc h (ps.length - 1) (by omega) hl hl2
    rw [show ps.length - 1 + 1 = ps.length by omega] at this
    exact this
theorem sdl_len {k : Int} {ps : List (Int × Int)} (hs : shok k ps = true) : 0 < (sdl k ps).length ∧ (sdl k ps).length ≤ 60 := by
  rcases shok_kind hs with ⟨rfl, hl⟩ | ⟨rfl, hl, hl2⟩ | ⟨rfl, hl⟩ | ⟨rfl, hl, hl2⟩
  · simp [sdl]
  · simp [sdl, along_len]; omega
  · simp [sdl, corners_len]
  · simp [sdl, ringSides_len]; omega
theorem ringSides_in {ps : List (Int × Int)} (h : allok ps = true) : ∀ k, k < (ringSides ps).length → SdIn ((ringSides ps).getD k (0, 0, 0, 0)) := by
  intro k hk
  rw [ringSides_len] at hk
  rw [ringSides_at ps k hk]
  obtain ⟨a, b⟩ := allok_in h k hk
  obtain ⟨c, d⟩ := nxt_in h k hk
  exact ⟨a, b, c, d⟩
theorem pok_at2 {ps : List (Int × Int)} (h : allok ps = true) (k : Nat) (hk : k < ps.length) : pok (ps.getD k (0, 0)).1 (ps.getD k (0, 0)).2 = true := by
  rw [allok, List.all_eq_true] at h
  refine h _ ?_
  rw [List.getD_eq_getElem?_getD, List.getElem?_eq_getElem hk]
  exact List.getElem_mem hk
theorem sdl_in {k : Int} {ps : List (Int × Int)} (hs : shok k ps = true) : ∀ j, j < (sdl k ps).length → SdIn ((sdl k ps).getD j (0, 0, 0, 0)) := by
  have ha := shok_allok hs
  rcases shok_kind hs with ⟨rfl, hl⟩ | ⟨rfl, hl, hl2⟩ | ⟨rfl, hl⟩ | ⟨rfl, hl, hl2⟩
  · intro j hj
    obtain ⟨x, y, rfl⟩ := one_of hl
    obtain ⟨h1, h2⟩ := allok_in ha 0 (by simp)
    simp [sdl] at hj
    subst hj
    exact ⟨h1, h2, h1, h2⟩
  · exact along_in ha
  · obtain ⟨x, y, u, v, rfl⟩ := two_of hl
    have h1 := pok_at2 ha 0 (by simp)
    have h2 := pok_at2 ha 1 (by simp)
    refine ringSides_in (ps := corners x y u v) ?_
    simp only [List.getD_cons_zero, List.getD_cons_succ, pok, Bool.and_eq_true] at h1 h2
    simp [corners, allok, pok, h1.1, h1.2, h2.1, h2.2]
  · exact ringSides_in ha
theorem sdl_first {k : Int} {ps : List (Int × Int)} (hs : shok k ps = true) : ((sdl k ps).getD 0 (0, 0, 0, 0)).1 = (ps.getD 0 (0, 0)).1 ∧ ((sdl k ps).getD 0 (0, 0, 0, 0)).2.1 = (ps.getD 0 (0, 0)).2 := by
  rcases shok_kind hs with ⟨rfl, hl⟩ | ⟨rfl, hl, hl2⟩ | ⟨rfl, hl⟩ | ⟨rfl, hl, hl2⟩
  · exact ⟨rfl, rfl⟩
  · have e : sdl 1 ps = alongSides ps := rfl
    rw [e, along_at ps 0 (by omega)]; exact ⟨rfl, rfl⟩
  · have e : sdl 2 ps = ringSides (corners (ps.getD 0 (0, 0)).1 (ps.getD 0 (0, 0)).2 (ps.getD 1 (0, 0)).1 (ps.getD 1 (0, 0)).2) := rfl
    rw [e, ringSides_at _ 0 (by unfold corners; simp)]; exact ⟨rfl, rfl⟩
  · have e : sdl 3 ps = ringSides ps := rfl
    rw [e, ringSides_at ps 0 (by omega)]; exact ⟨rfl, rfl⟩
def rowM (p : Sd) (Y : List Sd) : Nat → Bool
  | 0 => false
  | j + 1 => rowM p Y j || meetq p (Y.getD j (0, 0, 0, 0))
def allM (X Y : List Sd) : Nat → Bool
  | 0 => false
  | i + 1 => allM X Y i || rowM (X.getD i (0, 0, 0, 0)) Y Y.length
theorem row_mono {p : Sd} {Y : List Sd} {k : Nat} (h : rowM p Y k = true) : ∀ m, k ≤ m → rowM p Y m = true
  | 0, hm => by obtain rfl : k = 0 := by omega
                exact h
  | m + 1, hm => by
    by_cases e : k = m + 1
    · subst e; exact h
    · rw [rowM, row_mono h m (by omega)]; rfl
theorem all_mono {X Y : List Sd} {k : Nat} (h : allM X Y k = true) : ∀ m, k ≤ m → allM X Y m = true
  | 0, hm => by obtain rfl : k = 0 := by omega
                exact h
  | m + 1, hm => by
    by_cases e : k = m + 1
    · subst e; exact h
    · rw [allM, all_mono h m (by omega)]; rfl
theorem all_hit {X Y : List Sd} {i j : Nat} (hi : i < X.length) (hj : j < Y.length) (h : rowM (X.getD i (0, 0, 0, 0)) Y j = false) (hm : meetq (X.getD i (0, 0, 0, 0)) (Y.getD j (0, 0, 0, 0)) = true) : allM X Y X.length = true := by
  refine all_mono (k := i + 1) ?_ _ (by omega)
  rw [allM, row_mono (k := j + 1) (by rw [rowM, hm]; simp) _ (by omega)]; simp
end Go.Proofs.YtmnnbifekbacnaaDoor
