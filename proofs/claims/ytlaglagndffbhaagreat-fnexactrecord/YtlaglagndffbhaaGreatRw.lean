/- Rows in memory: counted, copied, held one against the other. -/
import Derived.Test.YtlaglagndffbhaaGreatShLaw
import Derived.Test.YtlaglagndffbhaaGreatRw0
namespace Go.Proofs.YtlaglagndffbhaaGreat
open Go.RowKit
set_option linter.unusedSimpArgs false
set_option linter.unusedVariables false
/-- Five cells of a block are written: those of one row more. -/
theorem put_row {N : Nat → Prop} {w : World} {B k n b : Nat} {rs : List Rw} (hN : ∀ c, N c → c ≠ B) (hk : k < rs.length) (hn : rs.length = n) (h : ∀ j (hj : j < rs.length), j < k → RwAt N w B (j * 5) rs[j]) (ht : w.there B 0 (n * 5)) (hb : N b) (hm : rs[k].2.2.2.2.length ≤ 1099511627776) (ho : PtsOwn w b rs[k].2.2.2.2) :
    (∀ j (hj : j < rs.length), j < k + 1 → RwAt N (((((w.setCell ⟨B, k * 5, none⟩ (.int .i64 rs[k].1)).setCell ⟨B, k * 5 + 1, none⟩ (.int .i64 rs[k].2.1)).setCell ⟨B, k * 5 + 2, none⟩ (.int .i64 rs[k].2.2.1)).setCell ⟨B, k * 5 + 3, none⟩ (.int .i64 rs[k].2.2.2.1)).setCell ⟨B, k * 5 + 4, none⟩ (.slice (some ⟨b, 0, none⟩) rs[k].2.2.2.2.length rs[k].2.2.2.2.length)) B (j * 5) rs[j]) ∧
    (((((w.setCell ⟨B, k * 5, none⟩ (.int .i64 rs[k].1)).setCell ⟨B, k * 5 + 1, none⟩ (.int .i64 rs[k].2.1)).setCell ⟨B, k * 5 + 2, none⟩ (.int .i64 rs[k].2.2.1)).setCell ⟨B, k * 5 + 3, none⟩ (.int .i64 rs[k].2.2.2.1)).setCell ⟨B, k * 5 + 4, none⟩ (.slice (some ⟨b, 0, none⟩) rs[k].2.2.2.2.length rs[k].2.2.2.2.length)).there B 0 (n * 5) := by
  subst hn
  have e : ((((w.setCell ⟨B, k * 5, none⟩ (.int .i64 rs[k].1)).setCell ⟨B, k * 5 + 1, none⟩ (.int .i64 rs[k].2.1)).setCell ⟨B, k * 5 + 2, none⟩ (.int .i64 rs[k].2.2.1)).setCell ⟨B, k * 5 + 3, none⟩ (.int .i64 rs[k].2.2.2.1)).setCell ⟨B, k * 5 + 4, none⟩ (.slice (some ⟨b, 0, none⟩) rs[k].2.2.2.2.length rs[k].2.2.2.2.length) = w.setCells B (k * 5) [.int .i64 rs[k].1, .int .i64 rs[k].2.1, .int .i64 rs[k].2.2.1, .int .i64 rs[k].2.2.2.1, .slice (some ⟨b, 0, none⟩) rs[k].2.2.2.2.length rs[k].2.2.2.2.length] := rfl
  have hblk : ∀ c, c ≠ B → (w.setCells B (k * 5) [.int .i64 rs[k].1, .int .i64 rs[k].2.1, .int .i64 rs[k].2.2.1, .int .i64 rs[k].2.2.2.1, .slice (some ⟨b, 0, none⟩) rs[k].2.2.2.2.length rs[k].2.2.2.2.length]).heap[c]? = w.heap[c]? := by
    intro c hc
    rw [← e]
    rw [Below.heap_setCell _ _ _ _ (by dsimp only; omega), Below.heap_setCell _ _ _ _ (by dsimp only; omega), Below.heap_setCell _ _ _ _ (by dsimp only; omega), Below.heap_setCell _ _ _ _ (by dsimp only; omega), Below.heap_setCell _ _ _ _ (by dsimp only; omega)]
  have hsz : (w.setCells B (k * 5) [.int .i64 rs[k].1, .int .i64 rs[k].2.1, .int .i64 rs[k].2.2.1, .int .i64 rs[k].2.2.2.1, .slice (some ⟨b, 0, none⟩) rs[k].2.2.2.2.length rs[k].2.2.2.2.length]).heap.size = w.heap.size := by
    rw [← e]; simp
  rw [e]
  have hth : w.there B (k * 5) 5 := by
    intro j hj
    have := ht (k * 5 + j) (by omega)
    rwa [Nat.zero_add] at this
  have hr := World.rangeAt_setCells_same w B (k * 5) [.int .i64 rs[k].1, .int .i64 rs[k].2.1, .int .i64 rs[k].2.2.1, .int .i64 rs[k].2.2.2.1, .slice (some ⟨b, 0, none⟩) rs[k].2.2.2.2.length rs[k].2.2.2.2.length] hth
  refine ⟨?_, World.there_setCells ht _ _ _⟩
  intro j hj hjk
  by_cases ej : j = k
  · subst ej
    refine ⟨some ⟨b, 0, none⟩, rs[j].2.2.2.2.length, by simpa using hr 0 _ rfl, hr 1 _ rfl, hr 2 _ rfl, hr 3 _ rfl, hr 4 _ rfl, Nat.le_refl _, hm, (ho.of_block (hblk b (hN b hb)) (by omega)).pts, fun c off e => by cases e; exact hb⟩
  · obtain ⟨a, cap, h0, h1, h2, h3, h4, h5, h6, h7, h8⟩ := h j hj (by omega)
    have far : ∀ i, i < 5 → (w.setCells B (k * 5) [.int .i64 rs[k].1, .int .i64 rs[k].2.1, .int .i64 rs[k].2.2.1, .int .i64 rs[k].2.2.2.1, .slice (some ⟨b, 0, none⟩) rs[k].2.2.2.2.length rs[k].2.2.2.2.length]).cell? ⟨B, j * 5 + i, none⟩ = w.cell? ⟨B, j * 5 + i, none⟩ := by
      intro i hi
      exact World.cell?_setCells_out B _ (k * 5) w ⟨B, j * 5 + i, none⟩ (fun _ _ => by left; show j * 5 + i < k * 5; omega)
    refine ⟨a, cap, ?_, ?_, ?_, ?_, ?_, h5, h6, ?_, h8⟩
    · have := far 0 (by omega); simp only [Nat.add_zero] at this; rw [this]; exact h0
    · rw [far 1 (by omega)]; exact h1
    · rw [far 2 (by omega)]; exact h2
    · rw [far 3 (by omega)]; exact h3
    · rw [far 4 (by omega)]; exact h4
    · rcases h7 with h7 | ⟨c, off, ea, hc, hp⟩
      · exact .inl h7
      · refine .inr ⟨c, off, ea, by omega, fun i hi => ?_⟩
        have hcb := hblk c (hN c (h8 c off ea))
        have hcc : ∀ q, (w.setCells B (k * 5) [.int .i64 rs[k].1, .int .i64 rs[k].2.1, .int .i64 rs[k].2.2.1, .int .i64 rs[k].2.2.2.1, .slice (some ⟨b, 0, none⟩) rs[k].2.2.2.2.length rs[k].2.2.2.2.length]).cell? ⟨c, q, none⟩ = w.cell? ⟨c, q, none⟩ := fun q => by simp only [World.cell?, hcb]
        rw [hcc, hcc]
        exact hp i hi
end Go.Proofs.YtlaglagndffbhaaGreat
