import Derived.Test.YtjahlofahjgdbaaGreatFf
import Derived.Test.YtjahlofahjgdbaaGreatFj
set_option maxRecDepth 100000
set_option maxHeartbeats 16000000
set_option linter.unusedSimpArgs false
set_option linter.unusedVariables false
namespace Go.Proofs.YtjahlofahjgdbaaGreat
open Go.RowKit
def kbd (top:Bool) (fan ni nk:Nat) (b4:Bool) (same:Bool):Bool:=decide (4 < fan) || (!top && decide (fan < 2)) || (b4 && decide (0 < nk)) || (!b4 && (decide (0 < ni) || decide (fan < 2))) || !same
theorem knot_step (b0 b1 b2 b3 x0 x1 x2 x3:Int) (b4 top:Bool) (bi bk ni nk fan:Nat) (left res:Int) (w:World) (ls:List Bx) (ds:List Int) (hni:ni ≤ 1048576) (hnk:nk ≤ 1048576) (hl:0 ≤ left ∧ left ≤ 20) (hls:ls.length = ni) (hds:ds.length = nk) (HI:Hid (BxR w bi 5 1 ls)) (HDB:Hid (∀ k (hk:k < ds.length),-1 ≤ ds[k] ∧ ds[k] ≤ 50)) (HKD:Hid (∀ k (hk:k < ds.length),∃ (c0 c1 c2 c3:Int) (c4:Bool) (mi mk:Nat) (ja jk:Option Addr),(∀ W,Below w.heap.size w W → W.cell? ⟨bk,k * 7,none⟩ = some (.int .i64 c0) ∧ W.cell? ⟨bk,k * 7 + 1,none⟩ = some (.int .i64 c1) ∧ W.cell? ⟨bk,k * 7 + 2,none⟩ = some (.int .i64 c2) ∧ W.cell? ⟨bk,k * 7 + 3,none⟩ = some (.int .i64 c3) ∧ W.cell? ⟨bk,k * 7 + 4,none⟩ = some (.bool c4) ∧ W.cell? ⟨bk,k * 7 + 5,none⟩ = some (.slice ja mi mi) ∧ W.cell? ⟨bk,k * 7 + 6,none⟩ = some (.slice jk mk mk)) ∧ (left ≠ 0 → ∀ W,Below w.heap.size w W → Calls Tryz.prog 75 #[.agg #[.int .i64 c0,.int .i64 c1,.int .i64 c2,.int .i64 c3,.bool c4,.slice ja mi mi,.slice jk mk mk],.bool false,.int .i64 (left - 1)] W fun e w' => e = .returned (.int .i64 ds[k]) ∧ Below W.heap.size W w'))) (HRES:Hid (((decide (left = 0) || kbd top fan ni nk b4 (decide (b0 = x0 ∧ b1 = x1 ∧ b2 = x2 ∧ b3 = x3))) = true → res = -1) ∧ ((decide (left = 0) || kbd top fan ni nk b4 (decide (b0 = x0 ∧ b1 = x1 ∧ b2 = x2 ∧ b3 = x3))) = false → (ls.all bkb = false → res = -1) ∧ (ls.all bkb = true → res = kfd ds true 0)))) (C1:Hid (∀ W,Calls Tryz.prog 101 #[.agg #[.int .i64 b0,.int .i64 b1,.int .i64 b2,.int .i64 b3,.bool b4,.slice (some ⟨bi,0,none⟩) ni ni,.slice (some ⟨bk,0,none⟩) nk nk]] W fun e w' => e = .returned (.int .i64 fan) ∧ Below W.heap.size W w'))
  (CA:Hid (∀ W,Below w.heap.size w W → Calls Tryz.prog 77 #[.agg #[.int .i64 b0,.int .i64 b1,.int .i64 b2,.int .i64 b3,.bool b4,.slice (some ⟨bi,0,none⟩) ni ni,.slice (some ⟨bk,0,none⟩) nk nk]] W fun e w' => e = .returned (.agg #[.int .i64 x0,.int .i64 x1,.int .i64 x2,.int .i64 x3]) ∧ Below W.heap.size W w')):Calls Tryz.prog 75 #[.agg #[.int .i64 b0,.int .i64 b1,.int .i64 b2,.int .i64 b3,.bool b4,.slice (some ⟨bi,0,none⟩) ni ni,.slice (some ⟨bk,0,none⟩) nk nk],.bool top,.int .i64 left] w fun e w' => e = .returned (.int .i64 res) ∧ Below w.heap.size w w':=by
 go_enter Tryz.func75,Tryz.ntmps75
 go_wp2_with fail
 have gT:=hid (new_alloc w w.heap.size (.cells #[.int .i64 b0,.int .i64 b1,.int .i64 b2,.int .i64 b3,.bool b4,.slice (some ⟨bi,0,none⟩) ni ni,.slice (some ⟨bk,0,none⟩) nk nk] 35) rfl)
 have B0:=hid (balloc (Below.refl w.heap.size w) (.cells #[.int .i64 b0,.int .i64 b1,.int .i64 b2,.int .i64 b3,.bool b4,.slice (some ⟨bi,0,none⟩) ni ni,.slice (some ⟨bk,0,none⟩) nk nk] 35))
 generalize w.alloc (.cells #[.int .i64 b0,.int .i64 b1,.int .i64 b2,.int .i64 b3,.bool b4,.slice (some ⟨bi,0,none⟩) ni ni,.slice (some ⟨bk,0,none⟩) nk nk] 35) = v0 at *
 refine (C1.out _).mono ?_
 rintro e v1 ⟨rfl,hb⟩
 replace gT:=hid (keepheap hb gT.out)
 replace B0:=hid (btrans B0.out hb)
 clear hb C1
 obtain ⟨a0,a1,a2,a3,a4,a5,a6,_,_,_,_,_,_,_⟩:=cell7k gT.out
 go_upto_region 2 with fail
 go_cut [59] (fun t59 wx => t59 = .bool (decide (left = 0) || kbd top fan ni nk b4 (decide (b0 = x0 ∧ b1 = x1 ∧ b2 = x2 ∧ b3 = x3))) ∧ Below v1.heap.size v1 wx)
 case first =>
  clear gT HI HDB HKD HRES
  by_cases h0:left = 0
  ·subst h0
   go_quiet (fail)
   go_wp2_with fail
   go_meet
   exact ⟨by simp [kbd],⟨rfl,rfl,rfl,Nat.le_refl _,fun _ _ => rfl⟩⟩
  ·have z0:(left == 0) = false:=by rw [beq_eq_false_iff_ne];exact h0
   by_cases h1:4 < fan
   ·have c1:(4:Int) < (fan:Int):=by omega
    go_quiet (fail)
    go_wp2_with fail
    go_meet
    exact ⟨by simp [h0,kbd,h1],⟨rfl,rfl,rfl,Nat.le_refl _,fun _ _ => rfl⟩⟩
   ·have c1:¬ (4:Int) < (fan:Int):=by omega
    cases top
    ·by_cases h2:fan < 2
     ·have c2:(fan:Int) < 2:=by omega
      go_quiet (fail)
      go_wp2_with fail
      go_meet
      exact ⟨by simp [h0,kbd,h1,h2],⟨rfl,rfl,rfl,Nat.le_refl _,fun _ _ => rfl⟩⟩
     ·have c2:¬ (fan:Int) < 2:=by omega
      cases b4
      ·by_cases h3:0 < ni
       ·have c3:(0:Int) < (ni:Int):=by omega
        go_quiet (fail)
        go_wp2_with fail
        go_meet
        exact ⟨by simp [h0,kbd,h1,h2,h3],⟨rfl,rfl,rfl,Nat.le_refl _,fun _ _ => rfl⟩⟩
       ·obtain rfl:ni = 0:=by omega
        by_cases hx:b0 = x0 ∧ b1 = x1 ∧ b2 = x2 ∧ b3 = x3
        ·obtain ⟨rfl,rfl,rfl,rfl⟩:=hx
         refine wp_region_held_drew (S:=(fun w' => w'.cell? ⟨w.heap.size,0,none⟩ = some (.int .i64 b0) ∧ w'.cell? ⟨w.heap.size,1,none⟩ = some (.int .i64 b1) ∧ w'.cell? ⟨w.heap.size,2,none⟩ = some (.int .i64 b2) ∧ w'.cell? ⟨w.heap.size,3,none⟩ = some (.int .i64 b3) ∧ w'.cell? ⟨w.heap.size,4,none⟩ = some (.bool false) ∧ w'.cell? ⟨w.heap.size,5,none⟩ = some (.slice (some ⟨bi,0,none⟩) 0 0) ∧ w'.cell? ⟨w.heap.size,6,none⟩ = some (.slice (some ⟨bk,0,none⟩) nk nk))) (by kernel_rfl) ?_ (fun hHeld => ?_)
         ·(repeat' apply And.intro) <;> (first | with_reducible exact a0 | with_reducible exact a1 | with_reducible exact a2 | with_reducible exact a3 | with_reducible exact a4 | with_reducible exact a5 | with_reducible exact a6 | exact a0 | exact a1 | exact a2 | exact a3 | exact a4 | exact a5 | exact a6)
         have BX:=hid (bdrew (Below.refl v1.heap.size v1))
         replace a0:=keepcell BX.out a0
         replace a1:=keepcell BX.out a1
         replace a2:=keepcell BX.out a2
         replace a3:=keepcell BX.out a3
         replace a4:=keepcell BX.out a4
         replace a5:=keepcell BX.out a5
         replace a6:=keepcell BX.out a6
         generalize v1.drew = V1 at *
         refine tkR 0 hHeld ?_
         try simp only [sq]
         refine tkR 1 hHeld ?_
         try simp only [sq]
         refine tkR 2 hHeld ?_
         try simp only [sq]
         refine tkR 3 hHeld ?_
         try simp only [sq]
         refine tkR 4 hHeld ?_
         try simp only [sq]
         refine tkR 5 hHeld ?_
         try simp only [sq]
         refine tkR 6 hHeld ?_
         try simp only [sq]
         refine tkR 7 hHeld ?_
         try simp only [sq]
         refine tkR 8 hHeld ?_
         try simp only [sq]
         refine tkR 9 hHeld ?_
         try simp only [sq]
         refine tkR 10 hHeld ?_
         try simp only [sq]
         refine tkR 11 hHeld ?_
         try simp only [sq]
         refine tkR 12 hHeld ?_
         try simp only [sq]
         refine tkR 13 hHeld ?_
         try simp only [sq]
         refine tkR 14 hHeld ?_
         try simp only [sq]
         refine tkR 15 hHeld ?_
         try simp only [sq]
         refine tkR 16 hHeld ?_
         try simp only [sq]
         refine tkR 17 hHeld ?_
         try simp only [sq]
         refine wpAnyH_take (i:=18) (v:=undef) rfl (by kernel_rfl) (by kernel_rfl) (by kernel_rfl) (fun _ _ _ h => h) (Or.inr ⟨by rfl,rfl⟩) hHeld ?_
         try simp only [sq]
         refine wpAnyH_take (i:=19) (v:=undef) rfl (by kernel_rfl) (by kernel_rfl) (by kernel_rfl) (fun _ _ _ h => h) (Or.inr ⟨by rfl,rfl⟩) hHeld ?_
         try simp only [sq]
         refine wpAnyH_take (i:=20) (v:=undef) rfl (by kernel_rfl) (by kernel_rfl) (by kernel_rfl) (fun _ _ _ h => h) (Or.inr ⟨by rfl,rfl⟩) hHeld ?_
         try simp only [sq]
         refine wpAnyH_take (i:=21) (v:=undef) rfl (by kernel_rfl) (by kernel_rfl) (by kernel_rfl) (fun _ _ _ h => h) (Or.inr ⟨by rfl,rfl⟩) hHeld ?_
         try simp only [sq]
         refine tkR 22 hHeld ?_
         try simp only [sq]
         refine tkR 23 hHeld ?_
         try simp only [sq]
         refine tkR 24 hHeld ?_
         try simp only [sq]
         refine tkR 25 hHeld ?_
         try simp only [sq]
         refine tkR 26 hHeld ?_
         try simp only [sq]
         refine tkR 27 hHeld ?_
         try simp only [sq]
         refine tkR 28 hHeld ?_
         try simp only [sq]
         refine tkR 29 hHeld ?_
         try simp only [sq]
         refine tkR 30 hHeld ?_
         try simp only [sq]
         refine tkR 31 hHeld ?_
         try simp only [sq]
         refine tkR 32 hHeld ?_
         try simp only [sq]
         refine tkR 33 hHeld ?_
         try simp only [sq]
         refine tkR 34 hHeld ?_
         try simp only [sq]
         refine tkR 35 hHeld ?_
         try simp only [sq]
         refine tkR 36 hHeld ?_
         try simp only [sq]
         refine tkR 37 hHeld ?_
         try simp only [sq]
         refine tkR 38 hHeld ?_
         try simp only [sq]
         refine tkR 39 hHeld ?_
         try simp only [sq]
         refine tkR 40 hHeld ?_
         try simp only [sq]
         refine tkR 41 hHeld ?_
         try simp only [sq]
         refine tkR 42 hHeld ?_
         try simp only [sq]
         refine rd1 43 rfl (fun K hK => ?_)
         try simp only [sq]
         go_simp
         (first
           | (go_at_call 77;refine (CA.out _ (btrans B0.out BX.out)).mono ?_;rintro e y ⟨rfl,hb⟩;replace a0:=keepcell hb a0;replace a1:=keepcell hb a1;replace a2:=keepcell hb a2;replace a3:=keepcell hb a3;replace a4:=keepcell hb a4;replace a5:=keepcell hb a5;replace a6:=keepcell hb a6;replace BX:=hid (btrans BX.out hb);clear hb))
         go_wp2_with fail
         refine hK.out _ _ ?_ (fun hHeld => ?_)
         ·(repeat' apply And.intro) <;> (first | with_reducible exact a0 | with_reducible exact a1 | with_reducible exact a2 | with_reducible exact a3 | with_reducible exact a4 | with_reducible exact a5 | with_reducible exact a6 | exact a0 | exact a1 | exact a2 | exact a3 | exact a4 | exact a5 | exact a6)
         clear hK K
         try simp only [sq]
         refine tkR 44 hHeld ?_
         try simp only [sq]
         refine tkR 45 hHeld ?_
         try simp only [sq]
         refine wpAnyH_done (by kernel_rfl) ?_ _
         go_wp2_with fail
         go_meet
         exact ⟨by simp [h0,kbd,h1,h2],BX.out⟩
        ·have hxb:(decide (b0 = x0 ∧ b1 = x1 ∧ b2 = x2 ∧ b3 = x3)) = false:=decide_eq_false hx
         refine wp_region_held_drew (S:=(fun w' => w'.cell? ⟨w.heap.size,0,none⟩ = some (.int .i64 b0) ∧ w'.cell? ⟨w.heap.size,1,none⟩ = some (.int .i64 b1) ∧ w'.cell? ⟨w.heap.size,2,none⟩ = some (.int .i64 b2) ∧ w'.cell? ⟨w.heap.size,3,none⟩ = some (.int .i64 b3) ∧ w'.cell? ⟨w.heap.size,4,none⟩ = some (.bool false) ∧ w'.cell? ⟨w.heap.size,5,none⟩ = some (.slice (some ⟨bi,0,none⟩) 0 0) ∧ w'.cell? ⟨w.heap.size,6,none⟩ = some (.slice (some ⟨bk,0,none⟩) nk nk))) (by kernel_rfl) ?_ (fun hHeld => ?_)
         ·(repeat' apply And.intro) <;> (first | with_reducible exact a0 | with_reducible exact a1 | with_reducible exact a2 | with_reducible exact a3 | with_reducible exact a4 | with_reducible exact a5 | with_reducible exact a6 | exact a0 | exact a1 | exact a2 | exact a3 | exact a4 | exact a5 | exact a6)
         have BX:=hid (bdrew (Below.refl v1.heap.size v1))
         replace a0:=keepcell BX.out a0
         replace a1:=keepcell BX.out a1
         replace a2:=keepcell BX.out a2
         replace a3:=keepcell BX.out a3
         replace a4:=keepcell BX.out a4
         replace a5:=keepcell BX.out a5
         replace a6:=keepcell BX.out a6
         generalize v1.drew = V1 at *
         refine tkR 0 hHeld ?_
         try simp only [sq]
         refine tkR 1 hHeld ?_
         try simp only [sq]
         refine tkR 2 hHeld ?_
         try simp only [sq]
         refine tkR 3 hHeld ?_
         try simp only [sq]
         refine tkR 4 hHeld ?_
         try simp only [sq]
         refine tkR 5 hHeld ?_
         try simp only [sq]
         refine tkR 6 hHeld ?_
         try simp only [sq]
         refine tkR 7 hHeld ?_
         try simp only [sq]
         refine tkR 8 hHeld ?_
         try simp only [sq]
         refine tkR 9 hHeld ?_
         try simp only [sq]
         refine tkR 10 hHeld ?_
         try simp only [sq]
         refine tkR 11 hHeld ?_
         try simp only [sq]
         refine tkR 12 hHeld ?_
         try simp only [sq]
         refine tkR 13 hHeld ?_
         try simp only [sq]
         refine tkR 14 hHeld ?_
         try simp only [sq]
         refine tkR 15 hHeld ?_
         try simp only [sq]
         refine tkR 16 hHeld ?_
         try simp only [sq]
         refine tkR 17 hHeld ?_
         try simp only [sq]
         refine wpAnyH_take (i:=18) (v:=undef) rfl (by kernel_rfl) (by kernel_rfl) (by kernel_rfl) (fun _ _ _ h => h) (Or.inr ⟨by rfl,rfl⟩) hHeld ?_
         try simp only [sq]
         refine wpAnyH_take (i:=19) (v:=undef) rfl (by kernel_rfl) (by kernel_rfl) (by kernel_rfl) (fun _ _ _ h => h) (Or.inr ⟨by rfl,rfl⟩) hHeld ?_
         try simp only [sq]
         refine wpAnyH_take (i:=20) (v:=undef) rfl (by kernel_rfl) (by kernel_rfl) (by kernel_rfl) (fun _ _ _ h => h) (Or.inr ⟨by rfl,rfl⟩) hHeld ?_
         try simp only [sq]
         refine wpAnyH_take (i:=21) (v:=undef) rfl (by kernel_rfl) (by kernel_rfl) (by kernel_rfl) (fun _ _ _ h => h) (Or.inr ⟨by rfl,rfl⟩) hHeld ?_
         try simp only [sq]
         refine tkR 22 hHeld ?_
         try simp only [sq]
         refine tkR 23 hHeld ?_
         try simp only [sq]
         refine tkR 24 hHeld ?_
         try simp only [sq]
         refine tkR 25 hHeld ?_
         try simp only [sq]
         refine tkR 26 hHeld ?_
         try simp only [sq]
         refine tkR 27 hHeld ?_
         try simp only [sq]
         refine tkR 28 hHeld ?_
         try simp only [sq]
         refine tkR 29 hHeld ?_
         try simp only [sq]
         refine tkR 30 hHeld ?_
         try simp only [sq]
         refine tkR 31 hHeld ?_
         try simp only [sq]
         refine tkR 32 hHeld ?_
         try simp only [sq]
         refine tkR 33 hHeld ?_
         try simp only [sq]
         refine tkR 34 hHeld ?_
         try simp only [sq]
         refine tkR 35 hHeld ?_
         try simp only [sq]
         refine tkR 36 hHeld ?_
         try simp only [sq]
         refine tkR 37 hHeld ?_
         try simp only [sq]
         refine tkR 38 hHeld ?_
         try simp only [sq]
         refine tkR 39 hHeld ?_
         try simp only [sq]
         refine tkR 40 hHeld ?_
         try simp only [sq]
         refine tkR 41 hHeld ?_
         try simp only [sq]
         refine tkR 42 hHeld ?_
         try simp only [sq]
         refine rd1 43 rfl (fun K hK => ?_)
         try simp only [sq]
         go_simp
         (first
           | (go_at_call 77;refine (CA.out _ (btrans B0.out BX.out)).mono ?_;rintro e y ⟨rfl,hb⟩;replace a0:=keepcell hb a0;replace a1:=keepcell hb a1;replace a2:=keepcell hb a2;replace a3:=keepcell hb a3;replace a4:=keepcell hb a4;replace a5:=keepcell hb a5;replace a6:=keepcell hb a6;replace BX:=hid (btrans BX.out hb);clear hb))
         go_wp2_with fail
         refine hK.out _ _ ?_ (fun hHeld => ?_)
         ·(repeat' apply And.intro) <;> (first | with_reducible exact a0 | with_reducible exact a1 | with_reducible exact a2 | with_reducible exact a3 | with_reducible exact a4 | with_reducible exact a5 | with_reducible exact a6 | exact a0 | exact a1 | exact a2 | exact a3 | exact a4 | exact a5 | exact a6)
         clear hK K
         try simp only [sq]
         refine wpAnyH_take (i:=44) (v:=.bool true) rfl (by kernel_rfl) (by kernel_rfl) (by kernel_rfl) (fun _ _ _ h => h) (Or.inl ⟨by rfl,?_⟩) hHeld ?_
         ·intro w hSw;(try dsimp only at hSw);go_simp;(first | (intro e0 e1 e2 e3;exact hx ⟨e0,e1,e2,e3⟩) | ((repeat' split) <;> first | rfl | (exfalso;exact hx ⟨by assumption,by assumption,by assumption,by assumption⟩)))
         try simp only [sq]
         refine tkR 45 hHeld ?_
         try simp only [sq]
         refine wpAnyH_done (by kernel_rfl) ?_ _
         go_wp2_with fail
         go_meet
         exact ⟨by simp [h0,kbd,h1,h2,hxb],BX.out⟩
      ·by_cases h3:0 < nk
       ·have c3:(0:Int) < (nk:Int):=by omega
        go_quiet (fail)
        go_wp2_with fail
        go_meet
        exact ⟨by simp [h0,kbd,h1,h2,h3],⟨rfl,rfl,rfl,Nat.le_refl _,fun _ _ => rfl⟩⟩
       ·obtain rfl:nk = 0:=by omega
        by_cases hx:b0 = x0 ∧ b1 = x1 ∧ b2 = x2 ∧ b3 = x3
        ·obtain ⟨rfl,rfl,rfl,rfl⟩:=hx
         refine wp_region_held_drew (S:=(fun w' => w'.cell? ⟨w.heap.size,0,none⟩ = some (.int .i64 b0) ∧ w'.cell? ⟨w.heap.size,1,none⟩ = some (.int .i64 b1) ∧ w'.cell? ⟨w.heap.size,2,none⟩ = some (.int .i64 b2) ∧ w'.cell? ⟨w.heap.size,3,none⟩ = some (.int .i64 b3) ∧ w'.cell? ⟨w.heap.size,4,none⟩ = some (.bool true) ∧ w'.cell? ⟨w.heap.size,5,none⟩ = some (.slice (some ⟨bi,0,none⟩) ni ni) ∧ w'.cell? ⟨w.heap.size,6,none⟩ = some (.slice (some ⟨bk,0,none⟩) 0 0))) (by kernel_rfl) ?_ (fun hHeld => ?_)
         ·(repeat' apply And.intro) <;> (first | with_reducible exact a0 | with_reducible exact a1 | with_reducible exact a2 | with_reducible exact a3 | with_reducible exact a4 | with_reducible exact a5 | with_reducible exact a6 | exact a0 | exact a1 | exact a2 | exact a3 | exact a4 | exact a5 | exact a6)
         have BX:=hid (bdrew (Below.refl v1.heap.size v1))
         replace a0:=keepcell BX.out a0
         replace a1:=keepcell BX.out a1
         replace a2:=keepcell BX.out a2
         replace a3:=keepcell BX.out a3
         replace a4:=keepcell BX.out a4
         replace a5:=keepcell BX.out a5
         replace a6:=keepcell BX.out a6
         generalize v1.drew = V1 at *
         refine tkR 0 hHeld ?_
         try simp only [sq]
         refine tkR 1 hHeld ?_
         try simp only [sq]
         refine tkR 2 hHeld ?_
         try simp only [sq]
         refine tkR 3 hHeld ?_
         try simp only [sq]
         refine tkR 4 hHeld ?_
         try simp only [sq]
         refine tkR 5 hHeld ?_
         try simp only [sq]
         refine tkR 6 hHeld ?_
         try simp only [sq]
         refine tkR 7 hHeld ?_
         try simp only [sq]
         refine tkR 8 hHeld ?_
         try simp only [sq]
         refine tkR 9 hHeld ?_
         try simp only [sq]
         refine tkR 10 hHeld ?_
         try simp only [sq]
         refine tkR 11 hHeld ?_
         try simp only [sq]
         refine tkR 12 hHeld ?_
         try simp only [sq]
         refine tkR 13 hHeld ?_
         try simp only [sq]
         refine tkR 14 hHeld ?_
         try simp only [sq]
         refine tkR 15 hHeld ?_
         try simp only [sq]
         refine tkR 16 hHeld ?_
         try simp only [sq]
         refine tkR 17 hHeld ?_
         try simp only [sq]
         refine tkR 18 hHeld ?_
         try simp only [sq]
         refine tkR 19 hHeld ?_
         try simp only [sq]
         refine tkR 20 hHeld ?_
         try simp only [sq]
         refine tkR 21 hHeld ?_
         try simp only [sq]
         refine tkR 22 hHeld ?_
         try simp only [sq]
         refine tkR 23 hHeld ?_
         try simp only [sq]
         refine tkR 24 hHeld ?_
         try simp only [sq]
         refine tkR 25 hHeld ?_
         try simp only [sq]
         refine tkR 26 hHeld ?_
         try simp only [sq]
         refine tkR 27 hHeld ?_
         try simp only [sq]
         refine tkR 28 hHeld ?_
         try simp only [sq]
         refine wpAnyH_take (i:=29) (v:=undef) rfl (by kernel_rfl) (by kernel_rfl) (by kernel_rfl) (fun _ _ _ h => h) (Or.inr ⟨by rfl,rfl⟩) hHeld ?_
         try simp only [sq]
         refine wpAnyH_take (i:=30) (v:=undef) rfl (by kernel_rfl) (by kernel_rfl) (by kernel_rfl) (fun _ _ _ h => h) (Or.inr ⟨by rfl,rfl⟩) hHeld ?_
         try simp only [sq]
         refine wpAnyH_take (i:=31) (v:=undef) rfl (by kernel_rfl) (by kernel_rfl) (by kernel_rfl) (fun _ _ _ h => h) (Or.inr ⟨by rfl,rfl⟩) hHeld ?_
         try simp only [sq]
         refine wpAnyH_take (i:=32) (v:=undef) rfl (by kernel_rfl) (by kernel_rfl) (by kernel_rfl) (fun _ _ _ h => h) (Or.inr ⟨by rfl,rfl⟩) hHeld ?_
         try simp only [sq]
         refine wpAnyH_take (i:=33) (v:=undef) rfl (by kernel_rfl) (by kernel_rfl) (by kernel_rfl) (fun _ _ _ h => h) (Or.inr ⟨by rfl,rfl⟩) hHeld ?_
         try simp only [sq]
         refine wpAnyH_take (i:=34) (v:=undef) rfl (by kernel_rfl) (by kernel_rfl) (by kernel_rfl) (fun _ _ _ h => h) (Or.inr ⟨by rfl,rfl⟩) hHeld ?_
         try simp only [sq]
         refine wpAnyH_take (i:=35) (v:=undef) rfl (by kernel_rfl) (by kernel_rfl) (by kernel_rfl) (fun _ _ _ h => h) (Or.inr ⟨by rfl,rfl⟩) hHeld ?_
         try simp only [sq]
         refine wpAnyH_take (i:=36) (v:=undef) rfl (by kernel_rfl) (by kernel_rfl) (by kernel_rfl) (fun _ _ _ h => h) (Or.inr ⟨by rfl,rfl⟩) hHeld ?_
         try simp only [sq]
         refine tkR 37 hHeld ?_
         try simp only [sq]
         refine tkR 38 hHeld ?_
         try simp only [sq]
         refine tkR 39 hHeld ?_
         try simp only [sq]
         refine tkR 40 hHeld ?_
         try simp only [sq]
         refine tkR 41 hHeld ?_
         try simp only [sq]
         refine tkR 42 hHeld ?_
         try simp only [sq]
         refine rd1 43 rfl (fun K hK => ?_)
         try simp only [sq]
         go_simp
         (first
           | (go_at_call 77;refine (CA.out _ (btrans B0.out BX.out)).mono ?_;rintro e y ⟨rfl,hb⟩;replace a0:=keepcell hb a0;replace a1:=keepcell hb a1;replace a2:=keepcell hb a2;replace a3:=keepcell hb a3;replace a4:=keepcell hb a4;replace a5:=keepcell hb a5;replace a6:=keepcell hb a6;replace BX:=hid (btrans BX.out hb);clear hb))
         go_wp2_with fail
         refine hK.out _ _ ?_ (fun hHeld => ?_)
         ·(repeat' apply And.intro) <;> (first | with_reducible exact a0 | with_reducible exact a1 | with_reducible exact a2 | with_reducible exact a3 | with_reducible exact a4 | with_reducible exact a5 | with_reducible exact a6 | exact a0 | exact a1 | exact a2 | exact a3 | exact a4 | exact a5 | exact a6)
         clear hK K
         try simp only [sq]
         refine tkR 44 hHeld ?_
         try simp only [sq]
         refine tkR 45 hHeld ?_
         try simp only [sq]
         refine wpAnyH_done (by kernel_rfl) ?_ _
         go_wp2_with fail
         go_meet
         exact ⟨by simp [h0,kbd,h1,h2],BX.out⟩
        ·have hxb:(decide (b0 = x0 ∧ b1 = x1 ∧ b2 = x2 ∧ b3 = x3)) = false:=decide_eq_false hx
         refine wp_region_held_drew (S:=(fun w' => w'.cell? ⟨w.heap.size,0,none⟩ = some (.int .i64 b0) ∧ w'.cell? ⟨w.heap.size,1,none⟩ = some (.int .i64 b1) ∧ w'.cell? ⟨w.heap.size,2,none⟩ = some (.int .i64 b2) ∧ w'.cell? ⟨w.heap.size,3,none⟩ = some (.int .i64 b3) ∧ w'.cell? ⟨w.heap.size,4,none⟩ = some (.bool true) ∧ w'.cell? ⟨w.heap.size,5,none⟩ = some (.slice (some ⟨bi,0,none⟩) ni ni) ∧ w'.cell? ⟨w.heap.size,6,none⟩ = some (.slice (some ⟨bk,0,none⟩) 0 0))) (by kernel_rfl) ?_ (fun hHeld => ?_)
         ·(repeat' apply And.intro) <;> (first | with_reducible exact a0 | with_reducible exact a1 | with_reducible exact a2 | with_reducible exact a3 | with_reducible exact a4 | with_reducible exact a5 | with_reducible exact a6 | exact a0 | exact a1 | exact a2 | exact a3 | exact a4 | exact a5 | exact a6)
         have BX:=hid (bdrew (Below.refl v1.heap.size v1))
         replace a0:=keepcell BX.out a0
         replace a1:=keepcell BX.out a1
         replace a2:=keepcell BX.out a2
         replace a3:=keepcell BX.out a3
         replace a4:=keepcell BX.out a4
         replace a5:=keepcell BX.out a5
         replace a6:=keepcell BX.out a6
         generalize v1.drew = V1 at *
         refine tkR 0 hHeld ?_
         try simp only [sq]
         refine tkR 1 hHeld ?_
         try simp only [sq]
         refine tkR 2 hHeld ?_
         try simp only [sq]
         refine tkR 3 hHeld ?_
         try simp only [sq]
         refine tkR 4 hHeld ?_
         try simp only [sq]
         refine tkR 5 hHeld ?_
         try simp only [sq]
         refine tkR 6 hHeld ?_
         try simp only [sq]
         refine tkR 7 hHeld ?_
         try simp only [sq]
         refine tkR 8 hHeld ?_
         try simp only [sq]
         refine tkR 9 hHeld ?_
         try simp only [sq]
         refine tkR 10 hHeld ?_
         try simp only [sq]
         refine tkR 11 hHeld ?_
         try simp only [sq]
         refine tkR 12 hHeld ?_
         try simp only [sq]
         refine tkR 13 hHeld ?_
         try simp only [sq]
         refine tkR 14 hHeld ?_
         try simp only [sq]
         refine tkR 15 hHeld ?_
         try simp only [sq]
         refine tkR 16 hHeld ?_
         try simp only [sq]
         refine tkR 17 hHeld ?_
         try simp only [sq]
         refine tkR 18 hHeld ?_
         try simp only [sq]
         refine tkR 19 hHeld ?_
         try simp only [sq]
         refine tkR 20 hHeld ?_
         try simp only [sq]
         refine tkR 21 hHeld ?_
         try simp only [sq]
         refine tkR 22 hHeld ?_
         try simp only [sq]
         refine tkR 23 hHeld ?_
         try simp only [sq]
         refine tkR 24 hHeld ?_
         try simp only [sq]
         refine tkR 25 hHeld ?_
         try simp only [sq]
         refine tkR 26 hHeld ?_
         try simp only [sq]
         refine tkR 27 hHeld ?_
         try simp only [sq]
         refine tkR 28 hHeld ?_
         try simp only [sq]
         refine wpAnyH_take (i:=29) (v:=undef) rfl (by kernel_rfl) (by kernel_rfl) (by kernel_rfl) (fun _ _ _ h => h) (Or.inr ⟨by rfl,rfl⟩) hHeld ?_
         try simp only [sq]
         refine wpAnyH_take (i:=30) (v:=undef) rfl (by kernel_rfl) (by kernel_rfl) (by kernel_rfl) (fun _ _ _ h => h) (Or.inr ⟨by rfl,rfl⟩) hHeld ?_
         try simp only [sq]
         refine wpAnyH_take (i:=31) (v:=undef) rfl (by kernel_rfl) (by kernel_rfl) (by kernel_rfl) (fun _ _ _ h => h) (Or.inr ⟨by rfl,rfl⟩) hHeld ?_
         try simp only [sq]
         refine wpAnyH_take (i:=32) (v:=undef) rfl (by kernel_rfl) (by kernel_rfl) (by kernel_rfl) (fun _ _ _ h => h) (Or.inr ⟨by rfl,rfl⟩) hHeld ?_
         try simp only [sq]
         refine wpAnyH_take (i:=33) (v:=undef) rfl (by kernel_rfl) (by kernel_rfl) (by kernel_rfl) (fun _ _ _ h => h) (Or.inr ⟨by rfl,rfl⟩) hHeld ?_
         try simp only [sq]
         refine wpAnyH_take (i:=34) (v:=undef) rfl (by kernel_rfl) (by kernel_rfl) (by kernel_rfl) (fun _ _ _ h => h) (Or.inr ⟨by rfl,rfl⟩) hHeld ?_
         try simp only [sq]
         refine wpAnyH_take (i:=35) (v:=undef) rfl (by kernel_rfl) (by kernel_rfl) (by kernel_rfl) (fun _ _ _ h => h) (Or.inr ⟨by rfl,rfl⟩) hHeld ?_
         try simp only [sq]
         refine wpAnyH_take (i:=36) (v:=undef) rfl (by kernel_rfl) (by kernel_rfl) (by kernel_rfl) (fun _ _ _ h => h) (Or.inr ⟨by rfl,rfl⟩) hHeld ?_
         try simp only [sq]
         refine tkR 37 hHeld ?_
         try simp only [sq]
         refine tkR 38 hHeld ?_
         try simp only [sq]
         refine tkR 39 hHeld ?_
         try simp only [sq]
         refine tkR 40 hHeld ?_
         try simp only [sq]
         refine tkR 41 hHeld ?_
         try simp only [sq]
         refine tkR 42 hHeld ?_
         try simp only [sq]
         refine rd1 43 rfl (fun K hK => ?_)
         try simp only [sq]
         go_simp
         (first
           | (go_at_call 77;refine (CA.out _ (btrans B0.out BX.out)).mono ?_;rintro e y ⟨rfl,hb⟩;replace a0:=keepcell hb a0;replace a1:=keepcell hb a1;replace a2:=keepcell hb a2;replace a3:=keepcell hb a3;replace a4:=keepcell hb a4;replace a5:=keepcell hb a5;replace a6:=keepcell hb a6;replace BX:=hid (btrans BX.out hb);clear hb))
         go_wp2_with fail
         refine hK.out _ _ ?_ (fun hHeld => ?_)
         ·(repeat' apply And.intro) <;> (first | with_reducible exact a0 | with_reducible exact a1 | with_reducible exact a2 | with_reducible exact a3 | with_reducible exact a4 | with_reducible exact a5 | with_reducible exact a6 | exact a0 | exact a1 | exact a2 | exact a3 | exact a4 | exact a5 | exact a6)
         clear hK K
         try simp only [sq]
         refine wpAnyH_take (i:=44) (v:=.bool true) rfl (by kernel_rfl) (by kernel_rfl) (by kernel_rfl) (fun _ _ _ h => h) (Or.inl ⟨by rfl,?_⟩) hHeld ?_
         ·intro w hSw;(try dsimp only at hSw);go_simp;(first | (intro e0 e1 e2 e3;exact hx ⟨e0,e1,e2,e3⟩) | ((repeat' split) <;> first | rfl | (exfalso;exact hx ⟨by assumption,by assumption,by assumption,by assumption⟩)))
         try simp only [sq]
         refine tkR 45 hHeld ?_
         try simp only [sq]
         refine wpAnyH_done (by kernel_rfl) ?_ _
         go_wp2_with fail
         go_meet
         exact ⟨by simp [h0,kbd,h1,h2,hxb],BX.out⟩
    ·cases b4
     ·by_cases h3:0 < ni
      ·have c3:(0:Int) < (ni:Int):=by omega
       go_quiet (fail)
       go_wp2_with fail
       go_meet
       exact ⟨by simp [h0,kbd,h1,h3],⟨rfl,rfl,rfl,Nat.le_refl _,fun _ _ => rfl⟩⟩
      ·obtain rfl:ni = 0:=by omega
       by_cases h4:fan < 2
       ·have c4:(fan:Int) < 2:=by omega
        go_quiet (fail)
        go_wp2_with fail
        go_meet
        exact ⟨by simp [h0,kbd,h1,h4],⟨rfl,rfl,rfl,Nat.le_refl _,fun _ _ => rfl⟩⟩
       ·have c4:¬ (fan:Int) < 2:=by omega
        by_cases hx:b0 = x0 ∧ b1 = x1 ∧ b2 = x2 ∧ b3 = x3
        ·obtain ⟨rfl,rfl,rfl,rfl⟩:=hx
         refine wp_region_held_drew (S:=(fun w' => w'.cell? ⟨w.heap.size,0,none⟩ = some (.int .i64 b0) ∧ w'.cell? ⟨w.heap.size,1,none⟩ = some (.int .i64 b1) ∧ w'.cell? ⟨w.heap.size,2,none⟩ = some (.int .i64 b2) ∧ w'.cell? ⟨w.heap.size,3,none⟩ = some (.int .i64 b3) ∧ w'.cell? ⟨w.heap.size,4,none⟩ = some (.bool false) ∧ w'.cell? ⟨w.heap.size,5,none⟩ = some (.slice (some ⟨bi,0,none⟩) 0 0) ∧ w'.cell? ⟨w.heap.size,6,none⟩ = some (.slice (some ⟨bk,0,none⟩) nk nk))) (by kernel_rfl) ?_ (fun hHeld => ?_)
         ·(repeat' apply And.intro) <;> (first | with_reducible exact a0 | with_reducible exact a1 | with_reducible exact a2 | with_reducible exact a3 | with_reducible exact a4 | with_reducible exact a5 | with_reducible exact a6 | exact a0 | exact a1 | exact a2 | exact a3 | exact a4 | exact a5 | exact a6)
         have BX:=hid (bdrew (Below.refl v1.heap.size v1))
         replace a0:=keepcell BX.out a0
         replace a1:=keepcell BX.out a1
         replace a2:=keepcell BX.out a2
         replace a3:=keepcell BX.out a3
         replace a4:=keepcell BX.out a4
         replace a5:=keepcell BX.out a5
         replace a6:=keepcell BX.out a6
         generalize v1.drew = V1 at *
         refine tkR 0 hHeld ?_
         try simp only [sq]
         refine tkR 1 hHeld ?_
         try simp only [sq]
         refine tkR 2 hHeld ?_
         try simp only [sq]
         refine tkR 3 hHeld ?_
         try simp only [sq]
         refine tkR 4 hHeld ?_
         try simp only [sq]
         refine tkR 5 hHeld ?_
         try simp only [sq]
         refine tkR 6 hHeld ?_
         try simp only [sq]
         refine tkR 7 hHeld ?_
         try simp only [sq]
         refine tkR 8 hHeld ?_
         try simp only [sq]
         refine tkR 9 hHeld ?_
         try simp only [sq]
         refine wpAnyH_take (i:=10) (v:=undef) rfl (by kernel_rfl) (by kernel_rfl) (by kernel_rfl) (fun _ _ _ h => h) (Or.inr ⟨by rfl,rfl⟩) hHeld ?_
         try simp only [sq]
         refine wpAnyH_take (i:=11) (v:=undef) rfl (by kernel_rfl) (by kernel_rfl) (by kernel_rfl) (fun _ _ _ h => h) (Or.inr ⟨by rfl,rfl⟩) hHeld ?_
         try simp only [sq]
         refine tkR 12 hHeld ?_
         try simp only [sq]
         refine tkR 13 hHeld ?_
         try simp only [sq]
         refine tkR 14 hHeld ?_
         try simp only [sq]
         refine tkR 15 hHeld ?_
         try simp only [sq]
         refine tkR 16 hHeld ?_
         try simp only [sq]
         refine tkR 17 hHeld ?_
         try simp only [sq]
         refine wpAnyH_take (i:=18) (v:=undef) rfl (by kernel_rfl) (by kernel_rfl) (by kernel_rfl) (fun _ _ _ h => h) (Or.inr ⟨by rfl,rfl⟩) hHeld ?_
         try simp only [sq]
         refine wpAnyH_take (i:=19) (v:=undef) rfl (by kernel_rfl) (by kernel_rfl) (by kernel_rfl) (fun _ _ _ h => h) (Or.inr ⟨by rfl,rfl⟩) hHeld ?_
         try simp only [sq]
         refine wpAnyH_take (i:=20) (v:=undef) rfl (by kernel_rfl) (by kernel_rfl) (by kernel_rfl) (fun _ _ _ h => h) (Or.inr ⟨by rfl,rfl⟩) hHeld ?_
         try simp only [sq]
         refine wpAnyH_take (i:=21) (v:=undef) rfl (by kernel_rfl) (by kernel_rfl) (by kernel_rfl) (fun _ _ _ h => h) (Or.inr ⟨by rfl,rfl⟩) hHeld ?_
         try simp only [sq]
         refine tkR 22 hHeld ?_
         try simp only [sq]
         refine tkR 23 hHeld ?_
         try simp only [sq]
         refine tkR 24 hHeld ?_
         try simp only [sq]
         refine tkR 25 hHeld ?_
         try simp only [sq]
         refine tkR 26 hHeld ?_
         try simp only [sq]
         refine tkR 27 hHeld ?_
         try simp only [sq]
         refine tkR 28 hHeld ?_
         try simp only [sq]
         refine tkR 29 hHeld ?_
         try simp only [sq]
         refine tkR 30 hHeld ?_
         try simp only [sq]
         refine tkR 31 hHeld ?_
         try simp only [sq]
         refine tkR 32 hHeld ?_
         try simp only [sq]
         refine tkR 33 hHeld ?_
         try simp only [sq]
         refine tkR 34 hHeld ?_
         try simp only [sq]
         refine tkR 35 hHeld ?_
         try simp only [sq]
         refine tkR 36 hHeld ?_
         try simp only [sq]
         refine tkR 37 hHeld ?_
         try simp only [sq]
         refine tkR 38 hHeld ?_
         try simp only [sq]
         refine tkR 39 hHeld ?_
         try simp only [sq]
         refine tkR 40 hHeld ?_
         try simp only [sq]
         refine tkR 41 hHeld ?_
         try simp only [sq]
         refine tkR 42 hHeld ?_
         try simp only [sq]
         refine rd1 43 rfl (fun K hK => ?_)
         try simp only [sq]
         go_simp
         (first
           | (go_at_call 77;refine (CA.out _ (btrans B0.out BX.out)).mono ?_;rintro e y ⟨rfl,hb⟩;replace a0:=keepcell hb a0;replace a1:=keepcell hb a1;replace a2:=keepcell hb a2;replace a3:=keepcell hb a3;replace a4:=keepcell hb a4;replace a5:=keepcell hb a5;replace a6:=keepcell hb a6;replace BX:=hid (btrans BX.out hb);clear hb))
         go_wp2_with fail
         refine hK.out _ _ ?_ (fun hHeld => ?_)
         ·(repeat' apply And.intro) <;> (first | with_reducible exact a0 | with_reducible exact a1 | with_reducible exact a2 | with_reducible exact a3 | with_reducible exact a4 | with_reducible exact a5 | with_reducible exact a6 | exact a0 | exact a1 | exact a2 | exact a3 | exact a4 | exact a5 | exact a6)
         clear hK K
         try simp only [sq]
         refine tkR 44 hHeld ?_
         try simp only [sq]
         refine tkR 45 hHeld ?_
         try simp only [sq]
         refine wpAnyH_done (by kernel_rfl) ?_ _
         go_wp2_with fail
         go_meet
         exact ⟨by simp [h0,kbd,h1,h4],BX.out⟩
        ·have hxb:(decide (b0 = x0 ∧ b1 = x1 ∧ b2 = x2 ∧ b3 = x3)) = false:=decide_eq_false hx
         refine wp_region_held_drew (S:=(fun w' => w'.cell? ⟨w.heap.size,0,none⟩ = some (.int .i64 b0) ∧ w'.cell? ⟨w.heap.size,1,none⟩ = some (.int .i64 b1) ∧ w'.cell? ⟨w.heap.size,2,none⟩ = some (.int .i64 b2) ∧ w'.cell? ⟨w.heap.size,3,none⟩ = some (.int .i64 b3) ∧ w'.cell? ⟨w.heap.size,4,none⟩ = some (.bool false) ∧ w'.cell? ⟨w.heap.size,5,none⟩ = some (.slice (some ⟨bi,0,none⟩) 0 0) ∧ w'.cell? ⟨w.heap.size,6,none⟩ = some (.slice (some ⟨bk,0,none⟩) nk nk))) (by kernel_rfl) ?_ (fun hHeld => ?_)
         ·(repeat' apply And.intro) <;> (first | with_reducible exact a0 | with_reducible exact a1 | with_reducible exact a2 | with_reducible exact a3 | with_reducible exact a4 | with_reducible exact a5 | with_reducible exact a6 | exact a0 | exact a1 | exact a2 | exact a3 | exact a4 | exact a5 | exact a6)
         have BX:=hid (bdrew (Below.refl v1.heap.size v1))
         replace a0:=keepcell BX.out a0
         replace a1:=keepcell BX.out a1
         replace a2:=keepcell BX.out a2
         replace a3:=keepcell BX.out a3
         replace a4:=keepcell BX.out a4
         replace a5:=keepcell BX.out a5
         replace a6:=keepcell BX.out a6
         generalize v1.drew = V1 at *
         refine tkR 0 hHeld ?_
         try simp only [sq]
         refine tkR 1 hHeld ?_
         try simp only [sq]
         refine tkR 2 hHeld ?_
         try simp only [sq]
         refine tkR 3 hHeld ?_
         try simp only [sq]
         refine tkR 4 hHeld ?_
         try simp only [sq]
         refine tkR 5 hHeld ?_
         try simp only [sq]
         refine tkR 6 hHeld ?_
         try simp only [sq]
         refine tkR 7 hHeld ?_
         try simp only [sq]
         refine tkR 8 hHeld ?_
         try simp only [sq]
         refine tkR 9 hHeld ?_
         try simp only [sq]
         refine wpAnyH_take (i:=10) (v:=undef) rfl (by kernel_rfl) (by kernel_rfl) (by kernel_rfl) (fun _ _ _ h => h) (Or.inr ⟨by rfl,rfl⟩) hHeld ?_
         try simp only [sq]
         refine wpAnyH_take (i:=11) (v:=undef) rfl (by kernel_rfl) (by kernel_rfl) (by kernel_rfl) (fun _ _ _ h => h) (Or.inr ⟨by rfl,rfl⟩) hHeld ?_
         try simp only [sq]
         refine tkR 12 hHeld ?_
         try simp only [sq]
         refine tkR 13 hHeld ?_
         try simp only [sq]
         refine tkR 14 hHeld ?_
         try simp only [sq]
         refine tkR 15 hHeld ?_
         try simp only [sq]
         refine tkR 16 hHeld ?_
         try simp only [sq]
         refine tkR 17 hHeld ?_
         try simp only [sq]
         refine wpAnyH_take (i:=18) (v:=undef) rfl (by kernel_rfl) (by kernel_rfl) (by kernel_rfl) (fun _ _ _ h => h) (Or.inr ⟨by rfl,rfl⟩) hHeld ?_
         try simp only [sq]
         refine wpAnyH_take (i:=19) (v:=undef) rfl (by kernel_rfl) (by kernel_rfl) (by kernel_rfl) (fun _ _ _ h => h) (Or.inr ⟨by rfl,rfl⟩) hHeld ?_
         try simp only [sq]
         refine wpAnyH_take (i:=20) (v:=undef) rfl (by kernel_rfl) (by kernel_rfl) (by kernel_rfl) (fun _ _ _ h => h) (Or.inr ⟨by rfl,rfl⟩) hHeld ?_
         try simp only [sq]
         refine wpAnyH_take (i:=21) (v:=undef) rfl (by kernel_rfl) (by kernel_rfl) (by kernel_rfl) (fun _ _ _ h => h) (Or.inr ⟨by rfl,rfl⟩) hHeld ?_
         try simp only [sq]
         refine tkR 22 hHeld ?_
         try simp only [sq]
         refine tkR 23 hHeld ?_
         try simp only [sq]
         refine tkR 24 hHeld ?_
         try simp only [sq]
         refine tkR 25 hHeld ?_
         try simp only [sq]
         refine tkR 26 hHeld ?_
         try simp only [sq]
         refine tkR 27 hHeld ?_
         try simp only [sq]
         refine tkR 28 hHeld ?_
         try simp only [sq]
         refine tkR 29 hHeld ?_
         try simp only [sq]
         refine tkR 30 hHeld ?_
         try simp only [sq]
         refine tkR 31 hHeld ?_
         try simp only [sq]
         refine tkR 32 hHeld ?_
         try simp only [sq]
         refine tkR 33 hHeld ?_
         try simp only [sq]
         refine tkR 34 hHeld ?_
         try simp only [sq]
         refine tkR 35 hHeld ?_
         try simp only [sq]
         refine tkR 36 hHeld ?_
         try simp only [sq]
         refine tkR 37 hHeld ?_
         try simp only [sq]
         refine tkR 38 hHeld ?_
         try simp only [sq]
         refine tkR 39 hHeld ?_
         try simp only [sq]
         refine tkR 40 hHeld ?_
         try simp only [sq]
         refine tkR 41 hHeld ?_
         try simp only [sq]
         refine tkR 42 hHeld ?_
         try simp only [sq]
         refine rd1 43 rfl (fun K hK => ?_)
         try simp only [sq]
         go_simp
         (first
           | (go_at_call 77;refine (CA.out _ (btrans B0.out BX.out)).mono ?_;rintro e y ⟨rfl,hb⟩;replace a0:=keepcell hb a0;replace a1:=keepcell hb a1;replace a2:=keepcell hb a2;replace a3:=keepcell hb a3;replace a4:=keepcell hb a4;replace a5:=keepcell hb a5;replace a6:=keepcell hb a6;replace BX:=hid (btrans BX.out hb);clear hb))
         go_wp2_with fail
         refine hK.out _ _ ?_ (fun hHeld => ?_)
         ·(repeat' apply And.intro) <;> (first | with_reducible exact a0 | with_reducible exact a1 | with_reducible exact a2 | with_reducible exact a3 | with_reducible exact a4 | with_reducible exact a5 | with_reducible exact a6 | exact a0 | exact a1 | exact a2 | exact a3 | exact a4 | exact a5 | exact a6)
         clear hK K
         try simp only [sq]
         refine wpAnyH_take (i:=44) (v:=.bool true) rfl (by kernel_rfl) (by kernel_rfl) (by kernel_rfl) (fun _ _ _ h => h) (Or.inl ⟨by rfl,?_⟩) hHeld ?_
         ·intro w hSw;(try dsimp only at hSw);go_simp;(first | (intro e0 e1 e2 e3;exact hx ⟨e0,e1,e2,e3⟩) | ((repeat' split) <;> first | rfl | (exfalso;exact hx ⟨by assumption,by assumption,by assumption,by assumption⟩)))
         try simp only [sq]
         refine tkR 45 hHeld ?_
         try simp only [sq]
         refine wpAnyH_done (by kernel_rfl) ?_ _
         go_wp2_with fail
         go_meet
         exact ⟨by simp [h0,kbd,h1,h4,hxb],BX.out⟩
     ·by_cases h3:0 < nk
      ·have c3:(0:Int) < (nk:Int):=by omega
       go_quiet (fail)
       go_wp2_with fail
       go_meet
       exact ⟨by simp [h0,kbd,h1,h3],⟨rfl,rfl,rfl,Nat.le_refl _,fun _ _ => rfl⟩⟩
      ·obtain rfl:nk = 0:=by omega
       by_cases hx:b0 = x0 ∧ b1 = x1 ∧ b2 = x2 ∧ b3 = x3
       ·obtain ⟨rfl,rfl,rfl,rfl⟩:=hx
        refine wp_region_held_drew (S:=(fun w' => w'.cell? ⟨w.heap.size,0,none⟩ = some (.int .i64 b0) ∧ w'.cell? ⟨w.heap.size,1,none⟩ = some (.int .i64 b1) ∧ w'.cell? ⟨w.heap.size,2,none⟩ = some (.int .i64 b2) ∧ w'.cell? ⟨w.heap.size,3,none⟩ = some (.int .i64 b3) ∧ w'.cell? ⟨w.heap.size,4,none⟩ = some (.bool true) ∧ w'.cell? ⟨w.heap.size,5,none⟩ = some (.slice (some ⟨bi,0,none⟩) ni ni) ∧ w'.cell? ⟨w.heap.size,6,none⟩ = some (.slice (some ⟨bk,0,none⟩) 0 0))) (by kernel_rfl) ?_ (fun hHeld => ?_)
        ·(repeat' apply And.intro) <;> (first | with_reducible exact a0 | with_reducible exact a1 | with_reducible exact a2 | with_reducible exact a3 | with_reducible exact a4 | with_reducible exact a5 | with_reducible exact a6 | exact a0 | exact a1 | exact a2 | exact a3 | exact a4 | exact a5 | exact a6)
        have BX:=hid (bdrew (Below.refl v1.heap.size v1))
        replace a0:=keepcell BX.out a0
        replace a1:=keepcell BX.out a1
        replace a2:=keepcell BX.out a2
        replace a3:=keepcell BX.out a3
        replace a4:=keepcell BX.out a4
        replace a5:=keepcell BX.out a5
        replace a6:=keepcell BX.out a6
        generalize v1.drew = V1 at *
        refine tkR 0 hHeld ?_
        try simp only [sq]
        refine tkR 1 hHeld ?_
        try simp only [sq]
        refine tkR 2 hHeld ?_
        try simp only [sq]
        refine tkR 3 hHeld ?_
        try simp only [sq]
        refine tkR 4 hHeld ?_
        try simp only [sq]
        refine tkR 5 hHeld ?_
        try simp only [sq]
        refine tkR 6 hHeld ?_
        try simp only [sq]
        refine tkR 7 hHeld ?_
        try simp only [sq]
        refine tkR 8 hHeld ?_
        try simp only [sq]
        refine tkR 9 hHeld ?_
        try simp only [sq]
        refine wpAnyH_take (i:=10) (v:=undef) rfl (by kernel_rfl) (by kernel_rfl) (by kernel_rfl) (fun _ _ _ h => h) (Or.inr ⟨by rfl,rfl⟩) hHeld ?_
        try simp only [sq]
        refine wpAnyH_take (i:=11) (v:=undef) rfl (by kernel_rfl) (by kernel_rfl) (by kernel_rfl) (fun _ _ _ h => h) (Or.inr ⟨by rfl,rfl⟩) hHeld ?_
        try simp only [sq]
        refine tkR 12 hHeld ?_
        try simp only [sq]
        refine tkR 13 hHeld ?_
        try simp only [sq]
        refine tkR 14 hHeld ?_
        try simp only [sq]
        refine tkR 15 hHeld ?_
        try simp only [sq]
        refine tkR 16 hHeld ?_
        try simp only [sq]
        refine tkR 17 hHeld ?_
        try simp only [sq]
        refine tkR 18 hHeld ?_
        try simp only [sq]
        refine tkR 19 hHeld ?_
        try simp only [sq]
        refine tkR 20 hHeld ?_
        try simp only [sq]
        refine tkR 21 hHeld ?_
        try simp only [sq]
        refine tkR 22 hHeld ?_
        try simp only [sq]
        refine tkR 23 hHeld ?_
        try simp only [sq]
        refine tkR 24 hHeld ?_
        try simp only [sq]
        refine tkR 25 hHeld ?_
        try simp only [sq]
        refine tkR 26 hHeld ?_
        try simp only [sq]
        refine tkR 27 hHeld ?_
        try simp only [sq]
        refine tkR 28 hHeld ?_
        try simp only [sq]
        refine wpAnyH_take (i:=29) (v:=undef) rfl (by kernel_rfl) (by kernel_rfl) (by kernel_rfl) (fun _ _ _ h => h) (Or.inr ⟨by rfl,rfl⟩) hHeld ?_
        try simp only [sq]
        refine wpAnyH_take (i:=30) (v:=undef) rfl (by kernel_rfl) (by kernel_rfl) (by kernel_rfl) (fun _ _ _ h => h) (Or.inr ⟨by rfl,rfl⟩) hHeld ?_
        try simp only [sq]
        refine wpAnyH_take (i:=31) (v:=undef) rfl (by kernel_rfl) (by kernel_rfl) (by kernel_rfl) (fun _ _ _ h => h) (Or.inr ⟨by rfl,rfl⟩) hHeld ?_
        try simp only [sq]
        refine wpAnyH_take (i:=32) (v:=undef) rfl (by kernel_rfl) (by kernel_rfl) (by kernel_rfl) (fun _ _ _ h => h) (Or.inr ⟨by rfl,rfl⟩) hHeld ?_
        try simp only [sq]
        refine wpAnyH_take (i:=33) (v:=undef) rfl (by kernel_rfl) (by kernel_rfl) (by kernel_rfl) (fun _ _ _ h => h) (Or.inr ⟨by rfl,rfl⟩) hHeld ?_
        try simp only [sq]
        refine wpAnyH_take (i:=34) (v:=undef) rfl (by kernel_rfl) (by kernel_rfl) (by kernel_rfl) (fun _ _ _ h => h) (Or.inr ⟨by rfl,rfl⟩) hHeld ?_
        try simp only [sq]
        refine wpAnyH_take (i:=35) (v:=undef) rfl (by kernel_rfl) (by kernel_rfl) (by kernel_rfl) (fun _ _ _ h => h) (Or.inr ⟨by rfl,rfl⟩) hHeld ?_
        try simp only [sq]
        refine wpAnyH_take (i:=36) (v:=undef) rfl (by kernel_rfl) (by kernel_rfl) (by kernel_rfl) (fun _ _ _ h => h) (Or.inr ⟨by rfl,rfl⟩) hHeld ?_
        try simp only [sq]
        refine tkR 37 hHeld ?_
        try simp only [sq]
        refine tkR 38 hHeld ?_
        try simp only [sq]
        refine tkR 39 hHeld ?_
        try simp only [sq]
        refine tkR 40 hHeld ?_
        try simp only [sq]
        refine tkR 41 hHeld ?_
        try simp only [sq]
        refine tkR 42 hHeld ?_
        try simp only [sq]
        refine rd1 43 rfl (fun K hK => ?_)
        try simp only [sq]
        go_simp
        (first
          | (go_at_call 77;refine (CA.out _ (btrans B0.out BX.out)).mono ?_;rintro e y ⟨rfl,hb⟩;replace a0:=keepcell hb a0;replace a1:=keepcell hb a1;replace a2:=keepcell hb a2;replace a3:=keepcell hb a3;replace a4:=keepcell hb a4;replace a5:=keepcell hb a5;replace a6:=keepcell hb a6;replace BX:=hid (btrans BX.out hb);clear hb))
        go_wp2_with fail
        refine hK.out _ _ ?_ (fun hHeld => ?_)
        ·(repeat' apply And.intro) <;> (first | with_reducible exact a0 | with_reducible exact a1 | with_reducible exact a2 | with_reducible exact a3 | with_reducible exact a4 | with_reducible exact a5 | with_reducible exact a6 | exact a0 | exact a1 | exact a2 | exact a3 | exact a4 | exact a5 | exact a6)
        clear hK K
        try simp only [sq]
        refine tkR 44 hHeld ?_
        try simp only [sq]
        refine tkR 45 hHeld ?_
        try simp only [sq]
        refine wpAnyH_done (by kernel_rfl) ?_ _
        go_wp2_with fail
        go_meet
        exact ⟨by simp [h0,kbd,h1],BX.out⟩
       ·have hxb:(decide (b0 = x0 ∧ b1 = x1 ∧ b2 = x2 ∧ b3 = x3)) = false:=decide_eq_false hx
        refine wp_region_held_drew (S:=(fun w' => w'.cell? ⟨w.heap.size,0,none⟩ = some (.int .i64 b0) ∧ w'.cell? ⟨w.heap.size,1,none⟩ = some (.int .i64 b1) ∧ w'.cell? ⟨w.heap.size,2,none⟩ = some (.int .i64 b2) ∧ w'.cell? ⟨w.heap.size,3,none⟩ = some (.int .i64 b3) ∧ w'.cell? ⟨w.heap.size,4,none⟩ = some (.bool true) ∧ w'.cell? ⟨w.heap.size,5,none⟩ = some (.slice (some ⟨bi,0,none⟩) ni ni) ∧ w'.cell? ⟨w.heap.size,6,none⟩ = some (.slice (some ⟨bk,0,none⟩) 0 0))) (by kernel_rfl) ?_ (fun hHeld => ?_)
        ·(repeat' apply And.intro) <;> (first | with_reducible exact a0 | with_reducible exact a1 | with_reducible exact a2 | with_reducible exact a3 | with_reducible exact a4 | with_reducible exact a5 | with_reducible exact a6 | exact a0 | exact a1 | exact a2 | exact a3 | exact a4 | exact a5 | exact a6)
        have BX:=hid (bdrew (Below.refl v1.heap.size v1))
        replace a0:=keepcell BX.out a0
        replace a1:=keepcell BX.out a1
        replace a2:=keepcell BX.out a2
        replace a3:=keepcell BX.out a3
        replace a4:=keepcell BX.out a4
        replace a5:=keepcell BX.out a5
        replace a6:=keepcell BX.out a6
        generalize v1.drew = V1 at *
        refine tkR 0 hHeld ?_
        try simp only [sq]
        refine tkR 1 hHeld ?_
        try simp only [sq]
        refine tkR 2 hHeld ?_
        try simp only [sq]
        refine tkR 3 hHeld ?_
        try simp only [sq]
        refine tkR 4 hHeld ?_
        try simp only [sq]
        refine tkR 5 hHeld ?_
        try simp only [sq]
        refine tkR 6 hHeld ?_
        try simp only [sq]
        refine tkR 7 hHeld ?_
        try simp only [sq]
        refine tkR 8 hHeld ?_
        try simp only [sq]
        refine tkR 9 hHeld ?_
        try simp only [sq]
        refine wpAnyH_take (i:=10) (v:=undef) rfl (by kernel_rfl) (by kernel_rfl) (by kernel_rfl) (fun _ _ _ h => h) (Or.inr ⟨by rfl,rfl⟩) hHeld ?_
        try simp only [sq]
        refine wpAnyH_take (i:=11) (v:=undef) rfl (by kernel_rfl) (by kernel_rfl) (by kernel_rfl) (fun _ _ _ h => h) (Or.inr ⟨by rfl,rfl⟩) hHeld ?_
        try simp only [sq]
        refine tkR 12 hHeld ?_
        try simp only [sq]
        refine tkR 13 hHeld ?_
        try simp only [sq]
        refine tkR 14 hHeld ?_
        try simp only [sq]
        refine tkR 15 hHeld ?_
        try simp only [sq]
        refine tkR 16 hHeld ?_
        try simp only [sq]
        refine tkR 17 hHeld ?_
        try simp only [sq]
        refine tkR 18 hHeld ?_
        try simp only [sq]
        refine tkR 19 hHeld ?_
        try simp only [sq]
        refine tkR 20 hHeld ?_
        try simp only [sq]
        refine tkR 21 hHeld ?_
        try simp only [sq]
        refine tkR 22 hHeld ?_
        try simp only [sq]
        refine tkR 23 hHeld ?_
        try simp only [sq]
        refine tkR 24 hHeld ?_
        try simp only [sq]
        refine tkR 25 hHeld ?_
        try simp only [sq]
        refine tkR 26 hHeld ?_
        try simp only [sq]
        refine tkR 27 hHeld ?_
        try simp only [sq]
        refine tkR 28 hHeld ?_
        try simp only [sq]
        refine wpAnyH_take (i:=29) (v:=undef) rfl (by kernel_rfl) (by kernel_rfl) (by kernel_rfl) (fun _ _ _ h => h) (Or.inr ⟨by rfl,rfl⟩) hHeld ?_
        try simp only [sq]
        refine wpAnyH_take (i:=30) (v:=undef) rfl (by kernel_rfl) (by kernel_rfl) (by kernel_rfl) (fun _ _ _ h => h) (Or.inr ⟨by rfl,rfl⟩) hHeld ?_
        try simp only [sq]
        refine wpAnyH_take (i:=31) (v:=undef) rfl (by kernel_rfl) (by kernel_rfl) (by kernel_rfl) (fun _ _ _ h => h) (Or.inr ⟨by rfl,rfl⟩) hHeld ?_
        try simp only [sq]
        refine wpAnyH_take (i:=32) (v:=undef) rfl (by kernel_rfl) (by kernel_rfl) (by kernel_rfl) (fun _ _ _ h => h) (Or.inr ⟨by rfl,rfl⟩) hHeld ?_
        try simp only [sq]
        refine wpAnyH_take (i:=33) (v:=undef) rfl (by kernel_rfl) (by kernel_rfl) (by kernel_rfl) (fun _ _ _ h => h) (Or.inr ⟨by rfl,rfl⟩) hHeld ?_
        try simp only [sq]
        refine wpAnyH_take (i:=34) (v:=undef) rfl (by kernel_rfl) (by kernel_rfl) (by kernel_rfl) (fun _ _ _ h => h) (Or.inr ⟨by rfl,rfl⟩) hHeld ?_
        try simp only [sq]
        refine wpAnyH_take (i:=35) (v:=undef) rfl (by kernel_rfl) (by kernel_rfl) (by kernel_rfl) (fun _ _ _ h => h) (Or.inr ⟨by rfl,rfl⟩) hHeld ?_
        try simp only [sq]
        refine wpAnyH_take (i:=36) (v:=undef) rfl (by kernel_rfl) (by kernel_rfl) (by kernel_rfl) (fun _ _ _ h => h) (Or.inr ⟨by rfl,rfl⟩) hHeld ?_
        try simp only [sq]
        refine tkR 37 hHeld ?_
        try simp only [sq]
        refine tkR 38 hHeld ?_
        try simp only [sq]
        refine tkR 39 hHeld ?_
        try simp only [sq]
        refine tkR 40 hHeld ?_
        try simp only [sq]
        refine tkR 41 hHeld ?_
        try simp only [sq]
        refine tkR 42 hHeld ?_
        try simp only [sq]
        refine rd1 43 rfl (fun K hK => ?_)
        try simp only [sq]
        go_simp
        (first
          | (go_at_call 77;refine (CA.out _ (btrans B0.out BX.out)).mono ?_;rintro e y ⟨rfl,hb⟩;replace a0:=keepcell hb a0;replace a1:=keepcell hb a1;replace a2:=keepcell hb a2;replace a3:=keepcell hb a3;replace a4:=keepcell hb a4;replace a5:=keepcell hb a5;replace a6:=keepcell hb a6;replace BX:=hid (btrans BX.out hb);clear hb))
        go_wp2_with fail
        refine hK.out _ _ ?_ (fun hHeld => ?_)
        ·(repeat' apply And.intro) <;> (first | with_reducible exact a0 | with_reducible exact a1 | with_reducible exact a2 | with_reducible exact a3 | with_reducible exact a4 | with_reducible exact a5 | with_reducible exact a6 | exact a0 | exact a1 | exact a2 | exact a3 | exact a4 | exact a5 | exact a6)
        clear hK K
        try simp only [sq]
        refine wpAnyH_take (i:=44) (v:=.bool true) rfl (by kernel_rfl) (by kernel_rfl) (by kernel_rfl) (fun _ _ _ h => h) (Or.inl ⟨by rfl,?_⟩) hHeld ?_
        ·intro w hSw;(try dsimp only at hSw);go_simp;(first | (intro e0 e1 e2 e3;exact hx ⟨e0,e1,e2,e3⟩) | ((repeat' split) <;> first | rfl | (exfalso;exact hx ⟨by assumption,by assumption,by assumption,by assumption⟩)))
        try simp only [sq]
        refine tkR 45 hHeld ?_
        try simp only [sq]
        refine wpAnyH_done (by kernel_rfl) ?_ _
        go_wp2_with fail
        go_meet
        exact ⟨by simp [h0,kbd,h1,hxb],BX.out⟩
 case rest =>
  obtain ⟨rfl,hb⟩:=hcut
  replace gT:=hid (keepheap hb gT.out)
  replace B0:=hid (btrans B0.out hb)
  clear hb CA a0 a1 a2 a3 a4 a5 a6
  obtain ⟨a0,a1,a2,a3,a4,a5,a6,_,_,_,_,_,_,_⟩:=cell7k gT.out
  generalize hbad:(decide (left = 0) || kbd top fan ni nk b4 (decide (b0 = x0 ∧ b1 = x1 ∧ b2 = x2 ∧ b3 = x3))) = bad
  cases bad
  rotate_left
  ·have HR:=hid (HRES.out.1 hbad)
   clear hbad
   go_wp2_with fail
   go_ret
   rw [HR.out]
   exact ⟨rfl,B0.out⟩
  have HR:=hid (HRES.out.2 hbad)
  have hl0:left ≠ 0:=by
   intro e
   rw [e] at hbad
   simp at hbad
  have hlw:IntKind.i64.wrap (left - 1) = left - 1:=by rw [IntKind.wrap_i64];omega
  clear hbad HRES
  go_wp2_with fail
  go_loopw [8] (fun ti wr => ∃ k:Nat,ti = .int .i64 k ∧ k ≤ ni ∧ Hid (∀ j (hj:j < ls.length),j < k → bkb ls[j] = true) ∧ wr.heap[w.heap.size]? = some (.cells #[.int .i64 b0,.int .i64 b1,.int .i64 b2,.int .i64 b3,.bool b4,.slice (some ⟨bi,0,none⟩) ni ni,.slice (some ⟨bk,0,none⟩) nk nk] 35 (0,0)) ∧ Hid (Below w.heap.size w wr)) (fun ti _ => ni - (intOf ti).toNat)
  case atStart => exact ⟨0,rfl,Nat.zero_le _,hid (fun j hj h => by omega),gT.out,B0⟩
  case round =>
   clear gT B0 a0 a1 a2 a3 a4 a5 a6
   obtain ⟨k,rfl,hk,HK,hgT,B0⟩:=hrel
   have gT:=hid hgT
   clear hgT
   obtain ⟨a0,a1,a2,a3,a4,a5,a6,_,_,_,_,_,_,_⟩:=cell7k gT.out
   by_cases hlt:k < ni
   ·have hk1:(k:Int) < (ni:Int):=by omega
    have hk0:(0:Int) ≤ (k:Int):=by omega
    have hkl:k < ls.length:=by omega
    obtain ⟨c0,c1,c2,c3⟩:=(HI.out.below B0.out).2 k hkl
    have C:=hid (spec_boxok ls[k].1 ls[k].2.1 ls[k].2.2.1 ls[k].2.2.2)
    have HY:=hid (fun (e:bkb ls[k] = true) j (hj:j < ls.length) (hjk:j < k + 1) => show bkb ls[j] = true by
     by_cases ej:j = k
     ·subst ej;exact e
     ·exact HK.out j hj (by omega))
    have HNo:=hid (fun (e:bkb ls[k] = false) => show ls.all bkb = false by
     rw [List.all_eq_false]
     exact ⟨ls[k],List.getElem_mem hkl,by rw [e];simp⟩)
    change Hid (∀ W,Calls _ _ _ W (fun e w' => e = .returned (.bool (bkb ls[k])) ∧ Below W.heap.size W w')) at C
    generalize bkb ls[k] = ok at *
    generalize ls[k].1 = y0 at *
    generalize ls[k].2.1 = y1 at *
    generalize ls[k].2.2.1 = y2 at *
    generalize ls[k].2.2.2 = y3 at *
    go_wp2_with fail
    refine (C.out _).mono ?_
    rintro e w1 ⟨rfl,hb⟩
    have gT1:=hid (keepheap hb gT.out)
    have B1:=hid (btrans B0.out hb)
    clear hb gT B0 a0 a1 a2 a3 a4 a5 a6 HK
    cases ok
    ·have HF:=hid (HR.out.1 (HNo.out rfl))
     clear HNo HY
     go_wp2_with fail
     go_ret
     rw [HF.out]
     exact ⟨rfl,B1.out⟩
    ·have HY2:=hid (HY.out rfl)
     clear HNo HY
     go_wp2_with fail
     go_roundw
     case rel => exact ⟨k + 1,by go_num,by omega,HY2,gT1.out,B1⟩
     case measure => simp [intOf];omega
   ·have hk1:¬ (k:Int) < (ni:Int):=by omega
    have hall:ls.all bkb = true:=by
     rw [List.all_eq_true]
     intro x hx
     obtain ⟨j,hj,rfl⟩:=List.getElem_of_mem hx
     exact HK.out j hj (by omega)
    have HF:=hid (HR.out.2 hall)
    clear hall HR HK
    go_wp2_with fail
    go_loopw [9,10,11] (fun td ti _ wr => ∃ (i:Nat) (deep:Int),ti = .int .i64 i ∧ td = .int .i64 deep ∧ i ≤ nk ∧ (0 ≤ deep ∧ deep ≤ 100) ∧ Hid (res = kfd (ds.drop i) (i == 0) deep) ∧ wr.heap[w.heap.size]? = some (.cells #[.int .i64 b0,.int .i64 b1,.int .i64 b2,.int .i64 b3,.bool b4,.slice (some ⟨bi,0,none⟩) ni ni,.slice (some ⟨bk,0,none⟩) nk nk] 35 (0,0)) ∧ Hid (Below w.heap.size w wr)) (fun _ ti _ _ => nk - (intOf ti).toNat)
    case atStart => exact ⟨0,0,rfl,rfl,Nat.zero_le _,by omega,HF,gT.out,B0⟩
    case round =>
     clear gT B0 a0 a1 a2 a3 a4 a5 a6 HF
     obtain ⟨i,deep,rfl,rfl,hi,hdp,HF,hgT,B0⟩:=hrel
     have gT:=hid hgT
     clear hgT
     obtain ⟨a0,a1,a2,a3,a4,a5,a6,_,_,_,_,_,_,_⟩:=cell7k gT.out
     by_cases hlt:i < nk
     ·have hi1:(i:Int) < (nk:Int):=by omega
      have hi0:(0:Int) ≤ (i:Int):=by omega
      have hil:i < ds.length:=by omega
      obtain ⟨c0,c1,c2,c3,c4,mi,mk,ja,jk,hcs,hcall⟩:=HKD.out i hil
      obtain ⟨z0,z1,z2,z3,z4,z5,z6⟩:=hcs _ B0.out
      have C:=hid (hcall hl0 _ B0.out)
      have hdb:=HDB.out i hil
      have HF2:Hid (res = if ds[i] < 0 ∨ ((i == 0) = false ∧ ds[i] ≠ deep) then -1 else kfd (ds.drop (i + 1)) false ds[i]):=hid (by
       have:=HF.out
       rw [List.drop_eq_getElem_cons hil] at this
       exact this)
      generalize ds[i] = d at *
      clear hcs hcall HF
      go_wp2_with fail
      refine C.out.mono ?_
      rintro e w1 ⟨rfl,hb⟩
      have gT1:=hid (keepheap hb gT.out)
      have B1:=hid (btrans B0.out hb)
      clear hb gT B0 a0 a1 a2 a3 a4 a5 a6 z0 z1 z2 z3 z4 z5 z6 C
      by_cases hd:d < 0
      ·have HQ:=hid (HF2.out.trans (if_pos (.inl hd)))
       clear HF2
       go_wp2_with fail
       go_ret
       rw [HQ.out]
       exact ⟨rfl,B1.out⟩
      ·by_cases hz:i = 0
       ·have HQ:Hid (res = kfd (ds.drop (i + 1)) false d):=hid (HF2.out.trans (if_neg (by rw [hz];simp;omega)))
        have hz1:¬ (0:Int) < (i:Int):=by omega
        have HZ:=hid hz
        clear HF2 hz
        go_wp2_with fail
        go_roundw
        case rel => exact ⟨i + 1,d,by go_num,rfl,by omega,by omega,hid (by rw [HQ.out];rfl),gT1.out,B1⟩
        case measure => simp [intOf];omega
       ·have hz1:(0:Int) < (i:Int):=by omega
        by_cases hne:d = deep
        ·have HQ:Hid (res = kfd (ds.drop (i + 1)) false d):=hid (HF2.out.trans (if_neg (by intro h;rcases h with h | h;exact hd h;exact h.2 hne)))
         subst hne
         clear HF2
         go_wp2_with fail
         go_roundw
         case rel => exact ⟨i + 1,d,by go_num,rfl,by omega,by omega,hid (by rw [HQ.out];rfl),gT1.out,B1⟩
         case measure => simp [intOf];omega
        ·have HQ:=hid (HF2.out.trans (if_pos (.inr ⟨by simp [hz],hne⟩)))
         have hnb:(d == deep) = false:=by rw [beq_eq_false_iff_ne];exact hne
         have hnb2:(d != deep) = true:=by rw [bne,hnb];rfl
         clear HF2
         go_wp2_with fail
         go_ret
         rw [HQ.out]
         exact ⟨rfl,B1.out⟩
     ·have hi1:¬ (i:Int) < (nk:Int):=by omega
      have HQ:Hid (res = deep + 1):=hid (by
       have:=HF.out
       rw [List.drop_eq_nil_of_le (by omega)] at this
       exact this)
      have hw:IntKind.i64.wrap (deep + 1) = deep + 1:=by rw [IntKind.wrap_i64];omega
      clear HF
      go_wp2_with fail
      go_ret
      rw [HQ.out]
      exact ⟨rfl,B0.out⟩
end Go.Proofs.YtjahlofahjgdbaaGreat
