import Derived.Test.YtjahlofahjgdbaaGreatFf
import Derived.Test.YtjahlofahjgdbaaGreatJ7
set_option maxRecDepth 100000
set_option maxHeartbeats 8000000
set_option linter.unusedSimpArgs false
set_option linter.unusedVariables false
namespace Go.Proofs.YtjahlofahjgdbaaGreat
open Go.RowKit
def BxO (w:World) (a:Option Addr) (m f:Nat) (bs:List Bx):Prop:=bs = [] ∨ ∃ b,a = some ⟨b,0,none⟩ ∧ BxR w b m f bs
theorem row_bxI {w:World} {lo n c:Nat} {a:Option Addr} {l:List It} (h:w.ownsRow lo 40 5 (.slice a n c) n (flI l)) (hn:l.length = n):BxO w a 5 1 (l.map (·.2)):=by
 by_cases h0:0 < n
 ·obtain ⟨g,e,hg,hc⟩:=row_cs h h0
  refine .inr ⟨g,e,hg,fun j hj => ?_⟩
  have hj':j < l.length:=by simpa using hj
  have e1:(l.map (·.2))[j] = l[j].2:=List.getElem_map _
  obtain ⟨_,h1,h2,h3,h4⟩:=(cell_flI l 0 hc j hj').item
  rw [e1]
  rw [Nat.zero_add] at h1 h2 h3 h4
  exact ⟨h1,h2,h3,h4⟩
 ·exact .inl (by rw [List.map_eq_nil_iff];exact List.length_eq_zero_iff.1 (by omega))
theorem row_bxK {w:World} {lo n c:Nat} {a:Option Addr} {ps:List KP} (h:w.ownsRow lo 35 7 (.slice a n c) n (flK ps)) (hn:ps.length = n):BxO w a 7 0 (ps.map (·.1.box)):=by
 by_cases h0:0 < n
 ·obtain ⟨g,e,hg,hc⟩:=row_cs h h0
  refine .inr ⟨g,e,hg,fun j hj => ?_⟩
  have hj':j < ps.length:=by simpa using hj
  have e1:(ps.map (·.1.box))[j] = ps[j].1.box:=List.getElem_map _
  obtain ⟨h1,h2,h3,h4,_⟩:=(show Cs w g (0 + j * 7) (ck ps[j].1 _ _ _ _) from flK_cell ps 0 hc j hj').knot
  rw [e1]
  rw [Nat.zero_add] at h1 h2 h3 h4
  exact ⟨h1,h2,h3,h4⟩
 ·exact .inl (by rw [List.map_eq_nil_iff];exact List.length_eq_zero_iff.1 (by omega))
theorem spec_aroundO (b0 b1 b2 b3:Int) (b4:Bool) (ia ka:Option Addr) (ni nk ic kc:Nat) (ls ks:List Bx) (w:World) (hni:ls.length = ni) (hnk:ks.length = nk) (h1:ni ≤ 1048576) (h2:nk ≤ 1048576) (hI:BxO w ia 5 1 ls) (hK:BxO w ka 7 0 ks) (xx:Bx) (hx:(if ks.isEmpty then jns ls else jns ks) = xx):Calls Tryz.prog 77 #[.agg #[.int .i64 b0,.int .i64 b1,.int .i64 b2,.int .i64 b3,.bool b4,.slice ia ni ic,.slice ka nk kc]] w fun e w' => e = .returned (.agg #[.int .i64 xx.1,.int .i64 xx.2.1,.int .i64 xx.2.2.1,.int .i64 xx.2.2.2]) ∧ Below w.heap.size w w':=by
 have HI:=hid hI
 have HK:=hid hK
 have HX:=hid hx
 clear hI hK hx
 go_enter Tryz.func77,Tryz.ntmps77
 go_wp2_with fail
 have gT:=hid (old_alloc (o':=.cells #[.int .i64 0,.int .i64 0,.int .i64 0,.int .i64 0] 31) (old_alloc (o':=.cells #[.int .i64 0,.int .i64 0,.int .i64 0,.int .i64 0] 31) (new_alloc w w.heap.size (.cells #[.int .i64 b0,.int .i64 b1,.int .i64 b2,.int .i64 b3,.bool b4,.slice ia ni ic,.slice ka nk kc] 35) rfl)))
 have gR:=hid (old_alloc (o':=.cells #[.int .i64 0,.int .i64 0,.int .i64 0,.int .i64 0] 31) (new_alloc (w.alloc (.cells #[.int .i64 b0,.int .i64 b1,.int .i64 b2,.int .i64 b3,.bool b4,.slice ia ni ic,.slice ka nk kc] 35)) (w.heap.size + 1) (.cells #[.int .i64 0,.int .i64 0,.int .i64 0,.int .i64 0] 31) (by simp)))
 have gO:=hid (new_alloc ((w.alloc (.cells #[.int .i64 b0,.int .i64 b1,.int .i64 b2,.int .i64 b3,.bool b4,.slice ia ni ic,.slice ka nk kc] 35)).alloc (.cells #[.int .i64 0,.int .i64 0,.int .i64 0,.int .i64 0] 31)) (w.heap.size + 2) (.cells #[.int .i64 0,.int .i64 0,.int .i64 0,.int .i64 0] 31) (by simp))
 have B0:=hid (balloc (balloc (balloc (Below.refl w.heap.size w) (.cells #[.int .i64 b0,.int .i64 b1,.int .i64 b2,.int .i64 b3,.bool b4,.slice ia ni ic,.slice ka nk kc] 35)) (.cells #[.int .i64 0,.int .i64 0,.int .i64 0,.int .i64 0] 31)) (.cells #[.int .i64 0,.int .i64 0,.int .i64 0,.int .i64 0] 31))
 generalize ((w.alloc (.cells #[.int .i64 b0,.int .i64 b1,.int .i64 b2,.int .i64 b3,.bool b4,.slice ia ni ic,.slice ka nk kc] 35)).alloc (.cells #[.int .i64 0,.int .i64 0,.int .i64 0,.int .i64 0] 31)).alloc (.cells #[.int .i64 0,.int .i64 0,.int .i64 0,.int .i64 0] 31) = v0 at *
 go_loopw [4] (fun ti wr => ∃ k:Nat,ti = .int .i64 k ∧ k ≤ ni ∧ wr.heap[w.heap.size]? = some (.cells #[.int .i64 b0,.int .i64 b1,.int .i64 b2,.int .i64 b3,.bool b4,.slice ia ni ic,.slice ka nk kc] 35 (0,0)) ∧ wr.heap[w.heap.size + 1]? = some (.cells #[.int .i64 0,.int .i64 0,.int .i64 0,.int .i64 0] 31 (0,0)) ∧ wr.heap[w.heap.size + 2]? = some (.cells #[.int .i64 (if k = 0 then ((0,0,0,0):Bx) else jns (ls.take k)).1,.int .i64 (if k = 0 then ((0,0,0,0):Bx) else jns (ls.take k)).2.1,.int .i64 (if k = 0 then ((0,0,0,0):Bx) else jns (ls.take k)).2.2.1,.int .i64 (if k = 0 then ((0,0,0,0):Bx) else jns (ls.take k)).2.2.2] 31 (0,0)) ∧ Below w.heap.size w wr) (fun ti _ => ni - (intOf ti).toNat)
 case atStart => exact ⟨0,rfl,Nat.zero_le _,gT.out,gR.out,gO.out,B0.out⟩
 case round =>
  clear gT gR gO B0
  obtain ⟨k,rfl,hk,gT',gR',gO',B0'⟩:=hrel
  have gT:=hid gT'
  have gR:=hid gR'
  have gO:=hid gO'
  have B0:=hid B0'
  clear gT' gR' gO' B0'
  obtain ⟨a0,a1,a2,a3,a4,a5,a6,_,_,_,_,_,_,_⟩:=cell7k gT.out
  by_cases hlt:k < ni
  ·have hkl:k < ls.length:=by omega
   obtain ⟨bi,rfl,hbx⟩:∃ b,ia = some ⟨b,0,none⟩ ∧ BxR w b 5 1 ls:=by
    rcases HI.out with h | h
    ·rw [h] at hkl;exact absurd hkl (by simp)
    ·exact h
   have HI:=hid hbx
   clear hbx
   obtain ⟨c0,c1,c2,c3⟩:=(HI.out.below B0.out).2 k hkl
   have hnx:=jns_next hkl
   generalize ls[k] = bb at *
   by_cases hk0:k = 0
   ·subst hk0
    rw [if_pos rfl] at gO hnx
    simp only [Nat.zero_mul,Nat.zero_add] at c0 c1 c2 c3
    obtain ⟨o0,o1,o2,o3,f0,f1,f2,f3⟩:=cell4b gO.out
    have hk1:(0:Int) < (ni:Int):=by omega
    go_upto_region 7 with fail
    have hnb:bi < w.heap.size:=HI.out.1
    have gO2:=set4b gO.out (.int .i64 bb.1) (.int .i64 bb.2.1) (.int .i64 bb.2.2.1) (.int .i64 bb.2.2.2)
    have gT2:((((wr.setCell ⟨w.heap.size + 2,0,none⟩ (.int .i64 bb.1)).setCell ⟨w.heap.size + 2,1,none⟩ (.int .i64 bb.2.1)).setCell ⟨w.heap.size + 2,2,none⟩ (.int .i64 bb.2.2.1)).setCell ⟨w.heap.size + 2,3,none⟩ (.int .i64 bb.2.2.2)).heap[w.heap.size]? = some (.cells #[.int .i64 b0,.int .i64 b1,.int .i64 b2,.int .i64 b3,.bool b4,.slice (some ⟨bi,0,none⟩) ni ic,.slice ka nk kc] 35 (0,0)):=(setL_blk [.int .i64 bb.1,.int .i64 bb.2.1,.int .i64 bb.2.2.1,.int .i64 bb.2.2.2] wr (w.heap.size + 2) 0 _ (by omega)).trans gT.out
    have gR2:((((wr.setCell ⟨w.heap.size + 2,0,none⟩ (.int .i64 bb.1)).setCell ⟨w.heap.size + 2,1,none⟩ (.int .i64 bb.2.1)).setCell ⟨w.heap.size + 2,2,none⟩ (.int .i64 bb.2.2.1)).setCell ⟨w.heap.size + 2,3,none⟩ (.int .i64 bb.2.2.2)).heap[w.heap.size + 1]? = some (.cells #[.int .i64 0,.int .i64 0,.int .i64 0,.int .i64 0] 31 (0,0)):=(setL_blk [.int .i64 bb.1,.int .i64 bb.2.1,.int .i64 bb.2.2.1,.int .i64 bb.2.2.2] wr (w.heap.size + 2) 0 _ (by omega)).trans gR.out
    have B2:Below w.heap.size w ((((wr.setCell ⟨w.heap.size + 2,0,none⟩ (.int .i64 bb.1)).setCell ⟨w.heap.size + 2,1,none⟩ (.int .i64 bb.2.1)).setCell ⟨w.heap.size + 2,2,none⟩ (.int .i64 bb.2.2.1)).setCell ⟨w.heap.size + 2,3,none⟩ (.int .i64 bb.2.2.2)):=setL_below [.int .i64 bb.1,.int .i64 bb.2.1,.int .i64 bb.2.2.1,.int .i64 bb.2.2.2] w wr (w.heap.size + 2) 0 _ B0.out (by omega)
    replace c0:=keepset (q:=⟨w.heap.size + 2,3,none⟩) (u:=.int .i64 bb.2.2.2) (keepset (q:=⟨w.heap.size + 2,2,none⟩) (u:=.int .i64 bb.2.2.1) (keepset (q:=⟨w.heap.size + 2,1,none⟩) (u:=.int .i64 bb.2.1) (keepset (q:=⟨w.heap.size + 2,0,none⟩) (u:=.int .i64 bb.1) c0 (by dsimp only;omega)) (by dsimp only;omega)) (by dsimp only;omega)) (by dsimp only;omega)
    replace c1:=keepset (q:=⟨w.heap.size + 2,3,none⟩) (u:=.int .i64 bb.2.2.2) (keepset (q:=⟨w.heap.size + 2,2,none⟩) (u:=.int .i64 bb.2.2.1) (keepset (q:=⟨w.heap.size + 2,1,none⟩) (u:=.int .i64 bb.2.1) (keepset (q:=⟨w.heap.size + 2,0,none⟩) (u:=.int .i64 bb.1) c1 (by dsimp only;omega)) (by dsimp only;omega)) (by dsimp only;omega)) (by dsimp only;omega)
    replace c2:=keepset (q:=⟨w.heap.size + 2,3,none⟩) (u:=.int .i64 bb.2.2.2) (keepset (q:=⟨w.heap.size + 2,2,none⟩) (u:=.int .i64 bb.2.2.1) (keepset (q:=⟨w.heap.size + 2,1,none⟩) (u:=.int .i64 bb.2.1) (keepset (q:=⟨w.heap.size + 2,0,none⟩) (u:=.int .i64 bb.1) c2 (by dsimp only;omega)) (by dsimp only;omega)) (by dsimp only;omega)) (by dsimp only;omega)
    replace c3:=keepset (q:=⟨w.heap.size + 2,3,none⟩) (u:=.int .i64 bb.2.2.2) (keepset (q:=⟨w.heap.size + 2,2,none⟩) (u:=.int .i64 bb.2.2.1) (keepset (q:=⟨w.heap.size + 2,1,none⟩) (u:=.int .i64 bb.2.1) (keepset (q:=⟨w.heap.size + 2,0,none⟩) (u:=.int .i64 bb.1) c3 (by dsimp only;omega)) (by dsimp only;omega)) (by dsimp only;omega)) (by dsimp only;omega)
    clear o0 o1 o2 o3 f0 f1 f2 f3 a0 a1 a2 a3 a4 a5 a6
    generalize (((wr.setCell ⟨w.heap.size + 2,0,none⟩ (.int .i64 bb.1)).setCell ⟨w.heap.size + 2,1,none⟩ (.int .i64 bb.2.1)).setCell ⟨w.heap.size + 2,2,none⟩ (.int .i64 bb.2.2.1)).setCell ⟨w.heap.size + 2,3,none⟩ (.int .i64 bb.2.2.2) = W at *
    replace gT:=hid gT2
    replace gR:=hid gR2
    replace gO:=hid gO2
    replace B0:=hid B2
    clear gT2 gR2 gO2 B2
    obtain ⟨a0,a1,a2,a3,a4,a5,a6,_,_,_,_,_,_,_⟩:=cell7k gT.out
    have J:=hid (fun W => spec_join bb.1 bb.2.1 bb.2.2.1 bb.2.2.2 bb.1 bb.2.1 bb.2.2.1 bb.2.2.2 W)
    change Hid (∀ W,Calls _ _ _ W (fun e' w' => e' = .returned (.agg #[.int .i64 (jnb bb bb).1,.int .i64 (jnb bb bb).2.1,.int .i64 (jnb bb bb).2.2.1,.int .i64 (jnb bb bb).2.2.2]) ∧ Below W.heap.size W w')) at J
    rw [hnx] at J
    generalize hnn:jns (ls.take (0 + 1)) = nn at *
    have hcut0:True:=trivial
    obtain ⟨o0,o1,o2,o3,f0,f1,f2,f3⟩:=cell4b gO.out
    refine wp_region_held_drew (S:=(fun w' => w'.cell? ⟨w.heap.size,5,none⟩ = some (.slice (some ⟨bi,0,none⟩) ni ic) ∧ w'.cell? ⟨bi,1,none⟩ = some (.int .i64 bb.1) ∧ w'.cell? ⟨bi,2,none⟩ = some (.int .i64 bb.2.1) ∧ w'.cell? ⟨bi,3,none⟩ = some (.int .i64 bb.2.2.1) ∧ w'.cell? ⟨bi,4,none⟩ = some (.int .i64 bb.2.2.2))) (by kernel_rfl) ?_ (fun hHeld => ?_)
    ·exact ⟨a5,c0,c1,c2,c3⟩
    have hbD:=bdrew (Below.refl W.heap.size W)
    replace gT:=hid (keepheap hbD gT.out)
    replace gR:=hid (keepheap hbD gR.out)
    replace gO:=hid (keepheap hbD gO.out)
    replace c0:=keepcell hbD c0
    replace c1:=keepcell hbD c1
    replace c2:=keepcell hbD c2
    replace c3:=keepcell hbD c3
    replace B0:=hid (btrans B0.out hbD)
    clear hbD a0 a1 a2 a3 a4 a5 a6 o0 o1 o2 o3 f0 f1 f2 f3
    obtain ⟨a0,a1,a2,a3,a4,a5,a6,_,_,_,_,_,_,_⟩:=cell7k gT.out
    obtain ⟨o0,o1,o2,o3,f0,f1,f2,f3⟩:=cell4b gO.out
    generalize W.drew = V at *
    refine tkR 1 hHeld ?_
    try simp only [sq]
    refine tkR 2 hHeld ?_
    try simp only [sq]
    refine tkR 3 hHeld ?_
    try simp only [sq]
    refine tkR 4 hHeld ?_
    try simp only [sq]
    refine tkR 5 hHeld ?_
    try simp only [sq]
    refine tkR 6 hHeld ?_
    try simp only [sq]
    refine rd1 0 rfl (fun K hK => ?_)
    try simp only [sq]
    go_simp
    refine hK.out _ _ ?_ (fun hHeld => ?_)
    ·exact ⟨a5,c0,c1,c2,c3⟩
    clear hK K
    try simp only [sq]
    refine rd1 7 rfl (fun K hK => ?_)
    try simp only [sq]
    go_simp
    go_at_call 104
    refine (J.out _).mono ?_
    rintro e y ⟨rfl,hb⟩
    replace gT:=hid (keepheap hb gT.out)
    replace gR:=hid (keepheap hb gR.out)
    replace gO:=hid (keepheap hb gO.out)
    replace c0:=keepcell hb c0
    replace c1:=keepcell hb c1
    replace c2:=keepcell hb c2
    replace c3:=keepcell hb c3
    replace B0:=hid (btrans B0.out hb)
    clear hb a0 a1 a2 a3 a4 a5 a6 o0 o1 o2 o3 f0 f1 f2 f3
    obtain ⟨a0,a1,a2,a3,a4,a5,a6,_,_,_,_,_,_,_⟩:=cell7k gT.out
    obtain ⟨o0,o1,o2,o3,f0,f1,f2,f3⟩:=cell4b gO.out
    go_wp2_with fail
    refine hK.out _ _ ?_ (fun hHeld => ?_)
    ·exact ⟨a5,c0,c1,c2,c3⟩
    clear hK K
    try simp only [sq]
    refine rd1 8 rfl (fun K hK => ?_)
    try simp only [sq]
    go_simp
    have gO2:=set4b gO.out (.int .i64 nn.1) (.int .i64 nn.2.1) (.int .i64 nn.2.2.1) (.int .i64 nn.2.2.2)
    have gT2:((((y.setCell ⟨w.heap.size + 2,0,none⟩ (.int .i64 nn.1)).setCell ⟨w.heap.size + 2,1,none⟩ (.int .i64 nn.2.1)).setCell ⟨w.heap.size + 2,2,none⟩ (.int .i64 nn.2.2.1)).setCell ⟨w.heap.size + 2,3,none⟩ (.int .i64 nn.2.2.2)).heap[w.heap.size]? = some (.cells #[.int .i64 b0,.int .i64 b1,.int .i64 b2,.int .i64 b3,.bool b4,.slice (some ⟨bi,0,none⟩) ni ic,.slice ka nk kc] 35 (0,0)):=(setL_blk [.int .i64 nn.1,.int .i64 nn.2.1,.int .i64 nn.2.2.1,.int .i64 nn.2.2.2] y (w.heap.size + 2) 0 _ (by omega)).trans gT.out
    have gR2:((((y.setCell ⟨w.heap.size + 2,0,none⟩ (.int .i64 nn.1)).setCell ⟨w.heap.size + 2,1,none⟩ (.int .i64 nn.2.1)).setCell ⟨w.heap.size + 2,2,none⟩ (.int .i64 nn.2.2.1)).setCell ⟨w.heap.size + 2,3,none⟩ (.int .i64 nn.2.2.2)).heap[w.heap.size + 1]? = some (.cells #[.int .i64 0,.int .i64 0,.int .i64 0,.int .i64 0] 31 (0,0)):=(setL_blk [.int .i64 nn.1,.int .i64 nn.2.1,.int .i64 nn.2.2.1,.int .i64 nn.2.2.2] y (w.heap.size + 2) 0 _ (by omega)).trans gR.out
    have B2:Below w.heap.size w ((((y.setCell ⟨w.heap.size + 2,0,none⟩ (.int .i64 nn.1)).setCell ⟨w.heap.size + 2,1,none⟩ (.int .i64 nn.2.1)).setCell ⟨w.heap.size + 2,2,none⟩ (.int .i64 nn.2.2.1)).setCell ⟨w.heap.size + 2,3,none⟩ (.int .i64 nn.2.2.2)):=setL_below [.int .i64 nn.1,.int .i64 nn.2.1,.int .i64 nn.2.2.1,.int .i64 nn.2.2.2] w y (w.heap.size + 2) 0 _ B0.out (by omega)
    have hne:w.heap.size + 2 ≠ bi:=by have:=HI.out.1;omega
    replace c0:=(cell_blk (setL_blk [.int .i64 nn.1,.int .i64 nn.2.1,.int .i64 nn.2.2.1,.int .i64 nn.2.2.2] y (w.heap.size + 2) 0 _ hne)).trans c0
    replace c1:=(cell_blk (setL_blk [.int .i64 nn.1,.int .i64 nn.2.1,.int .i64 nn.2.2.1,.int .i64 nn.2.2.2] y (w.heap.size + 2) 0 _ hne)).trans c1
    replace c2:=(cell_blk (setL_blk [.int .i64 nn.1,.int .i64 nn.2.1,.int .i64 nn.2.2.1,.int .i64 nn.2.2.2] y (w.heap.size + 2) 0 _ hne)).trans c2
    replace c3:=(cell_blk (setL_blk [.int .i64 nn.1,.int .i64 nn.2.1,.int .i64 nn.2.2.1,.int .i64 nn.2.2.2] y (w.heap.size + 2) 0 _ hne)).trans c3
    clear a0 a1 a2 a3 a4 a5 a6 o0 o1 o2 o3 f0 f1 f2 f3
    obtain ⟨a0,a1,a2,a3,a4,a5,a6,_,_,_,_,_,_,_⟩:=cell7k gT2
    refine hK.out _ _ ?_ (fun hHeld => ?_)
    ·exact ⟨a5,c0,c1,c2,c3⟩
    clear hK K
    try simp only [sq]
    refine wpAnyH_done (by kernel_rfl) ?_ _
    go_wp2_with fail
    go_roundw
    case rel => exact ⟨0 + 1,by go_num,by omega,gT2,gR2,by rw [if_neg (by omega),hnn];exact gO2,B2⟩
    case measure => simp [intOf];omega
   ·rw [if_neg hk0] at gO hnx
    have hk1:(k:Int) < (ni:Int):=by omega
    have hk2:¬ (k:Int) = 0:=by omega
    have hk3:(0:Int) ≤ (k:Int):=by omega
    generalize jns (ls.take k) = cc at *
    go_upto_region 7 with fail
    clear a0 a1 a2 a3 a4 a5 a6
    obtain ⟨a0,a1,a2,a3,a4,a5,a6,_,_,_,_,_,_,_⟩:=cell7k gT.out
    have J:=hid (fun W => spec_join cc.1 cc.2.1 cc.2.2.1 cc.2.2.2 bb.1 bb.2.1 bb.2.2.1 bb.2.2.2 W)
    change Hid (∀ W,Calls _ _ _ W (fun e' w' => e' = .returned (.agg #[.int .i64 (jnb cc bb).1,.int .i64 (jnb cc bb).2.1,.int .i64 (jnb cc bb).2.2.1,.int .i64 (jnb cc bb).2.2.2]) ∧ Below W.heap.size W w')) at J
    rw [hnx] at J
    generalize hnn:jns (ls.take (k + 1)) = nn at *
    have hcut0:True:=trivial
    obtain ⟨o0,o1,o2,o3,f0,f1,f2,f3⟩:=cell4b gO.out
    refine wp_region_held_drew (S:=(fun w' => w'.cell? ⟨w.heap.size,5,none⟩ = some (.slice (some ⟨bi,0,none⟩) ni ic) ∧ w'.cell? ⟨bi,k * 5 + 1,none⟩ = some (.int .i64 bb.1) ∧ w'.cell? ⟨bi,k * 5 + 2,none⟩ = some (.int .i64 bb.2.1) ∧ w'.cell? ⟨bi,k * 5 + 3,none⟩ = some (.int .i64 bb.2.2.1) ∧ w'.cell? ⟨bi,k * 5 + 4,none⟩ = some (.int .i64 bb.2.2.2))) (by kernel_rfl) ?_ (fun hHeld => ?_)
    ·exact ⟨a5,c0,c1,c2,c3⟩
    have hbD:=bdrew (Below.refl wr.heap.size wr)
    replace gT:=hid (keepheap hbD gT.out)
    replace gR:=hid (keepheap hbD gR.out)
    replace gO:=hid (keepheap hbD gO.out)
    replace c0:=keepcell hbD c0
    replace c1:=keepcell hbD c1
    replace c2:=keepcell hbD c2
    replace c3:=keepcell hbD c3
    replace B0:=hid (btrans B0.out hbD)
    clear hbD a0 a1 a2 a3 a4 a5 a6 o0 o1 o2 o3 f0 f1 f2 f3
    obtain ⟨a0,a1,a2,a3,a4,a5,a6,_,_,_,_,_,_,_⟩:=cell7k gT.out
    obtain ⟨o0,o1,o2,o3,f0,f1,f2,f3⟩:=cell4b gO.out
    generalize wr.drew = V at *
    refine tkR 1 hHeld ?_
    try simp only [sq]
    refine tkR 2 hHeld ?_
    try simp only [sq]
    refine tkR 3 hHeld ?_
    try simp only [sq]
    refine tkR 4 hHeld ?_
    try simp only [sq]
    refine tkR 5 hHeld ?_
    try simp only [sq]
    refine tkR 6 hHeld ?_
    try simp only [sq]
    refine rd1 0 rfl (fun K hK => ?_)
    try simp only [sq]
    go_simp
    refine hK.out _ _ ?_ (fun hHeld => ?_)
    ·exact ⟨a5,c0,c1,c2,c3⟩
    clear hK K
    try simp only [sq]
    refine rd1 7 rfl (fun K hK => ?_)
    try simp only [sq]
    go_simp
    go_at_call 104
    refine (J.out _).mono ?_
    rintro e y ⟨rfl,hb⟩
    replace gT:=hid (keepheap hb gT.out)
    replace gR:=hid (keepheap hb gR.out)
    replace gO:=hid (keepheap hb gO.out)
    replace c0:=keepcell hb c0
    replace c1:=keepcell hb c1
    replace c2:=keepcell hb c2
    replace c3:=keepcell hb c3
    replace B0:=hid (btrans B0.out hb)
    clear hb a0 a1 a2 a3 a4 a5 a6 o0 o1 o2 o3 f0 f1 f2 f3
    obtain ⟨a0,a1,a2,a3,a4,a5,a6,_,_,_,_,_,_,_⟩:=cell7k gT.out
    obtain ⟨o0,o1,o2,o3,f0,f1,f2,f3⟩:=cell4b gO.out
    go_wp2_with fail
    refine hK.out _ _ ?_ (fun hHeld => ?_)
    ·exact ⟨a5,c0,c1,c2,c3⟩
    clear hK K
    try simp only [sq]
    refine rd1 8 rfl (fun K hK => ?_)
    try simp only [sq]
    go_simp
    have gO2:=set4b gO.out (.int .i64 nn.1) (.int .i64 nn.2.1) (.int .i64 nn.2.2.1) (.int .i64 nn.2.2.2)
    have gT2:((((y.setCell ⟨w.heap.size + 2,0,none⟩ (.int .i64 nn.1)).setCell ⟨w.heap.size + 2,1,none⟩ (.int .i64 nn.2.1)).setCell ⟨w.heap.size + 2,2,none⟩ (.int .i64 nn.2.2.1)).setCell ⟨w.heap.size + 2,3,none⟩ (.int .i64 nn.2.2.2)).heap[w.heap.size]? = some (.cells #[.int .i64 b0,.int .i64 b1,.int .i64 b2,.int .i64 b3,.bool b4,.slice (some ⟨bi,0,none⟩) ni ic,.slice ka nk kc] 35 (0,0)):=(setL_blk [.int .i64 nn.1,.int .i64 nn.2.1,.int .i64 nn.2.2.1,.int .i64 nn.2.2.2] y (w.heap.size + 2) 0 _ (by omega)).trans gT.out
    have gR2:((((y.setCell ⟨w.heap.size + 2,0,none⟩ (.int .i64 nn.1)).setCell ⟨w.heap.size + 2,1,none⟩ (.int .i64 nn.2.1)).setCell ⟨w.heap.size + 2,2,none⟩ (.int .i64 nn.2.2.1)).setCell ⟨w.heap.size + 2,3,none⟩ (.int .i64 nn.2.2.2)).heap[w.heap.size + 1]? = some (.cells #[.int .i64 0,.int .i64 0,.int .i64 0,.int .i64 0] 31 (0,0)):=(setL_blk [.int .i64 nn.1,.int .i64 nn.2.1,.int .i64 nn.2.2.1,.int .i64 nn.2.2.2] y (w.heap.size + 2) 0 _ (by omega)).trans gR.out
    have B2:Below w.heap.size w ((((y.setCell ⟨w.heap.size + 2,0,none⟩ (.int .i64 nn.1)).setCell ⟨w.heap.size + 2,1,none⟩ (.int .i64 nn.2.1)).setCell ⟨w.heap.size + 2,2,none⟩ (.int .i64 nn.2.2.1)).setCell ⟨w.heap.size + 2,3,none⟩ (.int .i64 nn.2.2.2)):=setL_below [.int .i64 nn.1,.int .i64 nn.2.1,.int .i64 nn.2.2.1,.int .i64 nn.2.2.2] w y (w.heap.size + 2) 0 _ B0.out (by omega)
    have hne:w.heap.size + 2 ≠ bi:=by have:=HI.out.1;omega
    replace c0:=(cell_blk (setL_blk [.int .i64 nn.1,.int .i64 nn.2.1,.int .i64 nn.2.2.1,.int .i64 nn.2.2.2] y (w.heap.size + 2) 0 _ hne)).trans c0
    replace c1:=(cell_blk (setL_blk [.int .i64 nn.1,.int .i64 nn.2.1,.int .i64 nn.2.2.1,.int .i64 nn.2.2.2] y (w.heap.size + 2) 0 _ hne)).trans c1
    replace c2:=(cell_blk (setL_blk [.int .i64 nn.1,.int .i64 nn.2.1,.int .i64 nn.2.2.1,.int .i64 nn.2.2.2] y (w.heap.size + 2) 0 _ hne)).trans c2
    replace c3:=(cell_blk (setL_blk [.int .i64 nn.1,.int .i64 nn.2.1,.int .i64 nn.2.2.1,.int .i64 nn.2.2.2] y (w.heap.size + 2) 0 _ hne)).trans c3
    clear a0 a1 a2 a3 a4 a5 a6 o0 o1 o2 o3 f0 f1 f2 f3
    obtain ⟨a0,a1,a2,a3,a4,a5,a6,_,_,_,_,_,_,_⟩:=cell7k gT2
    refine hK.out _ _ ?_ (fun hHeld => ?_)
    ·exact ⟨a5,c0,c1,c2,c3⟩
    clear hK K
    try simp only [sq]
    refine wpAnyH_done (by kernel_rfl) ?_ _
    go_wp2_with fail
    go_roundw
    case rel => exact ⟨k + 1,by go_num,by omega,gT2,gR2,by rw [if_neg (by omega),hnn];exact gO2,B2⟩
    case measure => simp [intOf];omega
  ·have hk1:¬ (k:Int) < (ni:Int):=by omega
   have hcur:(if k = 0 then ((0,0,0,0):Bx) else jns (ls.take k)) = jns ls:=by
    have e:k = ls.length:=by omega
    subst e
    rw [List.take_length]
    split
    ·rename_i h0
     rw [List.length_eq_zero_iff.1 h0];rfl
    ·rfl
   rw [hcur] at gO
   clear hcur hlt hk
   go_upto_region 8 with fail
   clear a0 a1 a2 a3 a4 a5 a6
   go_wp2_with fail
   go_loopw [5] (fun ti wr => ∃ k:Nat,ti = .int .i64 k ∧ k ≤ nk ∧ wr.heap[w.heap.size]? = some (.cells #[.int .i64 b0,.int .i64 b1,.int .i64 b2,.int .i64 b3,.bool b4,.slice ia ni ic,.slice ka nk kc] 35 (0,0)) ∧ wr.heap[w.heap.size + 1]? = some (.cells #[.int .i64 0,.int .i64 0,.int .i64 0,.int .i64 0] 31 (0,0)) ∧ wr.heap[w.heap.size + 2]? = some (.cells #[.int .i64 (if k = 0 then jns ls else jns (ks.take k)).1,.int .i64 (if k = 0 then jns ls else jns (ks.take k)).2.1,.int .i64 (if k = 0 then jns ls else jns (ks.take k)).2.2.1,.int .i64 (if k = 0 then jns ls else jns (ks.take k)).2.2.2] 31 (0,0)) ∧ Below w.heap.size w wr) (fun ti _ => nk - (intOf ti).toNat)
   case atStart => exact ⟨0,rfl,Nat.zero_le _,gT.out,gR.out,gO.out,B0.out⟩
   case round =>
    clear gT gR gO B0
    obtain ⟨k,rfl,hk,gT',gR',gO',B0'⟩:=hrel
    have gT:=hid gT'
    have gR:=hid gR'
    have gO:=hid gO'
    have B0:=hid B0'
    clear gT' gR' gO' B0'
    obtain ⟨a0,a1,a2,a3,a4,a5,a6,_,_,_,_,_,_,_⟩:=cell7k gT.out
    by_cases hlt:k < nk
    ·have hkl:k < ks.length:=by omega
     obtain ⟨bk,rfl,hbx⟩:∃ b,ka = some ⟨b,0,none⟩ ∧ BxR w b 7 0 ks:=by
      rcases HK.out with h | h
      ·rw [h] at hkl;exact absurd hkl (by simp)
      ·exact h
     have HK:=hid hbx
     clear hbx
     obtain ⟨c0,c1,c2,c3⟩:=(HK.out.below B0.out).2 k hkl
     have hnx:=jns_next hkl
     generalize ks[k] = bb at *
     by_cases hk0:k = 0
     ·subst hk0
      rw [if_pos rfl] at gO hnx
      simp only [Nat.zero_mul,Nat.zero_add] at c0 c1 c2 c3
      obtain ⟨o0,o1,o2,o3,f0,f1,f2,f3⟩:=cell4b gO.out
      have hk1:(0:Int) < (nk:Int):=by omega
      go_upto_region 13 with fail
      have hnb:bk < w.heap.size:=HK.out.1
      have gO2:=set4b gO.out (.int .i64 bb.1) (.int .i64 bb.2.1) (.int .i64 bb.2.2.1) (.int .i64 bb.2.2.2)
      have gT2:((((wr.setCell ⟨w.heap.size + 2,0,none⟩ (.int .i64 bb.1)).setCell ⟨w.heap.size + 2,1,none⟩ (.int .i64 bb.2.1)).setCell ⟨w.heap.size + 2,2,none⟩ (.int .i64 bb.2.2.1)).setCell ⟨w.heap.size + 2,3,none⟩ (.int .i64 bb.2.2.2)).heap[w.heap.size]? = some (.cells #[.int .i64 b0,.int .i64 b1,.int .i64 b2,.int .i64 b3,.bool b4,.slice ia ni ic,.slice (some ⟨bk,0,none⟩) nk kc] 35 (0,0)):=(setL_blk [.int .i64 bb.1,.int .i64 bb.2.1,.int .i64 bb.2.2.1,.int .i64 bb.2.2.2] wr (w.heap.size + 2) 0 _ (by omega)).trans gT.out
      have gR2:((((wr.setCell ⟨w.heap.size + 2,0,none⟩ (.int .i64 bb.1)).setCell ⟨w.heap.size + 2,1,none⟩ (.int .i64 bb.2.1)).setCell ⟨w.heap.size + 2,2,none⟩ (.int .i64 bb.2.2.1)).setCell ⟨w.heap.size + 2,3,none⟩ (.int .i64 bb.2.2.2)).heap[w.heap.size + 1]? = some (.cells #[.int .i64 0,.int .i64 0,.int .i64 0,.int .i64 0] 31 (0,0)):=(setL_blk [.int .i64 bb.1,.int .i64 bb.2.1,.int .i64 bb.2.2.1,.int .i64 bb.2.2.2] wr (w.heap.size + 2) 0 _ (by omega)).trans gR.out
      have B2:Below w.heap.size w ((((wr.setCell ⟨w.heap.size + 2,0,none⟩ (.int .i64 bb.1)).setCell ⟨w.heap.size + 2,1,none⟩ (.int .i64 bb.2.1)).setCell ⟨w.heap.size + 2,2,none⟩ (.int .i64 bb.2.2.1)).setCell ⟨w.heap.size + 2,3,none⟩ (.int .i64 bb.2.2.2)):=setL_below [.int .i64 bb.1,.int .i64 bb.2.1,.int .i64 bb.2.2.1,.int .i64 bb.2.2.2] w wr (w.heap.size + 2) 0 _ B0.out (by omega)
      replace c0:=keepset (q:=⟨w.heap.size + 2,3,none⟩) (u:=.int .i64 bb.2.2.2) (keepset (q:=⟨w.heap.size + 2,2,none⟩) (u:=.int .i64 bb.2.2.1) (keepset (q:=⟨w.heap.size + 2,1,none⟩) (u:=.int .i64 bb.2.1) (keepset (q:=⟨w.heap.size + 2,0,none⟩) (u:=.int .i64 bb.1) c0 (by dsimp only;omega)) (by dsimp only;omega)) (by dsimp only;omega)) (by dsimp only;omega)
      replace c1:=keepset (q:=⟨w.heap.size + 2,3,none⟩) (u:=.int .i64 bb.2.2.2) (keepset (q:=⟨w.heap.size + 2,2,none⟩) (u:=.int .i64 bb.2.2.1) (keepset (q:=⟨w.heap.size + 2,1,none⟩) (u:=.int .i64 bb.2.1) (keepset (q:=⟨w.heap.size + 2,0,none⟩) (u:=.int .i64 bb.1) c1 (by dsimp only;omega)) (by dsimp only;omega)) (by dsimp only;omega)) (by dsimp only;omega)
      replace c2:=keepset (q:=⟨w.heap.size + 2,3,none⟩) (u:=.int .i64 bb.2.2.2) (keepset (q:=⟨w.heap.size + 2,2,none⟩) (u:=.int .i64 bb.2.2.1) (keepset (q:=⟨w.heap.size + 2,1,none⟩) (u:=.int .i64 bb.2.1) (keepset (q:=⟨w.heap.size + 2,0,none⟩) (u:=.int .i64 bb.1) c2 (by dsimp only;omega)) (by dsimp only;omega)) (by dsimp only;omega)) (by dsimp only;omega)
      replace c3:=keepset (q:=⟨w.heap.size + 2,3,none⟩) (u:=.int .i64 bb.2.2.2) (keepset (q:=⟨w.heap.size + 2,2,none⟩) (u:=.int .i64 bb.2.2.1) (keepset (q:=⟨w.heap.size + 2,1,none⟩) (u:=.int .i64 bb.2.1) (keepset (q:=⟨w.heap.size + 2,0,none⟩) (u:=.int .i64 bb.1) c3 (by dsimp only;omega)) (by dsimp only;omega)) (by dsimp only;omega)) (by dsimp only;omega)
      clear o0 o1 o2 o3 f0 f1 f2 f3 a0 a1 a2 a3 a4 a5 a6
      generalize (((wr.setCell ⟨w.heap.size + 2,0,none⟩ (.int .i64 bb.1)).setCell ⟨w.heap.size + 2,1,none⟩ (.int .i64 bb.2.1)).setCell ⟨w.heap.size + 2,2,none⟩ (.int .i64 bb.2.2.1)).setCell ⟨w.heap.size + 2,3,none⟩ (.int .i64 bb.2.2.2) = W at *
      replace gT:=hid gT2
      replace gR:=hid gR2
      replace gO:=hid gO2
      replace B0:=hid B2
      clear gT2 gR2 gO2 B2
      obtain ⟨a0,a1,a2,a3,a4,a5,a6,_,_,_,_,_,_,_⟩:=cell7k gT.out
      have J:=hid (fun W => spec_join bb.1 bb.2.1 bb.2.2.1 bb.2.2.2 bb.1 bb.2.1 bb.2.2.1 bb.2.2.2 W)
      change Hid (∀ W,Calls _ _ _ W (fun e' w' => e' = .returned (.agg #[.int .i64 (jnb bb bb).1,.int .i64 (jnb bb bb).2.1,.int .i64 (jnb bb bb).2.2.1,.int .i64 (jnb bb bb).2.2.2]) ∧ Below W.heap.size W w')) at J
      rw [hnx] at J
      generalize hnn:jns (ks.take (0 + 1)) = nn at *
      have hcut0:True:=trivial
      obtain ⟨o0,o1,o2,o3,f0,f1,f2,f3⟩:=cell4b gO.out
      refine wp_region_held_drew (S:=(fun w' => w'.cell? ⟨w.heap.size,6,none⟩ = some (.slice (some ⟨bk,0,none⟩) nk kc) ∧ w'.cell? ⟨bk,0,none⟩ = some (.int .i64 bb.1) ∧ w'.cell? ⟨bk,1,none⟩ = some (.int .i64 bb.2.1) ∧ w'.cell? ⟨bk,2,none⟩ = some (.int .i64 bb.2.2.1) ∧ w'.cell? ⟨bk,3,none⟩ = some (.int .i64 bb.2.2.2))) (by kernel_rfl) ?_ (fun hHeld => ?_)
      ·exact ⟨a6,c0,c1,c2,c3⟩
      have hbD:=bdrew (Below.refl W.heap.size W)
      replace gT:=hid (keepheap hbD gT.out)
      replace gR:=hid (keepheap hbD gR.out)
      replace gO:=hid (keepheap hbD gO.out)
      replace c0:=keepcell hbD c0
      replace c1:=keepcell hbD c1
      replace c2:=keepcell hbD c2
      replace c3:=keepcell hbD c3
      replace B0:=hid (btrans B0.out hbD)
      clear hbD a0 a1 a2 a3 a4 a5 a6 o0 o1 o2 o3 f0 f1 f2 f3
      obtain ⟨a0,a1,a2,a3,a4,a5,a6,_,_,_,_,_,_,_⟩:=cell7k gT.out
      obtain ⟨o0,o1,o2,o3,f0,f1,f2,f3⟩:=cell4b gO.out
      generalize W.drew = V at *
      refine tkR 1 hHeld ?_
      try simp only [sq]
      refine tkR 2 hHeld ?_
      try simp only [sq]
      refine tkR 3 hHeld ?_
      try simp only [sq]
      refine tkR 4 hHeld ?_
      try simp only [sq]
      refine tkR 5 hHeld ?_
      try simp only [sq]
      refine tkR 6 hHeld ?_
      try simp only [sq]
      refine rd1 0 rfl (fun K hK => ?_)
      try simp only [sq]
      go_simp
      refine hK.out _ _ ?_ (fun hHeld => ?_)
      ·exact ⟨a6,c0,c1,c2,c3⟩
      clear hK K
      try simp only [sq]
      refine rd1 7 rfl (fun K hK => ?_)
      try simp only [sq]
      go_simp
      go_at_call 104
      refine (J.out _).mono ?_
      rintro e y ⟨rfl,hb⟩
      replace gT:=hid (keepheap hb gT.out)
      replace gR:=hid (keepheap hb gR.out)
      replace gO:=hid (keepheap hb gO.out)
      replace c0:=keepcell hb c0
      replace c1:=keepcell hb c1
      replace c2:=keepcell hb c2
      replace c3:=keepcell hb c3
      replace B0:=hid (btrans B0.out hb)
      clear hb a0 a1 a2 a3 a4 a5 a6 o0 o1 o2 o3 f0 f1 f2 f3
      obtain ⟨a0,a1,a2,a3,a4,a5,a6,_,_,_,_,_,_,_⟩:=cell7k gT.out
      obtain ⟨o0,o1,o2,o3,f0,f1,f2,f3⟩:=cell4b gO.out
      go_wp2_with fail
      refine hK.out _ _ ?_ (fun hHeld => ?_)
      ·exact ⟨a6,c0,c1,c2,c3⟩
      clear hK K
      try simp only [sq]
      refine rd1 8 rfl (fun K hK => ?_)
      try simp only [sq]
      go_simp
      have gO2:=set4b gO.out (.int .i64 nn.1) (.int .i64 nn.2.1) (.int .i64 nn.2.2.1) (.int .i64 nn.2.2.2)
      have gT2:((((y.setCell ⟨w.heap.size + 2,0,none⟩ (.int .i64 nn.1)).setCell ⟨w.heap.size + 2,1,none⟩ (.int .i64 nn.2.1)).setCell ⟨w.heap.size + 2,2,none⟩ (.int .i64 nn.2.2.1)).setCell ⟨w.heap.size + 2,3,none⟩ (.int .i64 nn.2.2.2)).heap[w.heap.size]? = some (.cells #[.int .i64 b0,.int .i64 b1,.int .i64 b2,.int .i64 b3,.bool b4,.slice ia ni ic,.slice (some ⟨bk,0,none⟩) nk kc] 35 (0,0)):=(setL_blk [.int .i64 nn.1,.int .i64 nn.2.1,.int .i64 nn.2.2.1,.int .i64 nn.2.2.2] y (w.heap.size + 2) 0 _ (by omega)).trans gT.out
      have gR2:((((y.setCell ⟨w.heap.size + 2,0,none⟩ (.int .i64 nn.1)).setCell ⟨w.heap.size + 2,1,none⟩ (.int .i64 nn.2.1)).setCell ⟨w.heap.size + 2,2,none⟩ (.int .i64 nn.2.2.1)).setCell ⟨w.heap.size + 2,3,none⟩ (.int .i64 nn.2.2.2)).heap[w.heap.size + 1]? = some (.cells #[.int .i64 0,.int .i64 0,.int .i64 0,.int .i64 0] 31 (0,0)):=(setL_blk [.int .i64 nn.1,.int .i64 nn.2.1,.int .i64 nn.2.2.1,.int .i64 nn.2.2.2] y (w.heap.size + 2) 0 _ (by omega)).trans gR.out
      have B2:Below w.heap.size w ((((y.setCell ⟨w.heap.size + 2,0,none⟩ (.int .i64 nn.1)).setCell ⟨w.heap.size + 2,1,none⟩ (.int .i64 nn.2.1)).setCell ⟨w.heap.size + 2,2,none⟩ (.int .i64 nn.2.2.1)).setCell ⟨w.heap.size + 2,3,none⟩ (.int .i64 nn.2.2.2)):=setL_below [.int .i64 nn.1,.int .i64 nn.2.1,.int .i64 nn.2.2.1,.int .i64 nn.2.2.2] w y (w.heap.size + 2) 0 _ B0.out (by omega)
      have hne:w.heap.size + 2 ≠ bk:=by have:=HK.out.1;omega
      replace c0:=(cell_blk (setL_blk [.int .i64 nn.1,.int .i64 nn.2.1,.int .i64 nn.2.2.1,.int .i64 nn.2.2.2] y (w.heap.size + 2) 0 _ hne)).trans c0
      replace c1:=(cell_blk (setL_blk [.int .i64 nn.1,.int .i64 nn.2.1,.int .i64 nn.2.2.1,.int .i64 nn.2.2.2] y (w.heap.size + 2) 0 _ hne)).trans c1
      replace c2:=(cell_blk (setL_blk [.int .i64 nn.1,.int .i64 nn.2.1,.int .i64 nn.2.2.1,.int .i64 nn.2.2.2] y (w.heap.size + 2) 0 _ hne)).trans c2
      replace c3:=(cell_blk (setL_blk [.int .i64 nn.1,.int .i64 nn.2.1,.int .i64 nn.2.2.1,.int .i64 nn.2.2.2] y (w.heap.size + 2) 0 _ hne)).trans c3
      clear a0 a1 a2 a3 a4 a5 a6 o0 o1 o2 o3 f0 f1 f2 f3
      obtain ⟨a0,a1,a2,a3,a4,a5,a6,_,_,_,_,_,_,_⟩:=cell7k gT2
      refine hK.out _ _ ?_ (fun hHeld => ?_)
      ·exact ⟨a6,c0,c1,c2,c3⟩
      clear hK K
      try simp only [sq]
      refine wpAnyH_done (by kernel_rfl) ?_ _
      go_wp2_with fail
      go_roundw
      case rel => exact ⟨0 + 1,by go_num,by omega,gT2,gR2,by rw [if_neg (by omega),hnn];exact gO2,B2⟩
      case measure => simp [intOf];omega
     ·rw [if_neg hk0] at gO hnx
      have hk1:(k:Int) < (nk:Int):=by omega
      have hk2:¬ (k:Int) = 0:=by omega
      have hk3:(0:Int) ≤ (k:Int):=by omega
      generalize jns (ks.take k) = cc at *
      go_upto_region 13 with fail
      clear a0 a1 a2 a3 a4 a5 a6
      obtain ⟨a0,a1,a2,a3,a4,a5,a6,_,_,_,_,_,_,_⟩:=cell7k gT.out
      have J:=hid (fun W => spec_join cc.1 cc.2.1 cc.2.2.1 cc.2.2.2 bb.1 bb.2.1 bb.2.2.1 bb.2.2.2 W)
      change Hid (∀ W,Calls _ _ _ W (fun e' w' => e' = .returned (.agg #[.int .i64 (jnb cc bb).1,.int .i64 (jnb cc bb).2.1,.int .i64 (jnb cc bb).2.2.1,.int .i64 (jnb cc bb).2.2.2]) ∧ Below W.heap.size W w')) at J
      rw [hnx] at J
      generalize hnn:jns (ks.take (k + 1)) = nn at *
      have hcut0:True:=trivial
      obtain ⟨o0,o1,o2,o3,f0,f1,f2,f3⟩:=cell4b gO.out
      refine wp_region_held_drew (S:=(fun w' => w'.cell? ⟨w.heap.size,6,none⟩ = some (.slice (some ⟨bk,0,none⟩) nk kc) ∧ w'.cell? ⟨bk,k * 7,none⟩ = some (.int .i64 bb.1) ∧ w'.cell? ⟨bk,k * 7 + 1,none⟩ = some (.int .i64 bb.2.1) ∧ w'.cell? ⟨bk,k * 7 + 2,none⟩ = some (.int .i64 bb.2.2.1) ∧ w'.cell? ⟨bk,k * 7 + 3,none⟩ = some (.int .i64 bb.2.2.2))) (by kernel_rfl) ?_ (fun hHeld => ?_)
      ·exact ⟨a6,c0,c1,c2,c3⟩
      have hbD:=bdrew (Below.refl wr.heap.size wr)
      replace gT:=hid (keepheap hbD gT.out)
      replace gR:=hid (keepheap hbD gR.out)
      replace gO:=hid (keepheap hbD gO.out)
      replace c0:=keepcell hbD c0
      replace c1:=keepcell hbD c1
      replace c2:=keepcell hbD c2
      replace c3:=keepcell hbD c3
      replace B0:=hid (btrans B0.out hbD)
      clear hbD a0 a1 a2 a3 a4 a5 a6 o0 o1 o2 o3 f0 f1 f2 f3
      obtain ⟨a0,a1,a2,a3,a4,a5,a6,_,_,_,_,_,_,_⟩:=cell7k gT.out
      obtain ⟨o0,o1,o2,o3,f0,f1,f2,f3⟩:=cell4b gO.out
      generalize wr.drew = V at *
      refine tkR 1 hHeld ?_
      try simp only [sq]
      refine tkR 2 hHeld ?_
      try simp only [sq]
      refine tkR 3 hHeld ?_
      try simp only [sq]
      refine tkR 4 hHeld ?_
      try simp only [sq]
      refine tkR 5 hHeld ?_
      try simp only [sq]
      refine tkR 6 hHeld ?_
      try simp only [sq]
      refine rd1 0 rfl (fun K hK => ?_)
      try simp only [sq]
      go_simp
      refine hK.out _ _ ?_ (fun hHeld => ?_)
      ·exact ⟨a6,c0,c1,c2,c3⟩
      clear hK K
      try simp only [sq]
      refine rd1 7 rfl (fun K hK => ?_)
      try simp only [sq]
      go_simp
      go_at_call 104
      refine (J.out _).mono ?_
      rintro e y ⟨rfl,hb⟩
      replace gT:=hid (keepheap hb gT.out)
      replace gR:=hid (keepheap hb gR.out)
      replace gO:=hid (keepheap hb gO.out)
      replace c0:=keepcell hb c0
      replace c1:=keepcell hb c1
      replace c2:=keepcell hb c2
      replace c3:=keepcell hb c3
      replace B0:=hid (btrans B0.out hb)
      clear hb a0 a1 a2 a3 a4 a5 a6 o0 o1 o2 o3 f0 f1 f2 f3
      obtain ⟨a0,a1,a2,a3,a4,a5,a6,_,_,_,_,_,_,_⟩:=cell7k gT.out
      obtain ⟨o0,o1,o2,o3,f0,f1,f2,f3⟩:=cell4b gO.out
      go_wp2_with fail
      refine hK.out _ _ ?_ (fun hHeld => ?_)
      ·exact ⟨a6,c0,c1,c2,c3⟩
      clear hK K
      try simp only [sq]
      refine rd1 8 rfl (fun K hK => ?_)
      try simp only [sq]
      go_simp
      have gO2:=set4b gO.out (.int .i64 nn.1) (.int .i64 nn.2.1) (.int .i64 nn.2.2.1) (.int .i64 nn.2.2.2)
      have gT2:((((y.setCell ⟨w.heap.size + 2,0,none⟩ (.int .i64 nn.1)).setCell ⟨w.heap.size + 2,1,none⟩ (.int .i64 nn.2.1)).setCell ⟨w.heap.size + 2,2,none⟩ (.int .i64 nn.2.2.1)).setCell ⟨w.heap.size + 2,3,none⟩ (.int .i64 nn.2.2.2)).heap[w.heap.size]? = some (.cells #[.int .i64 b0,.int .i64 b1,.int .i64 b2,.int .i64 b3,.bool b4,.slice ia ni ic,.slice (some ⟨bk,0,none⟩) nk kc] 35 (0,0)):=(setL_blk [.int .i64 nn.1,.int .i64 nn.2.1,.int .i64 nn.2.2.1,.int .i64 nn.2.2.2] y (w.heap.size + 2) 0 _ (by omega)).trans gT.out
      have gR2:((((y.setCell ⟨w.heap.size + 2,0,none⟩ (.int .i64 nn.1)).setCell ⟨w.heap.size + 2,1,none⟩ (.int .i64 nn.2.1)).setCell ⟨w.heap.size + 2,2,none⟩ (.int .i64 nn.2.2.1)).setCell ⟨w.heap.size + 2,3,none⟩ (.int .i64 nn.2.2.2)).heap[w.heap.size + 1]? = some (.cells #[.int .i64 0,.int .i64 0,.int .i64 0,.int .i64 0] 31 (0,0)):=(setL_blk [.int .i64 nn.1,.int .i64 nn.2.1,.int .i64 nn.2.2.1,.int .i64 nn.2.2.2] y (w.heap.size + 2) 0 _ (by omega)).trans gR.out
      have B2:Below w.heap.size w ((((y.setCell ⟨w.heap.size + 2,0,none⟩ (.int .i64 nn.1)).setCell ⟨w.heap.size + 2,1,none⟩ (.int .i64 nn.2.1)).setCell ⟨w.heap.size + 2,2,none⟩ (.int .i64 nn.2.2.1)).setCell ⟨w.heap.size + 2,3,none⟩ (.int .i64 nn.2.2.2)):=setL_below [.int .i64 nn.1,.int .i64 nn.2.1,.int .i64 nn.2.2.1,.int .i64 nn.2.2.2] w y (w.heap.size + 2) 0 _ B0.out (by omega)
      have hne:w.heap.size + 2 ≠ bk:=by have:=HK.out.1;omega
      replace c0:=(cell_blk (setL_blk [.int .i64 nn.1,.int .i64 nn.2.1,.int .i64 nn.2.2.1,.int .i64 nn.2.2.2] y (w.heap.size + 2) 0 _ hne)).trans c0
      replace c1:=(cell_blk (setL_blk [.int .i64 nn.1,.int .i64 nn.2.1,.int .i64 nn.2.2.1,.int .i64 nn.2.2.2] y (w.heap.size + 2) 0 _ hne)).trans c1
      replace c2:=(cell_blk (setL_blk [.int .i64 nn.1,.int .i64 nn.2.1,.int .i64 nn.2.2.1,.int .i64 nn.2.2.2] y (w.heap.size + 2) 0 _ hne)).trans c2
      replace c3:=(cell_blk (setL_blk [.int .i64 nn.1,.int .i64 nn.2.1,.int .i64 nn.2.2.1,.int .i64 nn.2.2.2] y (w.heap.size + 2) 0 _ hne)).trans c3
      clear a0 a1 a2 a3 a4 a5 a6 o0 o1 o2 o3 f0 f1 f2 f3
      obtain ⟨a0,a1,a2,a3,a4,a5,a6,_,_,_,_,_,_,_⟩:=cell7k gT2
      refine hK.out _ _ ?_ (fun hHeld => ?_)
      ·exact ⟨a6,c0,c1,c2,c3⟩
      clear hK K
      try simp only [sq]
      refine wpAnyH_done (by kernel_rfl) ?_ _
      go_wp2_with fail
      go_roundw
      case rel => exact ⟨k + 1,by go_num,by omega,gT2,gR2,by rw [if_neg (by omega),hnn];exact gO2,B2⟩
      case measure => simp [intOf];omega
    ·have hk1:¬ (k:Int) < (nk:Int):=by omega
     have hcur:(if k = 0 then jns ls else jns (ks.take k)) = (if ks.isEmpty then jns ls else jns ks):=by
      have e:k = ks.length:=by omega
      subst e
      rw [List.take_length]
      cases ks with
      | nil => rfl
      | cons x r => rfl
     rw [hcur,HX.out] at gO
     obtain ⟨o0,o1,o2,o3,f0,f1,f2,f3⟩:=cell4b gO.out
     obtain ⟨r0,r1,r2,r3,q0,q1,q2,q3⟩:=cell4b gR.out
     have gF:=set4b gR.out (.int .i64 xx.1) (.int .i64 xx.2.1) (.int .i64 xx.2.2.1) (.int .i64 xx.2.2.2)
     obtain ⟨z0,z1,z2,z3,_,_,_,_⟩:=cell4b gF
     have BF:=setL_below [.int .i64 xx.1,.int .i64 xx.2.1,.int .i64 xx.2.2.1,.int .i64 xx.2.2.2] w wr (w.heap.size + 1) 0 _ B0.out (by omega)
     go_wp2_with fail
     exact bodyPost_ret (v:=.agg #[.int .i64 xx.1,.int .i64 xx.2.1,.int .i64 xx.2.2.1,.int .i64 xx.2.2.2]) (by simp [results,Tryz.results77,go_sem,z0,z1,z2,z3]) rfl ⟨rfl,BF⟩
theorem ko_around {lo n:Nat} {h:Hd} {S:List Nat} {t:KT} {w:World} (k:KO lo (n + 1) w h S t) (h1:t.its.length ≤ 1048576) (h2:t.kids.length ≤ 1048576):Calls Tryz.prog 77 #[kvh t h] w fun e w' => e = .returned (.agg #[.int .i64 (arS t).1,.int .i64 (arS t).2.1,.int .i64 (arS t).2.2.1,.int .i64 (arS t).2.2.2]) ∧ Below w.heap.size w w':=by
 obtain ⟨ps,l1,r1,r2,_,_⟩:=k.kids
 have hl:t.kids.length = ps.length:=by rw [l1,List.length_map]
 have e2:ps.map (·.1.box) = t.kbs:=by unfold KT.kbs;rw [l1,List.map_map];rfl
 have b1:=row_bxI r1 rfl
 have b2:=row_bxK r2 rfl
 rw [e2] at b2
 have hx:(if t.kbs.isEmpty then jns (t.its.map (·.2)) else jns t.kbs) = arS t:=by
  unfold arS KT.kbs KT.ibs
  cases t.kids <;> rfl
 exact spec_aroundO _ _ _ _ _ h.1 h.2.2.1 t.its.length t.kids.length h.2.1 h.2.2.2 (t.its.map (·.2)) t.kbs w (by simp) (by unfold KT.kbs;simp) h1 h2 b1 b2 (arS t) hx
end Go.Proofs.YtjahlofahjgdbaaGreat
