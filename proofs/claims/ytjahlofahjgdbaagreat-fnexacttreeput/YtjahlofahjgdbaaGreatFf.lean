import Derived.Test.YtjahlofahjgdbaaGreatJ5
set_option maxRecDepth 100000
set_option maxHeartbeats 8000000
set_option linter.unusedSimpArgs false
set_option linter.unusedVariables false
namespace Go.Proofs.YtjahlofahjgdbaaGreat
open Go.RowKit
theorem spec_fan (t:KT) (ia:Option Addr) (ic:Nat) (ka:Option Addr) (kc:Nat) (w:World):Calls Tryz.prog 101 #[kv t ia ic ka kc] w fun e w' => e = .returned (.int .i64 t.fan) ∧ Below w.heap.size w w':=by
 unfold kv KT.fan
 generalize t.box.1 = b0 at *
 generalize t.box.2.1 = b1 at *
 generalize t.box.2.2.1 = b2 at *
 generalize t.box.2.2.2 = b3 at *
 generalize t.its.length = ni at *
 generalize t.kids.length = nk at *
 cases hl:t.lf
 ·go_enter Tryz.func101,Tryz.ntmps101
  go_wp2_with fail
  go_ret
  exact ⟨rfl,balloc (Below.refl _ _) _⟩
 ·go_enter Tryz.func101,Tryz.ntmps101
  go_wp2_with fail
  go_ret
  exact ⟨rfl,balloc (Below.refl _ _) _⟩
theorem jns_snoc {l:List Bx} (h:l ≠ []) (x:Bx):jns (l ++ [x]) = jnb (jns l) x:=by
 cases l with
 | nil => exact absurd rfl h
 | cons b r => show (r ++ [x]).foldl jnb b = _;rw [List.foldl_append];rfl
theorem jnb_self (x:Bx):jnb x x = x:=by
 unfold jnb
 rw [Int.min_self,Int.min_self,Int.max_self,Int.max_self]
theorem jns_next {bs:List Bx} {k:Nat} (h:k < bs.length):jnb (if k = 0 then bs[k] else jns (bs.take k)) bs[k] = jns (bs.take (k + 1)):=by
 rw [List.take_add_one,List.getElem?_eq_getElem h,Option.toList_some]
 by_cases h0:k = 0
 ·subst h0
  rw [if_pos rfl,jnb_self]
  rfl
 ·rw [if_neg h0,jns_snoc]
  intro e
  have:=congrArg List.length e
  rw [List.length_take] at this
  simp only [List.length_nil] at this
  omega
theorem set4b {w:World} {B:Nat} {o0 o1 o2 o3:Value} {t:TypeId} (gz:w.heap[B]? = some (.cells #[o0,o1,o2,o3] t (0,0))) (a b c d:Value) :
  ((((w.setCell ⟨B,0,none⟩ a).setCell ⟨B,1,none⟩ b).setCell ⟨B,2,none⟩ c).setCell ⟨B,3,none⟩ d).heap[B]? = some (.cells #[a,b,c,d] t (0,0)):=set_at (set_at (set_at (set_at gz)))
theorem cell4b {w:World} {p:Nat} {a b c d:Value} {t:TypeId} (h:w.heap[p]? = some (.cells #[a,b,c,d] t (0,0))):w.cell? ⟨p,0,none⟩ = some a ∧ w.cell? ⟨p,1,none⟩ = some b ∧ w.cell? ⟨p,2,none⟩ = some c ∧ w.cell? ⟨p,3,none⟩ = some d ∧ w.frozen? ⟨p,0,none⟩ = false ∧ w.frozen? ⟨p,1,none⟩ = false ∧ w.frozen? ⟨p,2,none⟩ = false ∧ w.frozen? ⟨p,3,none⟩ = false:=by
 refine ⟨?_,?_,?_,?_,?_,?_,?_,?_⟩ <;> simp [World.cell?,World.frozen?,h]
def BxR (w:World) (b m f:Nat) (bs:List Bx):Prop:=b < w.heap.size ∧ ∀ j (h:j < bs.length),w.cell? ⟨b,j * m + f,none⟩ = some (.int .i64 bs[j].1) ∧ w.cell? ⟨b,j * m + f + 1,none⟩ = some (.int .i64 bs[j].2.1) ∧ w.cell? ⟨b,j * m + f + 2,none⟩ = some (.int .i64 bs[j].2.2.1) ∧ w.cell? ⟨b,j * m + f + 3,none⟩ = some (.int .i64 bs[j].2.2.2)
theorem BxR.below {w w':World} {b m f:Nat} {bs:List Bx} (h:BxR w b m f bs) (H:Below w.heap.size w w'):BxR w' b m f bs:=⟨Nat.lt_of_lt_of_le h.1 H.size,fun j hj => by
 obtain ⟨h0,h1,h2,h3⟩:=h.2 j hj
 exact ⟨keepcell H h0,keepcell H h1,keepcell H h2,keepcell H h3⟩⟩
theorem ItR.bxs {w:World} {b:Nat} {t:KT} (h:ItR w b t.its):BxR w b 5 1 t.ibs:=⟨h.1,fun j hj => by
 have hj':j < t.its.length:=by unfold KT.ibs at hj;rw [List.length_map] at hj;exact hj
 have e:t.ibs[j] = t.its[j].2:=List.getElem_map (fun x:It => x.2)
 obtain ⟨_,h1,h2,h3,h4⟩:=(h.2 j hj').item
 rw [e]
 exact ⟨h1,h2,h3,h4⟩⟩
theorem KdO.bxs {lo n:Nat} {w:World} {b:Nat} {t:KT} (hb:b < w.heap.size) (h:KdO lo n w b t.kids):BxR w b 7 0 t.kbs:=⟨hb,fun j hj => by
 have hj':j < t.kids.length:=by unfold KT.kbs at hj;rw [List.length_map] at hj;exact hj
 have e:t.kbs[j] = t.kids[j].box:=List.getElem_map KT.box
 obtain ⟨ia,ka,h1,_⟩:=h j hj'
 obtain ⟨c0,c1,c2,c3,_⟩:=h1.knot
 rw [e]
 exact ⟨c0,c1,c2,c3⟩⟩
theorem spec_around (b0 b1 b2 b3:Int) (b4:Bool) (bi bk ni nk ic kc:Nat) (ls ks:List Bx) (w:World) (hni:ls.length = ni) (hnk:ks.length = nk) (h1:ni ≤ 1048576) (h2:nk ≤ 1048576) (hI:BxR w bi 5 1 ls) (hK:BxR w bk 7 0 ks) (xx:Bx) (hx:(if ks.isEmpty then jns ls else jns ks) = xx):Calls Tryz.prog 77 #[.agg #[.int .i64 b0,.int .i64 b1,.int .i64 b2,.int .i64 b3,.bool b4,.slice (some ⟨bi,0,none⟩) ni ic,.slice (some ⟨bk,0,none⟩) nk kc]] w fun e w' => e = .returned (.agg #[.int .i64 xx.1,.int .i64 xx.2.1,.int .i64 xx.2.2.1,.int .i64 xx.2.2.2]) ∧ Below w.heap.size w w':=by
 have HI:=hid hI
 have HK:=hid hK
 have HX:=hid hx
 clear hI hK hx
 go_enter Tryz.func77,Tryz.ntmps77
 go_wp2_with fail
 have gT:=hid (old_alloc (o':=.cells #[.int .i64 0,.int .i64 0,.int .i64 0,.int .i64 0] 31) (old_alloc (o':=.cells #[.int .i64 0,.int .i64 0,.int .i64 0,.int .i64 0] 31) (new_alloc w w.heap.size (.cells #[.int .i64 b0,.int .i64 b1,.int .i64 b2,.int .i64 b3,.bool b4,.slice (some ⟨bi,0,none⟩) ni ic,.slice (some ⟨bk,0,none⟩) nk kc] 35) rfl)))
 have gR:=hid (old_alloc (o':=.cells #[.int .i64 0,.int .i64 0,.int .i64 0,.int .i64 0] 31) (new_alloc (w.alloc (.cells #[.int .i64 b0,.int .i64 b1,.int .i64 b2,.int .i64 b3,.bool b4,.slice (some ⟨bi,0,none⟩) ni ic,.slice (some ⟨bk,0,none⟩) nk kc] 35)) (w.heap.size + 1) (.cells #[.int .i64 0,.int .i64 0,.int .i64 0,.int .i64 0] 31) (by simp)))
 have gO:=hid (new_alloc ((w.alloc (.cells #[.int .i64 b0,.int .i64 b1,.int .i64 b2,.int .i64 b3,.bool b4,.slice (some ⟨bi,0,none⟩) ni ic,.slice (some ⟨bk,0,none⟩) nk kc] 35)).alloc (.cells #[.int .i64 0,.int .i64 0,.int .i64 0,.int .i64 0] 31)) (w.heap.size + 2) (.cells #[.int .i64 0,.int .i64 0,.int .i64 0,.int .i64 0] 31) (by simp))
 have B0:=hid (balloc (balloc (balloc (Below.refl w.heap.size w) (.cells #[.int .i64 b0,.int .i64 b1,.int .i64 b2,.int .i64 b3,.bool b4,.slice (some ⟨bi,0,none⟩) ni ic,.slice (some ⟨bk,0,none⟩) nk kc] 35)) (.cells #[.int .i64 0,.int .i64 0,.int .i64 0,.int .i64 0] 31)) (.cells #[.int .i64 0,.int .i64 0,.int .i64 0,.int .i64 0] 31))
 generalize ((w.alloc (.cells #[.int .i64 b0,.int .i64 b1,.int .i64 b2,.int .i64 b3,.bool b4,.slice (some ⟨bi,0,none⟩) ni ic,.slice (some ⟨bk,0,none⟩) nk kc] 35)).alloc (.cells #[.int .i64 0,.int .i64 0,.int .i64 0,.int .i64 0] 31)).alloc (.cells #[.int .i64 0,.int .i64 0,.int .i64 0,.int .i64 0] 31) = v0 at *
 go_loopw [4] (fun ti wr => ∃ k:Nat,ti = .int .i64 k ∧ k ≤ ni ∧ wr.heap[w.heap.size]? = some (.cells #[.int .i64 b0,.int .i64 b1,.int .i64 b2,.int .i64 b3,.bool b4,.slice (some ⟨bi,0,none⟩) ni ic,.slice (some ⟨bk,0,none⟩) nk kc] 35 (0,0)) ∧ wr.heap[w.heap.size + 1]? = some (.cells #[.int .i64 0,.int .i64 0,.int .i64 0,.int .i64 0] 31 (0,0)) ∧ wr.heap[w.heap.size + 2]? = some (.cells #[.int .i64 (if k = 0 then ((0,0,0,0):Bx) else jns (ls.take k)).1,.int .i64 (if k = 0 then ((0,0,0,0):Bx) else jns (ls.take k)).2.1,.int .i64 (if k = 0 then ((0,0,0,0):Bx) else jns (ls.take k)).2.2.1,.int .i64 (if k = 0 then ((0,0,0,0):Bx) else jns (ls.take k)).2.2.2] 31 (0,0)) ∧ Below w.heap.size w wr) (fun ti _ => ni - (intOf ti).toNat)
 case atStart => exact ⟨0,rfl,Nat.zero_le _,gT.out,gR.out,gO.out,B0.out⟩
 case round =>
  clear gT gR gO B0
  obtain ⟨k,rfl,hk,gT',gR',gO',B0'⟩:=hrel
  have gT:=hid gT'
  have gR:=hid gR'
  have gO:=hid gO'
  have B0:=hid B0'
  clear gT' gR' gO' B0'
  obtain ⟨a0,a1,a2,a3,a4,a5,a6,_,_,_,_,_,_,_⟩:=cell7k gT.out
  by_cases hlt:k < ni
  ·have hkl:k < ls.length:=by omega
   obtain ⟨c0,c1,c2,c3⟩:=(HI.out.below B0.out).2 k hkl
   have hnx:=jns_next hkl
   generalize ls[k] = bb at *
   by_cases hk0:k = 0
   ·subst hk0
    rw [if_pos rfl] at gO hnx
    simp only [Nat.zero_mul,Nat.zero_add] at c0 c1 c2 c3
    obtain ⟨o0,o1,o2,o3,f0,f1,f2,f3⟩:=cell4b gO.out
    have hk1:(0:Int) < (ni:Int):=by omega
    go_upto_region 7 with fail
    have hnb:bi < w.heap.size:=HI.out.1
    have gO2:=set4b gO.out (.int .i64 bb.1) (.int .i64 bb.2.1) (.int .i64 bb.2.2.1) (.int .i64 bb.2.2.2)
    have gT2:((((wr.setCell ⟨w.heap.size + 2,0,none⟩ (.int .i64 bb.1)).setCell ⟨w.heap.size + 2,1,none⟩ (.int .i64 bb.2.1)).setCell ⟨w.heap.size + 2,2,none⟩ (.int .i64 bb.2.2.1)).setCell ⟨w.heap.size + 2,3,none⟩ (.int .i64 bb.2.2.2)).heap[w.heap.size]? = some (.cells #[.int .i64 b0,.int .i64 b1,.int .i64 b2,.int .i64 b3,.bool b4,.slice (some ⟨bi,0,none⟩) ni ic,.slice (some ⟨bk,0,none⟩) nk kc] 35 (0,0)):=(setL_blk [.int .i64 bb.1,.int .i64 bb.2.1,.int .i64 bb.2.2.1,.int .i64 bb.2.2.2] wr (w.heap.size + 2) 0 _ (by omega)).trans gT.out
    have gR2:((((wr.setCell ⟨w.heap.size + 2,0,none⟩ (.int .i64 bb.1)).setCell ⟨w.heap.size + 2,1,none⟩ (.int .i64 bb.2.1)).setCell ⟨w.heap.size + 2,2,none⟩ (.int .i64 bb.2.2.1)).setCell ⟨w.heap.size + 2,3,none⟩ (.int .i64 bb.2.2.2)).heap[w.heap.size + 1]? = some (.cells #[.int .i64 0,.int .i64 0,.int .i64 0,.int .i64 0] 31 (0,0)):=(setL_blk [.int .i64 bb.1,.int .i64 bb.2.1,.int .i64 bb.2.2.1,.int .i64 bb.2.2.2] wr (w.heap.size + 2) 0 _ (by omega)).trans gR.out
    have B2:Below w.heap.size w ((((wr.setCell ⟨w.heap.size + 2,0,none⟩ (.int .i64 bb.1)).setCell ⟨w.heap.size + 2,1,none⟩ (.int .i64 bb.2.1)).setCell ⟨w.heap.size + 2,2,none⟩ (.int .i64 bb.2.2.1)).setCell ⟨w.heap.size + 2,3,none⟩ (.int .i64 bb.2.2.2)):=setL_below [.int .i64 bb.1,.int .i64 bb.2.1,.int .i64 bb.2.2.1,.int .i64 bb.2.2.2] w wr (w.heap.size + 2) 0 _ B0.out (by omega)
    replace c0:=keepset (q:=⟨w.heap.size + 2,3,none⟩) (u:=.int .i64 bb.2.2.2) (keepset (q:=⟨w.heap.size + 2,2,none⟩) (u:=.int .i64 bb.2.2.1) (keepset (q:=⟨w.heap.size + 2,1,none⟩) (u:=.int .i64 bb.2.1) (keepset (q:=⟨w.heap.size + 2,0,none⟩) (u:=.int .i64 bb.1) c0 (by dsimp only;omega)) (by dsimp only;omega)) (by dsimp only;omega)) (by dsimp only;omega)
    replace c1:=keepset (q:=⟨w.heap.size + 2,3,none⟩) (u:=.int .i64 bb.2.2.2) (keepset (q:=⟨w.heap.size + 2,2,none⟩) (u:=.int .i64 bb.2.2.1) (keepset (q:=⟨w.heap.size + 2,1,none⟩) (u:=.int .i64 bb.2.1) (keepset (q:=⟨w.heap.size + 2,0,none⟩) (u:=.int .i64 bb.1) c1 (by dsimp only;omega)) (by dsimp only;omega)) (by dsimp only;omega)) (by dsimp only;omega)
    replace c2:=keepset (q:=⟨w.heap.size + 2,3,none⟩) (u:=.int .i64 bb.2.2.2) (keepset (q:=⟨w.heap.size + 2,2,none⟩) (u:=.int .i64 bb.2.2.1) (keepset (q:=⟨w.heap.size + 2,1,none⟩) (u:=.int .i64 bb.2.1) (keepset (q:=⟨w.heap.size + 2,0,none⟩) (u:=.int .i64 bb.1) c2 (by dsimp only;omega)) (by dsimp only;omega)) (by dsimp only;omega)) (by dsimp only;omega)
    replace c3:=keepset (q:=⟨w.heap.size + 2,3,none⟩) (u:=.int .i64 bb.2.2.2) (keepset (q:=⟨w.heap.size + 2,2,none⟩) (u:=.int .i64 bb.2.2.1) (keepset (q:=⟨w.heap.size + 2,1,none⟩) (u:=.int .i64 bb.2.1) (keepset (q:=⟨w.heap.size + 2,0,none⟩) (u:=.int .i64 bb.1) c3 (by dsimp only;omega)) (by dsimp only;omega)) (by dsimp only;omega)) (by dsimp only;omega)
    clear o0 o1 o2 o3 f0 f1 f2 f3 a0 a1 a2 a3 a4 a5 a6
    generalize (((wr.setCell ⟨w.heap.size + 2,0,none⟩ (.int .i64 bb.1)).setCell ⟨w.heap.size + 2,1,none⟩ (.int .i64 bb.2.1)).setCell ⟨w.heap.size + 2,2,none⟩ (.int .i64 bb.2.2.1)).setCell ⟨w.heap.size + 2,3,none⟩ (.int .i64 bb.2.2.2) = W at *
    replace gT:=hid gT2
    replace gR:=hid gR2
    replace gO:=hid gO2
    replace B0:=hid B2
    clear gT2 gR2 gO2 B2
    obtain ⟨a0,a1,a2,a3,a4,a5,a6,_,_,_,_,_,_,_⟩:=cell7k gT.out
    have J:=hid (fun W => spec_join bb.1 bb.2.1 bb.2.2.1 bb.2.2.2 bb.1 bb.2.1 bb.2.2.1 bb.2.2.2 W)
    change Hid (∀ W,Calls _ _ _ W (fun e' w' => e' = .returned (.agg #[.int .i64 (jnb bb bb).1,.int .i64 (jnb bb bb).2.1,.int .i64 (jnb bb bb).2.2.1,.int .i64 (jnb bb bb).2.2.2]) ∧ Below W.heap.size W w')) at J
    rw [hnx] at J
    generalize hnn:jns (ls.take (0 + 1)) = nn at *
    have hcut0:True:=trivial
    obtain ⟨o0,o1,o2,o3,f0,f1,f2,f3⟩:=cell4b gO.out
    refine wp_region_held_drew (S:=(fun w' => w'.cell? ⟨w.heap.size,5,none⟩ = some (.slice (some ⟨bi,0,none⟩) ni ic) ∧ w'.cell? ⟨bi,1,none⟩ = some (.int .i64 bb.1) ∧ w'.cell? ⟨bi,2,none⟩ = some (.int .i64 bb.2.1) ∧ w'.cell? ⟨bi,3,none⟩ = some (.int .i64 bb.2.2.1) ∧ w'.cell? ⟨bi,4,none⟩ = some (.int .i64 bb.2.2.2))) (by kernel_rfl) ?_ (fun hHeld => ?_)
    ·exact ⟨a5,c0,c1,c2,c3⟩
    have hbD:=bdrew (Below.refl W.heap.size W)
    replace gT:=hid (keepheap hbD gT.out)
    replace gR:=hid (keepheap hbD gR.out)
    replace gO:=hid (keepheap hbD gO.out)
    replace c0:=keepcell hbD c0
    replace c1:=keepcell hbD c1
    replace c2:=keepcell hbD c2
    replace c3:=keepcell hbD c3
    replace B0:=hid (btrans B0.out hbD)
    clear hbD a0 a1 a2 a3 a4 a5 a6 o0 o1 o2 o3 f0 f1 f2 f3
    obtain ⟨a0,a1,a2,a3,a4,a5,a6,_,_,_,_,_,_,_⟩:=cell7k gT.out
    obtain ⟨o0,o1,o2,o3,f0,f1,f2,f3⟩:=cell4b gO.out
    generalize W.drew = V at *
    refine tkR 1 hHeld ?_
    try simp only [sq]
    refine tkR 2 hHeld ?_
    try simp only [sq]
    refine tkR 3 hHeld ?_
    try simp only [sq]
    refine tkR 4 hHeld ?_
    try simp only [sq]
    refine tkR 5 hHeld ?_
    try simp only [sq]
    refine tkR 6 hHeld ?_
    try simp only [sq]
    refine rd1 0 rfl (fun K hK => ?_)
    try simp only [sq]
    go_simp
    refine hK.out _ _ ?_ (fun hHeld => ?_)
    ·exact ⟨a5,c0,c1,c2,c3⟩
    clear hK K
    try simp only [sq]
    refine rd1 7 rfl (fun K hK => ?_)
    try simp only [sq]
    go_simp
    go_at_call 104
    refine (J.out _).mono ?_
    rintro e y ⟨rfl,hb⟩
    replace gT:=hid (keepheap hb gT.out)
    replace gR:=hid (keepheap hb gR.out)
    replace gO:=hid (keepheap hb gO.out)
    replace c0:=keepcell hb c0
    replace c1:=keepcell hb c1
    replace c2:=keepcell hb c2
    replace c3:=keepcell hb c3
    replace B0:=hid (btrans B0.out hb)
    clear hb a0 a1 a2 a3 a4 a5 a6 o0 o1 o2 o3 f0 f1 f2 f3
    obtain ⟨a0,a1,a2,a3,a4,a5,a6,_,_,_,_,_,_,_⟩:=cell7k gT.out
    obtain ⟨o0,o1,o2,o3,f0,f1,f2,f3⟩:=cell4b gO.out
    go_wp2_with fail
    refine hK.out _ _ ?_ (fun hHeld => ?_)
    ·exact ⟨a5,c0,c1,c2,c3⟩
    clear hK K
    try simp only [sq]
    refine rd1 8 rfl (fun K hK => ?_)
    try simp only [sq]
    go_simp
    have gO2:=set4b gO.out (.int .i64 nn.1) (.int .i64 nn.2.1) (.int .i64 nn.2.2.1) (.int .i64 nn.2.2.2)
    have gT2:((((y.setCell ⟨w.heap.size + 2,0,none⟩ (.int .i64 nn.1)).setCell ⟨w.heap.size + 2,1,none⟩ (.int .i64 nn.2.1)).setCell ⟨w.heap.size + 2,2,none⟩ (.int .i64 nn.2.2.1)).setCell ⟨w.heap.size + 2,3,none⟩ (.int .i64 nn.2.2.2)).heap[w.heap.size]? = some (.cells #[.int .i64 b0,.int .i64 b1,.int .i64 b2,.int .i64 b3,.bool b4,.slice (some ⟨bi,0,none⟩) ni ic,.slice (some ⟨bk,0,none⟩) nk kc] 35 (0,0)):=(setL_blk [.int .i64 nn.1,.int .i64 nn.2.1,.int .i64 nn.2.2.1,.int .i64 nn.2.2.2] y (w.heap.size + 2) 0 _ (by omega)).trans gT.out
    have gR2:((((y.setCell ⟨w.heap.size + 2,0,none⟩ (.int .i64 nn.1)).setCell ⟨w.heap.size + 2,1,none⟩ (.int .i64 nn.2.1)).setCell ⟨w.heap.size + 2,2,none⟩ (.int .i64 nn.2.2.1)).setCell ⟨w.heap.size + 2,3,none⟩ (.int .i64 nn.2.2.2)).heap[w.heap.size + 1]? = some (.cells #[.int .i64 0,.int .i64 0,.int .i64 0,.int .i64 0] 31 (0,0)):=(setL_blk [.int .i64 nn.1,.int .i64 nn.2.1,.int .i64 nn.2.2.1,.int .i64 nn.2.2.2] y (w.heap.size + 2) 0 _ (by omega)).trans gR.out
    have B2:Below w.heap.size w ((((y.setCell ⟨w.heap.size + 2,0,none⟩ (.int .i64 nn.1)).setCell ⟨w.heap.size + 2,1,none⟩ (.int .i64 nn.2.1)).setCell ⟨w.heap.size + 2,2,none⟩ (.int .i64 nn.2.2.1)).setCell ⟨w.heap.size + 2,3,none⟩ (.int .i64 nn.2.2.2)):=setL_below [.int .i64 nn.1,.int .i64 nn.2.1,.int .i64 nn.2.2.1,.int .i64 nn.2.2.2] w y (w.heap.size + 2) 0 _ B0.out (by omega)
    have hne:w.heap.size + 2 ≠ bi:=by have:=HI.out.1;omega
    replace c0:=(cell_blk (setL_blk [.int .i64 nn.1,.int .i64 nn.2.1,.int .i64 nn.2.2.1,.int .i64 nn.2.2.2] y (w.heap.size + 2) 0 _ hne)).trans c0
    replace c1:=(cell_blk (setL_blk [.int .i64 nn.1,.int .i64 nn.2.1,.int .i64 nn.2.2.1,.int .i64 nn.2.2.2] y (w.heap.size + 2) 0 _ hne)).trans c1
    replace c2:=(cell_blk (setL_blk [.int .i64 nn.1,.int .i64 nn.2.1,.int .i64 nn.2.2.1,.int .i64 nn.2.2.2] y (w.heap.size + 2) 0 _ hne)).trans c2
    replace c3:=(cell_blk (setL_blk [.int .i64 nn.1,.int .i64 nn.2.1,.int .i64 nn.2.2.1,.int .i64 nn.2.2.2] y (w.heap.size + 2) 0 _ hne)).trans c3
    clear a0 a1 a2 a3 a4 a5 a6 o0 o1 o2 o3 f0 f1 f2 f3
    obtain ⟨a0,a1,a2,a3,a4,a5,a6,_,_,_,_,_,_,_⟩:=cell7k gT2
    refine hK.out _ _ ?_ (fun hHeld => ?_)
    ·exact ⟨a5,c0,c1,c2,c3⟩
    clear hK K
    try simp only [sq]
    refine wpAnyH_done (by kernel_rfl) ?_ _
    go_wp2_with fail
    go_roundw
    case rel => exact ⟨0 + 1,by go_num,by omega,gT2,gR2,by rw [if_neg (by omega),hnn];exact gO2,B2⟩
    case measure => simp [intOf];omega
   ·rw [if_neg hk0] at gO hnx
    have hk1:(k:Int) < (ni:Int):=by omega
    have hk2:¬ (k:Int) = 0:=by omega
    have hk3:(0:Int) ≤ (k:Int):=by omega
    generalize jns (ls.take k) = cc at *
    go_upto_region 7 with fail
    clear a0 a1 a2 a3 a4 a5 a6
    obtain ⟨a0,a1,a2,a3,a4,a5,a6,_,_,_,_,_,_,_⟩:=cell7k gT.out
    have J:=hid (fun W => spec_join cc.1 cc.2.1 cc.2.2.1 cc.2.2.2 bb.1 bb.2.1 bb.2.2.1 bb.2.2.2 W)
    change Hid (∀ W,Calls _ _ _ W (fun e' w' => e' = .returned (.agg #[.int .i64 (jnb cc bb).1,.int .i64 (jnb cc bb).2.1,.int .i64 (jnb cc bb).2.2.1,.int .i64 (jnb cc bb).2.2.2]) ∧ Below W.heap.size W w')) at J
    rw [hnx] at J
    generalize hnn:jns (ls.take (k + 1)) = nn at *
    have hcut0:True:=trivial
    obtain ⟨o0,o1,o2,o3,f0,f1,f2,f3⟩:=cell4b gO.out
    refine wp_region_held_drew (S:=(fun w' => w'.cell? ⟨w.heap.size,5,none⟩ = some (.slice (some ⟨bi,0,none⟩) ni ic) ∧ w'.cell? ⟨bi,k * 5 + 1,none⟩ = some (.int .i64 bb.1) ∧ w'.cell? ⟨bi,k * 5 + 2,none⟩ = some (.int .i64 bb.2.1) ∧ w'.cell? ⟨bi,k * 5 + 3,none⟩ = some (.int .i64 bb.2.2.1) ∧ w'.cell? ⟨bi,k * 5 + 4,none⟩ = some (.int .i64 bb.2.2.2))) (by kernel_rfl) ?_ (fun hHeld => ?_)
    ·exact ⟨a5,c0,c1,c2,c3⟩
    have hbD:=bdrew (Below.refl wr.heap.size wr)
    replace gT:=hid (keepheap hbD gT.out)
    replace gR:=hid (keepheap hbD gR.out)
    replace gO:=hid (keepheap hbD gO.out)
    replace c0:=keepcell hbD c0
    replace c1:=keepcell hbD c1
    replace c2:=keepcell hbD c2
    replace c3:=keepcell hbD c3
    replace B0:=hid (btrans B0.out hbD)
    clear hbD a0 a1 a2 a3 a4 a5 a6 o0 o1 o2 o3 f0 f1 f2 f3
    obtain ⟨a0,a1,a2,a3,a4,a5,a6,_,_,_,_,_,_,_⟩:=cell7k gT.out
    obtain ⟨o0,o1,o2,o3,f0,f1,f2,f3⟩:=cell4b gO.out
    generalize wr.drew = V at *
    refine tkR 1 hHeld ?_
    try simp only [sq]
    refine tkR 2 hHeld ?_
    try simp only [sq]
    refine tkR 3 hHeld ?_
    try simp only [sq]
    refine tkR 4 hHeld ?_
    try simp only [sq]
    refine tkR 5 hHeld ?_
    try simp only [sq]
    refine tkR 6 hHeld ?_
    try simp only [sq]
    refine rd1 0 rfl (fun K hK => ?_)
    try simp only [sq]
    go_simp
    refine hK.out _ _ ?_ (fun hHeld => ?_)
    ·exact ⟨a5,c0,c1,c2,c3⟩
    clear hK K
    try simp only [sq]
    refine rd1 7 rfl (fun K hK => ?_)
    try simp only [sq]
    go_simp
    go_at_call 104
    refine (J.out _).mono ?_
    rintro e y ⟨rfl,hb⟩
    replace gT:=hid (keepheap hb gT.out)
    replace gR:=hid (keepheap hb gR.out)
    replace gO:=hid (keepheap hb gO.out)
    replace c0:=keepcell hb c0
    replace c1:=keepcell hb c1
    replace c2:=keepcell hb c2
    replace c3:=keepcell hb c3
    replace B0:=hid (btrans B0.out hb)
    clear hb a0 a1 a2 a3 a4 a5 a6 o0 o1 o2 o3 f0 f1 f2 f3
    obtain ⟨a0,a1,a2,a3,a4,a5,a6,_,_,_,_,_,_,_⟩:=cell7k gT.out
    obtain ⟨o0,o1,o2,o3,f0,f1,f2,f3⟩:=cell4b gO.out
    go_wp2_with fail
    refine hK.out _ _ ?_ (fun hHeld => ?_)
    ·exact ⟨a5,c0,c1,c2,c3⟩
    clear hK K
    try simp only [sq]
    refine rd1 8 rfl (fun K hK => ?_)
    try simp only [sq]
    go_simp
    have gO2:=set4b gO.out (.int .i64 nn.1) (.int .i64 nn.2.1) (.int .i64 nn.2.2.1) (.int .i64 nn.2.2.2)
    have gT2:((((y.setCell ⟨w.heap.size + 2,0,none⟩ (.int .i64 nn.1)).setCell ⟨w.heap.size + 2,1,none⟩ (.int .i64 nn.2.1)).setCell ⟨w.heap.size + 2,2,none⟩ (.int .i64 nn.2.2.1)).setCell ⟨w.heap.size + 2,3,none⟩ (.int .i64 nn.2.2.2)).heap[w.heap.size]? = some (.cells #[.int .i64 b0,.int .i64 b1,.int .i64 b2,.int .i64 b3,.bool b4,.slice (some ⟨bi,0,none⟩) ni ic,.slice (some ⟨bk,0,none⟩) nk kc] 35 (0,0)):=(setL_blk [.int .i64 nn.1,.int .i64 nn.2.1,.int .i64 nn.2.2.1,.int .i64 nn.2.2.2] y (w.heap.size + 2) 0 _ (by omega)).trans gT.out
    have gR2:((((y.setCell ⟨w.heap.size + 2,0,none⟩ (.int .i64 nn.1)).setCell ⟨w.heap.size + 2,1,none⟩ (.int .i64 nn.2.1)).setCell ⟨w.heap.size + 2,2,none⟩ (.int .i64 nn.2.2.1)).setCell ⟨w.heap.size + 2,3,none⟩ (.int .i64 nn.2.2.2)).heap[w.heap.size + 1]? = some (.cells #[.int .i64 0,.int .i64 0,.int .i64 0,.int .i64 0] 31 (0,0)):=(setL_blk [.int .i64 nn.1,.int .i64 nn.2.1,.int .i64 nn.2.2.1,.int .i64 nn.2.2.2] y (w.heap.size + 2) 0 _ (by omega)).trans gR.out
    have B2:Below w.heap.size w ((((y.setCell ⟨w.heap.size + 2,0,none⟩ (.int .i64 nn.1)).setCell ⟨w.heap.size + 2,1,none⟩ (.int .i64 nn.2.1)).setCell ⟨w.heap.size + 2,2,none⟩ (.int .i64 nn.2.2.1)).setCell ⟨w.heap.size + 2,3,none⟩ (.int .i64 nn.2.2.2)):=setL_below [.int .i64 nn.1,.int .i64 nn.2.1,.int .i64 nn.2.2.1,.int .i64 nn.2.2.2] w y (w.heap.size + 2) 0 _ B0.out (by omega)
    have hne:w.heap.size + 2 ≠ bi:=by have:=HI.out.1;omega
    replace c0:=(cell_blk (setL_blk [.int .i64 nn.1,.int .i64 nn.2.1,.int .i64 nn.2.2.1,.int .i64 nn.2.2.2] y (w.heap.size + 2) 0 _ hne)).trans c0
    replace c1:=(cell_blk (setL_blk [.int .i64 nn.1,.int .i64 nn.2.1,.int .i64 nn.2.2.1,.int .i64 nn.2.2.2] y (w.heap.size + 2) 0 _ hne)).trans c1
    replace c2:=(cell_blk (setL_blk [.int .i64 nn.1,.int .i64 nn.2.1,.int .i64 nn.2.2.1,.int .i64 nn.2.2.2] y (w.heap.size + 2) 0 _ hne)).trans c2
    replace c3:=(cell_blk (setL_blk [.int .i64 nn.1,.int .i64 nn.2.1,.int .i64 nn.2.2.1,.int .i64 nn.2.2.2] y (w.heap.size + 2) 0 _ hne)).trans c3
    clear a0 a1 a2 a3 a4 a5 a6 o0 o1 o2 o3 f0 f1 f2 f3
    obtain ⟨a0,a1,a2,a3,a4,a5,a6,_,_,_,_,_,_,_⟩:=cell7k gT2
    refine hK.out _ _ ?_ (fun hHeld => ?_)
    ·exact ⟨a5,c0,c1,c2,c3⟩
    clear hK K
    try simp only [sq]
    refine wpAnyH_done (by kernel_rfl) ?_ _
    go_wp2_with fail
    go_roundw
    case rel => exact ⟨k + 1,by go_num,by omega,gT2,gR2,by rw [if_neg (by omega),hnn];exact gO2,B2⟩
    case measure => simp [intOf];omega
  ·have hk1:¬ (k:Int) < (ni:Int):=by omega
   have hcur:(if k = 0 then ((0,0,0,0):Bx) else jns (ls.take k)) = jns ls:=by
    have e:k = ls.length:=by omega
    subst e
    rw [List.take_length]
    split
    ·rename_i h0
     rw [List.length_eq_zero_iff.1 h0];rfl
    ·rfl
   rw [hcur] at gO
   clear hcur hlt hk
   go_upto_region 8 with fail
   clear a0 a1 a2 a3 a4 a5 a6
   go_wp2_with fail
   go_loopw [5] (fun ti wr => ∃ k:Nat,ti = .int .i64 k ∧ k ≤ nk ∧ wr.heap[w.heap.size]? = some (.cells #[.int .i64 b0,.int .i64 b1,.int .i64 b2,.int .i64 b3,.bool b4,.slice (some ⟨bi,0,none⟩) ni ic,.slice (some ⟨bk,0,none⟩) nk kc] 35 (0,0)) ∧ wr.heap[w.heap.size + 1]? = some (.cells #[.int .i64 0,.int .i64 0,.int .i64 0,.int .i64 0] 31 (0,0)) ∧ wr.heap[w.heap.size + 2]? = some (.cells #[.int .i64 (if k = 0 then jns ls else jns (ks.take k)).1,.int .i64 (if k = 0 then jns ls else jns (ks.take k)).2.1,.int .i64 (if k = 0 then jns ls else jns (ks.take k)).2.2.1,.int .i64 (if k = 0 then jns ls else jns (ks.take k)).2.2.2] 31 (0,0)) ∧ Below w.heap.size w wr) (fun ti _ => nk - (intOf ti).toNat)
   case atStart => exact ⟨0,rfl,Nat.zero_le _,gT.out,gR.out,gO.out,B0.out⟩
   case round =>
    clear gT gR gO B0
    obtain ⟨k,rfl,hk,gT',gR',gO',B0'⟩:=hrel
    have gT:=hid gT'
    have gR:=hid gR'
    have gO:=hid gO'
    have B0:=hid B0'
    clear gT' gR' gO' B0'
    obtain ⟨a0,a1,a2,a3,a4,a5,a6,_,_,_,_,_,_,_⟩:=cell7k gT.out
    by_cases hlt:k < nk
    ·have hkl:k < ks.length:=by omega
     obtain ⟨c0,c1,c2,c3⟩:=(HK.out.below B0.out).2 k hkl
     have hnx:=jns_next hkl
     generalize ks[k] = bb at *
     by_cases hk0:k = 0
     ·subst hk0
      rw [if_pos rfl] at gO hnx
      simp only [Nat.zero_mul,Nat.zero_add] at c0 c1 c2 c3
      obtain ⟨o0,o1,o2,o3,f0,f1,f2,f3⟩:=cell4b gO.out
      have hk1:(0:Int) < (nk:Int):=by omega
      go_upto_region 13 with fail
      have hnb:bk < w.heap.size:=HK.out.1
      have gO2:=set4b gO.out (.int .i64 bb.1) (.int .i64 bb.2.1) (.int .i64 bb.2.2.1) (.int .i64 bb.2.2.2)
      have gT2:((((wr.setCell ⟨w.heap.size + 2,0,none⟩ (.int .i64 bb.1)).setCell ⟨w.heap.size + 2,1,none⟩ (.int .i64 bb.2.1)).setCell ⟨w.heap.size + 2,2,none⟩ (.int .i64 bb.2.2.1)).setCell ⟨w.heap.size + 2,3,none⟩ (.int .i64 bb.2.2.2)).heap[w.heap.size]? = some (.cells #[.int .i64 b0,.int .i64 b1,.int .i64 b2,.int .i64 b3,.bool b4,.slice (some ⟨bi,0,none⟩) ni ic,.slice (some ⟨bk,0,none⟩) nk kc] 35 (0,0)):=(setL_blk [.int .i64 bb.1,.int .i64 bb.2.1,.int .i64 bb.2.2.1,.int .i64 bb.2.2.2] wr (w.heap.size + 2) 0 _ (by omega)).trans gT.out
      have gR2:((((wr.setCell ⟨w.heap.size + 2,0,none⟩ (.int .i64 bb.1)).setCell ⟨w.heap.size + 2,1,none⟩ (.int .i64 bb.2.1)).setCell ⟨w.heap.size + 2,2,none⟩ (.int .i64 bb.2.2.1)).setCell ⟨w.heap.size + 2,3,none⟩ (.int .i64 bb.2.2.2)).heap[w.heap.size + 1]? = some (.cells #[.int .i64 0,.int .i64 0,.int .i64 0,.int .i64 0] 31 (0,0)):=(setL_blk [.int .i64 bb.1,.int .i64 bb.2.1,.int .i64 bb.2.2.1,.int .i64 bb.2.2.2] wr (w.heap.size + 2) 0 _ (by omega)).trans gR.out
      have B2:Below w.heap.size w ((((wr.setCell ⟨w.heap.size + 2,0,none⟩ (.int .i64 bb.1)).setCell ⟨w.heap.size + 2,1,none⟩ (.int .i64 bb.2.1)).setCell ⟨w.heap.size + 2,2,none⟩ (.int .i64 bb.2.2.1)).setCell ⟨w.heap.size + 2,3,none⟩ (.int .i64 bb.2.2.2)):=setL_below [.int .i64 bb.1,.int .i64 bb.2.1,.int .i64 bb.2.2.1,.int .i64 bb.2.2.2] w wr (w.heap.size + 2) 0 _ B0.out (by omega)
      replace c0:=keepset (q:=⟨w.heap.size + 2,3,none⟩) (u:=.int .i64 bb.2.2.2) (keepset (q:=⟨w.heap.size + 2,2,none⟩) (u:=.int .i64 bb.2.2.1) (keepset (q:=⟨w.heap.size + 2,1,none⟩) (u:=.int .i64 bb.2.1) (keepset (q:=⟨w.heap.size + 2,0,none⟩) (u:=.int .i64 bb.1) c0 (by dsimp only;omega)) (by dsimp only;omega)) (by dsimp only;omega)) (by dsimp only;omega)
      replace c1:=keepset (q:=⟨w.heap.size + 2,3,none⟩) (u:=.int .i64 bb.2.2.2) (keepset (q:=⟨w.heap.size + 2,2,none⟩) (u:=.int .i64 bb.2.2.1) (keepset (q:=⟨w.heap.size + 2,1,none⟩) (u:=.int .i64 bb.2.1) (keepset (q:=⟨w.heap.size + 2,0,none⟩) (u:=.int .i64 bb.1) c1 (by dsimp only;omega)) (by dsimp only;omega)) (by dsimp only;omega)) (by dsimp only;omega)
      replace c2:=keepset (q:=⟨w.heap.size + 2,3,none⟩) (u:=.int .i64 bb.2.2.2) (keepset (q:=⟨w.heap.size + 2,2,none⟩) (u:=.int .i64 bb.2.2.1) (keepset (q:=⟨w.heap.size + 2,1,none⟩) (u:=.int .i64 bb.2.1) (keepset (q:=⟨w.heap.size + 2,0,none⟩) (u:=.int .i64 bb.1) c2 (by dsimp only;omega)) (by dsimp only;omega)) (by dsimp only;omega)) (by dsimp only;omega)
      replace c3:=keepset (q:=⟨w.heap.size + 2,3,none⟩) (u:=.int .i64 bb.2.2.2) (keepset (q:=⟨w.heap.size + 2,2,none⟩) (u:=.int .i64 bb.2.2.1) (keepset (q:=⟨w.heap.size + 2,1,none⟩) (u:=.int .i64 bb.2.1) (keepset (q:=⟨w.heap.size + 2,0,none⟩) (u:=.int .i64 bb.1) c3 (by dsimp only;omega)) (by dsimp only;omega)) (by dsimp only;omega)) (by dsimp only;omega)
      clear o0 o1 o2 o3 f0 f1 f2 f3 a0 a1 a2 a3 a4 a5 a6
      generalize (((wr.setCell ⟨w.heap.size + 2,0,none⟩ (.int .i64 bb.1)).setCell ⟨w.heap.size + 2,1,none⟩ (.int .i64 bb.2.1)).setCell ⟨w.heap.size + 2,2,none⟩ (.int .i64 bb.2.2.1)).setCell ⟨w.heap.size + 2,3,none⟩ (.int .i64 bb.2.2.2) = W at *
      replace gT:=hid gT2
      replace gR:=hid gR2
      replace gO:=hid gO2
      replace B0:=hid B2
      clear gT2 gR2 gO2 B2
      obtain ⟨a0,a1,a2,a3,a4,a5,a6,_,_,_,_,_,_,_⟩:=cell7k gT.out
      have J:=hid (fun W => spec_join bb.1 bb.2.1 bb.2.2.1 bb.2.2.2 bb.1 bb.2.1 bb.2.2.1 bb.2.2.2 W)
      change Hid (∀ W,Calls _ _ _ W (fun e' w' => e' = .returned (.agg #[.int .i64 (jnb bb bb).1,.int .i64 (jnb bb bb).2.1,.int .i64 (jnb bb bb).2.2.1,.int .i64 (jnb bb bb).2.2.2]) ∧ Below W.heap.size W w')) at J
      rw [hnx] at J
      generalize hnn:jns (ks.take (0 + 1)) = nn at *
      have hcut0:True:=trivial
      obtain ⟨o0,o1,o2,o3,f0,f1,f2,f3⟩:=cell4b gO.out
      refine wp_region_held_drew (S:=(fun w' => w'.cell? ⟨w.heap.size,6,none⟩ = some (.slice (some ⟨bk,0,none⟩) nk kc) ∧ w'.cell? ⟨bk,0,none⟩ = some (.int .i64 bb.1) ∧ w'.cell? ⟨bk,1,none⟩ = some (.int .i64 bb.2.1) ∧ w'.cell? ⟨bk,2,none⟩ = some (.int .i64 bb.2.2.1) ∧ w'.cell? ⟨bk,3,none⟩ = some (.int .i64 bb.2.2.2))) (by kernel_rfl) ?_ (fun hHeld => ?_)
      ·exact ⟨a6,c0,c1,c2,c3⟩
      have hbD:=bdrew (Below.refl W.heap.size W)
      replace gT:=hid (keepheap hbD gT.out)
      replace gR:=hid (keepheap hbD gR.out)
      replace gO:=hid (keepheap hbD gO.out)
      replace c0:=keepcell hbD c0
      replace c1:=keepcell hbD c1
      replace c2:=keepcell hbD c2
      replace c3:=keepcell hbD c3
      replace B0:=hid (btrans B0.out hbD)
      clear hbD a0 a1 a2 a3 a4 a5 a6 o0 o1 o2 o3 f0 f1 f2 f3
      obtain ⟨a0,a1,a2,a3,a4,a5,a6,_,_,_,_,_,_,_⟩:=cell7k gT.out
      obtain ⟨o0,o1,o2,o3,f0,f1,f2,f3⟩:=cell4b gO.out
      generalize W.drew = V at *
      refine tkR 1 hHeld ?_
      try simp only [sq]
      refine tkR 2 hHeld ?_
      try simp only [sq]
      refine tkR 3 hHeld ?_
      try simp only [sq]
      refine tkR 4 hHeld ?_
      try simp only [sq]
      refine tkR 5 hHeld ?_
      try simp only [sq]
      refine tkR 6 hHeld ?_
      try simp only [sq]
      refine rd1 0 rfl (fun K hK => ?_)
      try simp only [sq]
      go_simp
      refine hK.out _ _ ?_ (fun hHeld => ?_)
      ·exact ⟨a6,c0,c1,c2,c3⟩
      clear hK K
      try simp only [sq]
      refine rd1 7 rfl (fun K hK => ?_)
      try simp only [sq]
      go_simp
      go_at_call 104
      refine (J.out _).mono ?_
      rintro e y ⟨rfl,hb⟩
      replace gT:=hid (keepheap hb gT.out)
      replace gR:=hid (keepheap hb gR.out)
      replace gO:=hid (keepheap hb gO.out)
      replace c0:=keepcell hb c0
      replace c1:=keepcell hb c1
      replace c2:=keepcell hb c2
      replace c3:=keepcell hb c3
      replace B0:=hid (btrans B0.out hb)
      clear hb a0 a1 a2 a3 a4 a5 a6 o0 o1 o2 o3 f0 f1 f2 f3
      obtain ⟨a0,a1,a2,a3,a4,a5,a6,_,_,_,_,_,_,_⟩:=cell7k gT.out
      obtain ⟨o0,o1,o2,o3,f0,f1,f2,f3⟩:=cell4b gO.out
      go_wp2_with fail
      refine hK.out _ _ ?_ (fun hHeld => ?_)
      ·exact ⟨a6,c0,c1,c2,c3⟩
      clear hK K
      try simp only [sq]
      refine rd1 8 rfl (fun K hK => ?_)
      try simp only [sq]
      go_simp
      have gO2:=set4b gO.out (.int .i64 nn.1) (.int .i64 nn.2.1) (.int .i64 nn.2.2.1) (.int .i64 nn.2.2.2)
      have gT2:((((y.setCell ⟨w.heap.size + 2,0,none⟩ (.int .i64 nn.1)).setCell ⟨w.heap.size + 2,1,none⟩ (.int .i64 nn.2.1)).setCell ⟨w.heap.size + 2,2,none⟩ (.int .i64 nn.2.2.1)).setCell ⟨w.heap.size + 2,3,none⟩ (.int .i64 nn.2.2.2)).heap[w.heap.size]? = some (.cells #[.int .i64 b0,.int .i64 b1,.int .i64 b2,.int .i64 b3,.bool b4,.slice (some ⟨bi,0,none⟩) ni ic,.slice (some ⟨bk,0,none⟩) nk kc] 35 (0,0)):=(setL_blk [.int .i64 nn.1,.int .i64 nn.2.1,.int .i64 nn.2.2.1,.int .i64 nn.2.2.2] y (w.heap.size + 2) 0 _ (by omega)).trans gT.out
      have gR2:((((y.setCell ⟨w.heap.size + 2,0,none⟩ (.int .i64 nn.1)).setCell ⟨w.heap.size + 2,1,none⟩ (.int .i64 nn.2.1)).setCell ⟨w.heap.size + 2,2,none⟩ (.int .i64 nn.2.2.1)).setCell ⟨w.heap.size + 2,3,none⟩ (.int .i64 nn.2.2.2)).heap[w.heap.size + 1]? = some (.cells #[.int .i64 0,.int .i64 0,.int .i64 0,.int .i64 0] 31 (0,0)):=(setL_blk [.int .i64 nn.1,.int .i64 nn.2.1,.int .i64 nn.2.2.1,.int .i64 nn.2.2.2] y (w.heap.size + 2) 0 _ (by omega)).trans gR.out
      have B2:Below w.heap.size w ((((y.setCell ⟨w.heap.size + 2,0,none⟩ (.int .i64 nn.1)).setCell ⟨w.heap.size + 2,1,none⟩ (.int .i64 nn.2.1)).setCell ⟨w.heap.size + 2,2,none⟩ (.int .i64 nn.2.2.1)).setCell ⟨w.heap.size + 2,3,none⟩ (.int .i64 nn.2.2.2)):=setL_below [.int .i64 nn.1,.int .i64 nn.2.1,.int .i64 nn.2.2.1,.int .i64 nn.2.2.2] w y (w.heap.size + 2) 0 _ B0.out (by omega)
      have hne:w.heap.size + 2 ≠ bk:=by have:=HK.out.1;omega
      replace c0:=(cell_blk (setL_blk [.int .i64 nn.1,.int .i64 nn.2.1,.int .i64 nn.2.2.1,.int .i64 nn.2.2.2] y (w.heap.size + 2) 0 _ hne)).trans c0
      replace c1:=(cell_blk (setL_blk [.int .i64 nn.1,.int .i64 nn.2.1,.int .i64 nn.2.2.1,.int .i64 nn.2.2.2] y (w.heap.size + 2) 0 _ hne)).trans c1
      replace c2:=(cell_blk (setL_blk [.int .i64 nn.1,.int .i64 nn.2.1,.int .i64 nn.2.2.1,.int .i64 nn.2.2.2] y (w.heap.size + 2) 0 _ hne)).trans c2
      replace c3:=(cell_blk (setL_blk [.int .i64 nn.1,.int .i64 nn.2.1,.int .i64 nn.2.2.1,.int .i64 nn.2.2.2] y (w.heap.size + 2) 0 _ hne)).trans c3
      clear a0 a1 a2 a3 a4 a5 a6 o0 o1 o2 o3 f0 f1 f2 f3
      obtain ⟨a0,a1,a2,a3,a4,a5,a6,_,_,_,_,_,_,_⟩:=cell7k gT2
      refine hK.out _ _ ?_ (fun hHeld => ?_)
      ·exact ⟨a6,c0,c1,c2,c3⟩
      clear hK K
      try simp only [sq]
      refine wpAnyH_done (by kernel_rfl) ?_ _
      go_wp2_with fail
      go_roundw
      case rel => exact ⟨0 + 1,by go_num,by omega,gT2,gR2,by rw [if_neg (by omega),hnn];exact gO2,B2⟩
      case measure => simp [intOf];omega
     ·rw [if_neg hk0] at gO hnx
      have hk1:(k:Int) < (nk:Int):=by omega
      have hk2:¬ (k:Int) = 0:=by omega
      have hk3:(0:Int) ≤ (k:Int):=by omega
      generalize jns (ks.take k) = cc at *
      go_upto_region 13 with fail
      clear a0 a1 a2 a3 a4 a5 a6
      obtain ⟨a0,a1,a2,a3,a4,a5,a6,_,_,_,_,_,_,_⟩:=cell7k gT.out
      have J:=hid (fun W => spec_join cc.1 cc.2.1 cc.2.2.1 cc.2.2.2 bb.1 bb.2.1 bb.2.2.1 bb.2.2.2 W)
      change Hid (∀ W,Calls _ _ _ W (fun e' w' => e' = .returned (.agg #[.int .i64 (jnb cc bb).1,.int .i64 (jnb cc bb).2.1,.int .i64 (jnb cc bb).2.2.1,.int .i64 (jnb cc bb).2.2.2]) ∧ Below W.heap.size W w')) at J
      rw [hnx] at J
      generalize hnn:jns (ks.take (k + 1)) = nn at *
      have hcut0:True:=trivial
      obtain ⟨o0,o1,o2,o3,f0,f1,f2,f3⟩:=cell4b gO.out
      refine wp_region_held_drew (S:=(fun w' => w'.cell? ⟨w.heap.size,6,none⟩ = some (.slice (some ⟨bk,0,none⟩) nk kc) ∧ w'.cell? ⟨bk,k * 7,none⟩ = some (.int .i64 bb.1) ∧ w'.cell? ⟨bk,k * 7 + 1,none⟩ = some (.int .i64 bb.2.1) ∧ w'.cell? ⟨bk,k * 7 + 2,none⟩ = some (.int .i64 bb.2.2.1) ∧ w'.cell? ⟨bk,k * 7 + 3,none⟩ = some (.int .i64 bb.2.2.2))) (by kernel_rfl) ?_ (fun hHeld => ?_)
      ·exact ⟨a6,c0,c1,c2,c3⟩
      have hbD:=bdrew (Below.refl wr.heap.size wr)
      replace gT:=hid (keepheap hbD gT.out)
      replace gR:=hid (keepheap hbD gR.out)
      replace gO:=hid (keepheap hbD gO.out)
      replace c0:=keepcell hbD c0
      replace c1:=keepcell hbD c1
      replace c2:=keepcell hbD c2
      replace c3:=keepcell hbD c3
      replace B0:=hid (btrans B0.out hbD)
      clear hbD a0 a1 a2 a3 a4 a5 a6 o0 o1 o2 o3 f0 f1 f2 f3
      obtain ⟨a0,a1,a2,a3,a4,a5,a6,_,_,_,_,_,_,_⟩:=cell7k gT.out
      obtain ⟨o0,o1,o2,o3,f0,f1,f2,f3⟩:=cell4b gO.out
      generalize wr.drew = V at *
      refine tkR 1 hHeld ?_
      try simp only [sq]
      refine tkR 2 hHeld ?_
      try simp only [sq]
      refine tkR 3 hHeld ?_
      try simp only [sq]
      refine tkR 4 hHeld ?_
      try simp only [sq]
      refine tkR 5 hHeld ?_
      try simp only [sq]
      refine tkR 6 hHeld ?_
      try simp only [sq]
      refine rd1 0 rfl (fun K hK => ?_)
      try simp only [sq]
      go_simp
      refine hK.out _ _ ?_ (fun hHeld => ?_)
      ·exact ⟨a6,c0,c1,c2,c3⟩
      clear hK K
      try simp only [sq]
      refine rd1 7 rfl (fun K hK => ?_)
      try simp only [sq]
      go_simp
      go_at_call 104
      refine (J.out _).mono ?_
      rintro e y ⟨rfl,hb⟩
      replace gT:=hid (keepheap hb gT.out)
      replace gR:=hid (keepheap hb gR.out)
      replace gO:=hid (keepheap hb gO.out)
      replace c0:=keepcell hb c0
      replace c1:=keepcell hb c1
      replace c2:=keepcell hb c2
      replace c3:=keepcell hb c3
      replace B0:=hid (btrans B0.out hb)
      clear hb a0 a1 a2 a3 a4 a5 a6 o0 o1 o2 o3 f0 f1 f2 f3
      obtain ⟨a0,a1,a2,a3,a4,a5,a6,_,_,_,_,_,_,_⟩:=cell7k gT.out
      obtain ⟨o0,o1,o2,o3,f0,f1,f2,f3⟩:=cell4b gO.out
      go_wp2_with fail
      refine hK.out _ _ ?_ (fun hHeld => ?_)
      ·exact ⟨a6,c0,c1,c2,c3⟩
      clear hK K
      try simp only [sq]
      refine rd1 8 rfl (fun K hK => ?_)
      try simp only [sq]
      go_simp
      have gO2:=set4b gO.out (.int .i64 nn.1) (.int .i64 nn.2.1) (.int .i64 nn.2.2.1) (.int .i64 nn.2.2.2)
      have gT2:((((y.setCell ⟨w.heap.size + 2,0,none⟩ (.int .i64 nn.1)).setCell ⟨w.heap.size + 2,1,none⟩ (.int .i64 nn.2.1)).setCell ⟨w.heap.size + 2,2,none⟩ (.int .i64 nn.2.2.1)).setCell ⟨w.heap.size + 2,3,none⟩ (.int .i64 nn.2.2.2)).heap[w.heap.size]? = some (.cells #[.int .i64 b0,.int .i64 b1,.int .i64 b2,.int .i64 b3,.bool b4,.slice (some ⟨bi,0,none⟩) ni ic,.slice (some ⟨bk,0,none⟩) nk kc] 35 (0,0)):=(setL_blk [.int .i64 nn.1,.int .i64 nn.2.1,.int .i64 nn.2.2.1,.int .i64 nn.2.2.2] y (w.heap.size + 2) 0 _ (by omega)).trans gT.out
      have gR2:((((y.setCell ⟨w.heap.size + 2,0,none⟩ (.int .i64 nn.1)).setCell ⟨w.heap.size + 2,1,none⟩ (.int .i64 nn.2.1)).setCell ⟨w.heap.size + 2,2,none⟩ (.int .i64 nn.2.2.1)).setCell ⟨w.heap.size + 2,3,none⟩ (.int .i64 nn.2.2.2)).heap[w.heap.size + 1]? = some (.cells #[.int .i64 0,.int .i64 0,.int .i64 0,.int .i64 0] 31 (0,0)):=(setL_blk [.int .i64 nn.1,.int .i64 nn.2.1,.int .i64 nn.2.2.1,.int .i64 nn.2.2.2] y (w.heap.size + 2) 0 _ (by omega)).trans gR.out
      have B2:Below w.heap.size w ((((y.setCell ⟨w.heap.size + 2,0,none⟩ (.int .i64 nn.1)).setCell ⟨w.heap.size + 2,1,none⟩ (.int .i64 nn.2.1)).setCell ⟨w.heap.size + 2,2,none⟩ (.int .i64 nn.2.2.1)).setCell ⟨w.heap.size + 2,3,none⟩ (.int .i64 nn.2.2.2)):=setL_below [.int .i64 nn.1,.int .i64 nn.2.1,.int .i64 nn.2.2.1,.int .i64 nn.2.2.2] w y (w.heap.size + 2) 0 _ B0.out (by omega)
      have hne:w.heap.size + 2 ≠ bk:=by have:=HK.out.1;omega
      replace c0:=(cell_blk (setL_blk [.int .i64 nn.1,.int .i64 nn.2.1,.int .i64 nn.2.2.1,.int .i64 nn.2.2.2] y (w.heap.size + 2) 0 _ hne)).trans c0
      replace c1:=(cell_blk (setL_blk [.int .i64 nn.1,.int .i64 nn.2.1,.int .i64 nn.2.2.1,.int .i64 nn.2.2.2] y (w.heap.size + 2) 0 _ hne)).trans c1
      replace c2:=(cell_blk (setL_blk [.int .i64 nn.1,.int .i64 nn.2.1,.int .i64 nn.2.2.1,.int .i64 nn.2.2.2] y (w.heap.size + 2) 0 _ hne)).trans c2
      replace c3:=(cell_blk (setL_blk [.int .i64 nn.1,.int .i64 nn.2.1,.int .i64 nn.2.2.1,.int .i64 nn.2.2.2] y (w.heap.size + 2) 0 _ hne)).trans c3
      clear a0 a1 a2 a3 a4 a5 a6 o0 o1 o2 o3 f0 f1 f2 f3
      obtain ⟨a0,a1,a2,a3,a4,a5,a6,_,_,_,_,_,_,_⟩:=cell7k gT2
      refine hK.out _ _ ?_ (fun hHeld => ?_)
      ·exact ⟨a6,c0,c1,c2,c3⟩
      clear hK K
      try simp only [sq]
      refine wpAnyH_done (by kernel_rfl) ?_ _
      go_wp2_with fail
      go_roundw
      case rel => exact ⟨k + 1,by go_num,by omega,gT2,gR2,by rw [if_neg (by omega),hnn];exact gO2,B2⟩
      case measure => simp [intOf];omega
    ·have hk1:¬ (k:Int) < (nk:Int):=by omega
     have hcur:(if k = 0 then jns ls else jns (ks.take k)) = (if ks.isEmpty then jns ls else jns ks):=by
      have e:k = ks.length:=by omega
      subst e
      rw [List.take_length]
      cases ks with
      | nil => rfl
      | cons x r => rfl
     rw [hcur,HX.out] at gO
     obtain ⟨o0,o1,o2,o3,f0,f1,f2,f3⟩:=cell4b gO.out
     obtain ⟨r0,r1,r2,r3,q0,q1,q2,q3⟩:=cell4b gR.out
     have gF:=set4b gR.out (.int .i64 xx.1) (.int .i64 xx.2.1) (.int .i64 xx.2.2.1) (.int .i64 xx.2.2.2)
     obtain ⟨z0,z1,z2,z3,_,_,_,_⟩:=cell4b gF
     have BF:=setL_below [.int .i64 xx.1,.int .i64 xx.2.1,.int .i64 xx.2.2.1,.int .i64 xx.2.2.2] w wr (w.heap.size + 1) 0 _ B0.out (by omega)
     go_wp2_with fail
     exact bodyPost_ret (v:=.agg #[.int .i64 xx.1,.int .i64 xx.2.1,.int .i64 xx.2.2.1,.int .i64 xx.2.2.2]) (by simp [results,Tryz.results77,go_sem,z0,z1,z2,z3]) rfl ⟨rfl,BF⟩
end Go.Proofs.YtjahlofahjgdbaaGreat
