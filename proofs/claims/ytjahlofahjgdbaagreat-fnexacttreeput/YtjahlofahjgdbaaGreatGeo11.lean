import Derived.Test.YtjahlofahjgdbaaGreatJ2
set_option maxHeartbeats 8000000
set_option linter.unusedSimpArgs false
set_option linter.unusedVariables false
namespace Go.Proofs.YtjahlofahjgdbaaGreat
open Go.RowKit
theorem keephdrew {w:World} {b:Nat} {o:Obj} (h:w.heap[b]? = some o):w.drew.heap[b]? = some o:=h
theorem impl_BoxJoin (a b c d e f g h:Int) (w:World):Calls Tryz.prog 118 #[.agg #[.int .i64 a,.int .i64 b,.int .i64 c,.int .i64 d],.agg #[.int .i64 e,.int .i64 f,.int .i64 g,.int .i64 h]] w fun e' w' => e' = .returned (if (bok a b c d && bok e f g h) = true then .tuple #[.agg #[.int .i64 (min a e),.int .i64 (min b f),.int .i64 (max c g),.int .i64 (max d h)],.bool true] else .tuple #[.agg #[.int .i64 0,.int .i64 0,.int .i64 0,.int .i64 0],.bool false]) ∧ Below w.heap.size w w':=by
 cases hA:bok a b c d
 ·rw [if_neg (by simp)]
  go_enter Tryz.func118,Tryz.ntmps118
  go_wp2_with fail
  refine (impl_boxok _ _ _ _ _).mono ?_
  rw [hA]
  rintro e' w1 ⟨rfl,hb1⟩
  have gz:w1.heap[w.heap.size + 1 + 1]? = some (.cells #[.int .i64 0,.int .i64 0,.int .i64 0,.int .i64 0] 31 (0,0)):=by (repeat (first | with_reducible assumption | (refine new_alloc _ _ _ ?_;simp;done) | refine keepheap (by with_reducible assumption) ?_ | refine keephdrew ?_ | refine old_alloc ?_))
  obtain ⟨i0,i1,i2,i3,j0,j1,j2,j3⟩:=cell4 gz
  have Gz:=hid gz
  clear gz
  go_wp2_with fail
  have gz:=Gz.out
  have gF:(((((w1.setCell ⟨w.heap.size + 1 + 1,0,none⟩ (.int .i64 0)).setCell ⟨w.heap.size + 1 + 1,1,none⟩ (.int .i64 0)).setCell ⟨w.heap.size + 1 + 1,2,none⟩ (.int .i64 0)).setCell ⟨w.heap.size + 1 + 1,3,none⟩ (.int .i64 0))).heap[w.heap.size + 1 + 1]? = some (.cells #[.int .i64 0,.int .i64 0,.int .i64 0,.int .i64 0] 31 (0,0)):=set_at (set_at (set_at (set_at gz)))
  have hbF:Below w.heap.size w (((((w1.setCell ⟨w.heap.size + 1 + 1,0,none⟩ (.int .i64 0)).setCell ⟨w.heap.size + 1 + 1,1,none⟩ (.int .i64 0)).setCell ⟨w.heap.size + 1 + 1,2,none⟩ (.int .i64 0)).setCell ⟨w.heap.size + 1 + 1,3,none⟩ (.int .i64 0))):=bset (bset (bset (bset (by (repeat (first | exact Below.refl _ _ | (refine btrans ?_ (by with_reducible assumption)) | refine bdrew ?_ | refine balloc ?_ _))) (by omega) _) (by omega) _) (by omega) _) (by omega) _
  generalize ((((w1.setCell ⟨w.heap.size + 1 + 1,0,none⟩ (.int .i64 0)).setCell ⟨w.heap.size + 1 + 1,1,none⟩ (.int .i64 0)).setCell ⟨w.heap.size + 1 + 1,2,none⟩ (.int .i64 0)).setCell ⟨w.heap.size + 1 + 1,3,none⟩ (.int .i64 0)) = wf at gF hbF ⊢
  obtain ⟨z0,z1,z2,z3,_,_,_,_⟩:=cell4 gF
  exact bodyPost_ret (v:=.tuple #[.agg #[.int .i64 0,.int .i64 0,.int .i64 0,.int .i64 0],.bool false]) (by simp [results,Tryz.results118,go_sem,z0,z1,z2,z3]) rfl ⟨rfl,hbF⟩
 cases hB:bok e f g h
 ·rw [if_neg (by simp)]
  go_enter Tryz.func118,Tryz.ntmps118
  go_wp2_with fail
  refine (impl_boxok _ _ _ _ _).mono ?_
  rw [hA]
  rintro e' w1 ⟨rfl,hb1⟩
  obtain ⟨q0,q1,q2,q3,q4,q5,q6,q7⟩:w1.cell? ⟨w.heap.size,0,none⟩ = some (.int .i64 a) ∧ w1.cell? ⟨w.heap.size,1,none⟩ = some (.int .i64 b) ∧ w1.cell? ⟨w.heap.size,2,none⟩ = some (.int .i64 c) ∧ w1.cell? ⟨w.heap.size,3,none⟩ = some (.int .i64 d) ∧ w1.cell? ⟨w.heap.size + 1,0,none⟩ = some (.int .i64 e) ∧ w1.cell? ⟨w.heap.size + 1,1,none⟩ = some (.int .i64 f) ∧ w1.cell? ⟨w.heap.size + 1,2,none⟩ = some (.int .i64 g) ∧ w1.cell? ⟨w.heap.size + 1,3,none⟩ = some (.int .i64 h):=by (repeat' apply And.intro) <;> (repeat (first | with_reducible assumption | (refine newcell _ _ _ _ _ _ ?_ rfl;simp;done) | refine keepcell (by with_reducible assumption) ?_ | refine keepdrew ?_ | refine keepalloc ?_ _))
  go_wp2_with fail
  refine (impl_boxok _ _ _ _ _).mono ?_
  rw [hB]
  rintro e' w2 ⟨rfl,hb2⟩
  have gz:w2.heap[w.heap.size + 1 + 1]? = some (.cells #[.int .i64 0,.int .i64 0,.int .i64 0,.int .i64 0] 31 (0,0)):=by (repeat (first | with_reducible assumption | (refine new_alloc _ _ _ ?_;simp;done) | refine keepheap (by with_reducible assumption) ?_ | refine keephdrew ?_ | refine old_alloc ?_))
  obtain ⟨i0,i1,i2,i3,j0,j1,j2,j3⟩:=cell4 gz
  have Gz:=hid gz
  clear gz
  go_wp2_with fail
  have gz:=Gz.out
  have gF:(((((w2.setCell ⟨w.heap.size + 1 + 1,0,none⟩ (.int .i64 0)).setCell ⟨w.heap.size + 1 + 1,1,none⟩ (.int .i64 0)).setCell ⟨w.heap.size + 1 + 1,2,none⟩ (.int .i64 0)).setCell ⟨w.heap.size + 1 + 1,3,none⟩ (.int .i64 0))).heap[w.heap.size + 1 + 1]? = some (.cells #[.int .i64 0,.int .i64 0,.int .i64 0,.int .i64 0] 31 (0,0)):=set_at (set_at (set_at (set_at gz)))
  have hbF:Below w.heap.size w (((((w2.setCell ⟨w.heap.size + 1 + 1,0,none⟩ (.int .i64 0)).setCell ⟨w.heap.size + 1 + 1,1,none⟩ (.int .i64 0)).setCell ⟨w.heap.size + 1 + 1,2,none⟩ (.int .i64 0)).setCell ⟨w.heap.size + 1 + 1,3,none⟩ (.int .i64 0))):=bset (bset (bset (bset (by (repeat (first | exact Below.refl _ _ | (refine btrans ?_ (by with_reducible assumption)) | refine bdrew ?_ | refine balloc ?_ _))) (by omega) _) (by omega) _) (by omega) _) (by omega) _
  generalize ((((w2.setCell ⟨w.heap.size + 1 + 1,0,none⟩ (.int .i64 0)).setCell ⟨w.heap.size + 1 + 1,1,none⟩ (.int .i64 0)).setCell ⟨w.heap.size + 1 + 1,2,none⟩ (.int .i64 0)).setCell ⟨w.heap.size + 1 + 1,3,none⟩ (.int .i64 0)) = wf at gF hbF ⊢
  obtain ⟨z0,z1,z2,z3,_,_,_,_⟩:=cell4 gF
  exact bodyPost_ret (v:=.tuple #[.agg #[.int .i64 0,.int .i64 0,.int .i64 0,.int .i64 0],.bool false]) (by simp [results,Tryz.results118,go_sem,z0,z1,z2,z3]) rfl ⟨rfl,hbF⟩
 rw [if_pos (show (true && true) = true from rfl)]
 obtain ⟨_,_,_,_,hl1,hl2⟩:=bok_le hA
 obtain ⟨_,_,_,_,hl3,hl4⟩:=bok_le hB
 have k1:min (min (min a c) e) g = min a e:=by omega
 have k2:min (min (min b d) f) h = min b f:=by omega
 have k3:max (max (max a c) e) g = max c g:=by omega
 have k4:max (max (max b d) f) h = max d h:=by omega
 generalize min a e = m1 at k1 ⊢
 generalize min b f = m2 at k2 ⊢
 generalize max c g = m3 at k3 ⊢
 generalize max d h = m4 at k4 ⊢
 go_enter Tryz.func118,Tryz.ntmps118
 go_wp2_with fail
 refine (impl_boxok _ _ _ _ _).mono ?_
 rw [hA]
 rintro e' w1 ⟨rfl,hb1⟩
 obtain ⟨q0,q1,q2,q3,q4,q5,q6,q7⟩:w1.cell? ⟨w.heap.size,0,none⟩ = some (.int .i64 a) ∧ w1.cell? ⟨w.heap.size,1,none⟩ = some (.int .i64 b) ∧ w1.cell? ⟨w.heap.size,2,none⟩ = some (.int .i64 c) ∧ w1.cell? ⟨w.heap.size,3,none⟩ = some (.int .i64 d) ∧ w1.cell? ⟨w.heap.size + 1,0,none⟩ = some (.int .i64 e) ∧ w1.cell? ⟨w.heap.size + 1,1,none⟩ = some (.int .i64 f) ∧ w1.cell? ⟨w.heap.size + 1,2,none⟩ = some (.int .i64 g) ∧ w1.cell? ⟨w.heap.size + 1,3,none⟩ = some (.int .i64 h):=by (repeat' apply And.intro) <;> (repeat (first | with_reducible assumption | (refine newcell _ _ _ _ _ _ ?_ rfl;simp;done) | refine keepcell (by with_reducible assumption) ?_ | refine keepdrew ?_ | refine keepalloc ?_ _))
 go_wp2_with fail
 refine (impl_boxok _ _ _ _ _).mono ?_
 rw [hB]
 rintro e' w2 ⟨rfl,hb2⟩
 obtain ⟨r0,r1,r2,r3,r4,r5,r6,r7⟩:w2.cell? ⟨w.heap.size,0,none⟩ = some (.int .i64 a) ∧ w2.cell? ⟨w.heap.size,1,none⟩ = some (.int .i64 b) ∧ w2.cell? ⟨w.heap.size,2,none⟩ = some (.int .i64 c) ∧ w2.cell? ⟨w.heap.size,3,none⟩ = some (.int .i64 d) ∧ w2.cell? ⟨w.heap.size + 1,0,none⟩ = some (.int .i64 e) ∧ w2.cell? ⟨w.heap.size + 1,1,none⟩ = some (.int .i64 f) ∧ w2.cell? ⟨w.heap.size + 1,2,none⟩ = some (.int .i64 g) ∧ w2.cell? ⟨w.heap.size + 1,3,none⟩ = some (.int .i64 h):=by (repeat' apply And.intro) <;> (repeat (first | with_reducible assumption | (refine newcell _ _ _ _ _ _ ?_ rfl;simp;done) | refine keepcell (by with_reducible assumption) ?_ | refine keepdrew ?_ | refine keepalloc ?_ _))
 have gy:w2.heap[w.heap.size + 1 + 1]? = some (.cells #[.int .i64 0,.int .i64 0,.int .i64 0,.int .i64 0] 31 (0,0)):=by (repeat (first | with_reducible assumption | (refine new_alloc _ _ _ ?_;simp;done) | refine keepheap (by with_reducible assumption) ?_ | refine keephdrew ?_ | refine old_alloc ?_))
 obtain ⟨_,_,_,_,_,_,_,_⟩:=cell4 gy
 have Gy:=hid gy
 clear gy
 go_wp2_with fail
 have gy:=Gy.out
 refine wp_region_held_drew (S:=(fun w' => w'.cell? ⟨w.heap.size,0,none⟩ = some (.int .i64 a) ∧ w'.cell? ⟨w.heap.size,1,none⟩ = some (.int .i64 b) ∧ w'.cell? ⟨w.heap.size,2,none⟩ = some (.int .i64 c) ∧ w'.cell? ⟨w.heap.size,3,none⟩ = some (.int .i64 d) ∧ w'.cell? ⟨w.heap.size + 1,0,none⟩ = some (.int .i64 e) ∧ w'.cell? ⟨w.heap.size + 1,1,none⟩ = some (.int .i64 f) ∧ w'.cell? ⟨w.heap.size + 1,2,none⟩ = some (.int .i64 g) ∧ w'.cell? ⟨w.heap.size + 1,3,none⟩ = some (.int .i64 h))) (by kernel_rfl) ?_ (fun hHeld => ?_)
 ·(repeat' apply And.intro) <;> (repeat (first | with_reducible assumption | (refine newcell _ _ _ _ _ _ ?_ rfl;simp;done) | refine keepcell (by with_reducible assumption) ?_ | refine keepdrew ?_ | refine keepalloc ?_ _))
 refine tkR 0 hHeld ?_
 try simp only [sq]
 refine tkR 2 hHeld ?_
 try simp only [sq]
 refine tkR 4 hHeld ?_
 try simp only [sq]
 refine tkR 6 hHeld ?_
 try simp only [sq]
 refine rd1 1 rfl (fun K hK => ?_)
 try simp only [sq]
 go_simp
 (first
   | (go_at_call 81;refine (low_b _ _ _ _ _).mono ?_;rintro e' w' ⟨rfl,hb⟩)
   | (go_at_call 82;refine (high_b _ _ _ _ _).mono ?_;rintro e' w' ⟨rfl,hb⟩)
   | (go_at_call 131;refine (impl_boxof _ _ _ 3 [(c,d),(e,f),(g,h)] _ (by simp) (by simp) (pts3 (by (repeat (first | with_reducible assumption | (refine newcell _ _ _ _ _ _ ?_ rfl;simp;done) | refine keepcell (by with_reducible assumption) ?_ | refine keepdrew ?_ | refine keepalloc ?_ _))) (by (repeat (first | with_reducible assumption | (refine newcell _ _ _ _ _ _ ?_ rfl;simp;done) | refine keepcell (by with_reducible assumption) ?_ | refine keepdrew ?_ | refine keepalloc ?_ _))) (by (repeat (first | with_reducible assumption | (refine newcell _ _ _ _ _ _ ?_ rfl;simp;done) | refine keepcell (by with_reducible assumption) ?_ | refine keepdrew ?_ | refine keepalloc ?_ _))) (by (repeat (first | with_reducible assumption | (refine newcell _ _ _ _ _ _ ?_ rfl;simp;done) | refine keepcell (by with_reducible assumption) ?_ | refine keepdrew ?_ | refine keepalloc ?_ _))) (by (repeat (first | with_reducible assumption | (refine newcell _ _ _ _ _ _ ?_ rfl;simp;done) | refine keepcell (by with_reducible assumption) ?_ | refine keepdrew ?_ | refine keepalloc ?_ _))) (by (repeat (first | with_reducible assumption | (refine newcell _ _ _ _ _ _ ?_ rfl;simp;done) | refine keepcell (by with_reducible assumption) ?_ | refine keepdrew ?_ | refine keepalloc ?_ _))))).mono ?_;simp only [List.foldl_cons,List.foldl_nil];rw [k1,k2,k3,k4];rintro e' w' ⟨rfl,hb⟩))
 go_wp2_with fail
 refine hK.out _ _ ?_ (fun hHeld => ?_)
 ·(repeat' apply And.intro) <;> (repeat (first | with_reducible assumption | (refine newcell _ _ _ _ _ _ ?_ rfl;simp;done) | refine keepcell (by with_reducible assumption) ?_ | refine keepdrew ?_ | refine keepalloc ?_ _))
 clear hK K
 try simp only [sq]
 refine rd1 3 rfl (fun K hK => ?_)
 try simp only [sq]
 go_simp
 (first
   | (go_at_call 81;refine (low_b _ _ _ _ _).mono ?_;rintro e' w' ⟨rfl,hb⟩)
   | (go_at_call 82;refine (high_b _ _ _ _ _).mono ?_;rintro e' w' ⟨rfl,hb⟩)
   | (go_at_call 131;refine (impl_boxof _ _ _ 3 [(c,d),(e,f),(g,h)] _ (by simp) (by simp) (pts3 (by (repeat (first | with_reducible assumption | (refine newcell _ _ _ _ _ _ ?_ rfl;simp;done) | refine keepcell (by with_reducible assumption) ?_ | refine keepdrew ?_ | refine keepalloc ?_ _))) (by (repeat (first | with_reducible assumption | (refine newcell _ _ _ _ _ _ ?_ rfl;simp;done) | refine keepcell (by with_reducible assumption) ?_ | refine keepdrew ?_ | refine keepalloc ?_ _))) (by (repeat (first | with_reducible assumption | (refine newcell _ _ _ _ _ _ ?_ rfl;simp;done) | refine keepcell (by with_reducible assumption) ?_ | refine keepdrew ?_ | refine keepalloc ?_ _))) (by (repeat (first | with_reducible assumption | (refine newcell _ _ _ _ _ _ ?_ rfl;simp;done) | refine keepcell (by with_reducible assumption) ?_ | refine keepdrew ?_ | refine keepalloc ?_ _))) (by (repeat (first | with_reducible assumption | (refine newcell _ _ _ _ _ _ ?_ rfl;simp;done) | refine keepcell (by with_reducible assumption) ?_ | refine keepdrew ?_ | refine keepalloc ?_ _))) (by (repeat (first | with_reducible assumption | (refine newcell _ _ _ _ _ _ ?_ rfl;simp;done) | refine keepcell (by with_reducible assumption) ?_ | refine keepdrew ?_ | refine keepalloc ?_ _))))).mono ?_;simp only [List.foldl_cons,List.foldl_nil];rw [k1,k2,k3,k4];rintro e' w' ⟨rfl,hb⟩))
 go_wp2_with fail
 refine hK.out _ _ ?_ (fun hHeld => ?_)
 ·(repeat' apply And.intro) <;> (repeat (first | with_reducible assumption | (refine newcell _ _ _ _ _ _ ?_ rfl;simp;done) | refine keepcell (by with_reducible assumption) ?_ | refine keepdrew ?_ | refine keepalloc ?_ _))
 clear hK K
 try simp only [sq]
 refine rd1 5 rfl (fun K hK => ?_)
 try simp only [sq]
 go_simp
 (first
   | (go_at_call 81;refine (low_b _ _ _ _ _).mono ?_;rintro e' w' ⟨rfl,hb⟩)
   | (go_at_call 82;refine (high_b _ _ _ _ _).mono ?_;rintro e' w' ⟨rfl,hb⟩)
   | (go_at_call 131;refine (impl_boxof _ _ _ 3 [(c,d),(e,f),(g,h)] _ (by simp) (by simp) (pts3 (by (repeat (first | with_reducible assumption | (refine newcell _ _ _ _ _ _ ?_ rfl;simp;done) | refine keepcell (by with_reducible assumption) ?_ | refine keepdrew ?_ | refine keepalloc ?_ _))) (by (repeat (first | with_reducible assumption | (refine newcell _ _ _ _ _ _ ?_ rfl;simp;done) | refine keepcell (by with_reducible assumption) ?_ | refine keepdrew ?_ | refine keepalloc ?_ _))) (by (repeat (first | with_reducible assumption | (refine newcell _ _ _ _ _ _ ?_ rfl;simp;done) | refine keepcell (by with_reducible assumption) ?_ | refine keepdrew ?_ | refine keepalloc ?_ _))) (by (repeat (first | with_reducible assumption | (refine newcell _ _ _ _ _ _ ?_ rfl;simp;done) | refine keepcell (by with_reducible assumption) ?_ | refine keepdrew ?_ | refine keepalloc ?_ _))) (by (repeat (first | with_reducible assumption | (refine newcell _ _ _ _ _ _ ?_ rfl;simp;done) | refine keepcell (by with_reducible assumption) ?_ | refine keepdrew ?_ | refine keepalloc ?_ _))) (by (repeat (first | with_reducible assumption | (refine newcell _ _ _ _ _ _ ?_ rfl;simp;done) | refine keepcell (by with_reducible assumption) ?_ | refine keepdrew ?_ | refine keepalloc ?_ _))))).mono ?_;simp only [List.foldl_cons,List.foldl_nil];rw [k1,k2,k3,k4];rintro e' w' ⟨rfl,hb⟩))
 go_wp2_with fail
 refine hK.out _ _ ?_ (fun hHeld => ?_)
 ·(repeat' apply And.intro) <;> (repeat (first | with_reducible assumption | (refine newcell _ _ _ _ _ _ ?_ rfl;simp;done) | refine keepcell (by with_reducible assumption) ?_ | refine keepdrew ?_ | refine keepalloc ?_ _))
 clear hK K
 try simp only [sq]
 refine rd1 7 rfl (fun K hK => ?_)
 try simp only [sq]
 go_simp
 (first
   | (go_at_call 81;refine (low_b _ _ _ _ _).mono ?_;rintro e' w' ⟨rfl,hb⟩)
   | (go_at_call 82;refine (high_b _ _ _ _ _).mono ?_;rintro e' w' ⟨rfl,hb⟩)
   | (go_at_call 131;refine (impl_boxof _ _ _ 3 [(c,d),(e,f),(g,h)] _ (by simp) (by simp) (pts3 (by (repeat (first | with_reducible assumption | (refine newcell _ _ _ _ _ _ ?_ rfl;simp;done) | refine keepcell (by with_reducible assumption) ?_ | refine keepdrew ?_ | refine keepalloc ?_ _))) (by (repeat (first | with_reducible assumption | (refine newcell _ _ _ _ _ _ ?_ rfl;simp;done) | refine keepcell (by with_reducible assumption) ?_ | refine keepdrew ?_ | refine keepalloc ?_ _))) (by (repeat (first | with_reducible assumption | (refine newcell _ _ _ _ _ _ ?_ rfl;simp;done) | refine keepcell (by with_reducible assumption) ?_ | refine keepdrew ?_ | refine keepalloc ?_ _))) (by (repeat (first | with_reducible assumption | (refine newcell _ _ _ _ _ _ ?_ rfl;simp;done) | refine keepcell (by with_reducible assumption) ?_ | refine keepdrew ?_ | refine keepalloc ?_ _))) (by (repeat (first | with_reducible assumption | (refine newcell _ _ _ _ _ _ ?_ rfl;simp;done) | refine keepcell (by with_reducible assumption) ?_ | refine keepdrew ?_ | refine keepalloc ?_ _))) (by (repeat (first | with_reducible assumption | (refine newcell _ _ _ _ _ _ ?_ rfl;simp;done) | refine keepcell (by with_reducible assumption) ?_ | refine keepdrew ?_ | refine keepalloc ?_ _))))).mono ?_;simp only [List.foldl_cons,List.foldl_nil];rw [k1,k2,k3,k4];rintro e' w' ⟨rfl,hb⟩))
 go_wp2_with fail
 refine hK.out _ _ ?_ (fun hHeld => ?_)
 ·(repeat' apply And.intro) <;> (repeat (first | with_reducible assumption | (refine newcell _ _ _ _ _ _ ?_ rfl;simp;done) | refine keepcell (by with_reducible assumption) ?_ | refine keepdrew ?_ | refine keepalloc ?_ _))
 clear hK K
 try simp only [sq]
 refine rd1 8 rfl (fun K hK => ?_)
 try simp only [sq]
 go_simp
 refine hK.out _ _ ?_ (fun hHeld => ?_)
 ·(repeat' apply And.intro) <;> (repeat (first | with_reducible assumption | (refine newcell _ _ _ _ _ _ ?_ rfl;simp;done) | refine keepcell (by with_reducible assumption) ?_ | refine keepdrew ?_ | refine keepalloc ?_ _))
 clear hK K
 try simp only [sq]
 refine rd1 9 rfl (fun K hK => ?_)
 try simp only [sq]
 go_simp
 (first
   | (go_at_call 81;refine (low_b _ _ _ _ _).mono ?_;rintro e' w' ⟨rfl,hb⟩)
   | (go_at_call 82;refine (high_b _ _ _ _ _).mono ?_;rintro e' w' ⟨rfl,hb⟩)
   | (go_at_call 131;refine (impl_boxof _ _ _ 3 [(c,d),(e,f),(g,h)] _ (by simp) (by simp) (pts3 (by (repeat (first | with_reducible assumption | (refine newcell _ _ _ _ _ _ ?_ rfl;simp;done) | refine keepcell (by with_reducible assumption) ?_ | refine keepdrew ?_ | refine keepalloc ?_ _))) (by (repeat (first | with_reducible assumption | (refine newcell _ _ _ _ _ _ ?_ rfl;simp;done) | refine keepcell (by with_reducible assumption) ?_ | refine keepdrew ?_ | refine keepalloc ?_ _))) (by (repeat (first | with_reducible assumption | (refine newcell _ _ _ _ _ _ ?_ rfl;simp;done) | refine keepcell (by with_reducible assumption) ?_ | refine keepdrew ?_ | refine keepalloc ?_ _))) (by (repeat (first | with_reducible assumption | (refine newcell _ _ _ _ _ _ ?_ rfl;simp;done) | refine keepcell (by with_reducible assumption) ?_ | refine keepdrew ?_ | refine keepalloc ?_ _))) (by (repeat (first | with_reducible assumption | (refine newcell _ _ _ _ _ _ ?_ rfl;simp;done) | refine keepcell (by with_reducible assumption) ?_ | refine keepdrew ?_ | refine keepalloc ?_ _))) (by (repeat (first | with_reducible assumption | (refine newcell _ _ _ _ _ _ ?_ rfl;simp;done) | refine keepcell (by with_reducible assumption) ?_ | refine keepdrew ?_ | refine keepalloc ?_ _))))).mono ?_;simp only [List.foldl_cons,List.foldl_nil];rw [k1,k2,k3,k4];rintro e' w' ⟨rfl,hb⟩))
 go_wp2_with fail
 refine hK.out _ _ ?_ (fun hHeld => ?_)
 ·(repeat' apply And.intro) <;> (repeat (first | with_reducible assumption | (refine newcell _ _ _ _ _ _ ?_ rfl;simp;done) | refine keepcell (by with_reducible assumption) ?_ | refine keepdrew ?_ | refine keepalloc ?_ _))
 clear hK K
 try simp only [sq]
 have gz:w'.heap[w.heap.size + 1 + 1]? = some (.cells #[.int .i64 0,.int .i64 0,.int .i64 0,.int .i64 0] 31 (0,0)):=by (repeat (first | with_reducible assumption | (refine new_alloc _ _ _ ?_;simp;done) | refine keepheap (by with_reducible assumption) ?_ | refine keephdrew ?_ | refine old_alloc ?_))
 obtain ⟨i0,i1,i2,i3,j0,j1,j2,j3⟩:=cell4 gz
 have Gz:=hid gz
 clear gz
 refine rd1 10 rfl (fun K hK => ?_)
 try simp only [sq]
 go_simp
 refine hK.out _ _ ?_ (fun hHeld => ?_)
 ·(repeat' apply And.intro) <;> (repeat (first | with_reducible assumption | with_reducible refine keepset ?_ (by dsimp only;omega) | with_reducible refine keepdrew ?_ | (refine newcell _ _ _ _ _ _ ?_ rfl;simp;done) | refine keepcell (by with_reducible assumption) ?_ | refine keepdrew ?_ | refine keepalloc ?_ _))
 clear hK K
 try simp only [sq]
 refine tkR 11 hHeld ?_
 try simp only [sq]
 refine wpAnyH_done (by kernel_rfl) ?_ _
 go_wp2_with fail
 have gz:=Gz.out
 have gF:(((((w'.setCell ⟨w.heap.size + 1 + 1,0,none⟩ (.int .i64 m1)).setCell ⟨w.heap.size + 1 + 1,1,none⟩ (.int .i64 m2)).setCell ⟨w.heap.size + 1 + 1,2,none⟩ (.int .i64 m3)).setCell ⟨w.heap.size + 1 + 1,3,none⟩ (.int .i64 m4))).heap[w.heap.size + 1 + 1]? = some (.cells #[.int .i64 m1,.int .i64 m2,.int .i64 m3,.int .i64 m4] 31 (0,0)):=set_at (set_at (set_at (set_at gz)))
 have hbF:Below w.heap.size w (((((w'.setCell ⟨w.heap.size + 1 + 1,0,none⟩ (.int .i64 m1)).setCell ⟨w.heap.size + 1 + 1,1,none⟩ (.int .i64 m2)).setCell ⟨w.heap.size + 1 + 1,2,none⟩ (.int .i64 m3)).setCell ⟨w.heap.size + 1 + 1,3,none⟩ (.int .i64 m4))):=bset (bset (bset (bset (by (repeat (first | exact Below.refl _ _ | (refine btrans ?_ (by with_reducible assumption)) | refine bdrew ?_ | refine balloc ?_ _))) (by omega) _) (by omega) _) (by omega) _) (by omega) _
 generalize ((((w'.setCell ⟨w.heap.size + 1 + 1,0,none⟩ (.int .i64 m1)).setCell ⟨w.heap.size + 1 + 1,1,none⟩ (.int .i64 m2)).setCell ⟨w.heap.size + 1 + 1,2,none⟩ (.int .i64 m3)).setCell ⟨w.heap.size + 1 + 1,3,none⟩ (.int .i64 m4)) = wf at gF hbF ⊢
 obtain ⟨z0,z1,z2,z3,_,_,_,_⟩:=cell4 gF
 exact bodyPost_ret (v:=.tuple #[.agg #[.int .i64 m1,.int .i64 m2,.int .i64 m3,.int .i64 m4],.bool true]) (by simp [results,Tryz.results118,go_sem,z0,z1,z2,z3]) rfl ⟨rfl,hbF⟩
end Go.Proofs.YtjahlofahjgdbaaGreat
