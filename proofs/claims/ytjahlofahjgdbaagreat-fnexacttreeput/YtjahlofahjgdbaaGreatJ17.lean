/- Texts of stores, joined: Jxs, Kh, Ki, Kj, Kk, Kl. -/
import Derived.Test.YtjahlofahjgdbaaGreatJx
import Derived.Test.YtjahlofahjgdbaaGreatJxk
import Derived.Test.YtjahlofahjgdbaaGreatJ16
import Derived.Laws.CopyRow
import Derived.Lib.Overlaps
import Derived.Shelf.Spec.SlicesInsert
set_option maxRecDepth 100000
set_option maxHeartbeats 16000000
set_option linter.unusedSimpArgs false
set_option linter.unusedVariables false
namespace Go.Proofs.YtjahlofahjgdbaaGreat
open Go.RowKit
theorem KO.box {lo n:Nat} {w:World} {h:Hd} {S:List Nat} {t:KT} (bx:Bx) (k:KO lo n w h S t):KO lo n w h S (.mk bx t.lf t.its t.kids):=by
 cases n with
 | zero => exact k.elim
 | succ n => exact k
theorem spec_split1 (lo n0:Nat) (t:KT) (h:Hd) (S:List Nat) (w:World) (k:KO lo (n0 + 1) w h S t) (h4:t.fan ≤ 4) (hi:t.its.length ≤ 1048576) (hk:t.kids.length ≤ 1048576):Calls Tryz.prog 102 #[kvh t h] w (KRow w lo (n0 + 1) S [rb t]):=by
 have hSl:∀ x ∈ S,x < w.heap.size:=fun x hx => (k.lt x hx).2
 have FAN:=hid (fun W:World => spec_fan t h.1 h.2.1 h.2.2.1 h.2.2.2 W)
 have AR:=hid (fun (W:World) (kk:KO lo (n0 + 1) W h S t) => ko_around kk hi hk)
 have HK:=hid k
 have HKK:=hid (fun (X W:World) (a:Addr) (hx:X = W) => True.intro)
 obtain ⟨b0,b1,b2,b3,b4,ni,nk,hkf⟩:=kf t
 have hcf:∀ a:Bx,ckh (.mk a t.lf t.its t.kids) h = [.int .i64 a.1,.int .i64 a.2.1,.int .i64 a.2.2.1,.int .i64 a.2.2.2,.bool b4,.slice h.1 ni h.2.1,.slice h.2.2.1 nk h.2.2.2]:=fun a => by
  show [_,_,_,_,Value.bool t.lf,Value.slice _ t.its.length _,Value.slice _ t.kids.length _] = _
  rw [hkf.lf,hkf.its,hkf.kids]
  rfl
 have ek:kvh t h = .agg #[.int .i64 b0,.int .i64 b1,.int .i64 b2,.int .i64 b3,.bool b4,.slice h.1 ni h.2.1,.slice h.2.2.1 nk h.2.2.2]:=kv_of' hkf h.1 h.2.1 h.2.2.1 h.2.2.2
 have ek2:kv t h.1 h.2.1 h.2.2.1 h.2.2.2 = .agg #[.int .i64 b0,.int .i64 b1,.int .i64 b2,.int .i64 b3,.bool b4,.slice h.1 ni h.2.1,.slice h.2.2.1 nk h.2.2.2]:=ek
 rw [ek2] at FAN
 rw [ek] at AR ⊢
 have HCF:=hid hcf
 have hrb:rb t = .mk (arS t) t.lf t.its t.kids:=rfl
 rw [hrb]
 have h4I:(t.fan:Int) ≤ 4:=by omega
 generalize arS t = ab at *
 generalize t.fan = fn at *
 have HF0:=hid (Fr.refl S w)
 obtain ⟨ha,hc,hka,hkc⟩:=h
 simp only [] at FAN AR HCF ⊢
 clear hcf ek ek2 hrb hkf hi hk k HKK
 have gT:=new_alloc w w.heap.size (.cells #[.int .i64 b0,.int .i64 b1,.int .i64 b2,.int .i64 b3,.bool b4,.slice ha ni hc,.slice hka nk hkc] 35) rfl
 have hB:=balloc (Below.refl w.heap.size w) (.cells #[.int .i64 b0,.int .i64 b1,.int .i64 b2,.int .i64 b3,.bool b4,.slice ha ni hc,.slice hka nk hkc] 35)
 go_enter Tryz.func102,Tryz.ntmps102
 go_wp2_with fail
 refine (FAN.out _).mono ?_
 rintro e v1 ⟨rfl,hb⟩
 replace gT:=keepheap hb gT
 replace hB:=btrans hB hb
 clear hb FAN
 obtain ⟨a0,a1,a2,a3,a4,a5,a6,f0,f1,f2,f3,_,_,_⟩:=cell7k gT
 go_wp2_with fail
 refine (AR.out _ (HK.out.below hB)).mono ?_
 rintro e v2 ⟨rfl,hb⟩
 replace gT:=keepheap hb gT
 replace hB:=btrans hB hb
 clear hb AR a0 a1 a2 a3 a4 a5 a6 f0 f1 f2 f3
 obtain ⟨a0,a1,a2,a3,_,_,_,f0,f1,f2,f3,_,_,_⟩:=cell7k gT
 go_upto_region 3 with fail
 have q1:=set4k gT (.int .i64 ab.1) (.int .i64 ab.2.1) (.int .i64 ab.2.2.1) (.int .i64 ab.2.2.2)
 have q2:=setL_below [.int .i64 ab.1,.int .i64 ab.2.1,.int .i64 ab.2.2.1,.int .i64 ab.2.2.2] w v2 w.heap.size 0 _ hB (Nat.le_refl _)
 simp only [setL,Nat.zero_add,Nat.reduceAdd] at q2
 refine wp_wld (fun X => X.heap[w.heap.size]? = some (.cells #[.int .i64 ab.1,.int .i64 ab.2.1,.int .i64 ab.2.2.1,.int .i64 ab.2.2.2,.bool b4,.slice ha ni hc,.slice hka nk hkc] 35 (0,0)) ∧ Below w.heap.size w X) ⟨q1,q2⟩ ?_
 clear q1 q2 gT hB a0 a1 a2 a3 f0 f1 f2 f3
 rintro X ⟨gT,hB⟩
 obtain ⟨a0,a1,a2,a3,a4,a5,a6,_,_,_,_,_,_,_⟩:=cell7k gT
 go_wp2_with fail
 go_ret
 have hal:=balloc (Below.refl X.heap.size X) (.cells #[.int .i64 ab.1,.int .i64 ab.2.1,.int .i64 ab.2.2.1,.int .i64 ab.2.2.2,.bool b4,.slice ha ni hc,.slice hka nk hkc] 35)
 have kX:=(HK.out.below hB).box ab
 refine KRow.one kX ?_ hB.size (fun hx => ?_) (fun x hx => hal.block x (kX.lt x hx).2) (Fr.of (btrans hB hal) S)
 ·rw [HCF.out ab]
  exact heap_alloc_new X _
 ·have:=hSl _ hx;have:=hB.size;omega
theorem spec_split (lo n0:Nat) (t:KT) (h:Hd) (S:List Nat) (w:World) (k:KO lo (n0 + 1) w h S t) (hlo:lo ≤ w.heap.size) (hP:P5 t):Calls Tryz.prog 102 #[kvh t h] w (KRow w lo (n0 + 1) S (dn (rb t))):=by
 obtain ⟨h5,hc⟩:=hP
 obtain ⟨⟨b0,b1,b2,b3⟩,lf,its,ks⟩:=t
 obtain ⟨ia,ic,ka,kc⟩:=h
 rcases hc with ⟨e1,e2,e3⟩ | ⟨e1,e2,e3⟩
 ·have e1':lf = true:=e1
  have e2':ks = []:=e2
  subst e1' e2'
  have hl:its.length ≤ 5:=h5
  by_cases h4:its.length ≤ 4
  ·have hd:dn (rb (.mk (b0,b1,b2,b3) true its [])) = [rb (.mk (b0,b1,b2,b3) true its [])]:=by unfold dn;rw [if_pos (show (rb (.mk (b0,b1,b2,b3) true its [])).fan ≤ 4 from h4)]
   rw [hd]
   exact spec_split1 lo n0 _ _ S w k h4 (by show its.length ≤ _;omega) (by show 0 ≤ _;omega)
  ·have hd:dn (rb (.mk (b0,b1,b2,b3) true its [])) = [knotL ((isort befI its).take 3),knotL ((isort befI its).drop 3)]:=by unfold dn;rw [if_neg (show ¬ (rb (.mk (b0,b1,b2,b3) true its [])).fan ≤ 4 from h4)];rfl
   rw [hd]
   exact spec_splitI lo n0 b0 b1 b2 b3 its ia ka ic kc S w k hlo (by omega) (by omega) (by have:(its.map (·.2)).all bkb = true:=e3;rw [List.all_map] at this;exact this)
 ·have e1':lf = false:=e1
  have e2':its = []:=e2
  subst e1' e2'
  have hl:ks.length ≤ 5:=h5
  by_cases h4:ks.length ≤ 4
  ·have hd:dn (rb (.mk (b0,b1,b2,b3) false [] ks)) = [rb (.mk (b0,b1,b2,b3) false [] ks)]:=by unfold dn;rw [if_pos (show (rb (.mk (b0,b1,b2,b3) false [] ks)).fan ≤ 4 from h4)]
   rw [hd]
   exact spec_split1 lo n0 _ _ S w k h4 (by show 0 ≤ _;omega) (by show ks.length ≤ _;omega)
  ·have hd:dn (rb (.mk (b0,b1,b2,b3) false [] ks)) = [knotK ((isort befK ks).take 3),knotK ((isort befK ks).drop 3)]:=by unfold dn;rw [if_neg (show ¬ (rb (.mk (b0,b1,b2,b3) false [] ks)).fan ≤ 4 from h4)];rfl
   rw [hd]
   exact spec_splitK lo n0 b0 b1 b2 b3 ks ia ka ic kc S w k hlo (by omega) (by omega) e3
def PuA (w:World) (lo n b o:Nat) (P R:List Value) (S:List Nat) (t':KT) (e:Ending) (w':World):Prop:=∃ (h':Hd) (S':List Nat),e = .returned (.tuple #[]) ∧ BK w' b o P R (ckh t' h') ∧ KO lo n w' h' S' t' ∧ (∀ x ∈ S',x ∈ S ∨ w.heap.size ≤ x) ∧ Fr (b :: S) w w'
theorem impl_putL (lo n0 b o:Nat) (P R:List Value) (b0 b1 b2 b3:Int) (its:List It) (ia ka:Option Addr) (ic kc:Nat) (x0 x1 x2 x3 x4:Int) (S:List Nat) (w:World) (k:KO lo (n0 + 1) w (ia,ic,ka,kc) S (.mk (b0,b1,b2,b3) true its [])) (hlo:lo ≤ w.heap.size) (hB:BK w b o P R [.int .i64 b0,.int .i64 b1,.int .i64 b2,.int .i64 b3,.bool true,.slice ia its.length ic,.slice ka 0 kc]) (hbS:b ∉ S) (h4:its.length ≤ 4) (hok:its.all (fun x => bkb x.2) = true) (hx:bkb (x1,x2,x3,x4) = true):Calls Tryz.prog 83 #[.pointer (some ⟨b,o,none⟩),.agg #[.int .i64 x0,.int .i64 x1,.int .i64 x2,.int .i64 x3,.int .i64 x4]] w (PuA w lo (n0 + 1) b o P R S (knotL (its ++ [(x0,x1,x2,x3,x4)]))):=by
 obtain ⟨i0,hi0,hz0,hz1,hzz⟩:=info_parts Tryz.infoIt
 have hSl:∀ x ∈ S,x < w.heap.size:=fun x hx => (k.lt x hx).2
 obtain ⟨ps,l1,r1,r2,hS,hN,hk⟩:=k
 have hps:ps = []:=by
  have:([]:List KT) = ps.map (·.1):=l1
  exact List.map_eq_nil_iff.1 this.symm
 subst hps
 have r1':w.ownsRow lo 40 5 (.slice ia its.length ic) its.length (flI its):=r1
 have r2':w.ownsRow lo 35 7 (.slice ka 0 kc) 0 []:=r2
 have hiS:∀ x ∈ hb ia,x ∈ S:=fun x hx => hS.mem_iff.2 (by simp only [List.mem_append];exact .inl (.inl hx))
 have hkS:∀ x ∈ hb ka,x ∈ S:=fun x hx => hS.mem_iff.2 (by simp only [List.mem_append];exact .inl (.inr hx))
 have hik:∀ x ∈ hb ia,x ∉ hb ka:=fun x hx hc => by
  have hN2:=hS.nodup_iff.1 hN
  rw [List.nodup_append,List.nodup_append] at hN2
  exact hN2.1.2.2 x hx x hc rfl
 have hbi:b ∉ hb ia:=fun hc => hbS (hiS b hc)
 clear r1 r2 hS hN hk l1
 obtain ⟨pt,hpt⟩:∃ pt,pt = knotL (its ++ [(x0,x1,x2,x3,x4)]):=⟨_,rfl⟩
 rw [← hpt]
 have HPT:=hid hpt
 have HITS:=hid (show ∃ l,l = its from ⟨_,rfl⟩)
 have HOK:=hid hok
 have HX:=hid hx
 have HL:=hid (show ∃ ni,ni = its.length from ⟨_,rfl⟩)
 obtain ⟨ni,hni⟩:=HL.out
 obtain ⟨fi,hfi⟩:∃ fi,fi = flI its:=⟨_,rfl⟩
 rw [← hni] at h4 hB r1'
 rw [← hfi] at r1'
 have HNI:=hid hni
 have HFI:=hid hfi
 clear hpt hni hfi hok hx HL HITS
 have hbw:=hB.lt
 have gX:=new_alloc w w.heap.size (.cells #[.int .i64 x0,.int .i64 x1,.int .i64 x2,.int .i64 x3,.int .i64 x4] 40) rfl
 have hB0:=balloc (Below.refl w.heap.size w) (.cells #[.int .i64 x0,.int .i64 x1,.int .i64 x2,.int .i64 x3,.int .i64 x4] 40)
 have hBv:=hB.below hB0
 have R1:=hid (row_blk r1' (fun x hx => hB0.block x (row_lt r1' x hx).2))
 have R2:=hid (row_blk r2' (fun x hx => hB0.block x (row_lt r2' x hx).2))
 have HB:=hid hB0
 clear hB hB0 r1' r2'
 obtain ⟨a0,a1,a2,a3,a4,a5,a6,f0,f1,f2,f3,f4,f5,f6⟩:=hBv.k7
 go_enter Tryz.func83,Tryz.ntmps83
 go_upto_region 2 with fail
 clear a0 a1 a2 a3 a4 a5 a6 f0 f1 f2 f3 f4 f5 f6
 generalize w.alloc (.cells #[.int .i64 x0,.int .i64 x1,.int .i64 x2,.int .i64 x3,.int .i64 x4] 40) = V at *
 refine wp_region_late (L:=[10]) (S:=(fun w' => w'.cell? ⟨b,o + 5,none⟩ = some (.slice ia ni ic) ∧ w'.cell? ⟨w.heap.size,0,none⟩ = some (.int .i64 x0) ∧ w'.cell? ⟨w.heap.size,1,none⟩ = some (.int .i64 x1) ∧ w'.cell? ⟨w.heap.size,2,none⟩ = some (.int .i64 x2) ∧ w'.cell? ⟨w.heap.size,3,none⟩ = some (.int .i64 x3) ∧ w'.cell? ⟨w.heap.size,4,none⟩ = some (.int .i64 x4))) (by kernel_rfl) ?_ (fun hHeld => ?_)
 ·(obtain ⟨_,_,_,_,_,a5,_,_,_,_,_,_,_,_⟩:=hBv.k7;obtain ⟨c0,c1,c2,c3,c4,_,_,_,_,_⟩:=cell5j gX;exact ⟨a5,c0,c1,c2,c3,c4⟩)
 have hD:=bdrew (Below.refl V.heap.size V)
 replace hBv:=hBv.below hD
 replace gX:=keepheap hD gX
 replace R1:=hid (row_blk R1.out (fun x hx => hD.block x (row_lt R1.out x hx).2))
 replace R2:=hid (row_blk R2.out (fun x hx => hD.block x (row_lt R2.out x hx).2))
 replace HB:=hid (btrans HB.out hD)
 clear hD
 generalize V.drew = Va at *
 refine tkP 0 hHeld ?_
 try simp only [sq]
 refine tkP 1 hHeld ?_
 try simp only [sq]
 refine tkP 2 hHeld ?_
 try simp only [sq]
 refine tkP 3 hHeld ?_
 try simp only [sq]
 refine tkA 4 hHeld ?_
 try simp only [sq]
 refine tkA 5 hHeld ?_
 try simp only [sq]
 refine anyL_1 (i:=6) rfl (by kernel_rfl) rfl ?_
 clear hHeld
 refine wpo_val (by go_simp;first | done | with_reducible rfl | rfl | exact ⟨rfl,rfl⟩) ?_
 have gN:=heap_alloc_new Va (.cells #[.int .i64 x0,.int .i64 x1,.int .i64 x2,.int .i64 x3,.int .i64 x4] 40)
 have hbN:=balloc (Below.refl Va.heap.size Va) (.cells #[.int .i64 x0,.int .i64 x1,.int .i64 x2,.int .i64 x3,.int .i64 x4] 40)
 obtain ⟨nb,hnb⟩:∃ nb,nb = Va.heap.size:=⟨_,rfl⟩
 rw [← hnb] at gN ⊢
 replace hBv:=hBv.below hbN
 replace gX:=keepheap hbN gX
 replace R1:=hid (row_blk R1.out (fun x hx => hbN.block x (row_lt R1.out x hx).2))
 replace R2:=hid (row_blk R2.out (fun x hx => hbN.block x (row_lt R2.out x hx).2))
 replace HB:=hid (btrans HB.out hbN)
 clear hbN
 generalize Va.alloc (.cells #[.int .i64 x0,.int .i64 x1,.int .i64 x2,.int .i64 x3,.int .i64 x4] 40) = Vb at *
 refine ⟨by (obtain ⟨_,_,_,_,_,a5,_,_,_,_,_,_,_,_⟩:=hBv.k7;obtain ⟨c0,c1,c2,c3,c4,_,_,_,_,_⟩:=cell5j gX;exact ⟨a5,c0,c1,c2,c3,c4⟩),fun hHeld => ?_⟩
 try simp only [sq]
 refine anyL_1 (i:=7) rfl (by kernel_rfl) rfl ?_
 clear hHeld
 have hsV:=HB.out.size
 refine wpo_app (.tmp 15) (.tmp 17) 32 rfl lo 40 i0 _ 5 40 Tryz.underlying32 hi0 hz0 hz1 hzz rfl (by decide) ia ni ic fi (by rfl) R1.out (some ⟨nb,0,none⟩) 1 1 [.int .i64 x0,.int .i64 x1,.int .i64 x2,.int .i64 x3,.int .i64 x4] (by rfl) (.inr ⟨_,rfl,src_blk gN⟩) rfl (by simp [Value.oneCell']) (by unfold maxLen;omega) (by omega) (Nat.le_trans hlo hsV) ?_
 intro a' c' W2 hown hgrow hat
 replace hBv:=hBv.keep (app_blk hgrow hBv.lt hbi)
 replace gX:=(app_blk hgrow (lt_of_heap gX) (fun hc => by have:=hSl _ (hiS _ hc);omega)).trans gX
 replace R2:=hid (row_blk R2.out (fun x hx => app_blk hgrow (row_lt R2.out x hx).2 (fun hc => hik x hc hx)))
 have HF:=hid (fr_step (Fr.of HB.out (b :: S)) (app_fr hgrow) (fun x hx => .inl (List.mem_cons_of_mem _ (hiS x hx))))
 have HO:=hid hown
 have HAT:=hid hat
 have hVbs:=HB.out.size
 clear hown hgrow hat
 refine ⟨by (obtain ⟨_,_,_,_,_,a5,_,_,_,_,_,_,_,_⟩:=hBv.k7;obtain ⟨c0,c1,c2,c3,c4,_,_,_,_,_⟩:=cell5j gX;exact ⟨a5,c0,c1,c2,c3,c4⟩),fun hHeld => ?_⟩
 try simp only [sq]
 refine tkP 8 hHeld ?_
 try simp only [sq]
 refine tkP 9 hHeld ?_
 try simp only [sq]
 refine anyL_1 (i:=10) rfl (by kernel_rfl) rfl ?_
 obtain ⟨a0,a1,a2,a3,a4,a5,a6,f0,f1,f2,f3,f4,f5,f6⟩:=hBv.k7
 refine wpo_late (by kernel_rfl) (by go_simp;first | done | with_reducible rfl | rfl | exact ⟨rfl,rfl⟩) ?_
 clear a0 a1 a2 a3 a4 a5 a6 f0 f1 f2 f3 f4 f5 f6
 try simp only [sq]
 refine anyL_done (by kernel_rfl) ?_ _
 go_upto_region 9 with fail
 have p1:=hBv.set5 (.slice a' (ni + 1) c')
 have hne:∀ x ∈ hb a',b ≠ x:=fun x hx e => by
  rcases HAT.out x hx with q | q
  ·exact hbi (e ▸ q)
  ·omega
 have p2:=row_blk HO.out (fun x hx => heap_set W2 b (o + 5) x (.slice a' (ni + 1) c') (hne x hx))
 have p3:=row_blk R2.out (fun x hx => heap_set W2 b (o + 5) x (.slice a' (ni + 1) c') (fun e => hbS (e ▸ hkS x hx)))
 have p4:=hid (fr_set (b:=b) (k:=o + 5) (u:=.slice a' (ni + 1) c') HF.out (.inl (List.mem_cons_self ..)))
 have hak:∀ x ∈ hb a',x ∉ hb ka:=fun x hx hc => by
  rcases HAT.out x hx with q | q
  ·exact hik x q hc
  ·have:=hSl _ (hkS _ hc);omega
 have HSB:=hid (show ∀ x ∈ hb a' ++ hb ka ++ ([]:List KP).flatMap (·.2.2),x ∈ S ∨ w.heap.size ≤ x from fun x hx => by
  simp only [List.flatMap_nil,List.append_nil,List.mem_append] at hx
  rcases hx with q | q
  ·rcases HAT.out x q with q | q
   ·exact .inl (hiS x q)
   ·exact .inr (by omega)
  ·exact .inl (hkS x q))
 refine wp_wld (fun X => BK X b o P R [.int .i64 b0,.int .i64 b1,.int .i64 b2,.int .i64 b3,.bool true,.slice a' (ni + 1) c',.slice ka 0 kc] ∧ X.ownsRow lo 40 5 (.slice a' (ni + 1) c') (ni + 1) (fi ++ [.int .i64 x0,.int .i64 x1,.int .i64 x2,.int .i64 x3,.int .i64 x4]) ∧ X.ownsRow lo 35 7 (.slice ka 0 kc) 0 [] ∧ Hid (Fr (b :: S) w X)) ⟨p1,p2,p3,p4⟩ ?_
 clear p1 p2 p3 p4 hBv gX gN R1 R2 HB HF HO HAT hne
 rintro V9 ⟨hBv,rI,rK,HVF⟩
 have hn1:(its ++ [(x0,x1,x2,x3,x4)]).length = ni + 1:=by rw [List.length_append,List.length_singleton,HNI.out]
 have hfl:flI (its ++ [(x0,x1,x2,x3,x4)]) = fi ++ [.int .i64 x0,.int .i64 x1,.int .i64 x2,.int .i64 x3,.int .i64 x4]:=by rw [flI_app,HFI.out];rfl
 have HKA:=hid (show ∀ bx:Bx,KO lo (n0 + 1) V9 (a',c',ka,kc) (hb a' ++ hb ka ++ ([]:List KP).flatMap (·.2.2)) (.mk bx true (its ++ [(x0,x1,x2,x3,x4)]) []) from fun bx => KO.mk' (ps:=[]) rfl (by rw [← hfl,← hn1] at rI;exact rI) rK (KOs.nil lo n0 V9) (fun x hx => ⟨hak x hx,by simp⟩) (fun x hx => by simp))
 have hall:(its ++ [(x0,x1,x2,x3,x4)]).all (fun x => bkb x.2) = true:=by
  rw [List.all_append,HOK.out]
  simp [HX.out]
 have ARA:=hid (fun (W:World) (hb:Below V9.heap.size V9 W) => around_leaf (b0,b1,b2,b3) _ hall ((HKA.out _).knr.below hb) (by rw [hn1];omega))
 rw [hn1] at ARA
 have hptJ:pt = .mk (jns ((its ++ [(x0,x1,x2,x3,x4)]).map (·.2))) true (its ++ [(x0,x1,x2,x3,x4)]) []:=HPT.out
 generalize jns ((its ++ [(x0,x1,x2,x3,x4)]).map (·.2)) = J at *
 have HCK:=hid (show ckh (.mk J true (its ++ [(x0,x1,x2,x3,x4)]) []) (a',c',ka,kc) = [.int .i64 J.1,.int .i64 J.2.1,.int .i64 J.2.2.1,.int .i64 J.2.2.2,.bool true,.slice a' (ni + 1) c',.slice ka 0 kc] by
  show [_,_,_,_,_,Value.slice a' (its ++ [(x0,x1,x2,x3,x4)]).length c',_] = _
  rw [hn1]
  rfl)
 rw [hptJ]
 clear hfl hall rI rK hak hptJ
 obtain ⟨a0,a1,a2,a3,a4,a5,a6,f0,f1,f2,f3,f4,f5,f6⟩:=hBv.k7
 go_wp2_with fail
 refine (ARA.out _ (Below.refl _ _)).mono ?_
 rintro e U ⟨rfl,hb2⟩
 replace hBv:=hBv.below hb2
 have HBV:=hid hb2
 clear hb2 a0 a1 a2 a3 a4 a5 a6 f0 f1 f2 f3 f4 f5 f6 ARA
 obtain ⟨a0,a1,a2,a3,a4,a5,a6,f0,f1,f2,f3,f4,f5,f6⟩:=hBv.k7
 have hu1:=hBv.set4 (.int .i64 J.1) (.int .i64 J.2.1) (.int .i64 J.2.2.1) (.int .i64 J.2.2.2)
 have ho1:=fun x (hx:x ≠ b) => setL_blk [.int .i64 J.1,.int .i64 J.2.1,.int .i64 J.2.2.1,.int .i64 J.2.2.2] U b o x (fun e => hx e.symm)
 have hfu:=fr_setN (g:=b) (HVF.out.trans (Fr.of HBV.out []) (fun k hk => by cases hk)) (.inl (List.mem_cons_self ..)) [.int .i64 J.1,.int .i64 J.2.1,.int .i64 J.2.2.1,.int .i64 J.2.2.2] o
 simp only [setL,Nat.add_assoc,Nat.reduceAdd] at ho1 hfu
 go_wp2_with fail
 go_end0
 refine ⟨(a',c',ka,kc),_,rfl,?_,(HKA.out J).keep (fun x hx => (ho1 x (fun e => by
  rcases HSB.out x hx with q | q
  ·exact hbS (e ▸ q)
  ·omega)).trans (HBV.out.block x ((HKA.out J).lt x hx).2)),HSB.out,hfu⟩
 rw [HCK.out]
 exact hu1
theorem run_copy_rowM {P:Program} (w:World) (dT sT ty elem:TypeId) (sz g o dLen dCap:Nat) (a:Addr) (sLen sCap:Nat) (cur:Array Value) (t:TypeId) (cs:List Value)
  (hu:P.underlying dT = some (.slice elem)) (hs:(P.info? elem).map (·.size) = some sz)
  (hg:w.heap[g]? = some (.cells cur t (0,0))) (hn:cs.length = Nat.min sLen dLen * sz)
  (hsrc:∀ j v,cs[j]? = some v → w.cell? (a.add j) = some v) (hfit:o + cs.length ≤ cur.size) (h1:∀ v ∈ cs,v.oneCell' = true) :
  (Builtin.copy_ #[dT,sT] ty #[.slice (some ⟨g,o,none⟩) dLen dCap,.slice (some a) sLen sCap]).run P w =
   .ok (goInt (Nat.min sLen dLen)) (w.setRow g (cur.toList.take o ++ cs ++ cur.toList.drop (o + cs.length)).toArray):=by
 have hl:=run_loadCells_list (P:=P) w a cs hsrc
 have hst:=run_storeCells_at P g o t cs 0 cur w hg (by simpa using hfit) h1
 cases hq:P.info? elem with
 | none => simp [hq] at hs
 | some i =>
  have hi:i.size = sz:=by simpa [hq] using hs
  simp [Builtin.copy_,run_underlying hu,Builtin.lenOf,Builtin.firstCells,sizeOf,typeInfo,hq,hi,← hn,hl,hst]
theorem overlaps_no (w:World) (vb g o lb cb:Nat) (cA cB:Array Value) (hne:vb ≠ g) (hA:w.heap[vb]? = some (.cells cA 35 (0,0))) (hB:w.heap[g]? = some (.cells cB 35 (0,0))) (h0:cB.size ≠ 0):(callFunc 129 #[.slice (some ⟨vb,0,none⟩) 1 1,.slice (some ⟨g,o,none⟩) lb cb]).run Tryz.prog w = .ok (.value (.bool false)) w:=by
 rw [run_callFunc_extern Tryz.func129 (by kernel_rfl) (by kernel_rfl) (by kernel_rfl) (e:=Extern.SlicesOverlaps.overlaps #[33,33] #[4]) (by kernel_rfl),
  Lib.run_overlaps_apart w 33 4 35 Tryz.underlying33 7 Tryz.sizeOf35 ⟨vb,0,none⟩ ⟨g,o,none⟩ 1 1 lb cb hne 35 35 cA.size cB.size (by simp [World.shape?,hA]) (by simp [World.shape?,hB]) h0 (by simp [World.frozen?,hA]) (by simp [World.frozen?,hA])]
 rfl
theorem two_copies {A B Z X:List Value} {a b:Nat} (hA:A.length = a) (hB:B.length = b) (hZ:7 ≤ Z.length) :
  ((A ++ B ++ Z).take (a + 7) ++ B ++ (A ++ B ++ Z).drop (a + 7 + b)).take a ++ X ++ ((A ++ B ++ Z).take (a + 7) ++ B ++ (A ++ B ++ Z).drop (a + 7 + b)).drop (a + 7) = A ++ X ++ (B ++ Z.drop 7):=by
 have hT:((A ++ B ++ Z).take (a + 7)).length = a + 7:=by
  rw [List.length_take,List.length_append,List.length_append];omega
 have e1:(A ++ B ++ Z).drop (a + 7 + b) = Z.drop 7:=by
  have h:=drop_lenA (A ++ B) Z 7
  rw [List.length_append,hA,hB] at h
  rw [show a + 7 + b = a + b + 7 by omega]
  exact h
 have e4:(A ++ B ++ Z).take (a + 7) ++ B ++ Z.drop 7 = (A ++ B ++ Z).take (a + 7) ++ (B ++ Z.drop 7):=List.append_assoc _ _ _
 rw [e1,e4]
 have e2:((A ++ B ++ Z).take (a + 7) ++ (B ++ Z.drop 7)).take a = A:=by
  rw [List.take_append_of_le_length (by omega),List.take_take,Nat.min_eq_left (by omega),List.append_assoc,List.take_append_of_le_length (by omega),← hA,List.take_length]
 have e3:((A ++ B ++ Z).take (a + 7) ++ (B ++ Z.drop 7)).drop (a + 7) = B ++ Z.drop 7:=List.drop_left' hT
 rw [e2,e3]
theorem row_ins {lo g c n i:Nat} {ps:List KP} {q:KP} {w W:World} {cur:Array Value} (hcur:cur.size = c * 7) (hrow:cur.toList.take (n * 7) = flK ps) (hl:ps.length = n) (hi:i < n) (hroom:n + 1 ≤ c) (hlo:lo ≤ g) (hmx:c ≤ maxLen)
  (hW:W.heap[g]? = some (.cells ((((cur.toList.take ((i + 1) * 7) ++ flK (ps.drop i) ++ cur.toList.drop ((i + 1) * 7 + (flK (ps.drop i)).length))).take (i * 7) ++ ckh q.1 q.2.1 ++ ((cur.toList.take ((i + 1) * 7) ++ flK (ps.drop i) ++ cur.toList.drop ((i + 1) * 7 + (flK (ps.drop i)).length))).drop (i * 7 + 7)).toArray) 35 (0,0))):W.ownsRow lo 35 7 (.slice (some ⟨g,0,none⟩) (n + 1) c) (n + 1) (flK (ps.take i ++ q :: ps.drop i)):=by
 have hsz:cur.toList.length = c * 7:=by rw [Array.length_toList];exact hcur
 have hA:(flK (ps.take i)).length = i * 7:=by rw [flK_len,List.length_take];congr 1;omega
 have hB:(flK (ps.drop i)).length = (n - i) * 7:=by rw [flK_len,List.length_drop,hl]
 have hsp:cur.toList = flK (ps.take i) ++ flK (ps.drop i) ++ cur.toList.drop (n * 7):=by
  rw [← flK_app,List.take_append_drop,← hrow,List.take_append_drop]
 have hZ:7 ≤ (cur.toList.drop (n * 7)).length:=by rw [List.length_drop,hsz];omega
 have h2:=two_copies (X:=ckh q.1 q.2.1) hA hB hZ
 rw [← hsp] at h2
 rw [hB,show (i + 1) * 7 = i * 7 + 7 by omega,h2] at hW
 have hxs:flK (ps.take i ++ q :: ps.drop i) = flK (ps.take i) ++ ckh q.1 q.2.1 ++ flK (ps.drop i):=by
  rw [flK_app]
  show flK (ps.take i) ++ (ckh q.1 q.2.1 ++ flK (ps.drop i)) = _
  rw [List.append_assoc]
 have hX:(ckh q.1 q.2.1).length = 7:=ckp_len q
 have hlen:(flK (ps.take i) ++ ckh q.1 q.2.1 ++ flK (ps.drop i)).length = (n + 1) * 7:=by
  rw [List.length_append,List.length_append,hA,hB,hX];omega
 rw [hxs]
 refine ⟨hlen,.inr ⟨g,c,_,rfl,hlo,hW,hroom,hmx,?_,?_⟩⟩
 ·rw [List.size_toArray,List.length_append,List.length_append,List.length_append,hA,hB,hX,List.length_drop,List.length_drop,hsz]
  omega
 ·show (flK (ps.take i) ++ ckh q.1 q.2.1 ++ (flK (ps.drop i) ++ (cur.toList.drop (n * 7)).drop 7)).take ((n + 1) * 7) = _
  rw [← List.append_assoc,List.take_append_of_le_length (by omega),← hlen,List.take_length]
theorem setRow_other (w:World) {g k:Nat} (cs:Array Value) (h:k ≠ g):(w.setRow g cs).heap[k]? = w.heap[k]?:=by
 simp only [World.setRow]
 rw [Array.getElem?_modify,if_neg (fun e => h e.symm)]
theorem fr_setRow (w:World) (g:Nat) (cs:Array Value):Fr [g] w (w.setRow g cs):=⟨rfl,rfl,rfl,by simp [World.setRow],fun k _ hn => setRow_other w cs (fun e => hn (by simp [e]))⟩
theorem insert_shift (lo g c n i vb:Nat) (ps:List KP) (q:KP) (w:World) (h:w.ownsRow lo 35 7 (.slice (some ⟨g,0,none⟩) n c) n (flK ps)) (hl:ps.length = n) (hi:i < n) (hn:n ≤ 1048576) (hroom:n + 1 ≤ c) (hv:w.heap[vb]? = some (.cells (ckh q.1 q.2.1).toArray 35 (0,0))) (hne:vb ≠ g):Calls Tryz.prog 108 #[.slice (some ⟨g,0,none⟩) n c,.int .i64 i,.slice (some ⟨vb,0,none⟩) 1 1] w fun e w' => e = .returned (.slice (some ⟨g,0,none⟩) (n + 1) c) ∧ w'.ownsRow lo 35 7 (.slice (some ⟨g,0,none⟩) (n + 1) c) (n + 1) (flK (ps.take i ++ q :: ps.drop i)) ∧ Fr [g] w w':=by
 have HR:=hid h
 obtain ⟨cur,hg,hlo,hcs,hct,hmx⟩:∃ cur,w.heap[g]? = some (.cells cur 35 (0,0)) ∧ lo ≤ g ∧ cur.size = c * 7 ∧ cur.toList.take (n * 7) = flK ps ∧ c ≤ maxLen:=by
  rcases h.2 with ⟨e,_⟩ | ⟨g',c',cur,e,q1,q2,q3,q4,q5,q6⟩
  ·cases e
  ·cases e
   exact ⟨cur,q2,q1,q5,q6,q4⟩
 have hsz0:cur.size ≠ 0:=by omega
 have hov:∀ o lb cb,(callFunc 129 #[.slice (some ⟨vb,0,none⟩) 1 1,.slice (some ⟨g,o,none⟩) lb cb]).run Tryz.prog w = .ok (.value (.bool false)) w:=fun o lb cb => overlaps_no w vb g o lb cb _ cur hne hv hg hsz0
 have hc63:=(row_caps h).2
 have hz2:¬ ((i:Int) = (n:Int)):=by omega
 have hz2':¬ ((n:Int) = (i:Int)):=by omega
 have hz3:¬ ((c:Int) < (n:Int) + 1):=by omega
 have hw1:IntKind.i64.wrap ((n:Int) + 1) = (n:Int) + 1:=by rw [IntKind.wrap_i64] <;> omega
 have hw2:IntKind.i64.wrap ((i:Int) + 1) = (i:Int) + 1:=by rw [IntKind.wrap_i64] <;> omega
 have hb1:(i:Int) ≤ (n:Int):=by omega
 have hb2:(n:Int) + 1 ≤ (c:Int):=by omega
 have hb3:(i:Int) + 1 ≤ (n:Int) + 1:=by omega
 have hb4:(i:Int) ≤ (n:Int) + 1:=by omega
 have hb5:¬ (c = i):=by omega
 have hb6:¬ (c = i + 1):=by omega
 have hb7:(0:Int) ≤ (n:Int) + 1:=by omega
 have hb8:(0:Int) ≤ (i:Int) + 1:=by omega
 have ht1:((n:Int) + 1).toNat = n + 1:=by omega
 have ht2:((i:Int) + 1).toNat = i + 1:=by omega
 obtain ⟨k0,hki0,hkz0,hkz1,hkzz⟩:=info_parts Tryz.infoKn
 have hsz:(Tryz.prog.info? 35).map (·.size) = some 7:=by rw [hki0];simp [hkz1]
 have hD0:(flK (ps.drop i)).length = (n - i) * 7:=by rw [flK_len,List.length_drop,hl]
 have hgD:w.drew.heap[g]? = some (.cells cur 35 (0,0)):=hg
 have hcell:=fun j v (e:(flK ps)[j]? = some v) => World.ownsRow.cells h (g:=g) rfl j v e
 have hcp1:∀ ty dc sc,(Builtin.copy_ #[33,33] ty #[.slice (some ⟨g,(i + 1) * 7,none⟩) (n - i) dc,.slice (some ⟨g,i * 7,none⟩) (n + 1 - i) sc]).run Tryz.prog w.drew = .ok (goInt (Nat.min (n + 1 - i) (n - i))) (w.drew.setRow g (cur.toList.take ((i + 1) * 7) ++ flK (ps.drop i) ++ cur.toList.drop ((i + 1) * 7 + (flK (ps.drop i)).length)).toArray):=fun ty dc sc =>
  run_copy_rowM w.drew _ _ ty 35 7 g ((i + 1) * 7) (n - i) dc ⟨g,i * 7,none⟩ (n + 1 - i) sc cur 35 (flK (ps.drop i)) Tryz.underlying33 hsz hgD (by rw [hD0];congr 1;simp only [Nat.min_def];split <;> omega) (fun j v e => by
   rw [show flK (ps.drop i) = (flK ps).drop (i * 7) from flat_drop ckp_len ps i,List.getElem?_drop] at e
   have:=hcell _ v e
   rw [Addr.add_mid,Nat.zero_add] at this
   rw [Addr.add_mid]
   exact this) (by rw [hD0,hcs];omega) (flK_one _)
 obtain ⟨c1,hc1⟩:∃ c1,c1 = cur.toList.take ((i + 1) * 7) ++ flK (ps.drop i) ++ cur.toList.drop ((i + 1) * 7 + (flK (ps.drop i)).length):=⟨_,rfl⟩
 rw [← hc1] at hcp1
 obtain ⟨W1,hW1⟩:∃ W1,W1 = w.drew.setRow g c1.toArray:=⟨_,rfl⟩
 rw [← hW1] at hcp1
 have hg1:W1.heap[g]? = some (.cells c1.toArray 35 (0,0)):=by rw [hW1];exact setRow_heap w.drew g cur c1.toArray 35 _ hgD
 have hv1:W1.heap[vb]? = some (.cells (ckh q.1 q.2.1).toArray 35 (0,0)):=by
  rw [hW1]
  exact (setRow_other w.drew c1.toArray hne).trans hv
 have hc1l:c1.length = c * 7:=by rw [hc1,List.length_append,List.length_append,List.length_take,List.length_drop,hD0,Array.length_toList,hcs];omega
 have hcp2:∀ ty dc,(Builtin.copy_ #[33,33] ty #[.slice (some ⟨g,i * 7,none⟩) (n + 1 - i) dc,.slice (some ⟨vb,0,none⟩) 1 1]).run Tryz.prog W1 = .ok (goInt (Nat.min 1 (n + 1 - i))) (W1.setRow g (c1.take (i * 7) ++ ckh q.1 q.2.1 ++ c1.drop (i * 7 + (ckh q.1 q.2.1).length)).toArray):=fun ty dc => by
  have:=run_copy_rowM W1 33 33 ty 35 7 g (i * 7) (n + 1 - i) dc ⟨vb,0,none⟩ 1 1 c1.toArray 35 (ckh q.1 q.2.1) Tryz.underlying33 hsz hg1 (by rw [ckp_len];simp only [Nat.min_def];split <;> omega) (src_blk hv1) (by rw [ckp_len];simp [hc1l];omega) (fun u hu => flK_one [q] u (by show u ∈ ckh q.1 q.2.1 ++ [];rw [List.append_nil];exact hu))
  simpa using this
 have HC1:=hid hc1
 have HW1:=hid hW1
 clear hc1 hW1 hD0 hc1l
 go_enter Tryz.func108,Tryz.ntmps108
 go_wp2_with (simp only [hov])
 have mixed:Tryz.prog.follows .mixedOrders = true:=by kernel_rfl
 go_region_law_o (refine step_copy_runI rfl _ _ 33 33 rfl _ _ (by simp [Act.eval,Act.put]) (by simp [Act.eval,Act.put]) (hcp1 _ _ _) ?_)
 go_wp2_with (at_builtin;refine wpList_copy_runI _ rfl _ _ 33 33 rfl _ _ rfl rfl (hcp2 _ _) ?_)
 go_ret
 refine ⟨rfl,row_ins (w:=w) (cur:=cur) hcs hct hl hi hroom hlo hmx ?_,?_⟩
 ·rw [← HC1.out]
  have:=setRow_heap W1 g c1.toArray (c1.take (i * 7) ++ (ckh q.1 q.2.1 ++ c1.drop (i * 7 + (ckh q.1 q.2.1).length))).toArray 35 _ hg1
  rw [List.append_assoc]
  exact this
 ·have f1:Fr [g] w W1:=by
   rw [HW1.out]
   exact (Fr.of (bdrew (Below.refl _ _)) [g]).trans (fr_setRow w.drew g _) (fun k hk => .inl hk)
  exact f1.trans (fr_setRow W1 g _) (fun k hk => .inl hk)
end Go.Proofs.YtjahlofahjgdbaaGreat
