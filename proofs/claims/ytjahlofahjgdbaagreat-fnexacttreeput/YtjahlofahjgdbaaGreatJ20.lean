/- Texts of stores, joined: Kp, Kq, Ke. -/
import Derived.Test.YtjahlofahjgdbaaGreatJ19
set_option maxRecDepth 100000
set_option maxHeartbeats 16000000
set_option linter.unusedSimpArgs false
set_option linter.unusedVariables false
namespace Go.Proofs.YtjahlofahjgdbaaGreat
open Go.RowKit
theorem ins_list {α:Type} (A D:List α) (x y:α) (q:Nat) (h:A.length = q):(A ++ [x] ++ D).take (q + 1) ++ [y] ++ (A ++ [x] ++ D).drop (q + 1) = A ++ [x,y] ++ D:=by
 have h2:(A ++ [x]).length = q + 1:=by simp [h]
 rw [List.take_left' h2,List.drop_left' h2]
 simp
theorem put_mk {lo n:Nat} {w W:World} {ps qs:List KP} {q g c' n' ic:Nat} {ia a':Option Addr} {S:List Nat} (hS:S.Perm (hb ia ++ hb (some (⟨g,0,none⟩:Addr)) ++ ps.flatMap (·.2.2))) (hN:S.Nodup) (hk:∀ p ∈ ps,KO lo n w p.2.1 p.2.2 p.1) (hSl:∀ x ∈ S,x < w.heap.size) (r1:w.ownsRow lo 40 5 (.slice ia 0 ic) 0 []) (hq:q < ps.length) (hqs:KOs lo n W qs) (hsub:∀ x ∈ qs.flatMap (·.2.2),x ∈ ps[q].2.2 ∨ w.heap.size ≤ x) (hf:Fr (g :: ps[q].2.2) w W) (row:W.ownsRow lo 35 7 (.slice a' n' c') n' (flK (ps.take q ++ qs ++ ps.drop (q + 1)))) (hn':n' = (ps.take q ++ qs ++ ps.drop (q + 1)).length) (ha:∀ x ∈ hb a',x = g ∨ (w.heap.size ≤ x ∧ x ∉ qs.flatMap (·.2.2))):(∀ bx:Bx,KO lo (n + 1) W (ia,ic,a',c') (hb ia ++ hb a' ++ (ps.take q ++ qs ++ ps.drop (q + 1)).flatMap (·.2.2)) (.mk bx false [] ((ps.take q ++ qs ++ ps.drop (q + 1)).map (·.1)))) ∧ ∀ x ∈ hb ia ++ hb a' ++ (ps.take q ++ qs ++ ps.drop (q + 1)).flatMap (·.2.2),x ∈ S ∨ w.heap.size ≤ x:=by
 have hN2:=hS.nodup_iff.1 hN
 rw [List.nodup_append,List.nodup_append] at hN2
 obtain ⟨⟨_,_,d1⟩,n2,d2⟩:=hN2
 have hiS:∀ x ∈ hb ia,x ∈ S:=fun x hx => hS.mem_iff.2 (by simp only [List.mem_append];exact .inl (.inl hx))
 have hfS:∀ x ∈ ps.flatMap (·.2.2),x ∈ S:=fun x hx => hS.mem_iff.2 (by simp only [List.mem_append];exact .inr hx)
 have hgS:g ∈ S:=hS.mem_iff.2 (by simp [hb])
 have hig:∀ x ∈ hb ia,x ≠ g:=fun x hx e => d1 x hx g (by simp [hb]) e
 have hif:∀ x ∈ hb ia,x ∉ ps.flatMap (·.2.2):=fun x hx hc => d2 x (List.mem_append_left _ hx) x hc rfl
 have hgf:g ∉ ps.flatMap (·.2.2):=fun hc => d2 g (List.mem_append_right _ (by simp [hb])) g hc rfl
 have hqf:∀ x ∈ ps[q].2.2,x ∈ ps.flatMap (·.2.2):=fun x hx => List.mem_flatMap.2 ⟨ps[q],List.getElem_mem hq,hx⟩
 have hkeep:∀ x,x ∈ ps.flatMap (·.2.2) → x ∉ ps[q].2.2 → W.heap[x]? = w.heap[x]?:=fun x hx hn => hf.blk x (hSl x (hfS x hx)) (by
  rw [List.mem_cons,not_or]
  exact ⟨fun e => hgf (e ▸ hx),hn⟩)
 have hK:KOs lo n W (ps.take q ++ qs ++ ps.drop (q + 1)):=KOs.swap ⟨n2,hk⟩ hq hqs hsub hkeep
 have hL:∀ x ∈ (ps.take q ++ qs ++ ps.drop (q + 1)).flatMap (·.2.2),x ∈ ps.flatMap (·.2.2) ∨ (w.heap.size ≤ x ∧ x ∈ qs.flatMap (·.2.2)):=fun x hx => by
  rw [List.flatMap_append,List.flatMap_append] at hx
  rcases List.mem_append.1 hx with h | h
  ·rcases List.mem_append.1 h with h | h
   ·exact .inl ((sub_flat (List.take_sublist q ps)).mem h)
   ·rcases hsub x h with e | e
    ·exact .inl (hqf x e)
    ·exact .inr ⟨e,h⟩
  ·exact .inl ((sub_flat (List.drop_sublist (q + 1) ps)).mem h)
 have rI:=row_blk r1 (w':=W) (fun x hx => hf.blk x (hSl x (hiS x hx)) (by
  rw [List.mem_cons,not_or]
  exact ⟨hig x hx,fun hc => hif x hx (hqf x hc)⟩))
 refine ⟨fun bx => KO.mk' (ps:=ps.take q ++ qs ++ ps.drop (q + 1)) rfl rI (by rw [← hn'];exact row) hK (fun x hx => ⟨fun hc => ?_,fun hc => ?_⟩) (fun x hx hc => ?_),fun x hx => ?_⟩
 ·rcases ha x hc with e | e
  ·exact hig x hx e
  ·have:=hSl x (hiS x hx);omega
 ·rcases hL x hc with e | e
  ·exact hif x hx e
  ·have:=hSl x (hiS x hx);omega
 ·rcases ha x hx with e | e
  ·rcases hL x hc with e2 | e2
   ·exact hgf (e ▸ e2)
   ·have:=hSl g hgS;omega
  ·rcases hL x hc with e2 | e2
   ·have:=hSl x (hfS x e2);omega
   ·exact e.2 e2.2
 ·rcases List.mem_append.1 hx with h | h
  ·rcases List.mem_append.1 h with h | h
   ·exact .inl (hiS x h)
   ·rcases ha x h with e | e
    ·rw [e];exact .inl hgS
    ·exact .inr e.1
  ·rcases hL x h with e | e
   ·exact .inl (hfS x e)
   ·exact .inr e.1
theorem impl_putK (lo n1 m d b o:Nat) (tp:Bool) (P R:List Value) (b0 b1 b2 b3:Int) (ks:List KT) (ia ka:Option Addr) (ic kc:Nat) (x0 x1 x2 x3 x4:Int) (S:List Nat) (w:World) (k:KO lo (n1 + 1 + 1) w (ia,ic,ka,kc) S (.mk (b0,b1,b2,b3) false [] ks)) (hlo:lo ≤ w.heap.size) (hB:BK w b o P R [.int .i64 b0,.int .i64 b1,.int .i64 b2,.int .i64 b3,.bool false,.slice ia 0 ic,.slice ka ks.length kc]) (hbS:b ∉ S) (h1:1 ≤ ks.length) (h4:ks.length ≤ 4) (hgd:ks.all (gd (d + 1) tp) = true) (hdm:d < m) (hx:bkb (x1,x2,x3,x4) = true)
  (IH:∀ (kid:KT) (h':Hd) (S':List Nat) (W:World) (b' o':Nat) (P' R':List Value),KO lo (n1 + 1) W h' S' kid → lo ≤ W.heap.size → gd (d + 1) tp kid = true → BK W b' o' P' R' (ckh kid h') → b' ∉ S' → Calls Tryz.prog 83 #[.pointer (some ⟨b',o',none⟩),.agg #[.int .i64 x0,.int .i64 x1,.int .i64 x2,.int .i64 x3,.int .i64 x4]] W (PuA W lo (n1 + 1) b' o' P' R' S' (putI m kid (x0,x1,x2,x3,x4)))) :
  Calls Tryz.prog 83 #[.pointer (some ⟨b,o,none⟩),.agg #[.int .i64 x0,.int .i64 x1,.int .i64 x2,.int .i64 x3,.int .i64 x4]] w (PuA w lo (n1 + 1 + 1) b o P R S (putI (m + 1) (.mk (b0,b1,b2,b3) false [] ks) (x0,x1,x2,x3,x4))):=by
 have hSl:∀ x ∈ S,x < w.heap.size:=fun x hx => (k.lt x hx).2
 have HKR:=k.knr
 have hbw:=hB.lt
 obtain ⟨ps,l1,r1,r2,hS,hN,hk⟩:=k
 have hks:ks = ps.map (·.1):=l1
 subst hks
 have hpl:(ps.map (·.1)).length = ps.length:=List.length_map _
 have hkid:kidF (x1,x2,x3,x4) (ps.map (·.1)) < ps.length:=by rw [← hpl];exact kidF_lt _ _ (by omega)
 rw [hpl] at h1 h4 hB
 have r2':w.ownsRow lo 35 7 (.slice ka ps.length kc) ps.length (flK ps):=r2
 have r1':w.ownsRow lo 40 5 (.slice ia 0 ic) 0 []:=r1
 obtain ⟨g,e0,hg,_⟩:=row_cs r2' (by omega)
 subst e0
 have hgS:g ∈ S:=hS.mem_iff.2 (by simp [hb])
 have hbg:b ≠ g:=fun e => hbS (e ▸ hgS)
 obtain ⟨hc3,hc63⟩:ps.length ≤ kc ∧ kc ≤ 9223372036854775807:=row_caps r2'
 obtain ⟨nk,hnk⟩:∃ nk,nk = ps.length:=⟨_,rfl⟩
 have hkv:kv (.mk (b0,b1,b2,b3) false [] (ps.map (·.1))) ia ic (some ⟨g,0,none⟩) kc = .agg #[.int .i64 b0,.int .i64 b1,.int .i64 b2,.int .i64 b3,.bool false,.slice ia 0 ic,.slice (some ⟨g,0,none⟩) nk kc]:=by
  show Value.agg #[_,_,_,_,_,_,Value.slice _ (ps.map (·.1)).length kc] = _
  rw [hpl,hnk]
  rfl
 have hgda:∀ x ∈ ps.map (·.1),gd (d + 1) tp x = true:=fun x hx => List.all_eq_true.1 hgd x hx
 obtain ⟨q,hq⟩:∃ q,q = kidF (x1,x2,x3,x4) (ps.map (·.1)):=⟨_,rfl⟩
 have KF:=hid (fun (W:World) (hW:Below w.heap.size w W) => show Calls Tryz.prog 106 #[.agg #[.int .i64 b0,.int .i64 b1,.int .i64 b2,.int .i64 b3,.bool false,.slice ia 0 ic,.slice (some ⟨g,0,none⟩) nk kc],.agg #[.int .i64 x1,.int .i64 x2,.int .i64 x3,.int .i64 x4]] W (fun e w' => e = .returned (.int .i64 (q:Nat)) ∧ Below W.heap.size W w') by
  rw [← hkv,hq]
  exact impl_kidFor (n1 + 1 + 1) (.mk (b0,b1,b2,b3) false [] (ps.map (fun p:KP => p.1))) ia (some ⟨g,0,none⟩) ic kc x1 x2 x3 x4 W (HKR.below hW) (by show 0 + (ps.map (·.1)).length ≤ _;omega) hx (List.all_eq_true.2 (fun x hx => gd_boxA (hgda x hx))))
 rw [← hq] at hkid
 obtain ⟨p,hp⟩:∃ p,p = ps[q]:=⟨_,rfl⟩
 have hpm:p ∈ ps:=by rw [hp];exact List.getElem_mem hkid
 have hgdp:gd (d + 1) tp p.1 = true:=hgda p.1 (List.mem_map_of_mem hpm)
 have hfl:∀ x ∈ ps.flatMap (·.2.2),x ∈ S:=fun x hx => hS.mem_iff.2 (by simp only [List.mem_append];exact .inr hx)
 have hpf:∀ x ∈ p.2.2,x ∈ ps.flatMap (·.2.2):=fun x hx => List.mem_flatMap.2 ⟨p,hpm,hx⟩
 have hgf:g ∉ ps.flatMap (·.2.2):=fun hc => by
  have hN2:=hS.nodup_iff.1 hN
  rw [List.nodup_append] at hN2
  exact hN2.2.2 g (List.mem_append_right _ (by simp [hb])) g hc rfl
 have hgp:g ∉ p.2.2:=fun hc => hgf (hpf g hc)
 have hbp:b ∉ p.2.2:=fun hc => hbS (hfl b (hpf b hc))
 have hBK:=row_BK r2' rfl hkid
 rw [← hp,← hnk] at hBK
 obtain ⟨P1,hP1⟩:∃ P1,P1 = flK (ps.take q):=⟨_,rfl⟩
 obtain ⟨R1,hR1⟩:∃ R1,R1 = flK (ps.drop (q + 1)) ++ SpR w g nk:=⟨_,rfl⟩
 rw [← hP1,← hR1] at hBK
 have IHQ:=hid (fun (W:World) (hW:Below w.heap.size w W) => IH p.1 p.2.1 p.2.2 W g (q * 7) P1 R1 ((hk p hpm).below hW) (Nat.le_trans hlo hW.size) hgdp (hBK.below hW) hgp)
 have g5t:g5 d tp (putI m p.1 (x0,x1,x2,x3,x4)):=(putI_g5 (it:=(x0,x1,x2,x3,x4)) hx m d tp p.1 hgdp hdm).1
 have HPK:=putI_K (m:=m) (b:=(b0,b1,b2,b3)) (ks:=ps.map (·.1)) (it:=(x0,x1,x2,x3,x4)) (q:=q) hq.symm (by rw [hpl];exact hkid)
 have e9:(ps.map (·.1))[q]'(by rw [List.length_map];exact hkid) = p.1:=by rw [List.getElem_map,hp]
 rw [e9] at HPK
 obtain ⟨t',ht'⟩:∃ t',t' = putI m p.1 (x0,x1,x2,x3,x4):=⟨_,rfl⟩
 rw [← ht'] at IHQ g5t HPK
 obtain ⟨pt,hpt⟩:∃ pt,pt = putI (m + 1) (.mk (b0,b1,b2,b3) false [] (ps.map (·.1))) (x0,x1,x2,x3,x4):=⟨_,rfl⟩
 rw [← hpt] at HPK ⊢
 have HPT:=hid (fun (qs:List KP) (hq9:qs.map (·.1) = dn t') => show pt = .mk (jns (((ps.take q ++ qs ++ ps.drop (q + 1)).map (·.1)).map KT.box)) false [] ((ps.take q ++ qs ++ ps.drop (q + 1)).map (·.1)) by
  have e:(ps.take q ++ qs ++ ps.drop (q + 1)).map (·.1) = (ps.map (·.1)).take q ++ dn t' ++ (ps.map (·.1)).drop (q + 1):=by rw [List.map_append,List.map_append,List.map_take,List.map_drop,hq9]
  rw [e]
  exact HPK)
 have BOX:=hid (fun (qs:List KP) (hq9:qs.map (·.1) = dn t') => show ((ps.take q ++ qs ++ ps.drop (q + 1)).map (·.1)).all (fun k => bkb k.box) = true by
  rw [List.map_append,List.map_append,hq9,List.all_eq_true]
  intro x hx
  rcases List.mem_append.1 hx with h | h
  ·rcases List.mem_append.1 h with h | h
   ·exact gd_boxA (hgda x (by rw [List.map_take] at h;exact List.mem_of_mem_take h))
   ·rcases dn_gd g5t with ⟨_,e,e2⟩ | ⟨a,b,e,e2,e3⟩
    ·rw [e,List.mem_singleton] at h
     rw [h];exact gd_boxA e2
    ·rw [e] at h
     rcases List.mem_cons.1 h with h | h
     ·rw [h];exact gd_boxA e2
     ·rw [List.mem_singleton] at h;rw [h];exact gd_boxA e3
  ·exact gd_boxA (hgda x (by rw [List.map_drop] at h;exact List.mem_of_mem_drop h)))
 have MK:=hid (fun (qs:List KP) (W:World) (a':Option Addr) (n' c':Nat) (hqs:KOs lo (n1 + 1) W qs) (hsub:∀ x ∈ qs.flatMap (·.2.2),x ∈ p.2.2 ∨ w.heap.size ≤ x) (hf:Fr (g :: p.2.2) w W) (row:W.ownsRow lo 35 7 (.slice a' n' c') n' (flK (ps.take q ++ qs ++ ps.drop (q + 1)))) (hn':n' = (ps.take q ++ qs ++ ps.drop (q + 1)).length) (ha:∀ x ∈ hb a',x = g ∨ (w.heap.size ≤ x ∧ x ∉ qs.flatMap (·.2.2))) => put_mk (ia:=ia) (ic:=ic) hS hN hk hSl r1' hkid hqs (by rw [← hp];exact hsub) (by rw [← hp];exact hf) row hn' ha)
 have ROW:=hid (fun (W:World) (qq:KP) (hB9:BK W g (q * 7) P1 R1 (ckh qq.1 qq.2.1)) => BK_row (w':=W) r2' rfl hkid qq (by rw [← hP1,← hnk,← hR1];exact hB9))
 rw [← hnk] at h1 h4 hB hc3 hkid ROW
 have HNK:=hid hnk
 have HPP:=hid (And.intro hP1 (And.intro hR1 (And.intro ht' (And.intro hpt (And.intro hp hq)))))
 have hps9:∀ x ∈ p.2.2,x ∈ S:=fun x hx => hfl x (hpf x hx)
 have HG5:=hid g5t
 clear HKR r1 r2 r1' r2' hS hN hk hkv hgda hgd hpl hBK hP1 hR1 hnk ht' hpt hp hq l1 HPK e9 hpm IH hfl hpf hgf hgdp hx g5t
 have gX:=new_alloc w w.heap.size (.cells #[.int .i64 x0,.int .i64 x1,.int .i64 x2,.int .i64 x3,.int .i64 x4] 40) rfl
 have hB0:=balloc (Below.refl w.heap.size w) (.cells #[.int .i64 x0,.int .i64 x1,.int .i64 x2,.int .i64 x3,.int .i64 x4] 40)
 have hBv:=hB.below hB0
 have HB:=hid hB0
 clear hB hB0
 obtain ⟨a0,a1,a2,a3,a4,a5,a6,f0,f1,f2,f3,f4,f5,f6⟩:=hBv.k7
 go_enter Tryz.func83,Tryz.ntmps83
 go_upto_region 3 with fail
 clear a0 a1 a2 a3 a4 a5 a6 f0 f1 f2 f3 f4 f5 f6
 generalize w.alloc (.cells #[.int .i64 x0,.int .i64 x1,.int .i64 x2,.int .i64 x3,.int .i64 x4] 40) = V at *
 refine wp_region_late (L:=[]) (S:=(fun w' => w'.cell? ⟨b,o,none⟩ = some (.int .i64 b0) ∧ w'.cell? ⟨b,o + 1,none⟩ = some (.int .i64 b1) ∧ w'.cell? ⟨b,o + 2,none⟩ = some (.int .i64 b2) ∧ w'.cell? ⟨b,o + 3,none⟩ = some (.int .i64 b3) ∧ w'.cell? ⟨b,o + 4,none⟩ = some (.bool false) ∧ w'.cell? ⟨b,o + 5,none⟩ = some (.slice ia 0 ic) ∧ w'.cell? ⟨b,o + 6,none⟩ = some (.slice (some ⟨g,0,none⟩) nk kc) ∧ w'.cell? ⟨w.heap.size,1,none⟩ = some (.int .i64 x1) ∧ w'.cell? ⟨w.heap.size,2,none⟩ = some (.int .i64 x2) ∧ w'.cell? ⟨w.heap.size,3,none⟩ = some (.int .i64 x3) ∧ w'.cell? ⟨w.heap.size,4,none⟩ = some (.int .i64 x4))) (by kernel_rfl) ?_ (fun hHeld => ?_)
 ·(obtain ⟨a0,a1,a2,a3,a4,a5,a6,_,_,_,_,_,_,_⟩:=hBv.k7;obtain ⟨_,c1,c2,c3,c4,_,_,_,_,_⟩:=cell5j gX;exact ⟨a0,a1,a2,a3,a4,a5,a6,c1,c2,c3,c4⟩)
 have hD:=bdrew (Below.refl V.heap.size V)
 replace hBv:=hBv.below hD
 replace gX:=keepheap hD gX
 replace HB:=hid (btrans HB.out hD)
 clear hD
 generalize V.drew = Va at *
 refine tkP 0 hHeld ?_
 try simp only [sq]
 refine tkP 1 hHeld ?_
 try simp only [sq]
 refine tkA 2 hHeld ?_
 try simp only [sq]
 refine tkP 3 hHeld ?_
 try simp only [sq]
 refine tkA 4 hHeld ?_
 try simp only [sq]
 refine anyL_1 (i:=5) rfl (by kernel_rfl) rfl ?_
 refine wpo_call (KF.out Va HB.out) ?_ (fun e w' hp => ?_) (fun v Vb hp => ?_)
 ·go_simp
 ·exact ⟨_,hp.1⟩
 clear hHeld KF
 obtain ⟨e0,hb1⟩:=hp
 injection e0 with e0
 subst e0
 replace hBv:=hBv.below hb1
 replace gX:=keepheap hb1 gX
 replace HB:=hid (btrans HB.out hb1)
 clear hb1
 refine ⟨by (obtain ⟨a0,a1,a2,a3,a4,a5,a6,_,_,_,_,_,_,_⟩:=hBv.k7;obtain ⟨_,c1,c2,c3,c4,_,_,_,_,_⟩:=cell5j gX;exact ⟨a0,a1,a2,a3,a4,a5,a6,c1,c2,c3,c4⟩),fun hHeld => ?_⟩
 try simp only [sq]
 refine tkP 6 hHeld ?_
 try simp only [sq]
 refine anyL_done (by kernel_rfl) ?_ _
 skip
 clear hHeld
 have hq1:(q:Int) < (nk:Int):=by omega
 have hq0:(0:Int) ≤ (q:Int):=by omega
 obtain ⟨a0,a1,a2,a3,a4,a5,a6,f0,f1,f2,f3,f4,f5,f6⟩:=hBv.k7
 obtain ⟨c0,c1,c2,c3,c4,_,_,_,_,_⟩:=cell5j gX
 go_wp2_with fail
 refine (IHQ.out _ HB.out).mono ?_
 rintro e W2 ⟨h',S',rfl,hB1,hk1,hs1,hf2⟩
 clear IHQ a0 a1 a2 a3 a4 a5 a6 f0 f1 f2 f3 f4 f5 f6 c0 c1 c2 c3 c4 gX
 have hgl:g < w.heap.size:=hg
 have hVb:=HB.out.size
 replace hBv:=hBv.keep (hf2.blk _ hBv.lt (by rw [List.mem_cons,not_or];exact ⟨hbg,hbp⟩))
 have HS1:=hid (show ∀ x ∈ S',x ∈ p.2.2 ∨ w.heap.size ≤ x from fun x hx => by
  rcases hs1 x hx with e | e
  ·exact .inl e
  ·exact .inr (by omega))
 have HF:=hid (fr_step (Fr.of HB.out (g :: p.2.2)) hf2 (fun x hx => .inl hx))
 have HK1:=hid hk1
 have hgS1:g ∉ S':=fun hc => by
  rcases HS1.out g hc with e | e
  ·exact hgp e
  ·omega
 have hbS1:b ∉ S':=fun hc => by
  rcases HS1.out b hc with e | e
  ·exact hbp e
  ·omega
 clear hs1 hf2 hk1 HB hVb
 obtain ⟨y0,y1,y2,y3,y4,ya,yn,yc,yb,ym,yd,hyv,_⟩:=kh (t',h',S')
 have hyv':ckh t' h' = [.int .i64 y0,.int .i64 y1,.int .i64 y2,.int .i64 y3,.bool y4,.slice ya yn yc,.slice yb ym yd]:=hyv
 have CNT:=hid (fun (W:World) => impl_count t' h'.1 h'.2.1 h'.2.2.1 h'.2.2.2 0 W)
 rw [show kv t' h'.1 h'.2.1 h'.2.2.1 h'.2.2.2 = .agg #[.int .i64 y0,.int .i64 y1,.int .i64 y2,.int .i64 y3,.bool y4,.slice ya yn yc,.slice yb ym yd] by
  show Value.agg (ckh t' h').toArray = _
  rw [hyv'],cnt_g5 HG5.out,show ((0:Nat):Int) = 0 from rfl] at CNT
 have hB1y:=hB1
 rw [hyv'] at hB1y
 obtain ⟨j0,j1,j2,j3,j4,j5,j6,_,_,_,_,_,_,_⟩:=hB1y.k7
 have HYV:=hid hyv'
 clear hyv hyv' hB1y
 by_cases hf4:t'.fan ≤ 4
 ·rw [decide_eq_true hf4] at CNT
  have HDN:=hid (show ([(t',h',S')]:List KP).map (·.1) = dn t' by
   unfold dn
   rw [if_pos hf4]
   rfl)
  go_wp2_with fail
  refine (CNT.out _).mono ?_
  rintro e X ⟨rfl,hb1⟩
  clear CNT j0 j1 j2 j3 j4 j5 j6
  replace hBv:=hBv.below hb1
  replace hB1:=hB1.below hb1
  replace HF:=hid (fr_step HF.out (Fr.of hb1 []) (fun x hx => by cases hx))
  replace HK1:=hid (HK1.out.below hb1)
  clear hb1
  have hLl:(ps.take q ++ [(t',h',S')] ++ ps.drop (q + 1)).length = nk:=by
   simp only [List.length_append,List.length_take,List.length_drop,List.length_singleton,← HNK.out]
   omega
  have hmk:=MK.out [(t',h',S')] X (some ⟨g,0,none⟩) nk kc (KOs.one (p:=(t',h',S')) HK1.out) (by simpa using HS1.out) HF.out (ROW.out X (t',h',S') hB1) hLl.symm (fun x hx => .inl (by simpa [hb] using hx))
  have HKA:=hid (fun bx => hmk.1 bx)
  have HSB:=hid hmk.2
  have HVF:=hid (show Fr (b :: S) w X from HF.out.mono (fun x hx => .inl (by
   rcases List.mem_cons.1 hx with e | e
   ·rw [e];exact List.mem_cons_of_mem _ hgS
   ·exact List.mem_cons_of_mem _ (hps9 x e))))
  clear hmk MK ROW HK1 hB1 HF HS1
  have hall:((ps.take q ++ [(t',h',S')] ++ ps.drop (q + 1)).map (·.1)).all (fun k => bkb k.box) = true:=BOX.out [(t',h',S')] HDN.out
  have ARA:=hid (fun (W:World) (hb:Below X.heap.size X W) => around_kids (b0,b1,b2,b3) _ hall ((HKA.out _).knr.below hb) (by rw [List.length_map];omega))
  rw [List.length_map,hLl] at ARA
  have hptJ:pt = .mk (jns (((ps.take q ++ [(t',h',S')] ++ ps.drop (q + 1)).map (·.1)).map KT.box)) false [] ((ps.take q ++ [(t',h',S')] ++ ps.drop (q + 1)).map (·.1)):=HPT.out [(t',h',S')] HDN.out
  generalize jns (((ps.take q ++ [(t',h',S')] ++ ps.drop (q + 1)).map (·.1)).map KT.box) = J at *
  have HCK:=hid (show ckh (.mk J false [] ((ps.take q ++ [(t',h',S')] ++ ps.drop (q + 1)).map (·.1))) (ia,ic,(some ⟨g,0,none⟩),kc) = [.int .i64 J.1,.int .i64 J.2.1,.int .i64 J.2.2.1,.int .i64 J.2.2.2,.bool false,.slice ia 0 ic,.slice (some ⟨g,0,none⟩) nk kc] by
   show [_,_,_,_,_,_,Value.slice (some ⟨g,0,none⟩) ((ps.take q ++ [(t',h',S')] ++ ps.drop (q + 1)).map (·.1)).length kc] = _
   rw [List.length_map,hLl]
   rfl)
  have HPJ:=hid hptJ
  have HCL:=hid hall
  clear hall hptJ HCL hLl
  obtain ⟨a0,a1,a2,a3,a4,a5,a6,f0,f1,f2,f3,f4,f5,f6⟩:=hBv.k7
  go_wp2_with fail
  refine (ARA.out _ (Below.refl _ _)).mono ?_
  rintro e U ⟨rfl,hb2⟩
  replace hBv:=hBv.below hb2
  have HBV:=hid hb2
  clear hb2 a0 a1 a2 a3 a4 a5 a6 f0 f1 f2 f3 f4 f5 f6 ARA
  obtain ⟨a0,a1,a2,a3,a4,a5,a6,f0,f1,f2,f3,f4,f5,f6⟩:=hBv.k7
  have hu1:=hBv.set4 (.int .i64 J.1) (.int .i64 J.2.1) (.int .i64 J.2.2.1) (.int .i64 J.2.2.2)
  have ho1:=fun x (hx:x ≠ b) => setL_blk [.int .i64 J.1,.int .i64 J.2.1,.int .i64 J.2.2.1,.int .i64 J.2.2.2] U b o x (fun e => hx e.symm)
  have hfu:=fr_setN (g:=b) (HVF.out.trans (Fr.of HBV.out []) (fun k hk => by cases hk)) (.inl (List.mem_cons_self ..)) [.int .i64 J.1,.int .i64 J.2.1,.int .i64 J.2.2.1,.int .i64 J.2.2.2] o
  simp only [setL,Nat.add_assoc,Nat.reduceAdd] at ho1 hfu
  go_wp2_with fail
  go_end0
  refine ⟨(ia,ic,(some ⟨g,0,none⟩),kc),_,rfl,?_,?_,HSB.out,hfu⟩
  ·rw [HPJ.out,HCK.out]
   exact hu1
  ·rw [HPJ.out]
   exact (HKA.out J).keep (fun x hx => (ho1 x (fun e => by
    rcases HSB.out x hx with q | q
    ·exact hbS (e ▸ q)
    ·omega)).trans (HBV.out.block x ((HKA.out J).lt x hx).2))
 ·rw [decide_eq_false hf4] at CNT
  go_wp2_with fail
  refine (CNT.out _).mono ?_
  rintro e U ⟨rfl,hb1⟩
  clear CNT j0 j1 j2 j3 j4 j5 j6
  replace hBv:=hBv.below hb1
  replace hB1:=hB1.below hb1
  replace HF:=hid (fr_step HF.out (Fr.of hb1 []) (fun x hx => by cases hx))
  replace HK1:=hid (HK1.out.below hb1)
  clear hb1
  obtain ⟨t1,t2,hdn,_,_,hspl⟩:=split_any lo n1 g (q * 7) d tp P1 R1 t' h' S' U HG5.out hf4 HK1.out (Nat.le_trans hlo HF.out.size) hB1 hgS1
  have SPL:=hid hspl
  have HDN:=hid hdn
  clear hspl hdn hB1
  go_wp2_with fail
  refine SPL.out.mono ?_
  rintro e W4 ⟨h1',S1,h2',S2,rfl,hB1,k1,k2,hd12,hs1,hs2,hf5⟩
  have hVU:=HF.out.size
  clear SPL
  replace hBv:=hBv.keep (hf5.blk _ hBv.lt (by rw [List.mem_cons,not_or];exact ⟨hbg,hbS1⟩))
  have HF4:=hid (fr_step HF.out hf5 (fun x hx => by
   rcases List.mem_cons.1 hx with e | e
   ·exact .inl (e ▸ List.mem_cons_self ..)
   ·rcases HS1.out x e with e2 | e2
    ·exact .inl (List.mem_cons_of_mem _ e2)
    ·exact .inr e2))
  have HQ:=hid (show KOs lo (n1 + 1) W4 [(t1,h1',S1),(t2,h2',S2)] from KOs.app (KOs.one (p:=(t1,h1',S1)) k1) (KOs.one (p:=(t2,h2',S2)) k2) (fun x hx hc => by
   simp only [List.flatMap_cons,List.flatMap_nil,List.append_nil] at hx hc
   exact hd12 x hx hc))
  have HS2:=hid (show ∀ x ∈ ([(t1,h1',S1),(t2,h2',S2)]:List KP).flatMap (·.2.2),x ∈ p.2.2 ∨ w.heap.size ≤ x from fun x hx => by
   simp only [List.flatMap_cons,List.flatMap_nil,List.append_nil,List.mem_append] at hx
   have hU:∀ y,y ∈ S' ∨ U.heap.size ≤ y → y ∈ p.2.2 ∨ w.heap.size ≤ y:=fun y hy => by
    rcases hy with e | e
    ·exact HS1.out y e
    ·exact .inr (by omega)
   rcases hx with e | e
   ·exact hU x (hs1 x e)
   ·exact hU x (hs2 x e))
  have HGQ:=hid (show g ∉ ([(t1,h1',S1),(t2,h2',S2)]:List KP).flatMap (·.2.2) from fun hc => by
   rcases HS2.out g hc with e | e
   ·exact hgp e
   ·omega)
  clear HF k1 k2 hd12 hs1 hs2 hf5 HK1 HS1 hgS1 hbS1
  have HF:=HF4
  clear HF4
  obtain ⟨z0,z1,z2,z3,z4,za,zn,zc,zb,zm,zd,hzv,_⟩:=kh (t2,h2',S2)
  have hzv':ckh t2 h2' = [.int .i64 z0,.int .i64 z1,.int .i64 z2,.int .i64 z3,.bool z4,.slice za zn zc,.slice zb zm zd]:=hzv
  have hkz:kvh t2 h2' = .agg #[.int .i64 z0,.int .i64 z1,.int .i64 z2,.int .i64 z3,.bool z4,.slice za zn zc,.slice zb zm zd]:=by
   show Value.agg (ckh t2 h2').toArray = _
   rw [hzv']
  have INS:=hid (fun (W:World) (nb:Nat) (hB9:BK W g (q * 7) P1 R1 (ckh t1 h1')) (hF:Fr (g :: p.2.2) w W) (gN:W.heap[nb]? = some (.cells #[.int .i64 z0,.int .i64 z1,.int .i64 z2,.int .i64 z3,.bool z4,.slice za zn zc,.slice zb zm zd] 35 (0,0))) (hne:nb ≠ g) => show Calls Tryz.prog 108 #[.slice (some ⟨g,0,none⟩) nk kc,.int .i64 ((q:Int) + 1),.slice (some ⟨nb,0,none⟩) 1 1] W (fun e w' => ∃ a' c',e = .returned (.slice a' (nk + 1) c') ∧ w'.ownsRow lo 35 7 (.slice a' (nk + 1) c') (nk + 1) (flK (ps.take q ++ [(t1,h1',S1),(t2,h2',S2)] ++ ps.drop (q + 1))) ∧ Fr [g] W w' ∧ ∀ x ∈ hb a',x = g ∨ x = W.heap.size) by
   have hAl:(ps.take q).length = q:=by rw [List.length_take,← HNK.out];omega
   have:=insert_any lo g kc nk (q + 1) nb (ps.take q ++ [(t1,h1',S1)] ++ ps.drop (q + 1)) (t2,h2',S2) W (by
    have h9:=ROW.out W (t1,h1',S1) hB9
    exact h9) (by
    simp only [List.length_append,List.length_take,List.length_drop,List.length_singleton,← HNK.out]
    omega) (by omega) (by omega) (Nat.le_trans hlo hF.size) (by rw [show ckh (t2,h2',S2).1 (t2,h2',S2).2.1 = ckh t2 h2' from rfl,hzv'];exact gN) hne
   rw [ins_list _ _ _ _ q hAl] at this
   exact this)
  rw [hkz]
  clear hkz hzv hzv'
  have gZ:=heap_alloc_new W4 (.cells #[.int .i64 z0,.int .i64 z1,.int .i64 z2,.int .i64 z3,.bool z4,.slice za zn zc,.slice zb zm zd] 35)
  have hbZ:=balloc (Below.refl W4.heap.size W4) (.cells #[.int .i64 z0,.int .i64 z1,.int .i64 z2,.int .i64 z3,.bool z4,.slice za zn zc,.slice zb zm zd] 35)
  replace hBv:=hBv.below hbZ
  replace hB1:=hB1.below hbZ
  replace HQ:=hid (HQ.out.keep (fun x hx => hbZ.block x (KO_blk HQ.out x hx)))
  have hW4:=HF.out.size
  replace HF:=hid (fr_step HF.out (Fr.of hbZ []) (fun x hx => by cases hx))
  clear hbZ
  obtain ⟨zk,hzk⟩:∃ zk,zk = W4.heap.size:=⟨_,rfl⟩
  rw [← hzk] at gZ
  have hzg:zk ≠ g:=by omega
  have hw1:IntKind.i64.wrap ((q:Int) + 1) = (q:Int) + 1:=by rw [IntKind.wrap_i64] <;> omega
  go_upto_region 8 with fail
  rw [← hzk]
  generalize W4.alloc (.cells #[.int .i64 z0,.int .i64 z1,.int .i64 z2,.int .i64 z3,.bool z4,.slice za zn zc,.slice zb zm zd] 35) = V at *
  clear hzk hW4
  refine wp_region_late (L:=[12]) (S:=(fun w' => w'.cell? ⟨b,o + 6,none⟩ = some (.slice (some ⟨g,0,none⟩) nk kc) ∧ w'.cell? ⟨zk,0,none⟩ = some (.int .i64 z0) ∧ w'.cell? ⟨zk,1,none⟩ = some (.int .i64 z1) ∧ w'.cell? ⟨zk,2,none⟩ = some (.int .i64 z2) ∧ w'.cell? ⟨zk,3,none⟩ = some (.int .i64 z3) ∧ w'.cell? ⟨zk,4,none⟩ = some (.bool z4) ∧ w'.cell? ⟨zk,5,none⟩ = some (.slice za zn zc) ∧ w'.cell? ⟨zk,6,none⟩ = some (.slice zb zm zd))) (by kernel_rfl) ?_ (fun hHeld => ?_)
  ·(obtain ⟨_,_,_,_,_,_,a6,_,_,_,_,_,_,_⟩:=hBv.k7;obtain ⟨c0,c1,c2,c3,c4,c5,c6,_,_,_,_,_,_,_⟩:=cell7k gZ;exact ⟨a6,c0,c1,c2,c3,c4,c5,c6⟩)
  have hD:=bdrew (Below.refl V.heap.size V)
  replace hBv:=hBv.below hD
  replace gZ:=keepheap hD gZ
  replace hB1:=hB1.below hD
  replace HQ:=hid (HQ.out.keep (fun x hx => hD.block x (KO_blk HQ.out x hx)))
  replace HF:=hid (fr_step HF.out (Fr.of hD []) (fun x hx => by cases hx))
  clear hD
  have hVz:=lt_of_heap gZ
  generalize V.drew = Va at *
  refine tkP 0 hHeld ?_
  try simp only [sq]
  refine tkP 1 hHeld ?_
  try simp only [sq]
  refine tkP 2 hHeld ?_
  try simp only [sq]
  refine tkP 3 hHeld ?_
  try simp only [sq]
  refine tkA 4 hHeld ?_
  try simp only [sq]
  refine tkP 5 hHeld ?_
  try simp only [sq]
  refine tkP 6 hHeld ?_
  try simp only [sq]
  refine tkA 7 hHeld ?_
  try simp only [sq]
  refine anyL_1 (i:=8) rfl (by kernel_rfl) rfl ?_
  have hgva:=hB1.lt
  clear hHeld
  refine wpo_val (by go_simp;first | done | with_reducible rfl | rfl | exact ⟨rfl,rfl⟩) ?_
  have gN:=heap_alloc_new Va (.cells #[.int .i64 z0,.int .i64 z1,.int .i64 z2,.int .i64 z3,.bool z4,.slice za zn zc,.slice zb zm zd] 35)
  have hbN:=balloc (Below.refl Va.heap.size Va) (.cells #[.int .i64 z0,.int .i64 z1,.int .i64 z2,.int .i64 z3,.bool z4,.slice za zn zc,.slice zb zm zd] 35)
  obtain ⟨nb,hnb⟩:∃ nb,nb = Va.heap.size:=⟨_,rfl⟩
  rw [← hnb] at gN ⊢
  replace hBv:=hBv.below hbN
  replace gZ:=keepheap hbN gZ
  replace hB1:=hB1.below hbN
  replace HQ:=hid (HQ.out.keep (fun x hx => hbN.block x (KO_blk HQ.out x hx)))
  replace HF:=hid (fr_step HF.out (Fr.of hbN []) (fun x hx => by cases hx))
  clear hbN
  generalize Va.alloc (.cells #[.int .i64 z0,.int .i64 z1,.int .i64 z2,.int .i64 z3,.bool z4,.slice za zn zc,.slice zb zm zd] 35) = Vb at *
  refine ⟨by (obtain ⟨_,_,_,_,_,_,a6,_,_,_,_,_,_,_⟩:=hBv.k7;obtain ⟨c0,c1,c2,c3,c4,c5,c6,_,_,_,_,_,_,_⟩:=cell7k gZ;exact ⟨a6,c0,c1,c2,c3,c4,c5,c6⟩),fun hHeld => ?_⟩
  try simp only [sq]
  refine anyL_1 (i:=9) rfl (by kernel_rfl) rfl ?_
  clear hHeld
  have hgb:=hB1.lt
  have hgw:=hg
  have hVs:=HF.out.size
  refine wpo_call (INS.out Vb nb hB1 HF.out gN (by omega)) ?_ (fun e w' hp => ?_) (fun v W5 hp => ?_)
  ·go_simp
  ·obtain ⟨_,_,h,_⟩:=hp;exact ⟨_,h⟩
  obtain ⟨a',c',e0,ro,hf5,hat⟩:=hp
  injection e0 with e0
  subst e0
  have HVB:=hid (show ∀ x ∈ hb a',x = g ∨ (w.heap.size ≤ x ∧ x ∉ ([(t1,h1',S1),(t2,h2',S2)]:List KP).flatMap (·.2.2)) from fun x hx => by
   rcases hat x hx with e | e
   ·exact .inl e
   ·exact .inr ⟨by omega,fun hc => by have:=KO_blk HQ.out x hc;omega⟩)
  replace hBv:=hBv.keep (hf5.blk _ hBv.lt (by simp only [List.mem_singleton];exact hbg))
  replace gZ:=(hf5.blk _ (lt_of_heap gZ) (by simp only [List.mem_singleton];exact hzg)).trans gZ
  replace HQ:=hid (HQ.out.keep (fun x hx => hf5.blk x (KO_blk HQ.out x hx) (by simp only [List.mem_singleton];intro e;exact HGQ.out (e ▸ hx))))
  replace HF:=hid (fr_step HF.out hf5 (fun x hx => .inl (by rw [List.mem_singleton] at hx;rw [hx];exact List.mem_cons_self ..)))
  have HRO:=hid ro
  clear ro hf5 hat hB1 gN INS
  refine ⟨by (obtain ⟨_,_,_,_,_,_,a6,_,_,_,_,_,_,_⟩:=hBv.k7;obtain ⟨c0,c1,c2,c3,c4,c5,c6,_,_,_,_,_,_,_⟩:=cell7k gZ;exact ⟨a6,c0,c1,c2,c3,c4,c5,c6⟩),fun hHeld => ?_⟩
  try simp only [sq]
  refine tkP 10 hHeld ?_
  try simp only [sq]
  refine tkP 11 hHeld ?_
  try simp only [sq]
  refine anyL_1 (i:=12) rfl (by kernel_rfl) rfl ?_
  obtain ⟨a0,a1,a2,a3,a4,a5,a6,f0,f1,f2,f3,f4,f5,f6⟩:=hBv.k7
  refine wpo_late (by kernel_rfl) (by go_simp;first | done | with_reducible rfl | rfl | exact ⟨rfl,rfl⟩) ?_
  clear a0 a1 a2 a3 a4 a5 a6 f0 f1 f2 f3 f4 f5 f6
  try simp only [sq]
  refine anyL_done (by kernel_rfl) ?_ _
  skip
  clear hw1
  go_upto_region 9 with fail
  have hmk:=MK.out [(t1,h1',S1),(t2,h2',S2)] W5 a' (nk + 1) c' HQ.out HS2.out HF.out HRO.out (by
   simp only [List.length_append,List.length_take,List.length_drop,List.length_cons,List.length_nil,← HNK.out]
   omega) HVB.out
  have hbS2:∀ x ∈ hb ia ++ hb a' ++ (ps.take q ++ [(t1,h1',S1),(t2,h2',S2)] ++ ps.drop (q + 1)).flatMap (·.2.2),b ≠ x:=fun x hx e => by
   rcases hmk.2 x hx with e2 | e2
   ·exact hbS (e ▸ e2)
   ·omega
  have p1:=hBv.set6 (.slice a' (nk + 1) c')
  have p2:=fun bx => (hmk.1 bx).keep (fun x hx => heap_set W5 b (o + 6) x (.slice a' (nk + 1) c') (hbS2 x hx))
  have p4:=hid (fr_set (b:=b) (k:=o + 6) (u:=.slice a' (nk + 1) c') (show Fr (b :: S) w W5 from HF.out.mono (fun x hx => .inl (by
   rcases List.mem_cons.1 hx with e | e
   ·rw [e];exact List.mem_cons_of_mem _ hgS
   ·exact List.mem_cons_of_mem _ (hps9 x e)))) (.inl (List.mem_cons_self ..)))
  have HSB:=hid hmk.2
  refine wp_wld (fun X => BK X b o P R [.int .i64 b0,.int .i64 b1,.int .i64 b2,.int .i64 b3,.bool false,.slice ia 0 ic,.slice a' (nk + 1) c'] ∧ (∀ bx,KO lo (n1 + 1 + 1) X (ia,ic,a',c') (hb ia ++ hb a' ++ (ps.take q ++ [(t1,h1',S1),(t2,h2',S2)] ++ ps.drop (q + 1)).flatMap (·.2.2)) (.mk bx false [] ((ps.take q ++ [(t1,h1',S1),(t2,h2',S2)] ++ ps.drop (q + 1)).map (·.1)))) ∧ Hid (Fr (b :: S) w X)) ⟨p1,p2,p4⟩ ?_
  clear p1 p2 p4 hBv gZ HQ HF HRO HVB hmk hbS2 MK ROW
  rintro X ⟨hBv,hka,HVF⟩
  have HKA:=hid hka
  clear hka
  have hLl:(ps.take q ++ [(t1,h1',S1),(t2,h2',S2)] ++ ps.drop (q + 1)).length = nk + 1:=by
   simp only [List.length_append,List.length_take,List.length_drop,List.length_cons,List.length_nil,← HNK.out]
   omega
  have hall:((ps.take q ++ [(t1,h1',S1),(t2,h2',S2)] ++ ps.drop (q + 1)).map (·.1)).all (fun k => bkb k.box) = true:=BOX.out [(t1,h1',S1),(t2,h2',S2)] (HDN.out.symm)
  have ARA:=hid (fun (W:World) (hb:Below X.heap.size X W) => around_kids (b0,b1,b2,b3) _ hall ((HKA.out _).knr.below hb) (by rw [List.length_map];omega))
  rw [List.length_map,hLl] at ARA
  have hptJ:pt = .mk (jns (((ps.take q ++ [(t1,h1',S1),(t2,h2',S2)] ++ ps.drop (q + 1)).map (·.1)).map KT.box)) false [] ((ps.take q ++ [(t1,h1',S1),(t2,h2',S2)] ++ ps.drop (q + 1)).map (·.1)):=HPT.out [(t1,h1',S1),(t2,h2',S2)] (HDN.out.symm)
  generalize jns (((ps.take q ++ [(t1,h1',S1),(t2,h2',S2)] ++ ps.drop (q + 1)).map (·.1)).map KT.box) = J at *
  have HCK:=hid (show ckh (.mk J false [] ((ps.take q ++ [(t1,h1',S1),(t2,h2',S2)] ++ ps.drop (q + 1)).map (·.1))) (ia,ic,a',c') = [.int .i64 J.1,.int .i64 J.2.1,.int .i64 J.2.2.1,.int .i64 J.2.2.2,.bool false,.slice ia 0 ic,.slice a' (nk + 1) c'] by
   show [_,_,_,_,_,_,Value.slice a' ((ps.take q ++ [(t1,h1',S1),(t2,h2',S2)] ++ ps.drop (q + 1)).map (·.1)).length c'] = _
   rw [List.length_map,hLl]
   rfl)
  have HPJ:=hid hptJ
  have HCL:=hid hall
  clear hall hptJ HCL hLl
  obtain ⟨a0,a1,a2,a3,a4,a5,a6,f0,f1,f2,f3,f4,f5,f6⟩:=hBv.k7
  go_wp2_with fail
  refine (ARA.out _ (Below.refl _ _)).mono ?_
  rintro e U ⟨rfl,hb2⟩
  replace hBv:=hBv.below hb2
  have HBV:=hid hb2
  clear hb2 a0 a1 a2 a3 a4 a5 a6 f0 f1 f2 f3 f4 f5 f6 ARA
  obtain ⟨a0,a1,a2,a3,a4,a5,a6,f0,f1,f2,f3,f4,f5,f6⟩:=hBv.k7
  have hu1:=hBv.set4 (.int .i64 J.1) (.int .i64 J.2.1) (.int .i64 J.2.2.1) (.int .i64 J.2.2.2)
  have ho1:=fun x (hx:x ≠ b) => setL_blk [.int .i64 J.1,.int .i64 J.2.1,.int .i64 J.2.2.1,.int .i64 J.2.2.2] U b o x (fun e => hx e.symm)
  have hfu:=fr_setN (g:=b) (HVF.out.trans (Fr.of HBV.out []) (fun k hk => by cases hk)) (.inl (List.mem_cons_self ..)) [.int .i64 J.1,.int .i64 J.2.1,.int .i64 J.2.2.1,.int .i64 J.2.2.2] o
  simp only [setL,Nat.add_assoc,Nat.reduceAdd] at ho1 hfu
  go_wp2_with fail
  go_end0
  refine ⟨(ia,ic,a',c'),_,rfl,?_,?_,HSB.out,hfu⟩
  ·rw [HPJ.out,HCK.out]
   exact hu1
  ·rw [HPJ.out]
   exact (HKA.out J).keep (fun x hx => (ho1 x (fun e => by
    rcases HSB.out x hx with q | q
    ·exact hbS (e ▸ q)
    ·omega)).trans (HBV.out.block x ((HKA.out J).lt x hx).2))
theorem impl_put (x0 x1 x2 x3 x4:Int) (hx:bkb (x1,x2,x3,x4) = true):∀ (m d n0:Nat) (top:Bool) (t:KT) (h:Hd) (S:List Nat) (w:World) (lo b o:Nat) (P R:List Value),d < m → d ≤ n0 → gd (d + 1) top t = true → KO lo (n0 + 1) w h S t → lo ≤ w.heap.size → BK w b o P R (ckh t h) → b ∉ S → Calls Tryz.prog 83 #[.pointer (some ⟨b,o,none⟩),.agg #[.int .i64 x0,.int .i64 x1,.int .i64 x2,.int .i64 x3,.int .i64 x4]] w (PuA w lo (n0 + 1) b o P R S (putI m t (x0,x1,x2,x3,x4)))
 | 0,d,n0,top,t,h,S,w,lo,b,o,P,R,hd,_,_,_,_,_,_ => absurd hd (by omega)
 | m + 1,d,n0,top,t,h,S,w,lo,b,o,P,R,hd,hn,hg,k,hlo,hB,hbS => by
  obtain ⟨hf,_,_,hc⟩:=gd_parts hg
  obtain ⟨⟨b0,b1,b2,b3⟩,lf,its,ks⟩:=t
  obtain ⟨ia,ic,ka,kc⟩:=h
  rcases hc with ⟨e1,e2,e3,e4⟩ | ⟨e1,e2,e3,e4⟩
  ·have e1':lf = true:=e1
   have e2':ks = []:=e2
   subst e1' e2'
   have e4':(its.map (·.2)).all bkb = true:=e4
   rw [List.all_map] at e4'
   have hB':BK w b o P R [.int .i64 b0,.int .i64 b1,.int .i64 b2,.int .i64 b3,.bool true,.slice ia its.length ic,.slice ka 0 kc]:=hB
   have hf':its.length ≤ 4:=hf
   exact impl_putL lo n0 b o P R b0 b1 b2 b3 its ia ka ic kc x0 x1 x2 x3 x4 S w k hlo hB' hbS hf' e4' hx
  ·have e1':lf = false:=e1
   have e2':its = []:=e2
   subst e1' e2'
   have e3':2 ≤ ks.length:=e3
   have hf':ks.length ≤ 4:=hf
   have e4':ks.all (gd d false) = true:=e4
   have hB':BK w b o P R [.int .i64 b0,.int .i64 b1,.int .i64 b2,.int .i64 b3,.bool false,.slice ia 0 ic,.slice ka ks.length kc]:=hB
   cases d with
   | zero =>
    cases ks with
    | nil => simp at e3'
    | cons a r =>
     rw [List.all_cons,Bool.and_eq_true] at e4'
     exact absurd e4'.1 (by simp [gd])
   | succ d =>
    cases n0 with
    | zero => omega
    | succ n1 =>
     exact impl_putK lo n1 m d b o false P R b0 b1 b2 b3 ks ia ka ic kc x0 x1 x2 x3 x4 S w k hlo hB' hbS (by omega) hf' e4' (by omega) hx (fun kid h' S' W b' o' P' R' k' hl' hg' hB9 hb9 => impl_put x0 x1 x2 x3 x4 hx m d n1 false kid h' S' W lo b' o' P' R' (by omega) (by omega) hg' k' hl' hB9 hb9)
theorem KO.gd' {lo:Nat}:∀ {n d:Nat} {tp:Bool} {w:World} {h:Hd} {S:List Nat} {t:KT},KO lo n w h S t → gd d tp t = true → KO lo d w h S t
 | 0,_,_,_,_,_,_,k,_ => k.elim
 | _ + 1,0,_,_,_,_,_,_,g => by cases g
 | n + 1,d + 1,tp,w,h,S,t,k,g => by
  obtain ⟨_,_,_,hc⟩:=gd_parts g
  obtain ⟨ps,l1,r1,r2,hS,hN,hk⟩:=k
  refine ⟨ps,l1,r1,r2,hS,hN,fun p hp => ?_⟩
  have hm:p.1 ∈ t.kids:=by rw [l1];exact List.mem_map_of_mem hp
  rcases hc with ⟨_,e2,_,_⟩ | ⟨_,_,_,e4⟩
  ·rw [e2] at hm;cases hm
  ·exact KO.gd' (hk p hp) (List.all_eq_true.1 e4 p.1 hm)
def WiA (w:World) (lo n:Nat) (S:List Nat) (t':KT) (e:Ending) (w':World):Prop:=∃ (h':Hd) (S':List Nat),e = .returned (kvh t' h') ∧ KO lo n w' h' S' t' ∧ (∀ x ∈ S',x ∈ S ∨ w.heap.size ≤ x) ∧ Fr S w w'
theorem spec_down (x0 x1 x2 x3 x4:Int) (hx:bkb (x1,x2,x3,x4) = true):∀ (m d n0:Nat) (top:Bool) (t:KT) (h:Hd) (S:List Nat) (w:World) (lo:Nat),d < m → d ≤ n0 → gd (d + 1) top t = true → KO lo (n0 + 1) w h S t → lo ≤ w.heap.size → Calls Tryz.prog 76 #[kvh t h,.agg #[.int .i64 x0,.int .i64 x1,.int .i64 x2,.int .i64 x3,.int .i64 x4]] w (KRow w lo (n0 + 1) S (dn (putI m t (x0,x1,x2,x3,x4))))
 | 0,d,n0,top,t,h,S,w,lo,hd,_,_,_,_ => absurd hd (by omega)
 | m + 1,d,n0,top,t,h,S,w,lo,hd,hn,hg,k,hlo => by
  obtain ⟨hf,_,_,hc⟩:=gd_parts hg
  obtain ⟨⟨b0,b1,b2,b3⟩,lf,its,ks⟩:=t
  obtain ⟨ia,ic,ka,kc⟩:=h
  rcases hc with ⟨e1,e2,e3,e4⟩ | ⟨e1,e2,e3,e4⟩
  ·have e1':lf = true:=e1
   have e2':ks = []:=e2
   subst e1' e2'
   exact spec_downL lo n0 m b0 b1 b2 b3 its ia ka ic kc x0 x1 x2 x3 x4 S w k hlo hf e4 hx
  ·have e1':lf = false:=e1
   have e2':its = []:=e2
   subst e1' e2'
   have e3':2 ≤ ks.length:=e3
   have hf':ks.length ≤ 4:=hf
   have e4':ks.all (gd d false) = true:=e4
   cases d with
   | zero =>
    cases ks with
    | nil => simp at e3'
    | cons a r =>
     rw [List.all_cons,Bool.and_eq_true] at e4'
     exact absurd e4'.1 (by simp [gd])
   | succ d =>
    cases n0 with
    | zero => omega
    | succ n1 =>
     exact spec_downK lo n1 m d b0 b1 b2 b3 ks ia ka ic kc x0 x1 x2 x3 x4 S w k hlo e3' hf' e4' (by omega) hx (fun kid h' S' W k' hl' hg' => spec_down x0 x1 x2 x3 x4 hx m d n1 false kid h' S' W lo (by omega) (by omega) hg' k' hl')
end Go.Proofs.YtjahlofahjgdbaaGreat
