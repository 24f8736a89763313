/- Texts of stores, joined: Lk, Je. -/
import Derived.Test.YtjahlofahjgdbaaGreatJ25
import Derived.Test.YtjahlofahjgdbaaGreatJ21
set_option maxRecDepth 100000
set_option maxHeartbeats 16000000
set_option linter.unusedSimpArgs false
set_option linter.unusedVariables false
namespace Go.Proofs.YtjahlofahjgdbaaGreat
open Go.RowKit
theorem flat_snd (ps:List KP):ps.flatMap (·.2.2) = (ps.map (·.2)).flatMap (·.2):=by
 rw [List.flatMap_map]
theorem flat_same {ps qs:List KP} (h:qs.map (·.2) = ps.map (·.2)):qs.flatMap (·.2.2) = ps.flatMap (·.2.2):=by
 rw [flat_snd,flat_snd,h]
theorem set_mid {α:Type} (l:List α) (k:Nat) (x:α) (h:k < l.length):l.take k ++ [x] ++ l.drop (k + 1) = l.set k x:=by
 rw [List.set_eq_take_append_cons_drop,if_pos h,List.append_assoc]
 rfl
theorem mid_snd {cur:List KP} {k:Nat} {x:KP} (h:k < cur.length) (e:x.2 = cur[k].2):(cur.take k ++ [x] ++ cur.drop (k + 1)).map (·.2) = cur.map (·.2):=by
 rw [set_mid cur k x h,List.map_set,e]
 have h2:k < (cur.map (·.2)).length:=by simpa using h
 have:cur[k].2 = (cur.map (·.2))[k]:=by rw [List.getElem_map]
 rw [this,List.set_getElem_self]
theorem mid_drop {cur:List KP} {k:Nat} {x:KP} (h:k < cur.length):(cur.take k ++ [x] ++ cur.drop (k + 1)).drop (k + 1) = cur.drop (k + 1):=by
 have hl:(cur.take k ++ [x]).length = k + 1:=by simp;omega
 exact List.drop_left' hl
theorem mid_take {cur:List KP} {k:Nat} {x:KP} (h:k < cur.length):(cur.take k ++ [x] ++ cur.drop (k + 1)).take (k + 1) = cur.take k ++ [x]:=by
 have hl:(cur.take k ++ [x]).length = k + 1:=by simp;omega
 exact List.take_left' hl
theorem mks_next (n:Nat) (l:List KT) (z:Int) (k:Nat) (h:k < l.length):mks (mkt n) (ksz n) z (l.take (k + 1)) = mks (mkt n) (ksz n) z (l.take k) ++ [mkh (z + 5 * (kz n (l.take k):Int)) (mkt n (z + 5 * (kz n (l.take k):Int) + 5) l[k])]:=by
 have h2:k < (mks (mkt n) (ksz n) z l).length:=by rw [mks_len];exact h
 rw [← mks_take,← mks_take,List.take_succ_eq_append_getElem h2,mks_get n l z k h2 h]
theorem BK.set5m {w:World} {b o:Nat} {P R:List Value} {v0 v1 v2 v3 v4 v5 v6:Value} (h:BK w b o P R [v0,v1,v2,v3,v4,v5,v6]) (a c d e f:Value):BK (((((w.setCell ⟨b,o,none⟩ a).setCell ⟨b,o + 1,none⟩ c).setCell ⟨b,o + 2,none⟩ d).setCell ⟨b,o + 3,none⟩ e).setCell ⟨b,o + 4,none⟩ f) b o P R [a,c,d,e,f,v5,v6]:=
 ((((h.set 0 (by simp) a).set 1 (by simp) c).set 2 (by simp) d).set 3 (by simp) e).set 4 (by simp) f
theorem mark_knots0 (a:Option Addr) (c:Nat) (z:Int) (w:World):Calls Tryz.prog 53 #[.slice a 0 c,.int .i64 z] w fun e w' => e = .returned (.int .i64 z) ∧ w' = w:=by
 go_enter Tryz.func53,Tryz.ntmps53
 go_wp2_with fail
 go_loopw [1,5] (fun t1 t5 wr => t5 = .int .i64 0 ∧ t1 = .int .i64 z ∧ wr = w) (fun _ _ _ => 0)
 case atStart => exact ⟨rfl,rfl,rfl⟩
 case round =>
  obtain ⟨rfl,rfl,rfl⟩:=hrel
  go_wp2_with fail
  go_ret
  exact ⟨rfl,rfl⟩
def MkR (w:World) (lo n c:Nat) (a:Option Addr) (ps:List KP) (z:Int) (e:Ending) (w':World):Prop:=e = .returned (.int .i64 (z + 5 * (kz n (ps.map (·.1)):Int))) ∧ ∃ ps':List KP,ps'.map (·.1) = mks (mkt n) (ksz n) z (ps.map (·.1)) ∧ ps'.map (·.2) = ps.map (·.2) ∧ w'.ownsRow lo 35 7 (.slice a ps.length c) ps.length (flK ps') ∧ KOs lo n w' ps' ∧ Fr (hb a ++ ps.flatMap (·.2.2)) w w'
theorem markO_step (lo n:Nat)
  (IH:∀ n',n = n' + 1 → ∀ (ps:List KP) (a:Option Addr) (c:Nat) (z:Int) (w:World),w.ownsRow lo 35 7 (.slice a ps.length c) ps.length (flK ps) → KOs lo n' w ps → (∀ x ∈ hb a,x ∉ ps.flatMap (·.2.2)) → kz n' (ps.map (·.1)) ≤ 1048576 → 0 ≤ z ∧ z + 5 * (kz n' (ps.map (·.1)):Int) ≤ 1099511627776 → Calls Tryz.prog 53 #[.slice a ps.length c,.int .i64 z] w (MkR w lo n' c a ps z))
  (ps:List KP) (a:Option Addr) (c:Nat) (z:Int) (w:World) (h:w.ownsRow lo 35 7 (.slice a ps.length c) ps.length (flK ps)) (hK:KOs lo n w ps) (hd:∀ x ∈ hb a,x ∉ ps.flatMap (·.2.2)) (hz:kz n (ps.map (·.1)) ≤ 1048576) (hzz:0 ≤ z ∧ z + 5 * (kz n (ps.map (·.1)):Int) ≤ 1099511627776):Calls Tryz.prog 53 #[.slice a ps.length c,.int .i64 z] w (MkR w lo n c a ps z):=by
 by_cases h0:ps = []
 ·subst h0
  refine (mark_knots0 a c z w).mono ?_
  rintro e w' ⟨rfl,rfl⟩
  exact ⟨by simp [kz],[],rfl,rfl,h,hK,Fr.refl _ _⟩
 have hpos:0 < ps.length:=List.length_pos_iff.2 h0
 cases n with
 | zero =>
  obtain ⟨p,hp⟩:=List.exists_mem_of_ne_nil ps h0
  exact (hK.2 p hp).elim
 | succ n =>
 obtain ⟨g,e0,hg,_⟩:=row_cs h hpos
 subst e0
 have hgf:g ∉ ps.flatMap (·.2.2):=hd g (List.mem_singleton.2 rfl)
 have hlt9:∀ x ∈ ps.flatMap (·.2.2),x < w.heap.size:=KO_blk hK
 obtain ⟨N,hN⟩:∃ N,N = ps.length:=⟨_,rfl⟩
 have hml:(ps.map (·.1)).length = N:=by rw [List.length_map,hN]
 rw [← hN] at h hpos ⊢
 have HN:=hid hN.symm
 have hNl:N ≤ 1048576:=by unfold kz at hz;rw [List.length_map,← hN] at hz;omega
 have HROW:=hid h
 have HKS:=hid hK
 have HIH:=hid (IH n rfl)
 obtain ⟨lk,hlk⟩:∃ lk,lk = ps.map (·.1):=⟨_,rfl⟩
 rw [← hlk] at hz hzz hml
 have HLK:=hid hlk
 have HNX:=hid (fun (k:Nat) (hk:k < lk.length) => kz_next (n + 1) lk k hk)
 have HLE:=hid (fun (k:Nat) => kz_le (n + 1) lk k)
 have HMN:=hid (fun (k:Nat) (hk:k < lk.length) => mks_next (n + 1) lk z k hk)
 have HEND:=hid (show lk.take N = lk by rw [← hml,List.take_length])
 clear h hK hd IH hlk hN
 go_enter Tryz.func53,Tryz.ntmps53
 go_wp2_with fail
 go_loopw [1,5] (fun t1 t5 wr => ∃ (k:Nat) (cur:List KP),t5 = .int .i64 k ∧ t1 = .int .i64 (z + 5 * (kz (n + 1) (lk.take k):Int)) ∧ k ≤ N ∧ cur.length = N ∧ Hid ((cur.take k).map (·.1) = mks (mkt (n + 1)) (ksz (n + 1)) z (lk.take k)) ∧ Hid (cur.drop k = ps.drop k) ∧ Hid (cur.map (·.2) = ps.map (·.2)) ∧ Hid (wr.ownsRow lo 35 7 (.slice (some ⟨g,0,none⟩) N c) N (flK cur)) ∧ Hid (KOs lo (n + 1) wr cur) ∧ Hid (Fr (g :: ps.flatMap (·.2.2)) w wr)) (fun _ t5 _ => N - (intOf t5).toNat)
 case atStart => exact ⟨0,ps,rfl,by simp [kz],Nat.zero_le _,HN.out,hid rfl,hid rfl,hid rfl,HROW,HKS,hid (Fr.refl _ _)⟩
 case round =>
  clear HROW HKS
  obtain ⟨k,cur,rfl,rfl,hk,hcl,HT,HD,HS,HROW,HKS,HF⟩:=hrel
  by_cases hlt:k < N
  ·have c1:(k:Int) < (N:Int):=by omega
   have hkc:k < cur.length:=by omega
   have hkp:k < ps.length:=by rw [HN.out];exact hlt
   have hkl:k < lk.length:=by omega
   have hnx:=HNX.out k hkl
   have hmn:=HMN.out k hkl
   have hle:=HLE.out (k + 1)
   have hcp:cur[k] = ps[k]:=by
    have e:=HD.out
    rw [List.drop_eq_getElem_cons hkc,List.drop_eq_getElem_cons hkp] at e
    exact (List.cons.inj e).1
   have hd1:cur.drop (k + 1) = ps.drop (k + 1):=by
    have e:=HD.out
    rw [List.drop_eq_getElem_cons hkc,List.drop_eq_getElem_cons hkp] at e
    exact (List.cons.inj e).2
   have hlkk:lk[k] = cur[k].1:=by
    have:lk[k] = (ps.map (·.1))[k]'(by rw [List.length_map];exact hkp):=by have e:=HLK.out;subst e;rfl
    rw [this,List.getElem_map,hcp]
   rw [hlkk] at hnx hmn
   rw [hnx] at hle
   have hflat:cur.flatMap (·.2.2) = ps.flatMap (·.2.2):=flat_same HS.out
   have hBK:=row_BK HROW.out hcl hkc
   have HBR:=hid (fun (W:World) (q:KP) (hB9:BK W g (k * 7) (flK (cur.take k)) (flK (cur.drop (k + 1)) ++ SpR wr g N) (ckh q.1 q.2.1)) => BK_row (w':=W) HROW.out hcl hkc q hB9)
   have hKp:=HKS.out.2 cur[k] (List.getElem_mem hkc)
   have hpf:∀ x ∈ cur[k].2.2,x ∈ ps.flatMap (·.2.2):=fun x hx => by rw [← hflat];exact List.mem_flatMap.2 ⟨_,List.getElem_mem hkc,hx⟩
   have HSW:=hid (fun (W:World) (q:KP) (hq:KO lo (n + 1) W q.2.1 q.2.2 q.1) (hs:∀ x ∈ q.2.2,x ∈ cur[k].2.2) (hkeep:∀ x,x ∈ ps.flatMap (·.2.2) → x ∉ cur[k].2.2 → W.heap[x]? = wr.heap[x]?) => show KOs lo (n + 1) W (cur.take k ++ [q] ++ cur.drop (k + 1)) from KOs.swap HKS.out hkc (KOs.one hq) (fun x hx => .inl (hs x (by simpa using hx))) (fun x hx hn => hkeep x (by rw [← hflat];exact hx) hn))
   have HSN:=hid (fun (q:KP) (e:q.2 = cur[k].2) => (mid_snd hkc e).trans HS.out)
   have HDR:=hid (fun (q:KP) => (mid_drop (x:=q) hkc).trans hd1)
   have HTK:=hid (fun (q:KP) => mid_take (x:=q) hkc)
   have HLN:=hid (fun (q:KP) => show (cur.take k ++ [q] ++ cur.drop (k + 1)).length = N by rw [set_mid cur k q hkc,List.length_set];exact hcl)
   obtain ⟨P1,hP1⟩:∃ P1,P1 = flK (cur.take k):=⟨_,rfl⟩
   obtain ⟨R1,hR1⟩:∃ R1,R1 = flK (cur.drop (k + 1)) ++ SpR wr g N:=⟨_,rfl⟩
   rw [← hP1,← hR1] at hBK HBR
   clear hP1 hR1
   generalize cur[k] = p at *
   obtain ⟨⟨⟨b0,b1,b2,b3⟩,lf,its,ks⟩,⟨ia,ic,ka,kc⟩,Sp⟩:=p
   obtain ⟨ps2,l1,r1,r2,hS2,hN2,hk2⟩:=hKp
   have hks:ks = ps2.map (·.1):=l1
   subst hks
   have r1':wr.ownsRow lo 40 5 (.slice ia its.length ic) its.length (flI its):=r1
   have r2':wr.ownsRow lo 35 7 (.slice ka ps2.length kc) ps2.length (flK ps2):=r2
   have hBK':BK wr g (k * 7) P1 R1 [.int .i64 b0,.int .i64 b1,.int .i64 b2,.int .i64 b3,.bool lf,.slice ia its.length ic,.slice ka ps2.length kc]:=by
    have e:ckh (KT.mk (b0,b1,b2,b3) lf its (ps2.map (·.1))) (ia,ic,ka,kc) = [.int .i64 b0,.int .i64 b1,.int .i64 b2,.int .i64 b3,.bool lf,.slice ia its.length ic,.slice ka ps2.length kc]:=by
     show [_,_,_,_,_,_,Value.slice ka (ps2.map (·.1)).length kc] = _
     rw [List.length_map]
     rfl
    rw [← e]
    exact hBK
   have hksz:ksz (n + 1) (KT.mk (b0,b1,b2,b3) lf its (ps2.map (·.1))) = its.length + kz n (ps2.map (·.1)):=ksz_kz n _
   rw [hksz] at hnx hle
   have hti:its.length ≤ 1048576:=by omega
   have hkz2:its.length + kz n (ps2.map (·.1)) ≤ 1048576:=by omega
   have hNd:=hS2.nodup_iff.1 hN2
   rw [List.nodup_append,List.nodup_append] at hNd
   have hgS:g ∉ Sp:=fun hc => hgf (hpf g hc)
   have hiS:∀ x ∈ hb ia,x ∈ Sp:=fun x hx => hS2.mem_iff.2 (by simp only [List.mem_append];exact .inl (.inl hx))
   have hkS:∀ x ∈ hb ka,x ∈ Sp:=fun x hx => hS2.mem_iff.2 (by simp only [List.mem_append];exact .inl (.inr hx))
   have hfS:∀ x ∈ ps2.flatMap (·.2.2),x ∈ Sp:=fun x hx => hS2.mem_iff.2 (by simp only [List.mem_append];exact .inr hx)
   have hdik:∀ x ∈ hb ia,x ∉ hb ka:=fun x hx hc => hNd.1.2.2 x hx x hc rfl
   have hdif:∀ x ∈ hb ia,x ∉ ps2.flatMap (·.2.2):=fun x hx hc => hNd.2.2 x (List.mem_append_left _ hx) x hc rfl
   have hdkf:∀ x ∈ hb ka,x ∉ ps2.flatMap (·.2.2):=fun x hx hc => hNd.2.2 x (List.mem_append_right _ hx) x hc rfl
   have hK2:KOs lo n wr ps2:=⟨hNd.2.1,hk2⟩
   have hSlt:∀ x ∈ Sp,x < wr.heap.size:=fun x hx => Nat.lt_of_lt_of_le (hlt9 x (hpf x hx)) HF.out.size
   have HR1:=hid r1'
   have HR2:=hid r2'
   have HK2:=hid hK2
   have HNX1:=hid hnx
   have HMN1:=hid hmn
   have HS2:=hid (And.intro hS2 hN2)
   have HDJ:=hid (And.intro hdik (And.intro hdif hdkf))
   have HSS:=hid (And.intro hiS (And.intro hkS (And.intro hfS (And.intro hSlt hpf))))
   have hkz3:kz n (ps2.map (·.1)) ≤ 1048576:=by omega
   obtain ⟨y,hy⟩:∃ y,y = z + 5 * (kz (n + 1) (lk.take k):Int):=⟨_,rfl⟩
   rw [← hy] at HMN1 ⊢
   have hyb:0 ≤ y ∧ y + 5 * (1 + (its.length:Int) + (kz n (ps2.map (·.1)):Int)) ≤ 1099511627776:=by omega
   have HY:=hid hy
   generalize hkzz:kz n (ps2.map (·.1)) = kq at *
   have HKQ:=hid hkzz
   clear hkzz hy hnx hmn hle hBK r1 r2 r1' r2' l1 hS2 hN2 hk2 hNd hiS hkS hfS hdik hdif hdkf hK2 hSlt hksz hcp hd1 hlkk hflat hpf
   obtain ⟨a0,a1,a2,a3,a4,a5,a6,f0,f1,f2,f3,f4,f5,f6⟩:=hBK'.k7
   go_upto_region 14 with fail
   have p1:=hBK'.set5m (.int .i64 y) (.int .i64 (y + 1)) (.int .i64 (y + 1 + 1)) (.int .i64 (y + 1 + 1 + 1)) (.bool ((y + 1 + 1 + 1 + 1) % 3 == 0))
   have p2:=fun x (hx:x ≠ g) => setL_blk [.int .i64 y,.int .i64 (y + 1),.int .i64 (y + 1 + 1),.int .i64 (y + 1 + 1 + 1),.bool ((y + 1 + 1 + 1 + 1) % 3 == 0)] wr g (k * 7) x (fun e => hx e.symm)
   have p3:=fr_setN (g:=g) (Fr.refl (g :: Sp) wr) (.inl (List.mem_cons_self ..)) [.int .i64 y,.int .i64 (y + 1),.int .i64 (y + 1 + 1),.int .i64 (y + 1 + 1 + 1),.bool ((y + 1 + 1 + 1 + 1) % 3 == 0)] (k * 7)
   simp only [setL,Nat.add_assoc,Nat.reduceAdd] at p2 p3
   refine wp_wld (fun X => BK X g (k * 7) P1 R1 [.int .i64 y,.int .i64 (y + 1),.int .i64 (y + 1 + 1),.int .i64 (y + 1 + 1 + 1),.bool ((y + 1 + 1 + 1 + 1) % 3 == 0),.slice ia its.length ic,.slice ka ps2.length kc] ∧ (∀ x,x ≠ g → X.heap[x]? = wr.heap[x]?) ∧ Hid (Fr (g :: Sp) wr X)) ⟨p1,p2,hid p3⟩ ?_
   clear p1 p2 p3 hBK' a0 a1 a2 a3 a4 a5 a6 f0 f1 f2 f3 f4 f5 f6
   rintro W5 ⟨hB5,hO5,HF5⟩
   rw [show y + 1 + 1 + 1 + 1 + 1 = y + 5 by omega]
   obtain ⟨hiS,hkS,hfS,hSlt,hpf⟩:=HSS.out
   have hgi:∀ x ∈ hb ia,x ≠ g:=fun x hx e => hgS (e ▸ hiS x hx)
   have CI:=hid (mark_itemsO lo ic ia its (y + 5) W5 hti ⟨by omega,by omega⟩ (row_blk HR1.out (fun x hx => hO5 x (hgi x hx))))
   have HR25:=hid (row_blk HR2.out (fun x hx => hO5 x (fun e => hgS (e ▸ hkS x hx))))
   have HK25:=hid (HK2.out.keep (fun x hx => hO5 x (fun e => hgS (e ▸ hfS x hx))))
   clear hO5 HR1 HR2 HK2
   obtain ⟨a0,a1,a2,a3,a4,a5,a6,f0,f1,f2,f3,f4,f5,f6⟩:=hB5.k7
   have hBl5:=hB5.lt
   go_wp2_with fail
   refine CI.out.mono ?_
   rintro e W6 ⟨rfl,hI6,hf6⟩
   clear CI a0 a1 a2 a3 a4 a5 a6 f0 f1 f2 f3 f4 f5 f6
   have hs5:=HF5.out.size
   have hB6:=hB5.keep (hf6.blk g hBl5 (fun hc => hgi g hc rfl))
   have HI6:=hid hI6
   have HR26:=hid (row_blk HR25.out (fun x hx => hf6.blk x (row_lt HR25.out x hx).2 (fun hc => HDJ.out.1 x hc hx)))
   have HK26:=hid (HK25.out.keep (fun x hx => hf6.blk x (KO_blk HK25.out x hx) (fun hc => HDJ.out.2.1 x hc hx)))
   have HF6:=hid (fr_step HF5.out hf6 (fun x hx => .inl (List.mem_cons_of_mem _ (hiS x hx))))
   clear hf6 hI6 HF5 HR25 HK25 hB5
   have CK:=hid (HIH.out ps2 ka kc (y + 5 + 5 * (its.length:Int)) W6 HR26.out HK26.out HDJ.out.2.2 (by rw [HKQ.out];exact hkz3) (by rw [HKQ.out];exact ⟨by omega,by omega⟩))
   obtain ⟨a0,a1,a2,a3,a4,a5,a6,f0,f1,f2,f3,f4,f5,f6⟩:=hB6.k7
   have hBl6:=hB6.lt
   go_wp2_with fail
   refine CK.out.mono ?_
   rintro e W7 ⟨rfl,ps2',m1,m2,hR7,hK7,hf7⟩
   clear CK a0 a1 a2 a3 a4 a5 a6 f0 f1 f2 f3 f4 f5 f6
   have hkf:∀ x ∈ hb ka ++ ps2.flatMap (·.2.2),x ∈ Sp:=fun x hx => by
    rcases List.mem_append.1 hx with e | e
    ·exact hkS x e
    ·exact hfS x e
   have hB7:=hB6.keep (hf7.blk g hBl6 (fun hc => hgS (hkf g hc)))
   have hI7:=row_blk HI6.out (fun x hx => hf7.blk x (row_lt HI6.out x hx).2 (fun hc => by
    rcases List.mem_append.1 hc with e | e
    ·exact HDJ.out.1 x hx e
    ·exact HDJ.out.2.1 x hx e))
   have hF7:=fr_step HF6.out hf7 (fun x hx => .inl (List.mem_cons_of_mem _ (hkf x hx)))
   have hfl2:ps2'.flatMap (·.2.2) = ps2.flatMap (·.2.2):=flat_same m2
   have hl2:ps2'.length = ps2.length:=by have:=congrArg List.length m2;simpa using this
   have hKO:KO lo (n + 1) W7 (ia,ic,ka,kc) Sp (mkh y (mkt (n + 1) (y + 5) (KT.mk (b0,b1,b2,b3) lf its (ps2.map (·.1))))):=by
    refine ⟨ps2',m1.symm,?_,?_,?_,HS2.out.2,hK7.2⟩
    ·show W7.ownsRow lo 40 5 (.slice ia (mit (y + 5) its).length ic) (mit (y + 5) its).length (flI (mit (y + 5) its))
     rw [mit_len]
     exact hI7
    ·rw [hl2];exact hR7
    ·rw [hfl2];exact HS2.out.1
   have hck:ckh (mkh y (mkt (n + 1) (y + 5) (KT.mk (b0,b1,b2,b3) lf its (ps2.map (·.1))))) (ia,ic,ka,kc) = [.int .i64 y,.int .i64 (y + 1),.int .i64 (y + 1 + 1),.int .i64 (y + 1 + 1 + 1),.bool ((y + 1 + 1 + 1 + 1) % 3 == 0),.slice ia its.length ic,.slice ka ps2.length kc]:=by
    show [_,_,_,_,_,Value.slice ia (mit (y + 5) its).length ic,Value.slice ka (mks (mkt n) (ksz n) _ (ps2.map (·.1))).length kc] = _
    rw [mit_len,mks_len,List.length_map]
    rfl
   obtain ⟨q,hq⟩:∃ q:KP,q = (mkh y (mkt (n + 1) (y + 5) (KT.mk (b0,b1,b2,b3) lf its (ps2.map (·.1)))),(ia,ic,ka,kc),Sp):=⟨_,rfl⟩
   have hrow:=HBR.out W7 q (by rw [hq];show BK W7 g (k * 7) P1 R1 (ckh (mkh y (mkt (n + 1) (y + 5) (KT.mk (b0,b1,b2,b3) lf its (ps2.map (·.1))))) (ia,ic,ka,kc));rw [hck];exact hB7)
   have hkos:=HSW.out W7 q (by rw [hq];exact hKO) (by rw [hq];exact fun x hx => hx) (fun x hx hn => hF7.blk x (Nat.lt_of_lt_of_le (hlt9 x hx) HF.out.size) (by
    rw [List.mem_cons,not_or]
    exact ⟨fun e => hgf (e ▸ hx),hn⟩))
   have hsn:=HSN.out q (by rw [hq])
   have hdr:=HDR.out q
   have htk:=HTK.out q
   have hln:=HLN.out q
   have hfF:Fr (g :: ps.flatMap (·.2.2)) w W7:=fr_step HF.out hF7 (fun x hx => .inl (by
    rcases List.mem_cons.1 hx with e | e
    ·rw [e];exact List.mem_cons_self ..
    ·exact List.mem_cons_of_mem _ (hpf x e)))
   have htt:((cur.take k ++ [q] ++ cur.drop (k + 1)).take (k + 1)).map (·.1) = mks (mkt (n + 1)) (ksz (n + 1)) z (lk.take (k + 1)):=by
    rw [htk,List.map_append,HT.out,HMN1.out,hq]
    rfl
   have HQQ:=hid (And.intro hrow (And.intro hkos (And.intro hsn (And.intro hdr (And.intro hln (And.intro hfF htt))))))
   generalize cur.take k ++ [q] ++ cur.drop (k + 1) = cur2 at *
   clear hrow hkos hsn hdr hln hfF htt htk hq hck hKO hl2 hfl2 hF7 hI7 hB7 hkf m1 m2 hR7 hK7 hf7 HBR HSW HSN HDR HTK HLN
   go_wp2_with fail
   go_roundw
   case rel =>
    obtain ⟨hrow,hkos,hsn,hdr,hln,hfF,htt⟩:=HQQ.out
    have hy:=HY.out
    have hnx:=HNX1.out
    exact ⟨k + 1,cur2,by go_num,by rw [HKQ.out];congr 1;rw [hnx];omega,by omega,hln,hid htt,hid hdr,hid hsn,hid hrow,hid hkos,hid hfF⟩
   case measure => simp [intOf];omega
  ·have c1:¬ (k:Int) < (N:Int):=by omega
   have hkn:k = N:=by omega
   subst hkn
   have hall:cur.take k = cur:=List.take_of_length_le (by omega)
   have hT:=HT.out
   rw [hall] at hT
   go_wp2_with fail
   go_ret
   rw [HEND.out] at hT
   refine ⟨by rw [HEND.out,← HLK.out];rfl,cur,by rw [← HLK.out];exact hT,HS.out,by rw [HN.out];exact HROW.out,HKS.out,HF.out.mono (fun x hx => .inl ?_)⟩
   rcases List.mem_cons.1 hx with e | e
   ·exact List.mem_append_left _ (by rw [e];exact List.mem_singleton.2 rfl)
   ·exact List.mem_append_right _ e
theorem markO (lo n:Nat):∀ (ps:List KP) (a:Option Addr) (c:Nat) (z:Int) (w:World),w.ownsRow lo 35 7 (.slice a ps.length c) ps.length (flK ps) → KOs lo n w ps → (∀ x ∈ hb a,x ∉ ps.flatMap (·.2.2)) → kz n (ps.map (·.1)) ≤ 1048576 → 0 ≤ z ∧ z + 5 * (kz n (ps.map (·.1)):Int) ≤ 1099511627776 → Calls Tryz.prog 53 #[.slice a ps.length c,.int .i64 z] w (MkR w lo n c a ps z):=by
 induction n with
 | zero => exact fun ps a c z w => markO_step lo 0 (fun n' e => by omega) ps a c z w
 | succ n IH =>
  refine fun ps a c z w => markO_step lo (n + 1) (fun n' e => ?_) ps a c z w
  have e':n' = n:=by omega
  subst e'
  exact IH
theorem markO_knot (lo n:Nat) (t:KT) (h:Hd) (S:List Nat) (w:World) (hz:ksz n t ≤ 1048576) (k:KO lo n w h S t):Calls Tryz.prog 13 #[kvh t h,.int .i64 1] w fun e w' => e = .returned (.int .i64 (1 + 5 * (ksz n t:Int))) ∧ KO lo n w' h S (mkt n 1 t) ∧ Fr S w w':=by
 cases n with
 | zero => exact k.elim
 | succ n =>
 have hSl:∀ x ∈ S,x < w.heap.size:=fun x hx => (k.lt x hx).2
 obtain ⟨⟨b0,b1,b2,b3⟩,lf,its,ks⟩:=t
 obtain ⟨ia,ic,ka,kc⟩:=h
 obtain ⟨ps2,l1,r1,r2,hS2,hN2,hk2⟩:=k
 have hks:ks = ps2.map (·.1):=l1
 subst hks
 have r1':w.ownsRow lo 40 5 (.slice ia its.length ic) its.length (flI its):=r1
 have r2':w.ownsRow lo 35 7 (.slice ka ps2.length kc) ps2.length (flK ps2):=r2
 have hksz:ksz (n + 1) (KT.mk (b0,b1,b2,b3) lf its (ps2.map (·.1))) = its.length + kz n (ps2.map (·.1)):=ksz_kz n _
 rw [hksz] at hz ⊢
 have hNd:=hS2.nodup_iff.1 hN2
 rw [List.nodup_append,List.nodup_append] at hNd
 have hiS:∀ x ∈ hb ia,x ∈ S:=fun x hx => hS2.mem_iff.2 (by simp only [List.mem_append];exact .inl (.inl hx))
 have hkS:∀ x ∈ hb ka,x ∈ S:=fun x hx => hS2.mem_iff.2 (by simp only [List.mem_append];exact .inl (.inr hx))
 have hfS:∀ x ∈ ps2.flatMap (·.2.2),x ∈ S:=fun x hx => hS2.mem_iff.2 (by simp only [List.mem_append];exact .inr hx)
 have hdik:∀ x ∈ hb ia,x ∉ hb ka:=fun x hx hc => hNd.1.2.2 x hx x hc rfl
 have hdif:∀ x ∈ hb ia,x ∉ ps2.flatMap (·.2.2):=fun x hx hc => hNd.2.2 x (List.mem_append_left _ hx) x hc rfl
 have hdkf:∀ x ∈ hb ka,x ∉ ps2.flatMap (·.2.2):=fun x hx hc => hNd.2.2 x (List.mem_append_right _ hx) x hc rfl
 have hkv:kvh (KT.mk (b0,b1,b2,b3) lf its (ps2.map (·.1))) (ia,ic,ka,kc) = .agg #[.int .i64 b0,.int .i64 b1,.int .i64 b2,.int .i64 b3,.bool lf,.slice ia its.length ic,.slice ka ps2.length kc]:=by
  show Value.agg #[_,_,_,_,_,_,Value.slice ka (ps2.map (·.1)).length kc] = _
  rw [List.length_map]
  rfl
 rw [hkv]
 have hti:its.length ≤ 1048576:=by omega
 have hkz3:kz n (ps2.map (·.1)) ≤ 1048576:=by omega
 have hB:=balloc (Below.refl w.heap.size w) (.cells #[.int .i64 b0,.int .i64 b1,.int .i64 b2,.int .i64 b3,.bool lf,.slice ia its.length ic,.slice ka ps2.length kc] 35)
 have gT:=new_alloc w w.heap.size (.cells #[.int .i64 b0,.int .i64 b1,.int .i64 b2,.int .i64 b3,.bool lf,.slice ia its.length ic,.slice ka ps2.length kc] 35) rfl
 have HR1:=hid (row_blk r1' (fun x hx => hB.block x (row_lt r1' x hx).2))
 have HR2:=hid (row_blk r2' (fun x hx => hB.block x (row_lt r2' x hx).2))
 have HK2:=hid (show KOs lo n _ ps2 from KOs.keep ⟨hNd.2.1,hk2⟩ (fun x hx => hB.block x (hSl x (hfS x hx))))
 have HF0:=hid (Fr.of hB S)
 have HDJ:=hid (And.intro hdik (And.intro hdif hdkf))
 have HSS:=hid (And.intro hiS (And.intro hkS hfS))
 have HS2:=hid (And.intro hS2 hN2)
 generalize hkzz:kz n (ps2.map (·.1)) = kq at *
 have HKQ:=hid hkzz
 clear hB r1 r2 r1' r2' l1 hS2 hN2 hk2 hNd hdik hdif hdkf hksz hkv hkzz
 obtain ⟨a0,a1,a2,a3,a4,a5,a6,_,_,_,_,_,_,_⟩:=cell7k gT
 go_enter Tryz.func13,Tryz.ntmps13
 go_wp2_with fail
 generalize w.alloc (.cells #[.int .i64 b0,.int .i64 b1,.int .i64 b2,.int .i64 b3,.bool lf,.slice ia its.length ic,.slice ka ps2.length kc] 35) = V at *
 refine (mark_itemsO lo ic ia its 1 V hti ⟨by omega,by omega⟩ HR1.out).mono ?_
 rintro e W6 ⟨rfl,hI6,hf6⟩
 clear a0 a1 a2 a3 a4 a5 a6
 have hs0:=HF0.out.size
 have gT6:=(hf6.blk _ (lt_of_heap gT) (fun hc => by have:=hSl _ (hiS _ hc);omega)).trans gT
 have HI6:=hid hI6
 have HR26:=hid (row_blk HR2.out (fun x hx => hf6.blk x (row_lt HR2.out x hx).2 (fun hc => HDJ.out.1 x hc hx)))
 have HK26:=hid (HK2.out.keep (fun x hx => hf6.blk x (KO_blk HK2.out x hx) (fun hc => HDJ.out.2.1 x hc hx)))
 have HF6:=hid (fr_step HF0.out hf6 (fun x hx => .inl (hiS x hx)))
 clear hf6 hI6 HF0 HR2 HK2 HR1 gT
 have CK:=hid (markO lo n ps2 ka kc (1 + 5 * (its.length:Int)) W6 HR26.out HK26.out HDJ.out.2.2 (by rw [HKQ.out];exact hkz3) (by rw [HKQ.out];exact ⟨by omega,by omega⟩))
 obtain ⟨a0,a1,a2,a3,a4,a5,a6,_,_,_,_,_,_,_⟩:=cell7k gT6
 go_wp2_with fail
 refine CK.out.mono ?_
 rintro e W7 ⟨rfl,ps2',m1,m2,hR7,hK7,hf7⟩
 have hkf:∀ x ∈ hb ka ++ ps2.flatMap (·.2.2),x ∈ S:=fun x hx => by
  rcases List.mem_append.1 hx with e | e
  ·exact hkS x e
  ·exact hfS x e
 have hI7:=row_blk HI6.out (fun x hx => hf7.blk x (row_lt HI6.out x hx).2 (fun hc => by
  rcases List.mem_append.1 hc with e | e
  ·exact HDJ.out.1 x hx e
  ·exact HDJ.out.2.1 x hx e))
 have HF7:=hid (fr_step HF6.out hf7 (fun x hx => .inl (hkf x hx)))
 have hfl2:ps2'.flatMap (·.2.2) = ps2.flatMap (·.2.2):=flat_same m2
 have hl2:ps2'.length = ps2.length:=by have:=congrArg List.length m2;simpa using this
 have HKO:Hid (KO lo (n + 1) W7 (ia,ic,ka,kc) S (mkt (n + 1) 1 (KT.mk (b0,b1,b2,b3) lf its (ps2.map (·.1))))):=hid (by
  refine ⟨ps2',m1.symm,?_,?_,?_,HS2.out.2,hK7.2⟩
  ·show W7.ownsRow lo 40 5 (.slice ia (mit 1 its).length ic) (mit 1 its).length (flI (mit 1 its))
   rw [mit_len]
   exact hI7
  ·rw [hl2];exact hR7
  ·rw [hfl2];exact HS2.out.1)
 clear hI7 hfl2 hl2 m1 m2 hR7 hK7 hf7 a0 a1 a2 a3 a4 a5 a6 CK
 go_wp2_with fail
 go_ret
 exact ⟨by rw [HKQ.out,show (1:Int) + 5 * ((its.length + kq:Nat):Int) = 1 + 5 * (its.length:Int) + 5 * (kq:Int) by omega];rfl,HKO.out,HF7.out⟩
def KdL (n:Nat) (w:World) (a:Option Addr) (l:List KT):Prop:=l = [] ∨ ∃ b off,a = some ⟨b,off,none⟩ ∧ b < w.heap.size ∧ ∀ j (h:j < l.length),∃ ia' ic' ka' kc',Cs w b (off + j * 7) (ck l[j] ia' ic' ka' kc') ∧ KnL n w ia' ic' ka' kc' l[j]
theorem KdL.below {n:Nat} {w w':World} {a:Option Addr} {l:List KT} (h:KdL n w a l) (H:Below w.heap.size w w'):KdL n w' a l:=by
 rcases h with h | ⟨b,off,e,hb,h⟩
 ·exact .inl h
 ·refine .inr ⟨b,off,e,Nat.lt_of_lt_of_le hb H.size,fun j hj => ?_⟩
  obtain ⟨ia',ic',ka',kc',k1,k2⟩:=h j hj
  exact ⟨ia',ic',ka',kc',k1.below hb H,k2.below H⟩
theorem eqL_items (a a':Option Addr) (c c':Nat) (l:List It) (w:World) (hm:l.length ≤ 1099511627776) (hc:l.length ≤ c) (hc':l.length ≤ c') (h:ItL w a l) (h':ItL w a' l):Calls Tryz.prog 50 #[.slice a l.length c,.slice a' l.length c'] w fun e w' => e = .returned (.bool true) ∧ Below w.heap.size w w':=by
 have HP:=hid h
 have HQ:=hid h'
 clear h h'
 go_enter Tryz.func50,Tryz.ntmps50
 go_wp2_with fail
 go_loopw [5] (fun ti wr => ∃ k:Nat,ti = .int .i64 k ∧ k ≤ l.length ∧ Below w.heap.size w wr) (fun ti _ => l.length - (intOf ti).toNat)
 case atStart => exact ⟨0,rfl,Nat.zero_le _,Below.refl _ _⟩
 case round =>
  obtain ⟨k,rfl,hk,hb⟩:=hrel
  by_cases hlt:k < l.length
  ·obtain ⟨p,o1,rfl,hp,h1⟩:∃ b off,a = some ⟨b,off,none⟩ ∧ b < w.heap.size ∧ ∀ j (h:j < l.length),Cs w b (off + j * 5) (ci l[j]):=by
    rcases HP.out with h | h
    ·rw [h] at hlt;simp at hlt
    ·exact h
   obtain ⟨q,o2,rfl,hq,h2⟩:∃ b off,a' = some ⟨b,off,none⟩ ∧ b < w.heap.size ∧ ∀ j (h:j < l.length),Cs w b (off + j * 5) (ci l[j]):=by
    rcases HQ.out with h | h
    ·rw [h] at hlt;simp at hlt
    ·exact h
   obtain ⟨c0,c1,c2,c3,c4⟩:=((h1 k hlt).below hp hb).item
   obtain ⟨d0,d1,d2,d3,d4⟩:=((h2 k hlt).below hq hb).item
   clear h1 h2
   generalize l[k].1 = x at *
   generalize l[k].2.1 = y at *
   generalize l[k].2.2.1 = u at *
   generalize l[k].2.2.2.1 = v at *
   generalize l[k].2.2.2.2 = z at *
   have hk0:(0:Int) ≤ (k:Int):=by omega
   have hk1:(k:Int) < (l.length:Int):=by omega
   go_upto_region 6 with fail
   refine wp_region_held_drew (S:=(fun w' => w'.cell? ⟨p,o1 + k * 5,none⟩ = some (.int .i64 x) ∧ w'.cell? ⟨p,o1 + k * 5 + 1,none⟩ = some (.int .i64 y) ∧ w'.cell? ⟨p,o1 + k * 5 + 2,none⟩ = some (.int .i64 u) ∧ w'.cell? ⟨p,o1 + k * 5 + 3,none⟩ = some (.int .i64 v) ∧ w'.cell? ⟨p,o1 + k * 5 + 4,none⟩ = some (.int .i64 z) ∧ w'.cell? ⟨q,o2 + k * 5,none⟩ = some (.int .i64 x) ∧ w'.cell? ⟨q,o2 + k * 5 + 1,none⟩ = some (.int .i64 y) ∧ w'.cell? ⟨q,o2 + k * 5 + 2,none⟩ = some (.int .i64 u) ∧ w'.cell? ⟨q,o2 + k * 5 + 3,none⟩ = some (.int .i64 v) ∧ w'.cell? ⟨q,o2 + k * 5 + 4,none⟩ = some (.int .i64 z))) (by kernel_rfl) ?_ (fun hHeld => ?_)
   ·(repeat' apply And.intro) <;> (repeat (first | with_reducible assumption | refine keepcell (by with_reducible assumption) ?_ | refine keepdrew ?_ | refine keepalloc ?_ _))
   refine tkR 0 hHeld ?_
   try simp only [sq]
   refine tkR 1 hHeld ?_
   try simp only [sq]
   refine tkR 2 hHeld ?_
   try simp only [sq]
   refine tkR 3 hHeld ?_
   try simp only [sq]
   refine tkR 4 hHeld ?_
   try simp only [sq]
   refine tkR 5 hHeld ?_
   try simp only [sq]
   refine tkR 6 hHeld ?_
   try simp only [sq]
   refine tkR 7 hHeld ?_
   try simp only [sq]
   refine rd1 8 rfl (fun K hK => ?_)
   try simp only [sq]
   go_simp
   (first
     | (go_at_call 84;refine (eq_item_same _ _ _ _ _ _).mono ?_;rintro e w1 ⟨rfl,hb1⟩))
   go_wp2_with fail
   refine hK.out _ _ ?_ (fun hHeld => ?_)
   ·(repeat' apply And.intro) <;> (repeat (first | with_reducible assumption | refine keepcell (by with_reducible assumption) ?_ | refine keepdrew ?_ | refine keepalloc ?_ _))
   clear hK K
   try simp only [sq]
   refine tkR 9 hHeld ?_
   try simp only [sq]
   refine wpAnyH_done (by kernel_rfl) ?_ _
   go_wp2_with fail
   go_roundw
   case rel => exact ⟨k + 1,by go_num,by omega,by (with_reducible repeat (first | exact Below.refl _ _ | assumption | (refine btrans ?_ (by assumption)) | refine bdrew ?_ | refine balloc ?_ _))⟩
   case measure => simp [intOf];omega
  ·have hk':k = l.length:=by omega
   go_wp2_with fail
   go_ret
   exact ⟨rfl,hb⟩
theorem eqL_knots (n n':Nat) (IH:∀ (t:KT) (ia:Option Addr) (ic:Nat) (ka:Option Addr) (kc:Nat) (ia':Option Addr) (ic':Nat) (ka':Option Addr) (kc':Nat) (w:World),ksz n t ≤ 1048576 → KnL n w ia ic ka kc t → KnL n' w ia' ic' ka' kc' t → Calls Tryz.prog 12 #[kv t ia ic ka kc,kv t ia' ic' ka' kc'] w fun e w' => e = .returned (.bool true) ∧ Below w.heap.size w w')
  (a a':Option Addr) (c c':Nat) (l:List KT) (w:World) (hm:l.length ≤ 1048576) (hc:l.length ≤ c) (hc':l.length ≤ c') (hz:∀ t ∈ l,ksz n t ≤ 1048576) (h:KdL n w a l) (h':KdL n' w a' l):Calls Tryz.prog 51 #[.slice a l.length c,.slice a' l.length c'] w fun e w' => e = .returned (.bool true) ∧ Below w.heap.size w w':=by
 have HP:=hid h
 have HQ:=hid h'
 have hIH:=hid IH
 clear h h' IH
 go_enter Tryz.func51,Tryz.ntmps51
 go_wp2_with fail
 go_loopw [5] (fun ti wr => ∃ k:Nat,ti = .int .i64 k ∧ k ≤ l.length ∧ Below w.heap.size w wr) (fun ti _ => l.length - (intOf ti).toNat)
 case atStart => exact ⟨0,rfl,Nat.zero_le _,Below.refl _ _⟩
 case round =>
  obtain ⟨k,rfl,hk,hb⟩:=hrel
  by_cases hlt:k < l.length
  ·obtain ⟨p,o1,rfl,hp,h1⟩:∃ b off,a = some ⟨b,off,none⟩ ∧ b < w.heap.size ∧ ∀ j (h:j < l.length),∃ ia' ic' ka' kc',Cs w b (off + j * 7) (ck l[j] ia' ic' ka' kc') ∧ KnL n w ia' ic' ka' kc' l[j]:=by
    rcases HP.out with h | h
    ·rw [h] at hlt;simp at hlt
    ·exact h
   obtain ⟨q,o2,rfl,hq,h2⟩:∃ b off,a' = some ⟨b,off,none⟩ ∧ b < w.heap.size ∧ ∀ j (h:j < l.length),∃ ia' ic' ka' kc',Cs w b (off + j * 7) (ck l[j] ia' ic' ka' kc') ∧ KnL n' w ia' ic' ka' kc' l[j]:=by
    rcases HQ.out with h | h
    ·rw [h] at hlt;simp at hlt
    ·exact h
   obtain ⟨ia1,ic1,ka1,kc1,r1,r2⟩:=h1 k hlt
   obtain ⟨ia2,ic2,ka2,kc2,s1,s2⟩:=h2 k hlt
   have C:=hid (fun (W:World) (hB:Below w.heap.size w W) => hIH.out l[k] ia1 ic1 ka1 kc1 ia2 ic2 ka2 kc2 W (hz _ (List.getElem_mem hlt)) (r2.below hB) (s2.below hB))
   unfold kv at C
   obtain ⟨c0,c1,c2,c3,c4,c5,c6⟩:=(r1.below hp hb).knot
   obtain ⟨d0,d1,d2,d3,d4,d5,d6⟩:=(s1.below hq hb).knot
   clear r1 r2 s1 s2 h1 h2
   generalize l[k].box.1 = b0 at *
   generalize l[k].box.2.1 = b1 at *
   generalize l[k].box.2.2.1 = b2 at *
   generalize l[k].box.2.2.2 = b3 at *
   generalize l[k].lf = b4 at *
   generalize l[k].its.length = b5 at *
   generalize l[k].kids.length = b6 at *
   have hk0:(0:Int) ≤ (k:Int):=by omega
   have hk1:(k:Int) < (l.length:Int):=by omega
   go_upto_region 6 with fail
   refine wp_region_held_drew (S:=(fun w' => w'.cell? ⟨p,o1 + k * 7,none⟩ = some (.int .i64 b0) ∧ w'.cell? ⟨p,o1 + k * 7 + 1,none⟩ = some (.int .i64 b1) ∧ w'.cell? ⟨p,o1 + k * 7 + 2,none⟩ = some (.int .i64 b2) ∧ w'.cell? ⟨p,o1 + k * 7 + 3,none⟩ = some (.int .i64 b3) ∧ w'.cell? ⟨p,o1 + k * 7 + 4,none⟩ = some (.bool b4) ∧ w'.cell? ⟨p,o1 + k * 7 + 5,none⟩ = some (.slice ia1 b5 ic1) ∧ w'.cell? ⟨p,o1 + k * 7 + 6,none⟩ = some (.slice ka1 b6 kc1) ∧ w'.cell? ⟨q,o2 + k * 7,none⟩ = some (.int .i64 b0) ∧ w'.cell? ⟨q,o2 + k * 7 + 1,none⟩ = some (.int .i64 b1) ∧ w'.cell? ⟨q,o2 + k * 7 + 2,none⟩ = some (.int .i64 b2) ∧ w'.cell? ⟨q,o2 + k * 7 + 3,none⟩ = some (.int .i64 b3) ∧ w'.cell? ⟨q,o2 + k * 7 + 4,none⟩ = some (.bool b4) ∧ w'.cell? ⟨q,o2 + k * 7 + 5,none⟩ = some (.slice ia2 b5 ic2) ∧ w'.cell? ⟨q,o2 + k * 7 + 6,none⟩ = some (.slice ka2 b6 kc2))) (by kernel_rfl) ?_ (fun hHeld => ?_)
   ·(repeat' apply And.intro) <;> (repeat (first | with_reducible assumption | refine keepcell (by with_reducible assumption) ?_ | refine keepdrew ?_ | refine keepalloc ?_ _))
   refine tkR 0 hHeld ?_
   try simp only [sq]
   refine tkR 1 hHeld ?_
   try simp only [sq]
   refine tkR 2 hHeld ?_
   try simp only [sq]
   refine tkR 3 hHeld ?_
   try simp only [sq]
   refine tkR 4 hHeld ?_
   try simp only [sq]
   refine tkR 5 hHeld ?_
   try simp only [sq]
   refine tkR 6 hHeld ?_
   try simp only [sq]
   refine tkR 7 hHeld ?_
   try simp only [sq]
   refine rd1 8 rfl (fun K hK => ?_)
   try simp only [sq]
   go_simp
   (first
     | (go_at_call 12;refine (C.out _ (by (with_reducible repeat (first | exact Below.refl _ _ | assumption | (refine btrans ?_ (by assumption)) | refine bdrew ?_ | refine balloc ?_ _)))).mono ?_;rintro e w1 ⟨rfl,hb1⟩))
   go_wp2_with fail
   refine hK.out _ _ ?_ (fun hHeld => ?_)
   ·(repeat' apply And.intro) <;> (repeat (first | with_reducible assumption | refine keepcell (by with_reducible assumption) ?_ | refine keepdrew ?_ | refine keepalloc ?_ _))
   clear hK K
   try simp only [sq]
   refine tkR 9 hHeld ?_
   try simp only [sq]
   refine wpAnyH_done (by kernel_rfl) ?_ _
   go_wp2_with fail
   go_roundw
   case rel => exact ⟨k + 1,by go_num,by omega,by (with_reducible repeat (first | exact Below.refl _ _ | assumption | (refine btrans ?_ (by assumption)) | refine bdrew ?_ | refine balloc ?_ _))⟩
   case measure => simp [intOf];omega
  ·have hk':k = l.length:=by omega
   go_wp2_with fail
   go_ret
   exact ⟨rfl,hb⟩
theorem eqL_knot (n:Nat):∀ (n':Nat) (t:KT) (ia:Option Addr) (ic:Nat) (ka:Option Addr) (kc:Nat) (ia':Option Addr) (ic':Nat) (ka':Option Addr) (kc':Nat) (w:World),ksz n t ≤ 1048576 → KnL n w ia ic ka kc t → KnL n' w ia' ic' ka' kc' t → Calls Tryz.prog 12 #[kv t ia ic ka kc,kv t ia' ic' ka' kc'] w fun e w' => e = .returned (.bool true) ∧ Below w.heap.size w w':=by
 induction n with
 | zero => intro n' t ia ic ka kc ia' ic' ka' kc' w _ h;exact h.elim
 | succ n ih =>
  intro n' t ia ic ka kc ia' ic' ka' kc' w hz h h'
  cases n' with
  | zero => exact h'.elim
  | succ n' =>
  have hz2:t.its.length ≤ 1048576 ∧ t.kids.length ≤ 1048576:=by unfold ksz at hz;omega
  obtain ⟨p1,p2,p3,p4,p5,p6⟩:=h
  obtain ⟨q1,q2,q3,q4,q5,q6⟩:=h'
  have CI:=hid (fun (W:World) (hB:Below w.heap.size w W) => eqL_items ia ia' ic ic' t.its W (by omega) p2 q2 (p1.below hB) (q1.below hB))
  have CK:=hid (fun (W:World) (hB:Below w.heap.size w W) => eqL_knots n n' (ih n') ka ka' kc kc' t.kids W (by omega) p4 q4 (fun k hk => Nat.le_trans (ksz_kid hk) hz) (KdL.below p6 hB) (KdL.below q6 hB))
  clear p1 p6 q1 q6 ih hz
  unfold kv
  generalize t.box.1 = b0 at *
  generalize t.box.2.1 = b1 at *
  generalize t.box.2.2.1 = b2 at *
  generalize t.box.2.2.2 = b3 at *
  generalize t.lf = b4 at *
  generalize t.its.length = ni at *
  generalize t.kids.length = nk at *
  go_enter Tryz.func12,Tryz.ntmps12
  go_wp2_with fail
  have gA:=hid (old_alloc (o':=.cells #[.int .i64 b0,.int .i64 b1,.int .i64 b2,.int .i64 b3,.bool b4,.slice ia' ni ic',.slice ka' nk kc'] 35) (new_alloc w w.heap.size (.cells #[.int .i64 b0,.int .i64 b1,.int .i64 b2,.int .i64 b3,.bool b4,.slice ia ni ic,.slice ka nk kc] 35) rfl))
  have gB:=hid (new_alloc (w.alloc (.cells #[.int .i64 b0,.int .i64 b1,.int .i64 b2,.int .i64 b3,.bool b4,.slice ia ni ic,.slice ka nk kc] 35)) (w.heap.size + 1) (.cells #[.int .i64 b0,.int .i64 b1,.int .i64 b2,.int .i64 b3,.bool b4,.slice ia' ni ic',.slice ka' nk kc'] 35) (by simp))
  have B0:=hid (balloc (balloc (Below.refl w.heap.size w) (.cells #[.int .i64 b0,.int .i64 b1,.int .i64 b2,.int .i64 b3,.bool b4,.slice ia ni ic,.slice ka nk kc] 35)) (.cells #[.int .i64 b0,.int .i64 b1,.int .i64 b2,.int .i64 b3,.bool b4,.slice ia' ni ic',.slice ka' nk kc'] 35))
  generalize (w.alloc (.cells #[.int .i64 b0,.int .i64 b1,.int .i64 b2,.int .i64 b3,.bool b4,.slice ia ni ic,.slice ka nk kc] 35)).alloc (.cells #[.int .i64 b0,.int .i64 b1,.int .i64 b2,.int .i64 b3,.bool b4,.slice ia' ni ic',.slice ka' nk kc'] 35) = v0 at *
  refine (eq_box_same _ _ _ _ _).mono ?_
  rintro e v1 ⟨rfl,hb⟩
  replace gA:=hid (keepheap hb gA.out)
  replace gB:=hid (keepheap hb gB.out)
  replace B0:=hid (btrans B0.out hb)
  clear hb
  obtain ⟨a0,a1,a2,a3,a4,a5,a6,_,_,_,_,_,_,_⟩:=cell7k gA.out
  obtain ⟨d0,d1,d2,d3,d4,d5,d6,_,_,_,_,_,_,_⟩:=cell7k gB.out
  go_wp2_with fail
  refine (CI.out _ B0.out).mono ?_
  rintro e v2 ⟨rfl,hb⟩
  replace gA:=hid (keepheap hb gA.out)
  replace gB:=hid (keepheap hb gB.out)
  replace B0:=hid (btrans B0.out hb)
  clear hb a0 a1 a2 a3 a4 a5 a6 d0 d1 d2 d3 d4 d5 d6
  obtain ⟨a0,a1,a2,a3,a4,a5,a6,_,_,_,_,_,_,_⟩:=cell7k gA.out
  obtain ⟨d0,d1,d2,d3,d4,d5,d6,_,_,_,_,_,_,_⟩:=cell7k gB.out
  go_wp2_with fail
  refine (CK.out _ B0.out).mono ?_
  rintro e v3 ⟨rfl,hb⟩
  replace B0:=hid (btrans B0.out hb)
  clear hb
  go_wp2_with fail
  go_ret
  exact ⟨rfl,B0.out⟩
end Go.Proofs.YtjahlofahjgdbaaGreat
