/- Texts of stores, joined: Km, Kc. -/
import Derived.Test.YtjahlofahjgdbaaGreatJ17
import Derived.Shelf.Spec.SlicesInsertGrow
set_option maxRecDepth 100000
set_option maxHeartbeats 4000000
set_option linter.unusedSimpArgs false
set_option linter.unusedVariables false
namespace Go.Proofs.YtjahlofahjgdbaaGreat
open Go.RowKit
theorem setRow_at (W:World) {g:Nat} {cur:Array Value} {t:TypeId} {p:Nat × Nat} (cs:Array Value) (h:W.heap[g]? = some (.cells cur t p)):(W.setRow g cs).heap[g]? = some (.cells cs t p):=setRow_heap W g cur cs t p h
theorem row_new {lo g G n i:Nat} {ps:List KP} {q:KP} {W:World} {Z:List Value} (hl:ps.length = n) (hi:i < n) (hG:n + 1 ≤ G) (hZ:Z.length = (n + 1 - i) * 7 + (G - (n + 1)) * 7) (hlo:lo ≤ g) (hmx:G ≤ maxLen)
  (hW:W.heap[g]? = some (.cells ((((flK (ps.take i) ++ Z).take (i * 7) ++ ckh q.1 q.2.1 ++ (flK (ps.take i) ++ Z).drop (i * 7 + 7)).take ((i + 1) * 7) ++ flK (ps.drop i) ++ ((flK (ps.take i) ++ Z).take (i * 7) ++ ckh q.1 q.2.1 ++ (flK (ps.take i) ++ Z).drop (i * 7 + 7)).drop ((i + 1) * 7 + (flK (ps.drop i)).length)).toArray) 35 (0,0))):W.ownsRow lo 35 7 (.slice (some ⟨g,0,none⟩) (n + 1) G) (n + 1) (flK (ps.take i ++ q :: ps.drop i)):=by
 have hA:(flK (ps.take i)).length = i * 7:=by rw [flK_len,List.length_take];congr 1;omega
 have hB:(flK (ps.drop i)).length = (n - i) * 7:=by rw [flK_len,List.length_drop,hl]
 have hX:(ckh q.1 q.2.1).length = 7:=ckp_len q
 have e1:(flK (ps.take i) ++ Z).take (i * 7) = flK (ps.take i):=List.take_left' hA
 have e2:(flK (ps.take i) ++ Z).drop (i * 7 + 7) = Z.drop 7:=by rw [← hA];exact drop_lenA _ _ 7
 rw [e1,e2] at hW
 have hAX:(flK (ps.take i) ++ ckh q.1 q.2.1).length = (i + 1) * 7:=by rw [List.length_append,hA,hX];omega
 have e3:(flK (ps.take i) ++ ckh q.1 q.2.1 ++ Z.drop 7).take ((i + 1) * 7) = flK (ps.take i) ++ ckh q.1 q.2.1:=List.take_left' hAX
 have e4:(flK (ps.take i) ++ ckh q.1 q.2.1 ++ Z.drop 7).drop ((i + 1) * 7 + (flK (ps.drop i)).length) = (Z.drop 7).drop ((n - i) * 7):=by rw [← hAX,hB];exact drop_lenA _ _ _
 rw [e3,e4] at hW
 have hxs:flK (ps.take i ++ q :: ps.drop i) = flK (ps.take i) ++ ckh q.1 q.2.1 ++ flK (ps.drop i):=by
  rw [flK_app]
  show flK (ps.take i) ++ (ckh q.1 q.2.1 ++ flK (ps.drop i)) = _
  rw [List.append_assoc]
 have hlen:(flK (ps.take i) ++ ckh q.1 q.2.1 ++ flK (ps.drop i)).length = (n + 1) * 7:=by
  rw [List.length_append,hAX,hB];omega
 rw [hxs]
 refine ⟨hlen,.inr ⟨g,G,_,rfl,hlo,hW,hG,hmx,?_,?_⟩⟩
 ·rw [List.size_toArray,List.length_append,hlen,List.length_drop,List.length_drop,hZ]
  omega
 ·show (flK (ps.take i) ++ ckh q.1 q.2.1 ++ flK (ps.drop i) ++ (Z.drop 7).drop ((n - i) * 7)).take ((n + 1) * 7) = _
  exact List.take_left' hlen
theorem row_zs (A:List Value) (z:Array Value) (hz:z.size = 7) (a b:Nat):∃ zs:List Value,zs.length = a * 7 + b * 7 ∧ A.toArray ++ Builtin.zeroCells z a ++ Builtin.zeroCells z b = (A ++ zs).toArray:=by
 refine ⟨(Builtin.zeroCells z a).toList ++ (Builtin.zeroCells z b).toList,by simp [size_zeroCells,hz],?_⟩
 apply Array.toList_inj.1
 simp
theorem insert_grow (lo g c n i vb:Nat) (ps:List KP) (q:KP) (w:World) (h:w.ownsRow lo 35 7 (.slice (some ⟨g,0,none⟩) n c) n (flK ps)) (hl:ps.length = n) (hi:i < n) (hn:n ≤ 1048576) (hroom:c < n + 1) (hlo:lo ≤ w.heap.size) (hv:w.heap[vb]? = some (.cells (ckh q.1 q.2.1).toArray 35 (0,0))):Calls Tryz.prog 108 #[.slice (some ⟨g,0,none⟩) n c,.int .i64 i,.slice (some ⟨vb,0,none⟩) 1 1] w fun e w' => ∃ c',e = .returned (.slice (some ⟨w.heap.size,0,none⟩) (n + 1) c') ∧ w'.ownsRow lo 35 7 (.slice (some ⟨w.heap.size,0,none⟩) (n + 1) c') (n + 1) (flK (ps.take i ++ q :: ps.drop i)) ∧ Fr [] w w':=by
 have hnc:n ≤ c:=(row_caps h).1
 have hc63:=(row_caps h).2
 have hz2:¬ ((i:Int) = (n:Int)):=by omega
 have hz2':¬ ((n:Int) = (i:Int)):=by omega
 have hz3:(c:Int) < (n:Int) + 1:=by omega
 obtain ⟨k0,hki0,hkz0,hkz1,hkzz⟩:=info_parts Tryz.infoKn
 have hsz:(Tryz.prog.info? 35).map (·.size) = some 7:=by rw [hki0];simp [hkz1]
 have hD0:(flK (ps.drop i)).length = (n - i) * 7:=by rw [flK_len,List.length_drop,hl]
 have hA0:(flK (ps.take i)).length = i * 7:=by rw [flK_len,List.length_take];congr 1;omega
 have hcell:=fun j v (e:(flK ps)[j]? = some v) => World.ownsRow.cells h (g:=g) rfl j v e
 have hgl:g < w.heap.size:=(row_lt h g (by simp [hb])).2
 have hvl:=lt_of_heap hv
 have hkk:(n:Int) + 1 - (i:Int) = ((n + 1 - i:Nat):Int):=by omega
 have hik:i + (n + 1 - i) = n + 1:=by omega
 have hold:(Builtin.firstCells k0.size i (.slice (some ⟨g,0,none⟩) i c)).run Tryz.prog w.drew = .ok (flK (ps.take i)).toArray w.drew:=by
  rw [hkz1]
  exact run_firstCells_some w.drew 7 i ⟨g,0,none⟩ i c (flK (ps.take i)) hA0 (fun j v e => by
   rw [show flK (ps.take i) = (flK ps).take (i * 7) from flat_take ckp_len ps i,List.getElem?_take] at e
   split at e
   ·exact hcell j v e
   ·cases e)
 obtain ⟨G,hG⟩:∃ G,G = grownCap w (n + 1) c 35:=⟨_,rfl⟩
 have hGn:n + 1 ≤ G:=by rw [hG];exact grownCap_ge w _ _ _
 have hGM:G ≤ maxLen:=by rw [hG];exact grownCap_le_maxLen w (n + 1) c 35 (by unfold maxLen;omega)
 obtain ⟨zk,hzk,hzs7⟩:∃ zk,k0.zero = some zk ∧ zk.cells.size = 7:=⟨_,hkz0,rfl⟩
 obtain ⟨zs,hzs,hze⟩:=row_zs (flK (ps.take i)) zk.cells hzs7 (n + 1 - i) (G - (n + 1))
 obtain ⟨R0,hR0⟩:∃ R0,R0 = flK (ps.take i) ++ zs:=⟨_,rfl⟩
 have hrz:∀ ty,(Builtin.append_ #[33,3] ty #[.slice (some ⟨g,0,none⟩) i c,.int .i64 ((n:Int) + 1 - (i:Int))]).run Tryz.prog w = .ok (.slice (some ⟨w.heap.size,0,none⟩) (n + 1) G) (w.drew.alloc (.cells R0.toArray 35)):=fun ty => by
  have h:=Lib.run_append_grow_zeros w 33 3 ty 35 k0 zk .i64 .i64 Tryz.underlying33 Tryz.underlying3 hki0 hzk (some ⟨g,0,none⟩) i c (flK (ps.take i)) hold (n + 1 - i) (by omega) (by omega) (by omega) (by omega) (by rw [hkzz];omega) (by rw [hkzz,hik];exact growslice_fits hroom (by omega))
  rw [hik,← hG,hze,← hR0] at h
  rw [hkk]
  exact h
 obtain ⟨nb,hnb⟩:∃ nb,nb = w.heap.size:=⟨_,rfl⟩
 rw [← hnb] at hrz ⊢
 obtain ⟨W1,hW1⟩:∃ W1,W1 = w.drew.alloc (.cells R0.toArray 35):=⟨_,rfl⟩
 rw [← hW1] at hrz
 have hR0l:R0.length = G * 7:=by rw [hR0,List.length_append,hA0,hzs];omega
 have gN:W1.heap[nb]? = some (.cells R0.toArray 35 (0,0)):=by rw [hW1,hnb];exact heap_alloc_new w.drew _
 have hFW:Below w.heap.size w W1:=by rw [hW1];exact balloc (bdrew (Below.refl _ _)) _
 have gV:W1.heap[vb]? = some (.cells (ckh q.1 q.2.1).toArray 35 (0,0)):=(hFW.block vb hvl).trans hv
 obtain ⟨R1,hR1⟩:∃ R1,R1 = R0.take (i * 7) ++ ckh q.1 q.2.1 ++ R0.drop (i * 7 + (ckh q.1 q.2.1).length):=⟨_,rfl⟩
 have hcpA:∀ (W:World),W.heap = W1.heap → ∀ ty dc,(Builtin.copy_ #[33,33] ty #[.slice (some ⟨nb,i * 7,none⟩) (n + 1 - i) dc,.slice (some ⟨vb,0,none⟩) 1 1]).run Tryz.prog W = .ok (goInt (Nat.min 1 (n + 1 - i))) (W.setRow nb R1.toArray):=fun W hW ty dc => by
  have:=run_copy_rowM W 33 33 ty 35 7 nb (i * 7) (n + 1 - i) dc ⟨vb,0,none⟩ 1 1 R0.toArray 35 (ckh q.1 q.2.1) Tryz.underlying33 hsz (by rw [hW];exact gN) (by rw [ckp_len];simp only [Nat.min_def];split <;> omega) (src_blk (by rw [hW];exact gV)) (by rw [ckp_len];simp [hR0l];omega) (fun u hu => flK_one [q] u (by show u ∈ ckh q.1 q.2.1 ++ [];rw [List.append_nil];exact hu))
  rw [hR1]
  simpa using this
 have hR1l:R1.length = G * 7:=by rw [hR1,List.length_append,List.length_append,List.length_take,List.length_drop,hR0l,ckp_len];omega
 obtain ⟨R2,hR2⟩:∃ R2,R2 = R1.take ((i + 1) * 7) ++ flK (ps.drop i) ++ R1.drop ((i + 1) * 7 + (flK (ps.drop i)).length):=⟨_,rfl⟩
 have hcpB:∀ (W:World),W.heap = (W1.setRow nb R1.toArray).heap → ∀ ty dc sc,(Builtin.copy_ #[33,33] ty #[.slice (some ⟨nb,(i + 1) * 7,none⟩) (n - i) dc,.slice (some ⟨g,i * 7,none⟩) (n - i) sc]).run Tryz.prog W = .ok (goInt (Nat.min (n - i) (n - i))) (W.setRow nb R2.toArray):=fun W hW ty dc sc => by
  have hgW:W.heap[g]? = w.heap[g]?:=by
   rw [hW,setRow_other W1 R1.toArray (by omega)]
   exact hFW.block g hgl
  have hrW:=row_blk h (w':=W) (fun x hx => by
   rw [show x = g by simpa [hb] using hx]
   exact hgW)
  have hcW:=fun j v (e:(flK ps)[j]? = some v) => World.ownsRow.cells hrW (g:=g) rfl j v e
  have:=run_copy_rowM W 33 33 ty 35 7 nb ((i + 1) * 7) (n - i) dc ⟨g,i * 7,none⟩ (n - i) sc R1.toArray 35 (flK (ps.drop i)) Tryz.underlying33 hsz (by rw [hW];exact setRow_at W1 _ gN) (by rw [hD0];congr 1;simp only [Nat.min_def];split <;> omega) (fun j v e => by
   rw [show flK (ps.drop i) = (flK ps).drop (i * 7) from flat_drop ckp_len ps i,List.getElem?_drop] at e
   have:=hcW _ v e
   rw [Addr.add_mid,Nat.zero_add] at this
   rw [Addr.add_mid]
   exact this) (by rw [hD0];simp [hR1l];omega) (flK_one _)
  rw [hR2]
  exact this
 have hw1:IntKind.i64.wrap ((n:Int) + 1) = (n:Int) + 1:=by rw [IntKind.wrap_i64] <;> omega
 have hw2:IntKind.i64.wrap ((i:Int) + 1) = (i:Int) + 1:=by rw [IntKind.wrap_i64] <;> omega
 have hw3:IntKind.i64.wrap ((n:Int) + 1 - (i:Int)) = (n:Int) + 1 - (i:Int):=by rw [IntKind.wrap_i64] <;> omega
 have hb1:(i:Int) ≤ (n:Int):=by omega
 have hb3:(i:Int) + 1 ≤ (n:Int) + 1:=by omega
 have hb4:(i:Int) ≤ (n:Int) + 1:=by omega
 have hb5:¬ (c = i):=by omega
 have hb6:¬ (G = i):=by omega
 have hb6':¬ (G = i + 1):=by omega
 have hb7:(0:Int) ≤ (n:Int) + 1:=by omega
 have hb8:(0:Int) ≤ (i:Int) + 1:=by omega
 have ht1:((n:Int) + 1).toNat = n + 1:=by omega
 have ht2:((i:Int) + 1).toNat = i + 1:=by omega
 have hG63:G ≤ 9223372036854775807:=by unfold maxLen at hGM;omega
 have HW1:=hid hW1
 have HR0:=hid hR0
 have HR1:=hid hR1
 have HR2:=hid hR2
 have HZ:=hid hzs
 have HFW:=hid hFW
 have HGN:=hid gN
 have HG:=hid hG
 have HNB:=hid hnb
 have HH:=hid h
 clear hW1 hR0 hR1 hR2 hzs hFW gN gV hG hnb h hze hold hzk hzs7 hkk hik hcell hR0l hR1l hA0 hD0 hki0 hkz0 hkz1 hkzz hv
 go_enter Tryz.func108,Tryz.ntmps108
 have mixed:Tryz.prog.follows .mixedOrders = true:=by kernel_rfl
 go_wp2_with (first
  | (at_builtin;refine Lib.wpList_append_run _ rfl _ _ _ _ rfl _ _ rfl rfl _ _ (hrz _) ?_)
  | (at_builtin;refine wpList_copy_runI _ rfl _ _ 33 33 rfl _ _ rfl rfl (hcpA _ rfl _ _) ?_))
 go_region_law_o (refine step_copy_runI rfl _ _ 33 33 rfl _ _ (by simp [Act.eval,Act.put]) (by simp [Act.eval,Act.put]) (hcpB (W1.setRow nb R1.toArray).drew rfl _ (G - (i + 1)) (c - i)) ?_)
 go_wp2
 go_ret
 have hA:=HGN.out
 refine ⟨G,rfl,row_new (Z:=zs) hl hi hGn HZ.out (by rw [HNB.out];exact hlo) hGM ?_,?_⟩
 ·have e1:=setRow_at (W1.setRow nb R1.toArray).drew R2.toArray (setRow_at W1 R1.toArray hA)
  rw [HR2.out,HR1.out,HR0.out,ckp_len] at e1
  rw [HR2.out,HR1.out,HR0.out,ckp_len]
  exact e1
 ·have f1:Fr [] w W1:=(Fr.of HFW.out []).trans (Fr.refl [] W1) (fun k hk => .inl hk)
  have f2:Fr [] w (W1.setRow nb R1.toArray):=f1.trans (fr_setRow W1 nb _) (fun k hk => .inr (by rw [List.mem_singleton] at hk;rw [hk,HNB.out];exact Nat.le_refl _))
  have f3:Fr [] w (W1.setRow nb R1.toArray).drew:=f2.trans (Fr.of (bdrew (Below.refl _ _)) []) (fun k hk => .inl hk)
  exact f3.trans (fr_setRow _ nb _) (fun k hk => .inr (by rw [List.mem_singleton] at hk;rw [hk,HNB.out];exact Nat.le_refl _))
theorem KRow.from {w v:World} {lo n:Nat} {S S':List Nat} {ts:List KT} {e:Ending} {w':World} (h:KRow v lo n S' ts e w') (hf:Fr S w v) (hS:∀ b ∈ S',b ∈ S ∨ w.heap.size ≤ b):KRow w lo n S ts e w':=by
 obtain ⟨a,c,ps,e1,e2,r,hk,hb1,hb2,hfr⟩:=h
 have hs:=hf.size
 refine ⟨a,c,ps,e1,e2,own_base r hs,hk,fun b hb' => ?_,hb2,hf.trans hfr hS⟩
 rcases hb1 b hb' with q | q
 ·exact hS b q
 ·exact .inr (by omega)
theorem spec_downL (lo n0 m:Nat) (b0 b1 b2 b3:Int) (its:List It) (ia ka:Option Addr) (ic kc:Nat) (x0 x1 x2 x3 x4:Int) (S:List Nat) (w:World) (k:KO lo (n0 + 1) w (ia,ic,ka,kc) S (.mk (b0,b1,b2,b3) true its [])) (hlo:lo ≤ w.heap.size) (h4:its.length ≤ 4) (hok:(its.map (·.2)).all bkb = true) (hx:bkb (x1,x2,x3,x4) = true):Calls Tryz.prog 76 #[.agg #[.int .i64 b0,.int .i64 b1,.int .i64 b2,.int .i64 b3,.bool true,.slice ia its.length ic,.slice ka 0 kc],.agg #[.int .i64 x0,.int .i64 x1,.int .i64 x2,.int .i64 x3,.int .i64 x4]] w (KRow w lo (n0 + 1) S (dn (putI (m + 1) (.mk (b0,b1,b2,b3) true its []) (x0,x1,x2,x3,x4)))):=by
 obtain ⟨i0,hi0,hz0,hz1,hzz⟩:=info_parts Tryz.infoIt
 have hSl:∀ x ∈ S,x < w.heap.size:=fun x hx => (k.lt x hx).2
 obtain ⟨ps,l1,r1,r2,hS,hN,hk⟩:=k
 have hps:ps = []:=by
  have:([]:List KT) = ps.map (·.1):=l1
  exact List.map_eq_nil_iff.1 this.symm
 subst hps
 have r1':w.ownsRow lo 40 5 (.slice ia its.length ic) its.length (flI its):=r1
 have r2':w.ownsRow lo 35 7 (.slice ka 0 kc) 0 []:=r2
 have hiS:∀ x ∈ hb ia,x ∈ S:=fun x hx => hS.mem_iff.2 (by simp only [List.mem_append];exact .inl (.inl hx))
 have hkS:∀ x ∈ hb ka,x ∈ S:=fun x hx => hS.mem_iff.2 (by simp only [List.mem_append];exact .inl (.inr hx))
 have hik:∀ x ∈ hb ia,x ∉ hb ka:=fun x hx hc => by
  have hN2:=hS.nodup_iff.1 hN
  rw [List.nodup_append,List.nodup_append] at hN2
  exact hN2.1.2.2 x hx x hc rfl
 clear r1 r2 hS hN hk l1
 have hpt:dn (putI (m + 1) (.mk (b0,b1,b2,b3) true its []) (x0,x1,x2,x3,x4)) = dn (rb (.mk (b0,b1,b2,b3) true (its ++ [(x0,x1,x2,x3,x4)]) [])):=rfl
 rw [hpt]
 clear hpt
 have SPL:=hid (fun (W:World) (h':Hd) (S':List Nat) (hk:KO lo (n0 + 1) W h' S' (.mk (b0,b1,b2,b3) true (its ++ [(x0,x1,x2,x3,x4)]) [])) (hl:lo ≤ W.heap.size) => spec_split lo n0 _ h' S' W hk hl ⟨by show (its ++ [(x0,x1,x2,x3,x4)]).length ≤ 5;rw [List.length_append,List.length_singleton];omega,.inl ⟨rfl,rfl,by
  show ((its ++ [(x0,x1,x2,x3,x4)]).map (·.2)).all bkb = true
  rw [List.map_append,List.all_append,hok]
  simp [hx]⟩⟩)
 have hn1:(its ++ [(x0,x1,x2,x3,x4)]).length = its.length + 1:=by rw [List.length_append,List.length_singleton]
 have hfl:flI (its ++ [(x0,x1,x2,x3,x4)]) = flI its ++ [.int .i64 x0,.int .i64 x1,.int .i64 x2,.int .i64 x3,.int .i64 x4]:=by rw [flI_app];rfl
 have KK:=hid (fun (W:World) (a:Option Addr) (c:Nat) (h1:W.ownsRow lo 40 5 (.slice a (its.length + 1) c) (its.length + 1) (flI its ++ [.int .i64 x0,.int .i64 x1,.int .i64 x2,.int .i64 x3,.int .i64 x4])) (h2:W.ownsRow lo 35 7 (.slice ka 0 kc) 0 []) (hd:∀ x ∈ hb a,x ∉ hb ka) => show KO lo (n0 + 1) W (a,c,ka,kc) (hb a ++ hb ka ++ ([]:List KP).flatMap (·.2.2)) (.mk (b0,b1,b2,b3) true (its ++ [(x0,x1,x2,x3,x4)]) []) from KO.mk' (ps:=[]) rfl (by rw [← hfl,← hn1] at h1;exact h1) h2 (KOs.nil lo n0 W) (fun x hx => ⟨hd x hx,by simp⟩) (fun x hx => by simp))
 have hvv:∀ (a:Option Addr) (c:Nat),kvh (.mk (b0,b1,b2,b3) true (its ++ [(x0,x1,x2,x3,x4)]) []) (a,c,ka,kc) = .agg #[.int .i64 b0,.int .i64 b1,.int .i64 b2,.int .i64 b3,.bool true,.slice a (its.length + 1) c,.slice ka 0 kc]:=fun a c => by
  show Value.agg #[_,_,_,_,_,Value.slice a (its ++ [_]).length c,_] = _
  rw [hn1]
  rfl
 have SPL2:=hid (fun (W:World) (a:Option Addr) (c:Nat) (S':List Nat) hk hl => by
  have:=SPL.out W (a,c,ka,kc) S' hk hl
  rw [hvv a c] at this
  exact this)
 generalize hts:dn (rb (.mk (b0,b1,b2,b3) true (its ++ [(x0,x1,x2,x3,x4)]) [])) = ts at *
 have hN5:=flI_len its
 generalize hni:its.length = ni at *
 generalize hfi:flI its = fi at *
 clear SPL hvv hfl hn1 hts hok hx hfi hni
 have gT:=old_alloc (o':=.cells #[.int .i64 x0,.int .i64 x1,.int .i64 x2,.int .i64 x3,.int .i64 x4] 40) (new_alloc w w.heap.size (.cells #[.int .i64 b0,.int .i64 b1,.int .i64 b2,.int .i64 b3,.bool true,.slice ia ni ic,.slice ka 0 kc] 35) rfl)
 have gX:=new_alloc (w.alloc (.cells #[.int .i64 b0,.int .i64 b1,.int .i64 b2,.int .i64 b3,.bool true,.slice ia ni ic,.slice ka 0 kc] 35)) (w.heap.size + 1) (.cells #[.int .i64 x0,.int .i64 x1,.int .i64 x2,.int .i64 x3,.int .i64 x4] 40) (by simp)
 have hB:=balloc (balloc (Below.refl w.heap.size w) (.cells #[.int .i64 b0,.int .i64 b1,.int .i64 b2,.int .i64 b3,.bool true,.slice ia ni ic,.slice ka 0 kc] 35)) (.cells #[.int .i64 x0,.int .i64 x1,.int .i64 x2,.int .i64 x3,.int .i64 x4] 40)
 have hs:((w.alloc (.cells #[.int .i64 b0,.int .i64 b1,.int .i64 b2,.int .i64 b3,.bool true,.slice ia ni ic,.slice ka 0 kc] 35)).alloc (.cells #[.int .i64 x0,.int .i64 x1,.int .i64 x2,.int .i64 x3,.int .i64 x4] 40)).heap.size = w.heap.size + 2:=by simp
 obtain ⟨a0,a1,a2,a3,a4,a5,a6,f0,f1,f2,f3,f4,f5,f6⟩:=cell7k gT
 obtain ⟨c0,c1,c2,c3,c4,_,_,_,_,_⟩:=cell5j gX
 go_enter Tryz.func76,Tryz.ntmps76
 go_upto_region 1 with fail
 generalize (w.alloc (.cells #[.int .i64 b0,.int .i64 b1,.int .i64 b2,.int .i64 b3,.bool true,.slice ia ni ic,.slice ka 0 kc] 35)).alloc (.cells #[.int .i64 x0,.int .i64 x1,.int .i64 x2,.int .i64 x3,.int .i64 x4] 40) = V at *
 have R1:=hid (row_blk r1' (fun x hx => (balloc (Below.refl V.heap.size V) (.cells #[.int .i64 x0,.int .i64 x1,.int .i64 x2,.int .i64 x3,.int .i64 x4] 40)).block x (by have:=(row_lt r1' x hx).2;omega) |>.trans (hB.block x (row_lt r1' x hx).2)))
 have gN:=heap_alloc_new V (.cells #[.int .i64 x0,.int .i64 x1,.int .i64 x2,.int .i64 x3,.int .i64 x4] 40)
 rw [hs] at gN
 have hloV:lo ≤ (V.alloc (.cells #[.int .i64 x0,.int .i64 x1,.int .i64 x2,.int .i64 x3,.int .i64 x4] 40)).heap.size:=by simp;omega
 have gT1:=old_alloc (o':=.cells #[.int .i64 x0,.int .i64 x1,.int .i64 x2,.int .i64 x3,.int .i64 x4] 40) gT
 have hTi:w.heap.size ∉ hb ia:=fun hc => by have:=hSl _ (hiS _ hc);omega
 have hal:=balloc (Below.refl V.heap.size V) (.cells #[.int .i64 x0,.int .i64 x1,.int .i64 x2,.int .i64 x3,.int .i64 x4] 40)
 have R2:=hid (row_blk r2' (fun x hx => (hal.block x (by have:=(row_lt r2' x hx).2;omega)).trans (hB.block x (row_lt r2' x hx).2)))
 have hBal:=btrans hB hal
 go_wp2_with (at_builtin;refine wpList_app rfl (.tmp 15) (.tmp 17) 32 rfl lo 40 i0 _ 5 40 Tryz.underlying32 hi0 hz0 hz1 hzz rfl (by decide) ia ni ic fi (by rfl) R1.out (some ⟨w.heap.size + 2,0,none⟩) 1 1 [.int .i64 x0,.int .i64 x1,.int .i64 x2,.int .i64 x3,.int .i64 x4] (by rfl) (.inr ⟨_,rfl,src_blk gN⟩) rfl (by simp [Value.oneCell']) (by unfold maxLen;omega) (by omega) hloV ?_;intro a' c' W2 hown hgrow hat;have gT2:=(app_blk hgrow (lt_of_heap gT1) hTi).trans gT1;obtain ⟨_,_,_,_,_,b5,_,_,_,_,_,_,e5,_⟩:=cell7k gT2)
 have hfA:=app_fr hgrow
 have q1:=set_5k gT2 (.slice a' (ni + 1) c')
 have hne:∀ x ∈ hb a',x ≠ w.heap.size:=fun x hx e => by
  rcases hat x hx with q | q
  ·have:=hSl _ (hiS _ q);omega
  ·have:=hBal.size;simp at q;omega
 have q2:=row_blk hown (fun x hx => heap_set W2 w.heap.size 5 x (.slice a' (ni + 1) c') (fun e => hne x hx e.symm))
 have hk2:∀ x ∈ hb ka,x ∉ hb ia:=fun x hx hc => hik x hc hx
 have r3:=row_blk R2.out (fun x hx => app_blk hgrow (row_lt R2.out x hx).2 (hk2 x hx))
 have q3:=row_blk r3 (fun x hx => heap_set W2 w.heap.size 5 x (.slice a' (ni + 1) c') (fun e => by have:=hSl _ (hkS _ hx);omega))
 have q4:Fr S w (W2.setCell ⟨w.heap.size,5,none⟩ (.slice a' (ni + 1) c')):=by
  have h1:Fr S w W2:=(Fr.of hBal S).trans hfA (fun x hx => .inl (hiS x hx))
  exact h1.trans (Fr.set (S:=[w.heap.size]) ⟨w.heap.size,5,none⟩ _ (by simp)) (fun x hx => by rw [List.mem_singleton] at hx;subst hx;exact .inr (Nat.le_refl _))
 have hak:∀ x ∈ hb a',x ∉ hb ka:=fun x hx hc => by
  rcases hat x hx with q | q
  ·exact hik x q hc
  ·have:=hSl _ (hkS _ hc);have:=hBal.size;omega
 have hsub:∀ x ∈ hb a' ++ hb ka ++ ([]:List KP).flatMap (·.2.2),x ∈ S ∨ w.heap.size ≤ x:=fun x hx => by
  simp only [List.flatMap_nil,List.append_nil,List.mem_append] at hx
  rcases hx with q | q
  ·rcases hat x q with q | q
   ·exact .inl (hiS x q)
   ·have:=hBal.size;exact .inr (by omega)
  ·exact .inl (hkS x q)
 have SP:=SPL2.out _ a' c' _ (KK.out _ a' c' q2 q3 hak) (Nat.le_trans hlo q4.size)
 clear SPL2 KK q1 q2 q3 r3 hown hgrow hat gT2 b5 e5 hfA R1 R2 gT1 hal hBal gN hloV hne
 refine SP.mono ?_
 intro e Y hr
 obtain ⟨ra,rc,ps,rfl,hrest⟩:=hr
 go_wp2_with fail
 go_ret
 exact KRow.from ⟨ra,rc,ps,rfl,hrest⟩ q4 hsub
end Go.Proofs.YtjahlofahjgdbaaGreat
