/- Texts of stores, joined: Ci, Fy. -/
import Derived.Test.YtjahlofahjgdbaaGreatJ22
import Derived.Test.YtjahlofahjgdbaaGreatShelfI
import Derived.Test.YtjahlofahjgdbaaGreatShelfC
set_option maxRecDepth 100000
set_option maxHeartbeats 4000000
set_option linter.unusedSimpArgs false
set_option linter.unusedVariables false
namespace Go.Proofs.YtjahlofahjgdbaaGreat
open Go.RowKit
def srt (zs:List Int):List Int:=zs.mergeSort (fun x y => decide (x ≤ y))
theorem srt_len (zs:List Int):(srt zs).length = zs.length:=(List.mergeSort_perm zs _).length_eq
theorem sort_ids (B g c:Nat) (zs:List Int) (w:World) (hm:zs.length ≤ 1099511627776) (hgl:g < w.heap.size) (h:w.ownsRow B 3 1 (.slice (some ⟨g,0,none⟩) zs.length c) zs.length (fli zs)):Calls Tryz.prog 98 #[.slice (some ⟨g,0,none⟩) zs.length c] w fun e w' => e = .returned (.tuple #[]) ∧ OwnI w' (some ⟨g,0,none⟩) (srt zs) ∧ w.grownBy w' (some g):=by
 obtain ⟨_,_,hI⟩:=own_I h rfl
 obtain ⟨b,e,h1,h2,h3⟩:∃ b,some (⟨g,0,none⟩:Addr) = some ⟨b,0,none⟩ ∧ b < w.heap.size ∧ IAt w b 0 zs ∧ w.there b 0 zs.length:=by
  rcases hI with ⟨q,_⟩ | h
  ·cases q
  ·exact h
 cases e
 have hH:Go.Sort.Holds (Value.int .i64) w g 0 zs.toArray:=by
  intro j hj
  simp at hj
  refine ⟨?_,?_⟩
  ·have:=h2 j hj
   rw [this]
   simp [List.getD_eq_getElem?_getD,List.getElem?_eq_getElem hj,getElem!_pos,hj]
  ·exact (h3 j hj).2
 have hc:=AnyM.slices_Sort_int Tryz.sortInt g 0 c zs w hH hgl (by omega)
 change Calls Tryz.prog 98 _ _ _ at hc
 refine hc.mono ?_
 rintro e w' ⟨rfl,q,os,rfl⟩
 have hl:(srt zs).toArray.size = zs.toArray.size:=by simp [srt_len]
 have hK:=Go.Sort.holds_grow (Value.int .i64) _ os g 0 _ (by simpa [Go.Sort.putRow,Go.Sort.mapBlock,Go.Sort.ahead] using hgl) (Go.Sort.holds_putRow (Value.int .i64) (Go.Sort.ahead w q) g 0 zs.toArray (srt zs).toArray (Go.Sort.holds_ahead _ w q g 0 _ hH) hl)
 have hgr:w.grownBy (Go.Sort.grow (Go.Sort.putRow (Value.int .i64) (Go.Sort.ahead w q) g 0 (srt zs).toArray) os) (some g):=by
  refine ⟨rfl,rfl,rfl,by simp [Go.Sort.putRow,Go.Sort.mapBlock,Go.Sort.ahead,Go.Sort.grow],fun k hk hne => ?_⟩
  rw [Go.Sort.heap_grow_old _ _ (by simpa [Go.Sort.putRow,Go.Sort.mapBlock,Go.Sort.ahead] using hk)]
  have:g ≠ k:=fun e => hne (by rw [e])
  simp [Go.Sort.putRow,Go.Sort.mapBlock,Go.Sort.ahead,Array.getElem?_modify,this]
 refine ⟨rfl,.inr ⟨g,rfl,Nat.lt_of_lt_of_le hgl hgr.size,fun k hk => ?_,fun j hj => ?_⟩,hgr⟩
 ·have:=(hK k (by simpa using hk)).1
  rw [show (zs.mergeSort fun x y => decide (x ≤ y)) = srt zs from rfl]
  rw [this]
  simp [List.getD_eq_getElem?_getD,List.getElem?_eq_getElem hk,getElem!_pos,hk]
 ·obtain ⟨q1,q2⟩:=hK j (by simpa using hj)
  exact ⟨by rw [show (zs.mergeSort fun x y => decide (x ≤ y)) = srt zs from rfl,q1];rfl,q2⟩
theorem keeps_len {zs:List Int}:(Go.Lib.compact zs).length = zs.length ↔ ∀ j,j < zs.length → (j = 0 ∨ zs.getD j 0 ≠ zs.getD (j - 1) 0):=by
 unfold Go.Lib.compact Go.Lib.compactUpTo
 rw [List.length_map]
 have hg:∀ j,j < zs.length → zs.toArray[j]! = zs.getD j 0:=fun j hj => by simp [List.getD_eq_getElem?_getD,List.getElem?_eq_getElem hj,getElem!_pos,hj]
 constructor
 ·intro h j hj
  have h2:((List.range zs.length).filter (Go.Lib.keeps zs.toArray)).length = (List.range zs.length).length:=by rw [h,List.length_range]
  have h3:=List.length_filter_eq_length_iff.1 h2 j (List.mem_range.2 hj)
  unfold Go.Lib.keeps at h3
  rw [decide_eq_true_eq,hg j hj,hg (j - 1) (by omega)] at h3
  exact h3
 ·intro h
  have h2:∀ j ∈ List.range zs.length,Go.Lib.keeps zs.toArray j = true:=fun j hj => by
   have hj':=List.mem_range.1 hj
   unfold Go.Lib.keeps
   rw [decide_eq_true_eq,hg j hj',hg (j - 1) (by omega)]
   exact h j hj'
  have:=List.length_filter_eq_length_iff.2 h2
  rw [this,List.length_range]
theorem compact_nodup {zs:List Int} (hs:zs.Pairwise (· ≤ ·)):(Go.Lib.compact zs).length = zs.length ↔ zs.Nodup:=by
 rw [keeps_len]
 have hg:∀ j (h:j < zs.length),zs.getD j 0 = zs[j]:=fun j hj => by simp [List.getD_eq_getElem?_getD,List.getElem?_eq_getElem hj]
 constructor
 ·intro h
  rw [List.Nodup,List.pairwise_iff_getElem]
  intro i j hi hj hij
  have h1:∀ k,i + k < zs.length → 0 < k → zs[i] < zs.getD (i + k) 0:=by
   intro k
   induction k with
   | zero => intro _ q;omega
   | succ k ih =>
    intro hk _
    have h2:=h (i + (k + 1)) hk
    have h3:zs.getD (i + (k + 1)) 0 ≠ zs.getD (i + k) 0:=by rcases h2 with h2 | h2;omega;exact h2
    have h4:zs[i + k]'(by omega) ≤ zs[i + (k + 1)]'hk:=by
     have:=List.pairwise_iff_getElem.1 hs (i + k) (i + (k + 1)) (by omega) hk (by omega)
     exact this
    rw [hg _ hk]
    rw [hg _ hk,hg (i + k) (by omega)] at h3
    by_cases e:k = 0
    ·subst e;simp at h3 h4 ⊢;omega
    ·have:=ih (by omega) (by omega)
     rw [hg (i + k) (by omega)] at this
     omega
  have:=h1 (j - i) (by omega) (by omega)
  rw [hg _ (by omega)] at this
  simp only [show i + (j - i) = j by omega] at this
  omega
 ·intro h j hj
  by_cases e:j = 0
  ·exact .inl e
  ·right
   rw [hg j hj,hg (j - 1) (by omega)]
   have:=List.pairwise_iff_getElem.1 h (j - 1) j (by omega) hj (by omega)
   exact fun q => this q.symm
theorem srt_sorted (zs:List Int):(srt zs).Pairwise (· ≤ ·):=by
 have:=List.pairwise_mergeSort (le:=fun x y:Int => decide (x ≤ y)) (fun a b c => by simp;omega) (fun a b => by simp;omega) zs
 exact this.imp (fun h => by simpa using h)
theorem srt_perm (zs:List Int):(srt zs).Perm zs:=List.mergeSort_perm zs _
theorem compact_srt (zs:List Int):(Go.Lib.compact (srt zs)).length = zs.length ↔ zs.Nodup:=by
 rw [show zs.length = (srt zs).length from (srt_perm zs).length_eq.symm,compact_nodup (srt_sorted zs)]
 exact (srt_perm zs).nodup_iff
theorem compact_c (g c:Nat) (zs:List Int) (w:World) (hm:zs.length ≤ 1099511627776) (hc:zs.length ≤ c) (h:OwnI w (some ⟨g,0,none⟩) zs):Calls Tryz.prog 91 #[.slice (some ⟨g,0,none⟩) zs.length c] w fun e w' => e = .returned (.slice (some ⟨g,0,none⟩) (Go.Lib.compact zs).length c) ∧ w.grownBy w' (some g):=by
 obtain ⟨b,e,h1,h2,h3⟩:∃ b,some (⟨g,0,none⟩:Addr) = some ⟨b,0,none⟩ ∧ b < w.heap.size ∧ IAt w b 0 zs ∧ w.there b 0 zs.length:=by
  rcases h with ⟨q,_⟩ | h
  ·cases q
  ·exact h
 cases e
 have hH:Go.Sort.Holds (Value.int .i64) w g 0 zs.toArray:=by
  intro j hj
  simp at hj
  refine ⟨?_,?_⟩
  ·have:=h2 j hj
   rw [this]
   simp [List.getD_eq_getElem?_getD,List.getElem?_eq_getElem hj,getElem!_pos,hj]
  ·exact (h3 j hj).2
 have hcc:=Any.slices_Compact_int Tryz.laysNm220 g 0 c zs w hH (by omega) hc
 change Calls Tryz.prog 91 _ _ _ at hcc
 refine hcc.mono ?_
 rintro e w' ⟨rfl,q,rfl⟩
 refine ⟨rfl,⟨rfl,rfl,rfl,by simp [Go.Sort.putRow,Go.Sort.mapBlock,Go.Sort.ahead],fun k hk hne => ?_⟩⟩
 have:g ≠ k:=fun e => hne (by rw [e])
 simp [Go.Sort.putRow,Go.Sort.mapBlock,Go.Sort.ahead,Array.getElem?_modify,this]
theorem compact_le (zs:List Int):(Go.Lib.compact zs).length ≤ zs.length:=by
 unfold Go.Lib.compact Go.Lib.compactUpTo
 rw [List.length_map]
 exact Nat.le_trans (List.length_filter_le _ _) (by rw [List.length_range];exact Nat.le_refl _)
end Go.Proofs.YtjahlofahjgdbaaGreat
namespace Go.Proofs.YtjahlofahjgdbaaGreat
open Go.RowKit Go.Shelf
def IdC (l:List It) (k:Nat):Array Value:=(fli ((l.take k).map Prod.fst) ++ List.replicate (l.length - k) (Value.int .i64 0)).toArray
theorem idc_zero (l:List It):madeCells #[.int .i64 0] l.length = IdC l 0:=by
 rw [← Array.toList_inj,toList_madeCells_one]
 simp [IdC,fli]
theorem idc_next (l:List It) (k:Nat) (h:k < l.length):(IdC l k).setIfInBounds k (.int .i64 l[k].1) = IdC l (k + 1):=by
 have hk:(fli ((l.take k).map Prod.fst)).length = k:=by
  rw [fli_len,List.length_map,List.length_take];exact Nat.min_eq_left (Nat.le_of_lt h)
 have hr:List.replicate (l.length - k) (Value.int .i64 0) = .int .i64 0 :: List.replicate (l.length - (k + 1)) (.int .i64 0):=by
  rw [show l.length - k = (l.length - (k + 1)) + 1 by omega,List.replicate_succ]
 rw [← Array.toList_inj]
 unfold IdC
 rw [Array.toList_setIfInBounds]
 show (fli ((l.take k).map Prod.fst) ++ List.replicate (l.length - k) (Value.int .i64 0)).set k (.int .i64 l[k].1) = _
 rw [hr,List.set_append_right _ _ (by omega),hk,Nat.sub_self,List.set_cons_zero,List.take_add_one,List.getElem?_eq_getElem h,Option.toList_some,List.map_append]
 unfold fli
 rw [List.map_append,List.append_assoc]
 rfl
theorem idc_all (l:List It):IdC l l.length = (fli (l.map Prod.fst)).toArray:=by
 unfold IdC
 rw [List.take_length,Nat.sub_self];simp
theorem own_ids {w:World} {B b n:Nat} {zs:List Int} (h:w.heap[b]? = some (.cells (fli zs).toArray 3 (0,0))) (hB:B ≤ b) (hn:zs.length = n) (hm:n ≤ 1048576):w.ownsRow B 3 1 (.slice (some ⟨b,0,none⟩) n n) n (fli zs):=by
 subst hn
 refine ⟨by rw [fli_len];omega,.inr ⟨b,zs.length,_,rfl,hB,h,Nat.le_refl _,by unfold maxLen;omega,by simp [fli_len],?_⟩⟩
 rw [List.take_of_length_le (by simp [fli_len])]
theorem make_ids (n:Nat) (hn:n ≤ 1099511627776) (w:World):(Instr.makeSlice 49 (.int .i64 n) (.int .i64 n)).run Tryz.prog w = .ok (.slice (some ⟨w.heap.size,0,none⟩) n n) (w.alloc (.cells (madeCells #[.int .i64 0] n) 3)):=by
 obtain ⟨i0,hi,hz0,hz1,hz2⟩:=info_parts Tryz.infoI
 have:=run_make (P:=Tryz.prog) w 49 3 i0 _ Tryz.underlying49 hi hz0 .i64 .i64 n n (by omega) (by omega) (by rw [hz2];omega) (by omega)
 rw [hz1,Nat.mul_one] at this
 exact this
theorem impl_idsOf (g c:Nat) (l:List It) (w:World) (h:ItR w g l) (hl:l.length ≤ 1048576):Calls Tryz.prog 73 #[.slice (some ⟨g,0,none⟩) l.length c] w fun e w' => ∃ b,e = .returned (.slice (some ⟨b,0,none⟩) l.length l.length) ∧ w.heap.size ≤ b ∧ OwnI w' (some ⟨b,0,none⟩) (srt (l.map Prod.fst)) ∧ Below w.heap.size w w':=by
 have HI:=hid h
 have hmk:=make_ids l.length (by omega) w
 rw [idc_zero] at hmk
 have A0:=new_alloc w w.heap.size (.cells (IdC l 0) 3) rfl
 have B0:=balloc (Below.refl w.heap.size w) (.cells (IdC l 0) 3)
 clear h
 go_enter Tryz.func73,Tryz.ntmps73
 go_wp2_with fail
 generalize w.alloc (.cells (IdC l 0) 3) = v0 at *
 clear hmk
 go_loopw [11] (fun t11 wr => ∃ k:Nat,k ≤ l.length ∧ t11 = .int .i64 k ∧ Hid (wr.heap[w.heap.size]? = some (.cells (IdC l k) 3 (0,0))) ∧ Hid (Below w.heap.size w wr)) (fun t11 _ => l.length - (intOf t11).toNat)
 case atStart => exact ⟨0,Nat.zero_le _,rfl,hid A0,hid B0⟩
 case round =>
  clear A0 B0 v0
  obtain ⟨k,hk,rfl,HA,HB⟩:=hrel
  by_cases hlt:k < l.length
  ·have c1:(k:Int) < (l.length:Int):=by omega
   obtain ⟨y0,y1,y2,y3,y4⟩:=((HI.out.2 k hlt).below HI.out.1 HB.out).item
   have hnx:=idc_next l k hlt
   generalize l[k] = xx at *
   obtain ⟨i0,x0,x1,x2,x3⟩:=xx
   simp only [] at y0 y1 y2 y3 y4 hnx
   have hAA:=old_alloc (o':=(.cells #[.int .i64 i0,.int .i64 x0,.int .i64 x1,.int .i64 x2,.int .i64 x3] 40)) HA.out
   have hset:=set_at (k:=k) (u:=.int .i64 i0) hAA
   rw [hnx] at hset
   have hsz:(IdC l k).size = l.length:=by
    unfold IdC
    simp [fli_len];omega
   obtain ⟨cv,hcv⟩:∃ v,(IdC l k)[k]? = some v:=⟨_,Array.getElem?_eq_getElem (by omega)⟩
   have q0:(wr.alloc (.cells #[.int .i64 i0,.int .i64 x0,.int .i64 x1,.int .i64 x2,.int .i64 x3] 40)).cell? ⟨w.heap.size,k,none⟩ = some cv:=by simp [World.cell?,hAA,hcv]
   have q1:(wr.alloc (.cells #[.int .i64 i0,.int .i64 x0,.int .i64 x1,.int .i64 x2,.int .i64 x3] 40)).frozen? ⟨w.heap.size,k,none⟩ = false:=by simp [World.frozen?,hAA]
   have HSET:=hid hset
   have HBN:=hid ((balloc HB.out (.cells #[.int .i64 i0,.int .i64 x0,.int .i64 x1,.int .i64 x2,.int .i64 x3] 40)).setCell (p:=⟨w.heap.size,k,none⟩) (Nat.le_refl _) (.int .i64 i0))
   clear hset hsz hcv hAA hnx
   go_wp2_with fail
   go_roundw
   case rel => exact ⟨k + 1,by omega,by go_num,hid HSET.out,hid HBN.out⟩
   case measure => simp [intOf];omega
  ·have c1:¬ (k:Int) < (l.length:Int):=by omega
   have hk2:k = l.length:=by omega
   subst hk2
   have hA:=HA.out
   rw [idc_all] at hA
   have hs:w.heap.size < wr.heap.size:=lt_of_heap hA
   have CS:=hid (sort_ids w.heap.size w.heap.size l.length (l.map Prod.fst) wr (by rw [List.length_map];omega) hs (by rw [List.length_map];exact own_ids hA (Nat.le_refl _) (by rw [List.length_map]) hl))
   rw [List.length_map] at CS
   have HB1:=HB
   clear hA HA HI
   go_wp2_with fail
   refine CS.out.mono ?_
   rintro e w1 ⟨rfl,hO,hg⟩
   have HO:=hid hO
   have HBF:=hid (bgrown HB1.out hg (Nat.le_refl _))
   clear hO hg
   go_wp2_with fail
   go_ret
   exact ⟨w.heap.size,rfl,Nat.le_refl _,HO.out,HBF.out⟩
theorem impl_idsApart (g c:Nat) (l:List It) (w:World) (h:ItR w g l) (hl:l.length ≤ 1048576):Calls Tryz.prog 67 #[.slice (some ⟨g,0,none⟩) l.length c] w fun e w' => e = .returned (.bool (decide (l.map Prod.fst).Nodup)) ∧ Below w.heap.size w w':=by
 have CI:=hid (impl_idsOf g c l w h hl)
 clear h
 go_enter Tryz.func67,Tryz.ntmps67
 go_wp2_with fail
 refine CI.out.mono ?_
 rintro e w1 ⟨b,rfl,hb,hO,hB⟩
 have hlen:(srt (l.map Prod.fst)).length = l.length:=by rw [srt_len,List.length_map]
 have CC:=hid (compact_c b l.length (srt (l.map Prod.fst)) w1 (by rw [hlen];omega) (by rw [hlen];exact Nat.le_refl _) hO)
 rw [hlen] at CC
 have hcl:=compact_le (srt (l.map Prod.fst))
 rw [hlen] at hcl
 have hdec:decide (l.map Prod.fst).Nodup = ((((Go.Lib.compact (srt (l.map Prod.fst))).length:Int) == (l.length:Int)):Bool):=by
  rw [Bool.eq_iff_iff,decide_eq_true_eq,beq_iff_eq,← compact_srt (l.map Prod.fst),List.length_map]
  omega
 have HD:=hid hdec
 have HB:=hid hB
 clear hO hB hdec hlen CI
 generalize (Go.Lib.compact (srt (l.map Prod.fst))).length = cn at *
 go_wp2_with fail
 refine CC.out.mono ?_
 rintro e w2 ⟨rfl,hg⟩
 have HB2:=hid (bgrown HB.out hg hb)
 clear hg
 go_wp2_with fail
 go_ret
 exact ⟨by rw [HD.out];rfl,HB2.out⟩
theorem dpt_le:∀ (f:Nat) (t:KT) (cur:Nat),dpt f t cur ≤ cur + f
 | 0,t,cur => by unfold dpt;split <;> omega
 | f + 1,.mk b l i [],cur => by unfold dpt;omega
 | f + 1,.mk b l i (k :: r),cur => by
  unfold dpt
  split
  ·omega
  ·have:=dpt_le f k (cur + 1);omega
theorem impl_TreeOkI (m lo:Nat) (t:KT) (ia ka:Option Addr) (w:World) (h:Kn lo m w ia ka t) (hz:ksz m t ≤ 1048576):Calls Tryz.prog 21 #[kvo t ia ka] w fun e w' => e = .returned (.bool (tokI t)) ∧ Below w.heap.size w w':=by
 have CD:=hid (fun (W:World) (hb:Below w.heap.size w W) => impl_depth m lo t ia ka W (h.below hb))
 have CR:Hid (∀ (least:Nat) (W:World),Below w.heap.size w W → dpt 7 t 1 ≠ 0 → Calls Tryz.prog 66 #[kvo t ia ka,.int .i64 (dpt 7 t 1:Nat),.int .i64 least] W fun e w' => e = .returned (.bool (rgt (dpt 7 t 1) t least)) ∧ Below W.heap.size W w'):=hid (fun least W hb h0 => by
  have h8:=dpt_le 7 t 1
  obtain ⟨d,hd⟩:∃ d,dpt 7 t 1 = d + 1:=⟨dpt 7 t 1 - 1,by omega⟩
  rw [hd]
  exact impl_right d (by omega) m lo t ia ka least W (h.below hb) hz)
 have CT:=hid (fun (W:World) (hb:Below w.heap.size w W) => impl_TreeItems m lo t ia ka W (h.below hb) hz)
 have hlen:=Nat.le_trans (kn_itm m 20 h) hz
 have CI:=True.intro
 obtain ⟨b0,b1,b2,b3,b4,ni,nk,hf⟩:=kf t
 have hlf:=hf.lf
 unfold tokI
 rw [kvo_of hf] at CD CR CT ⊢
 rw [hlf]
 have hd0:True:=trivial
 clear h hz hf hlf
 generalize itm 20 t = L at *
 generalize dpt 7 t 1 = dd at *
 cases b4
 ·simp only [if_neg Bool.false_ne_true]
  have hdd:=hid hd0
  have gT:=hid (new_alloc w w.heap.size (.cells #[.int .i64 b0,.int .i64 b1,.int .i64 b2,.int .i64 b3,.bool false,.slice ia ni ni,.slice ka nk nk] 35) rfl)
  have B0:=hid (balloc (Below.refl w.heap.size w) (.cells #[.int .i64 b0,.int .i64 b1,.int .i64 b2,.int .i64 b3,.bool false,.slice ia ni ni,.slice ka nk nk] 35))
  by_cases hz0:dd = 0
  ·subst hz0
   go_enter Tryz.func21,Tryz.ntmps21
   go_wp2_with fail
   generalize w.alloc (.cells #[.int .i64 b0,.int .i64 b1,.int .i64 b2,.int .i64 b3,.bool false,.slice ia ni ni,.slice ka nk nk] 35) = v0 at *
   refine (CD.out _ B0.out).mono ?_
   rintro e v1 ⟨rfl,hb1⟩
   replace gT:=hid (keepheap hb1 gT.out)
   replace B0:=hid (btrans B0.out hb1)
   obtain ⟨a0,a1,a2,a3,a4,a5,a6,_,_,_,_,_,_,_⟩:=cell7k gT.out
   clear CD CR CT CI hb1
   go_wp2_with fail
   go_ret
   exact ⟨by simp,B0.out⟩
  ·have hzI:¬ (dd:Int) = 0:=by omega
   have hzB:((dd:Int) == 0) = false:=by rw [beq_eq_false_iff_ne];exact hzI
   have hzD:decide (dd ≠ 0) = true:=decide_eq_true hz0
   go_enter Tryz.func21,Tryz.ntmps21
   go_wp2_with fail
   generalize w.alloc (.cells #[.int .i64 b0,.int .i64 b1,.int .i64 b2,.int .i64 b3,.bool false,.slice ia ni ni,.slice ka nk nk] 35) = v0 at *
   refine (CD.out _ B0.out).mono ?_
   rintro e v1 ⟨rfl,hb1⟩
   replace gT:=hid (keepheap hb1 gT.out)
   replace B0:=hid (btrans B0.out hb1)
   obtain ⟨a0,a1,a2,a3,a4,a5,a6,_,_,_,_,_,_,_⟩:=cell7k gT.out
   clear CD hb1
   have CRR:=hid (CR.out 2 v1 B0.out hz0)
   go_wp2_with fail
   refine CRR.out.mono ?_
   rintro e v2 ⟨rfl,hb2⟩
   replace gT:=hid (keepheap hb2 gT.out)
   replace B0:=hid (btrans B0.out hb2)
   clear CR CRR hb2 a0 a1 a2 a3 a4 a5 a6
   obtain ⟨a0,a1,a2,a3,a4,a5,a6,_,_,_,_,_,_,_⟩:=cell7k gT.out
   cases hrr:rgt dd t 2
   ·go_wp2_with fail
    go_ret
    exact ⟨by simp [hrr],B0.out⟩
   ·go_wp2_with fail
    refine (CT.out _ B0.out).mono ?_
    rintro e v3 ⟨g,c,rfl,hG,hb3⟩
    have HG:=hid hG
    replace B0:=hid (btrans B0.out hb3)
    clear CT hb3 hG a0 a1 a2 a3 a4 a5 a6
    by_cases hle:L.length ≤ 400
    ·have c1:(L.length:Int) ≤ 400:=by omega
     have CII:=hid (impl_idsApart g c L v3 HG.out.r hlen)
     go_wp2_with fail
     refine CII.out.mono ?_
     rintro e v4 ⟨rfl,hb4⟩
     replace B0:=hid (btrans B0.out hb4)
     clear CII hb4
     go_wp2_with fail
     go_ret
     exact ⟨by simp [hrr,hle,hz0],B0.out⟩
    ·have c1:¬ (L.length:Int) ≤ 400:=by omega
     go_wp2_with fail
     go_ret
     exact ⟨by simp [hle],B0.out⟩
 ·simp only [if_true]
  have hdd:=hid hd0
  have gT:=hid (new_alloc w w.heap.size (.cells #[.int .i64 b0,.int .i64 b1,.int .i64 b2,.int .i64 b3,.bool true,.slice ia ni ni,.slice ka nk nk] 35) rfl)
  have B0:=hid (balloc (Below.refl w.heap.size w) (.cells #[.int .i64 b0,.int .i64 b1,.int .i64 b2,.int .i64 b3,.bool true,.slice ia ni ni,.slice ka nk nk] 35))
  by_cases hz0:dd = 0
  ·subst hz0
   go_enter Tryz.func21,Tryz.ntmps21
   go_wp2_with fail
   generalize w.alloc (.cells #[.int .i64 b0,.int .i64 b1,.int .i64 b2,.int .i64 b3,.bool true,.slice ia ni ni,.slice ka nk nk] 35) = v0 at *
   refine (CD.out _ B0.out).mono ?_
   rintro e v1 ⟨rfl,hb1⟩
   replace gT:=hid (keepheap hb1 gT.out)
   replace B0:=hid (btrans B0.out hb1)
   obtain ⟨a0,a1,a2,a3,a4,a5,a6,_,_,_,_,_,_,_⟩:=cell7k gT.out
   clear CD CR CT CI hb1
   go_wp2_with fail
   go_ret
   exact ⟨by simp,B0.out⟩
  ·have hzI:¬ (dd:Int) = 0:=by omega
   have hzB:((dd:Int) == 0) = false:=by rw [beq_eq_false_iff_ne];exact hzI
   have hzD:decide (dd ≠ 0) = true:=decide_eq_true hz0
   go_enter Tryz.func21,Tryz.ntmps21
   go_wp2_with fail
   generalize w.alloc (.cells #[.int .i64 b0,.int .i64 b1,.int .i64 b2,.int .i64 b3,.bool true,.slice ia ni ni,.slice ka nk nk] 35) = v0 at *
   refine (CD.out _ B0.out).mono ?_
   rintro e v1 ⟨rfl,hb1⟩
   replace gT:=hid (keepheap hb1 gT.out)
   replace B0:=hid (btrans B0.out hb1)
   obtain ⟨a0,a1,a2,a3,a4,a5,a6,_,_,_,_,_,_,_⟩:=cell7k gT.out
   clear CD hb1
   have CRR:=hid (CR.out 0 v1 B0.out hz0)
   go_wp2_with fail
   refine CRR.out.mono ?_
   rintro e v2 ⟨rfl,hb2⟩
   replace gT:=hid (keepheap hb2 gT.out)
   replace B0:=hid (btrans B0.out hb2)
   clear CR CRR hb2 a0 a1 a2 a3 a4 a5 a6
   obtain ⟨a0,a1,a2,a3,a4,a5,a6,_,_,_,_,_,_,_⟩:=cell7k gT.out
   cases hrr:rgt dd t 0
   ·go_wp2_with fail
    go_ret
    exact ⟨by simp [hrr],B0.out⟩
   ·go_wp2_with fail
    refine (CT.out _ B0.out).mono ?_
    rintro e v3 ⟨g,c,rfl,hG,hb3⟩
    have HG:=hid hG
    replace B0:=hid (btrans B0.out hb3)
    clear CT hb3 hG a0 a1 a2 a3 a4 a5 a6
    by_cases hle:L.length ≤ 400
    ·have c1:(L.length:Int) ≤ 400:=by omega
     have CII:=hid (impl_idsApart g c L v3 HG.out.r hlen)
     go_wp2_with fail
     refine CII.out.mono ?_
     rintro e v4 ⟨rfl,hb4⟩
     replace B0:=hid (btrans B0.out hb4)
     clear CII hb4
     go_wp2_with fail
     go_ret
     exact ⟨by simp [hrr,hle,hz0],B0.out⟩
    ·have c1:¬ (L.length:Int) ≤ 400:=by omega
     go_wp2_with fail
     go_ret
     exact ⟨by simp [hle],B0.out⟩
theorem impl_TreeOk (m lo:Nat) (t:KT) (ia ka:Option Addr) (w:World) (h:Kn lo m w ia ka t) (hz:ksz m t ≤ 1048576):Calls Tryz.prog 21 #[kvo t ia ka] w fun e w' => e = .returned (.bool (tokS t)) ∧ Below w.heap.size w w':=by
 rw [← tok_same t]
 exact impl_TreeOkI m lo t ia ka w h hz
end Go.Proofs.YtjahlofahjgdbaaGreat
