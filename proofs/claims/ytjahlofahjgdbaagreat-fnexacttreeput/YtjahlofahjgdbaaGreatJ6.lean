/- Texts of stores, joined: DrawP, Fg, Fq. -/
import Derived.WalkKit
import Derived.WalkSpells
import Derived.Handy
import Derived.BigQuiet
import Derived.Deep.QuietTactic
import Derived.Laws.BitsAllLaws
import Derived.Test.YtjahlofahjgdbaaGreatJ5
import Derived.Maps.AppendAt
import Derived.Deep.AppendLies
import Derived.RangeFuncNested
import Derived.RangeFuncBound
import Derived.RangeFuncCalls
import Derived.RangeFuncLeaves
set_option maxRecDepth 100000
set_option maxHeartbeats 8000000
set_option linter.unusedSimpArgs false
set_option linter.unusedVariables false
namespace Go.Proofs.YtjahlofahjgdbaaGreat
open Go.RowKit
theorem grown_blk {w w1:World} {p n:Nat} {o:Obj} (h:w.grownBy w1 (some p)) (hb:w.heap[n]? = some o) (hne:n ≠ p):w1.heap[n]? = some o:=
 (h.block n (lt_of_block hb) (by simp;omega)).trans hb
theorem bgrown {w a b:World} {p:Nat} (h:Below w.heap.size w a) (hg:a.grownBy b (some p)) (hp:w.heap.size ≤ p):Below w.heap.size w b:=
 h.grown hg h.size (fun k hk => by simp at hk;omega)
theorem wpList_append_any {P:Program} {w:World} {ops:Array Oper} {rest:List Oper} {o:Oper} {a:Act} {Q:Exit → Act → World → Prop} (hgd:o.guard = none) (s x:Operand) (t:TypeId)
  (ho:o.op = .call { callee:=.builtin .append,args:=#[s,x],argTypes:=#[t,t] })
  (base:Nat) (e:TypeId) (i:TypeInfo) (z:Value) (size bytes:Nat) (ht:P.underlying t = some (.slice e)) (hi:P.info? e = some i) (hz:i.zero = some z)
  (hsize:i.size = size) (hby:i.bytes = bytes) (hzs:z.cells.size = size) (hsz:0 < size)
  (g0 n0 cap0:Nat) (n:Nat) (xs:List Value) (hs:a.eval s = .slice (some ⟨g0,0,none⟩) n0 cap0) (hown:w.ownsRow base e size (.slice (some ⟨g0,0,none⟩) n0 cap0) n xs)
  (ad:Addr) (m c:Nat) (news:List Value) (hx:a.eval x = .slice (some ad) m c) (hl:news.length = m * size) (hnews:∀ j u,news[j]? = some u → w.cell? (ad.add j) = some u) (h1:∀ u ∈ news,u.oneCell' = true)
  (h63:n + m ≤ maxLen) (hbytes:(n + m) * bytes ≤ 140737488355328) (hbase:base ≤ w.heap.size)
  (h:∀ g cap w',w'.ownsRow base e size (.slice (some ⟨g,0,none⟩) (n + m) cap) (n + m) (xs ++ news) → w.grownBy w' (some g0) → (g = g0 ∨ g = w.heap.size) → wpList P ops Q rest (a.put o.dst (.slice (some ⟨g,0,none⟩) (n + m) cap)) w'):wpList P ops Q (o :: rest) a w:=by
 refine wpList_plain hgd fun K hK => ?_
 obtain ⟨v',w',hr,h2,h3,h4,h5⟩:=run_append_own_at (P:=P) w base t o.type e i z size bytes ht hi hz hsize hby hzs hsz _ n xs hown ad m c news hl hnews h1 h63 hbytes hbase
 have hne:v' ≠ .slice none 0 0:=fun e => by have:=(h4.1 e).1;cases this
 obtain ⟨g,cap,cur,rfl,_⟩:∃ g cap cur,v' = .slice (some ⟨g,0,none⟩) (n + m) cap ∧ cur = ():=by
  rcases h2.2 with ⟨q,_⟩ | ⟨g,cap,cur,e,_⟩
  ·exact absurd q hne
  ·exact ⟨g,cap,(),e,rfl⟩
 unfold Oper.wp execOp
 simp only [ho,resolve,invoke,builtin,Sem.run_bind,Sem.run_pure,Result.andThen_ok,List.map_toArray,List.map_cons,List.map_nil,hs,hx,hr]
 refine hK _ _ (h g cap w' h2 h3 ?_)
 rcases h5 with h5 | h5
 ·left;simpa [Value.ownBlock] using h5
 ·right;simpa [Value.ownBlock] using h5
def flI (l:List It):List Value:=l.flatMap ci
theorem flI_app (a b:List It):flI (a ++ b) = flI a ++ flI b:=List.flatMap_append
theorem flI_len:∀ l:List It,(flI l).length = l.length * 5
 | [] => rfl
 | x :: r => by
  show (ci x ++ flI r).length = _
  rw [List.length_append,flI_len r]
  simp [ci];omega
theorem flI_one (l:List It):∀ u ∈ flI l,u.oneCell' = true:=by
 intro u hu
 obtain ⟨x,_,hx⟩:=List.mem_flatMap.1 hu
 simp only [ci,List.mem_cons,List.not_mem_nil,or_false] at hx
 rcases hx with rfl | rfl | rfl | rfl | rfl <;> rfl
theorem flI_cell {w:World} {b:Nat}:∀ (l:List It) (o:Nat),(∀ j (h:j < l.length),Cs w b (o + j * 5) (ci l[j])) → Cs w b o (flI l)
 | [],o,_ => fun i v e => by cases e
 | x :: r,o,h => by
  intro i v e
  have e':(ci x ++ flI r)[i]? = some v:=e
  by_cases hi:i < 5
  ·have h0:=h 0 (by simp)
   rw [List.getElem?_append_left (by simp [ci];omega)] at e'
   have:=h0 i v e'
   rwa [Nat.zero_mul,Nat.add_zero] at this
  ·rw [List.getElem?_append_right (by simp [ci];omega)] at e'
   have hl:(ci x).length = 5:=rfl
   rw [hl] at e'
   have:=flI_cell r (o + 5) (fun j hj => by
    have:=h (j + 1) (by simp;omega)
    rw [show o + (j + 1) * 5 = o + 5 + j * 5 by omega] at this
    exact this) (i - 5) v e'
   rwa [show o + 5 + (i - 5) = o + i by omega] at this
theorem cell_flI {w:World} {b:Nat}:∀ (l:List It) (o:Nat),Cs w b o (flI l) → ∀ j (h:j < l.length),Cs w b (o + j * 5) (ci l[j])
 | [],o,_,j,h => by cases h
 | x :: r,o,H,0,h => fun i v e0 => by
  have e:(ci x)[i]? = some v:=e0
  have:=H i v (show (ci x ++ flI r)[i]? = some v by
   rw [List.getElem?_append_left (List.getElem?_eq_some_iff.1 e).1];exact e)
  rwa [Nat.zero_mul,Nat.add_zero]
 | x :: r,o,H,j + 1,h => by
  have:=cell_flI r (o + 5) (fun i v e => by
   have:=H (i + 5) v (show (ci x ++ flI r)[i + 5]? = some v by
    rw [List.getElem?_append_right (by simp [ci])]
    have hl:(ci x).length = 5:=rfl
    rw [hl,Nat.add_sub_cancel];exact e)
   rwa [show o + (i + 5) = o + 5 + i by omega] at this) j (by simpa using h)
  rw [show o + (j + 1) * 5 = o + 5 + j * 5 by omega]
  exact this
def ItG (w:World) (B g c:Nat) (l:List It):Prop:=w.ownsRow B 40 5 (.slice (some ⟨g,0,none⟩) l.length c) l.length (flI l)
theorem ItG.cs {w:World} {B g c:Nat} {l:List It} (h:ItG w B g c l):Cs w g 0 (flI l):=by
 have hc:=World.ownsRow.cells h (g:=g) rfl
 intro i v e
 have:=hc i v e
 have ha:(⟨g,0,none⟩:Addr).add i = ⟨g,0 + i,none⟩:=Addr.add_mid g 0 i
 rwa [ha] at this
theorem ItG.lt {w:World} {B g c:Nat} {l:List It} (h:ItG w B g c l):B ≤ g ∧ g < w.heap.size:=World.ownsRow.lt h g rfl
theorem ItG.r {w:World} {B g c:Nat} {l:List It} (h:ItG w B g c l):ItR w g l:=⟨h.lt.2,fun j hj => by
 have:=cell_flI l 0 h.cs j hj
 rwa [Nat.zero_add] at this⟩
theorem ItG.below {w w':World} {B g c:Nat} {l:List It} (h:ItG w B g c l) (H:Below w.heap.size w w'):ItG w' B g c l:=
 World.ownsRow.kept h (row:=none) ⟨H.os,H.tape,H.output,H.size,fun k hk _ => H.block k hk⟩ (.inr (by simp [Value.ownBlock]))
theorem itm_part (n:Nat) (t:KT) (k:Nat):(t.its ++ (t.kids.take k).flatMap (itm n)).length ≤ (itm (n + 1) t).length:=by
 show _ ≤ (t.its ++ t.kids.flatMap (itm n)).length
 conv => rhs;rw [← List.take_append_drop k t.kids]
 rw [List.flatMap_append,List.length_append,List.length_append,List.length_append]
 omega
theorem itm_take {n:Nat} {t:KT} {k:Nat} (h:k < t.kids.length):t.its ++ (t.kids.take (k + 1)).flatMap (itm n) = t.its ++ (t.kids.take k).flatMap (itm n) ++ itm n t.kids[k]:=by
 rw [List.take_add_one,List.getElem?_eq_getElem h,Option.toList_some,List.flatMap_append,List.append_assoc]
 simp
theorem kn_itm {lo:Nat}:∀ (m n:Nat) {w:World} {ia ka:Option Addr} {t:KT},Kn lo m w ia ka t → (itm n t).length ≤ ksz m t
 | 0,n,_,_,_,_,h => h.elim
 | m + 1,n,w,ia,ka,t,h => by
  obtain ⟨bi,bk,h1,h2,h3,h4,h5,h6,h7,h8⟩:=h
  show _ ≤ t.its.length + t.kids.length + (t.kids.map (ksz m)).sum
  cases n with
  | zero => show t.its.length ≤ _;omega
  | succ n =>
   show (t.its ++ t.kids.flatMap (itm n)).length ≤ _
   rw [List.length_append,List.length_flatMap]
   have hk:∀ k ∈ t.kids,(itm n k).length ≤ ksz m k:=by
    intro k hk
    obtain ⟨j,hj,rfl⟩:=List.getElem_of_mem hk
    obtain ⟨ia',ka',_,k2⟩:=h8 j hj
    exact kn_itm m n k2
   clear h8 h7
   generalize t.kids = l at *
   have hs:(l.map (fun a => (itm n a).length)).sum ≤ (l.map (ksz m)).sum:=by
    clear h6 h5 h3 h4 h1 h2
    induction l with
    | nil => exact Nat.le_refl _
    | cons x r ih =>
     rw [List.map_cons,List.sum_cons,List.map_cons,List.sum_cons]
     have h1:=hk x (by simp)
     have h2:=ih (fun k hk' => hk k (by simp [hk']))
     omega
   omega
theorem ofG {w:World} {B g c n:Nat} {l:List It} {vs:List Value} (h:w.ownsRow B 40 5 (.slice (some ⟨g,0,none⟩) n c) n vs) (hn:n = l.length) (hv:vs = flI l):ItG w B g c l:=by
 subst hn hv;exact h
theorem items_step (n:Nat) (IH:∀ n',n = n' + 1 → ∀ (m lo:Nat) (t:KT) (ia ka:Option Addr) (w:World),Kn lo m w ia ka t → ksz m t ≤ 1048576 → Calls Tryz.prog 69 #[kvo t ia ka,.int .i64 n'] w fun e w' => ∃ g c,e = .returned (.slice (some ⟨g,0,none⟩) (itm n' t).length c) ∧ ItG w' w.heap.size g c (itm n' t) ∧ Below w.heap.size w w')
  (m lo:Nat) (t:KT) (ia ka:Option Addr) (w:World) (hn20:n ≤ 20) (h:Kn lo m w ia ka t) (hz:ksz m t ≤ 1048576):Calls Tryz.prog 69 #[kvo t ia ka,.int .i64 n] w fun e w' => ∃ g c,e = .returned (.slice (some ⟨g,0,none⟩) (itm n t).length c) ∧ ItG w' w.heap.size g c (itm n t) ∧ Below w.heap.size w w':=by
 have hlen:=Nat.le_trans (kn_itm m n h) hz
 cases m with
 | zero => exact h.elim
 | succ m =>
 obtain ⟨bi,bk,rfl,rfl,h3,h4,h5,h6,h7,h8⟩:=h
 have hz2:t.its.length ≤ 1048576 ∧ t.kids.length ≤ 1048576:=by unfold ksz at hz;omega
 obtain ⟨i0,hi0,hz0,hz1,hzz⟩:=info_parts Tryz.infoIt
 have hN5:=flI_len t.its
 have hsz1:(w.alloc (.cells #[.int .i64 t.box.1,.int .i64 t.box.2.1,.int .i64 t.box.2.2.1,.int .i64 t.box.2.2.2,.bool t.lf,.slice (some ⟨bi,0,none⟩) t.its.length t.its.length,.slice (some ⟨bk,0,none⟩) t.kids.length t.kids.length] 35)).heap.size = w.heap.size + 1:=by simp
 have hown:=World.ownsRow_made (base:=w.heap.size) (e:=40) (size:=5) (w.alloc (.cells #[.int .i64 t.box.1,.int .i64 t.box.2.1,.int .i64 t.box.2.2.1,.int .i64 t.box.2.2.2,.bool t.lf,.slice (some ⟨bi,0,none⟩) t.its.length t.its.length,.slice (some ⟨bk,0,none⟩) t.kids.length t.kids.length] 35)) #[] 0 (by simp) (by decide) rfl
 rw [hsz1] at hown
 have HOW:Hid (((w.alloc (.cells #[.int .i64 t.box.1,.int .i64 t.box.2.1,.int .i64 t.box.2.2.1,.int .i64 t.box.2.2.2,.bool t.lf,.slice (some ⟨bi,0,none⟩) t.its.length t.its.length,.slice (some ⟨bk,0,none⟩) t.kids.length t.kids.length] 35)).alloc (.cells #[] 40)).ownsRow w.heap.size 40 5 (.slice (some ⟨w.heap.size + 1,0,none⟩) 0 0) 0 []):=hid hown
 clear hown hsz1
 have hbb:Below w.heap.size w ((w.alloc (.cells #[.int .i64 t.box.1,.int .i64 t.box.2.1,.int .i64 t.box.2.2.1,.int .i64 t.box.2.2.2,.bool t.lf,.slice (some ⟨bi,0,none⟩) t.its.length t.its.length,.slice (some ⟨bk,0,none⟩) t.kids.length t.kids.length] 35)).alloc (.cells #[] 40)):=balloc (balloc (Below.refl _ _) _) _
 have HNW:Hid (∀ j u,(flI t.its)[j]? = some u → ((w.alloc (.cells #[.int .i64 t.box.1,.int .i64 t.box.2.1,.int .i64 t.box.2.2.1,.int .i64 t.box.2.2.2,.bool t.lf,.slice (some ⟨bi,0,none⟩) t.its.length t.its.length,.slice (some ⟨bk,0,none⟩) t.kids.length t.kids.length] 35)).alloc (.cells #[] 40)).cell? ((⟨bi,0,none⟩:Addr).add j) = some u):=hid (fun j u e => by
  rw [Addr.add_mid bi 0 j]
  exact flI_cell t.its 0 (fun j hj => by have:=(h5.2.1 j hj).below h5.1 hbb;rwa [Nat.zero_add]) j u e)
 have HF1:=hid (flI_one t.its)
 have gT0:((w.alloc (.cells #[.int .i64 t.box.1,.int .i64 t.box.2.1,.int .i64 t.box.2.2.1,.int .i64 t.box.2.2.2,.bool t.lf,.slice (some ⟨bi,0,none⟩) t.its.length t.its.length,.slice (some ⟨bk,0,none⟩) t.kids.length t.kids.length] 35)).alloc (.cells #[] 40)).heap[w.heap.size]? = some (.cells #[.int .i64 t.box.1,.int .i64 t.box.2.1,.int .i64 t.box.2.2.1,.int .i64 t.box.2.2.2,.bool t.lf,.slice (some ⟨bi,0,none⟩) t.its.length t.its.length,.slice (some ⟨bk,0,none⟩) t.kids.length t.kids.length] 35 (0,0)):=old_alloc (new_alloc w w.heap.size _ rfl)
 have HGT:=hid gT0
 have HSZ:=hid (show ((w.alloc (.cells #[.int .i64 t.box.1,.int .i64 t.box.2.1,.int .i64 t.box.2.2.1,.int .i64 t.box.2.2.2,.bool t.lf,.slice (some ⟨bi,0,none⟩) t.its.length t.its.length,.slice (some ⟨bk,0,none⟩) t.kids.length t.kids.length] 35)).alloc (.cells #[] 40)).heap.size = w.heap.size + 2 by simp)
 have HBB:=hid hbb
 have HKD:Hid (∀ j (h:j < t.kids.length),∃ ia' ka',Cs w bk (j * 7) (ck t.kids[j] ia' t.kids[j].its.length ka' t.kids[j].kids.length) ∧ Kn lo m w ia' ka' t.kids[j]):=hid h8
 have HKZ:=hid (fun k (hk:k ∈ t.kids) => Nat.le_trans (ksz_kid hk) hz)
 have hIH:=hid IH
 have HPR:=hid (fun k (hn:n ≠ 0) => show (t.its ++ (t.kids.take k).flatMap (itm (n - 1))).length ≤ 1048576 from Nat.le_trans (itm_part (n - 1) t k) (by rw [show n - 1 + 1 = n by omega];exact hlen))
 have HFN:=hid (fun (hn:n ≠ 0) => show itm n t = t.its ++ (t.kids.take t.kids.length).flatMap (itm (n - 1)) by
  obtain ⟨n',rfl⟩:∃ n',n = n' + 1:=⟨n - 1,by omega⟩
  rw [List.take_length];rfl)
 have HF0:=hid (fun (hn:n = 0) => show itm n t = t.its by subst hn;rfl)
 have HTK:=hid (fun k (hk:k < t.kids.length) => itm_take (n:=n - 1) hk)
 clear gT0 hbb h5 h7 h8 IH hz hlen
 unfold kvo kv
 generalize t.box.1 = b0 at *
 generalize t.box.2.1 = b1 at *
 generalize t.box.2.2.1 = b2 at *
 generalize t.box.2.2.2 = b3 at *
 generalize t.lf = b4 at *
 generalize hni:t.its.length = ni at hz2 HOW HNW HGT HSZ HBB hN5 ⊢
 generalize hnk:t.kids.length = nk at hz2 HOW HNW HGT HSZ HBB ⊢
 go_enter Tryz.func69,Tryz.ntmps69
 go_wp2_with (at_builtin;(refine wpList_append_any rfl (.tmp 7) (.tmp 9) 32 rfl w.heap.size 40 i0 _ 5 40 Tryz.underlying32 hi0 hz0 hz1 hzz rfl (by decide) (w.heap.size + 1) 0 0 0 [] (by rfl) HOW.out ⟨bi,0,none⟩ ni ni (flI t.its) (by rfl) hN5 HNW.out HF1.out (by unfold maxLen;omega) (by omega) (by rw [HSZ.out];omega) ?_;intro gg cp w2 hown1 hgrow hat))
 have hgg:w.heap.size < gg:=by
  rcases hat with h | h
  ·omega
  ·rw [HSZ.out] at h;omega
 have gT:=hid (grown_blk (p:=w.heap.size + 1) hgrow HGT.out (by omega))
 have B0:=hid (bgrown HBB.out hgrow (by omega))
 have G0:Hid (ItG w2 w.heap.size gg cp t.its):=hid (ofG hown1 (by omega) (by simp))
 have hlen0:0 + ni = t.its.length:=by omega
 clear hown1 hgrow hat HOW HNW HF1 HGT HSZ HBB hN5
 go_loopw [5,6] (fun t5 t6 wr => ∃ (k g c:Nat) (P:List It),t6 = .int .i64 k ∧ k ≤ nk ∧ (k ≠ 0 → n ≠ 0) ∧ t5 = .slice (some ⟨g,0,none⟩) P.length c ∧ P = (if n = 0 then t.its else t.its ++ (t.kids.take k).flatMap (itm (n - 1))) ∧ w.heap.size < g ∧ ItG wr w.heap.size g c P ∧ wr.heap[w.heap.size]? = some (.cells #[.int .i64 b0,.int .i64 b1,.int .i64 b2,.int .i64 b3,.bool b4,.slice (some ⟨bi,0,none⟩) ni ni,.slice (some ⟨bk,0,none⟩) nk nk] 35 (0,0)) ∧ Below w.heap.size w wr) (fun _ t6 _ => nk - (intOf t6).toNat)
 case atStart => exact ⟨0,gg,cp,t.its,rfl,Nat.zero_le _,fun h => absurd rfl h,by rw [hni],by split <;> simp,hgg,G0.out,gT.out,B0.out⟩
 case round =>
  clear gT B0 G0
  obtain ⟨k,g,c,P,rfl,hk,hkn,rfl,hP,hgl,hG,hgT,hB⟩:=hrel
  have HG:=hid hG
  have gT:=hid hgT
  have B0:=hid hB
  have HP:=hid hP
  clear hG hgT hB hP
  obtain ⟨a0,a1,a2,a3,a4,a5,a6,_,_,_,_,_,_,_⟩:=cell7k gT.out
  by_cases hlt:k < nk
  ·have hk1:(k:Int) < (nk:Int):=by omega
   have hk0:(0:Int) ≤ (k:Int):=by omega
   by_cases hn:n = 0
   ·have hnI:¬ (0:Int) < (n:Int):=by omega
    have HPf:Hid (itm n t = P):=hid (by rw [HP.out,if_pos hn];exact HF0.out hn)
    clear hn hkn
    go_wp2_with fail
    go_ret
    rw [HPf.out]
    exact ⟨g,c,rfl,HG.out,B0.out⟩
   ·have hnI:(0:Int) < (n:Int):=by omega
    have hkt:k < t.kids.length:=by omega
    obtain ⟨ia',ka',q1,q2⟩:=HKD.out k hkt
    obtain ⟨c0,c1,c2,c3,c4,c5,c6⟩:=(q1.below h6 B0.out).knot
    have C:=hid (hIH.out (n - 1) (by omega) m lo t.kids[k] ia' ka' wr (q2.below B0.out) (HKZ.out _ (List.getElem_mem hkt)))
    have hPk:t.its ++ (t.kids.take (k + 1)).flatMap (itm (n - 1)) = P ++ itm (n - 1) t.kids[k]:=by rw [HTK.out k hkt,HP.out,if_neg hn]
    have hPl:=HPR.out (k + 1) hn
    rw [hPk,List.length_append] at hPl
    have HPk:=hid hPk
    have hQ5:=flI_len (itm (n - 1) t.kids[k])
    have HQ1:=hid (flI_one (itm (n - 1) t.kids[k]))
    have hwn:IntKind.i64.wrap ((n:Int) - 1) = ((n - 1:Nat):Int):=by rw [IntKind.wrap_i64];omega
    unfold kvo kv at C
    clear q1 q2 hPk
    generalize itm (n - 1) t.kids[k] = Q at *
    generalize t.kids[k].box.1 = d0 at *
    generalize t.kids[k].box.2.1 = d1 at *
    generalize t.kids[k].box.2.2.1 = d2 at *
    generalize t.kids[k].box.2.2.2 = d3 at *
    generalize t.kids[k].lf = d4 at *
    generalize t.kids[k].its.length = d5 at c5 C
    generalize t.kids[k].kids.length = d6 at c6 C
    generalize hnn:n - 1 = nn at hwn C
    go_wp2_with fail
    refine C.out.mono ?_
    rintro e w1 ⟨g2,cc2,rfl,hG2,hb1⟩
    have HG1:=hid (HG.out.below hb1)
    have HC2:=hid (World.ownsRow.cells hG2 (g:=g2) rfl)
    have gT1:=hid (keepheap hb1 gT.out)
    have B1:=hid (btrans B0.out hb1)
    have hsz1:=B1.out.size
    have hg1:=HG.out.lt
    have hhs:=hb1.size
    clear hG2 hb1 C gT B0 a0 a1 a2 a3 a4 a5 a6 HG
    go_wp2_with (at_builtin;(refine wpList_append_any rfl (.tmp 22) (.tmp 30) 32 rfl w.heap.size 40 i0 _ 5 40 Tryz.underlying32 hi0 hz0 hz1 hzz rfl (by decide) g P.length c P.length (flI P) (by rfl) HG1.out ⟨g2,0,none⟩ Q.length cc2 (flI Q) (by rfl) hQ5 HC2.out HQ1.out (by unfold maxLen;omega) (by omega) hsz1 ?_;intro gg cp w2 hown1 hgrow hat))
    have hgg2:w.heap.size < gg:=by
     rcases hat with h | h
     ·omega
     ·omega
    have gT2:=hid (grown_blk (p:=g) hgrow gT1.out (by omega))
    have B2:=hid (bgrown B1.out hgrow (by omega))
    have G2:Hid (ItG w2 w.heap.size gg cp (P ++ Q)):=hid (ofG hown1 (by rw [List.length_append]) (by rw [flI_app]))
    clear hown1 hgrow hat
    go_wp2_with fail
    go_roundw
    case rel => exact ⟨k + 1,gg,cp,P ++ Q,by go_num,by omega,fun _ => hn,by rw [List.length_append],by rw [if_neg hn];subst hnn;exact HPk.out.symm,hgg2,G2.out,gT2.out,B2.out⟩
    case measure => simp [intOf];omega
  ·have hk1:¬ (k:Int) < (nk:Int):=by omega
   have HPf:Hid (itm n t = P):=hid (by
    rw [HP.out]
    split
    ·exact HF0.out (by assumption)
    ·have e:k = t.kids.length:=by omega
     rw [e];exact HFN.out (by assumption))
   go_wp2_with fail
   go_ret
   rw [HPf.out]
   exact ⟨g,c,rfl,HG.out,B0.out⟩
theorem spec_items (n:Nat):n ≤ 20 → ∀ (m lo:Nat) (t:KT) (ia ka:Option Addr) (w:World),Kn lo m w ia ka t → ksz m t ≤ 1048576 → Calls Tryz.prog 69 #[kvo t ia ka,.int .i64 n] w fun e w' => ∃ g c,e = .returned (.slice (some ⟨g,0,none⟩) (itm n t).length c) ∧ ItG w' w.heap.size g c (itm n t) ∧ Below w.heap.size w w':=by
 induction n with
 | zero => exact fun h20 m lo t ia ka w h hz => items_step 0 (fun n' e => by omega) m lo t ia ka w h20 h hz
 | succ n ih =>
  intro h20 m lo t ia ka w h hz
  refine items_step (n + 1) (fun n' e => ?_) m lo t ia ka w h20 h hz
  have e':n' = n:=by omega
  subst e'
  exact ih (by omega)
structure Tn (M:Obj → Bool) (B:Nat) (W W':World):Prop where
 os:W'.os = W.os
 tape:W'.tape = W.tape
 output:W'.output = W.output
 size:W.heap.size ≤ W'.heap.size
 old:∀ k,k < W.heap.size → (k < B ∨ ∀ o,W.heap[k]? = some o → M o = false) → W'.heap[k]? = W.heap[k]?
theorem Tn.trans {M:Obj → Bool} {B:Nat} {X Y Z:World} (h:Tn M B X Y) (k:Tn M B Y Z):Tn M B X Z:=
 ⟨k.os.trans h.os,k.tape.trans h.tape,k.output.trans h.output,Nat.le_trans h.size k.size,fun i hi hc => by
  have e:=h.old i hi hc
  exact (k.old i (Nat.lt_of_lt_of_le hi h.size) (by rw [e];exact hc)).trans e⟩
theorem Tn.mono {M:Obj → Bool} {B B':Nat} {X Y:World} (h:Tn M B X Y) (hB:B' ≤ B):Tn M B' X Y:=
 ⟨h.os,h.tape,h.output,h.size,fun i hi hc => h.old i hi (hc.imp (fun e => Nat.lt_of_lt_of_le e hB) id)⟩
theorem Tn.of_below {M:Obj → Bool} {B:Nat} {X Y:World} (h:Below X.heap.size X Y):Tn M B X Y:=⟨h.os,h.tape,h.output,h.size,fun i hi _ => h.block i hi⟩
theorem Tn.put {M:Obj → Bool} {B l:Nat} {W:World} {o:Obj} (o':Obj) (hl:W.heap[l]? = some o) (ho:M o = true) (hB:B ≤ l):Tn M B W (W.putObj l o'):=
 ⟨rfl,rfl,rfl,by simp,fun i hi hc => by
  refine World.putObj_heap_other (fun e => ?_)
  subst e
  rcases hc with hc | hc
  ·omega
  ·rw [hc o hl] at ho;cases ho⟩
theorem Tn.set {M:Obj → Bool} {B:Nat} {W:World} {p:Addr} {o:Obj} (v:Value) (hl:W.heap[p.block]? = some o) (ho:M o = true) (hB:B ≤ p.block):Tn M B W (W.setCell p v):=
 ⟨rfl,rfl,rfl,(KeepsWalks.setCell W p v).size,fun i hi hc => by
  refine Below.heap_setCell W p v i (fun e => ?_)
  subst e
  rcases hc with hc | hc
  ·omega
  ·rw [hc o hl] at ho;cases ho⟩
def Ab {β:Type} (M:Obj → Bool) (B:Nat) (I:β → World → Prop):Prop:=∀ s W W',I s W → Tn M B W W' → I s W'
theorem Tn.below {M:Obj → Bool} {B n:Nat} {X Y:World} (h:Tn M B X Y) (hn:n ≤ B) (hx:n ≤ X.heap.size):Below n X Y:=
 ⟨h.os,h.tape,h.output,h.size,fun i hi => h.old i (Nat.lt_of_lt_of_le hi hx) (.inl (Nat.lt_of_lt_of_le hi hn))⟩
structure Kp (M:Obj → Bool) (B n:Nat) (W W':World):Prop where
 below:Below n W W'
 mine:∀ k o,B ≤ k → W.heap[k]? = some o → M o = true → W'.heap[k]? = some o
theorem Kp.refl (M:Obj → Bool) (B n:Nat) (W:World):Kp M B n W W:=⟨Below.refl _ _,fun _ _ _ h _ => h⟩
theorem Kp.trans {M:Obj → Bool} {B n:Nat} {X Y Z:World} (h:Kp M B n X Y) (k:Kp M B n Y Z):Kp M B n X Z:=⟨h.below.trans k.below,fun i o hi ho hm => k.mine i o hi (h.mine i o hi ho hm) hm⟩
theorem Kp.mono {M:Obj → Bool} {B B' n:Nat} {X Y:World} (h:Kp M B n X Y) (hB:B ≤ B'):Kp M B' n X Y:=⟨h.below,fun i o hi ho hm => h.mine i o (Nat.le_trans hB hi) ho hm⟩
theorem lt_of_heap {W:World} {k:Nat} {o:Obj} (h:W.heap[k]? = some o):k < W.heap.size:=(Array.getElem?_eq_some_iff.1 h).1
theorem Kp.of_below {M:Obj → Bool} {B n:Nat} {X Y:World} (h:Below X.heap.size X Y) (hn:n ≤ X.heap.size):Kp M B n X Y:=⟨h.mono hn,fun i o _ ho _ => (h.block i (lt_of_heap ho)).trans ho⟩
theorem Kp.belowR {M:Obj → Bool} {B n:Nat} {X Y Z:World} (h:Kp M B n X Y) (k:Below Y.heap.size Y Z) (hn:n ≤ X.heap.size):Kp M B n X Z:=h.trans (Kp.of_below k (Nat.le_trans hn h.below.size))
theorem Kp.tn {M:Obj → Bool} {B C n:Nat} {X Y Z:World} (h:Kp M B n X Y) (t:Tn M C Y Z) (hC:X.heap.size ≤ C) (hn:n ≤ X.heap.size):Kp M B n X Z:=
 ⟨h.below.trans (t.below (Nat.le_trans hn hC) (Nat.le_trans hn h.below.size)),fun i o hi ho hm => by
  have h1:=h.mine i o hi ho hm
  have:=lt_of_heap ho
  exact (t.old i (lt_of_heap h1) (.inl (by omega))).trans h1⟩
theorem Kp.put {M:Obj → Bool} {B n l:Nat} {X Y:World} (h:Kp M B n X Y) (o':Obj) (hn:n ≤ l) (hl:l < B) (hy:n ≤ Y.heap.size):Kp M B n X (Y.putObj l o'):=
 h.trans ⟨⟨rfl,rfl,rfl,by simp,fun i hi => World.putObj_heap_other (by omega)⟩,fun i o hi ho _ => (World.putObj_heap_other (by omega)).trans ho⟩
theorem Kp.set {M:Obj → Bool} {B n:Nat} {X Y:World} {p:Addr} (h:Kp M B n X Y) (v:Value) (hn:n ≤ p.block) (hl:p.block < B ∨ X.heap.size ≤ p.block ∨ ∀ o,Y.heap[p.block]? = some o → M o = false):Kp M B n X (Y.setCell p v):=
 ⟨h.below.setCell hn v,fun i o hi ho hm => by
  have h1:=h.mine i o hi ho hm
  refine (Below.heap_setCell Y p v i (fun e => ?_)).trans h1
  subst e
  rcases hl with hl | hl | hl
  ·omega
  ·have:=lt_of_heap ho;omega
  ·rw [hl o h1] at hm;cases hm⟩
theorem Kp.grown {M:Obj → Bool} {B n:Nat} {X Y Z:World} {row:Option Nat} (h:Kp M B n X Y) (hg:Y.grownBy Z row) (hn:n ≤ Y.heap.size) (hr:∀ r,row = some r → n ≤ r ∧ (r < B ∨ ∀ o,Y.heap[r]? = some o → M o = false)):Kp M B n X Z:=
 ⟨h.below.grown hg hn (fun k e => (hr k e).1),fun i o hi ho hm => by
  have h1:=h.mine i o hi ho hm
  refine (hg.block i (lt_of_heap h1) (fun e => ?_)).trans h1
  rcases (hr i e.symm).2 with hl | hl
  ·omega
  ·rw [hl o h1] at hm;cases hm⟩
def SeqN (F:Fence) (n:Nat) (P:Program) (M:Obj → Bool) (g:Nat) (first lb:Array Value) (n0 N:Nat) (E:Nat → Value → World → Prop) (G:World → Prop) (w:World):Prop:=
 ∀ (l:Nat) (J Jx:Nat → World → Prop) (W:World),(∀ k X,J k X → G X) → Below w.heap.size w W → Ab M W.heap.size J → Ab M W.heap.size Jx →
  (∀ k v W1,k < N → J k W1 → E k v W1 → Below n0 W W1 → YieldAt F (n - 1) P l #[v] W1 fun e W' => ((e = .returned (.bool true) ∧ J (k + 1) W') ∨ (e = .returned (.bool false) ∧ Jx k W')) ∧ Kp M W.heap.size n0 W1 W') →
  J 0 W →
  CallsIn F n P g (first ++ #[.func (.yield l) #[] #[]] ++ lb) W fun e W' => (∃ v,e = .returned v) ∧ (J N W' ∨ ∃ k,k < N ∧ Jx k W') ∧ Below n0 W W'
def postN (K:World → Prop) (I:Nat → World → Prop) (Ix:Code → Nat → World → Prop) (k:Nat):Exit → Act → World → Prop
 | .normal,_,W' => K W' ∧ I (k + 1) W'
 | .ret,_,W' => K W' ∧ Ix .ret k W'
 | .exit id,_,W' => K W' ∧ Ix (.exit id) k W'
 | .goto t,_,W' => K W' ∧ Ix (.goto t) k W'
 | .panic _,_,_ => False
 | .outgrown,_,_ => False
theorem wpIn_rangeN {F:Fence} {n:Nat} {P:Program} {M:Obj → Bool} {g:Operand} {p:Tmp} {assign body:Code} {Q:Exit → Act → World → Prop} {a:Act} {w w0:World}
  (hro:F.round = none) (h1:F.depth.isSome = true → 1 ≤ n) {gf:Nat} {first lb:Array Value} (hg:a.eval g = .func (.func gf) first lb) (hFg:F.fn gf) (eg:∀ args w,(callFunc gf args).run P w = .ok (.enter gf args) w)
  (hM1:∀ r,M (.loop r) = true) (hM2:∀ d,M (.deferred d) = true) {n0 N:Nat} {E:Nat → Value → World → Prop} {G:World → Prop} (hseq:SeqN F (n - 1) P M gf first lb n0 N E G w0) (hb0:Below w0.heap.size w0 w) (hn0:n0 ≤ w.heap.size)
  (I:Nat → World → Prop) (Ix:Code → Nat → World → Prop) (hG:∀ k X,I k X → G X) (hI:Ab M w.heap.size I) (hIx:∀ c,Ab M w.heap.size (Ix c)) (h0:I 0 w)
  (Ax:Nat → Act → World → Prop) (hAx:∀ k a' W l r r',Ax k a' W → W.heap[l]? = some (.loop r) → w.heap.size ≤ l → Ax k a' (W.putObj l (.loop r')))
  (hassign:∀ l k v W,k < N → I k W → E k v W → w.heap.size ≤ W.heap.size → Below n0 w W → assign.wpIn (F.inRound l) (n - 1 - 1) P (Exit.then (fun a' W' => Kp M w.heap.size n0 W W' ∧ Ax k a' W') (fun _ _ _ => False)) { tmps:=a.tmps.setIfInBounds p v,defers:=[] } W)
  (hbody:∀ l k a' W,k < N → Ax k a' W → body.wpIn (F.inRound l) (n - 1 - 1) P (postN (Kp M w.heap.size n0 W) I Ix k) a' W)
  (hdone:∀ W,I N W → W.heap[w.heap.size]? = some (.deferred (some [])) → Below n0 w W → Q .normal { a with defers:={ target:=.collected w.heap.size,args:=#[] } :: a.defers } W)
  (hstop:∀ c k W,k < N → Ix c k W → W.heap[w.heap.size]? = some (.deferred (some [])) → Below n0 w W → c.wpIn F n P Q { a with defers:={ target:=.collected w.heap.size,args:=#[] } :: a.defers } W) :
  (Code.rangeFunc g #[p] assign body).wpIn F n P Q a w:=by
 refine wpIn_rangeFunc ?_
 intro fn hfn
 rw [hro]
 obtain ⟨rec,hrec⟩:∃ rec:LoopState → Option Code → Loop,rec = fun st pe => { state:=st,pending:=pe,fn,tmps:=a.tmps,params:=#[p],assign,body,defers:=w.heap.size }:=⟨_,rfl⟩
 obtain ⟨W1,hW1⟩:∃ W1,(w.alloc (.deferred (some []))).alloc (.loop (rec .ready none)) = W1:=⟨_,rfl⟩
 have hL1:W1.heap[w.heap.size + 1]? = some (.loop (rec .ready none)):=by
  rw [← hW1];have:=World.alloc_heap_new (w.alloc (.deferred (some []))) (.loop (rec .ready none));rwa [World.size_alloc] at this
 have hD1:W1.heap[w.heap.size]? = some (.deferred (some [])):=by
  rw [← hW1];exact (Below.heap_alloc _ _ _ (by simp)).trans (World.alloc_heap_new w _)
 have hbw:Below w.heap.size w W1:=by
  rw [← hW1];exact ((Below.refl _ w).alloc (Nat.le_refl _) _).alloc (by simp) _
 have hs1:W1.heap.size = w.heap.size + 2:=by rw [← hW1];simp
 have hI1:I 0 W1:=hI _ _ _ h0 (Tn.of_below hbw)
 refine ⟨w.heap.size + 1,[{ target:=.collected w.heap.size,args:=#[] }],W1,{ target:=.fn (.func gf) lb,args:=first ++ #[.func (.yield (w.heap.size + 1)) #[] #[]] },W1,gf,
  first ++ #[.func (.yield (w.heap.size + 1)) #[] #[]] ++ lb,W1,?_,?_,?_,?_,h1,?_⟩
 ·rw [← hW1,hrec];exact run_enterLoop_outer _ _ _ _ _
 ·simp only [resolve,hg]
  simp [go_sem]
 ·intro f' hf';simp [Target.leads] at hf';subst hf';exact hFg
 ·simp only [invoke,eg]
 ·refine (hseq (w.heap.size + 1)
   (fun k W => I k W ∧ W.heap[w.heap.size + 1]? = some (.loop (rec .ready none)) ∧ W.heap[w.heap.size]? = some (.deferred (some [])))
   (fun k W => ∃ c,Ix c k W ∧ W.heap[w.heap.size + 1]? = some (.loop (rec .done (some c))) ∧ W.heap[w.heap.size]? = some (.deferred (some [])))
   W1 (fun k X hx => hG k X hx.1) (hb0.trans (hbw.mono hb0.size))
   (fun s A B hs ht => ⟨hI s A B hs.1 (ht.mono (by omega)),(ht.old _ (lt_of_heap hs.2.1) (.inl (by omega))).trans hs.2.1,(ht.old _ (lt_of_heap hs.2.2) (.inl (by omega))).trans hs.2.2⟩)
   (fun s A B hs ht => by
    obtain ⟨c,hc,hl,hk⟩:=hs
    exact ⟨c,hIx c s A B hc (ht.mono (by omega)),(ht.old _ (lt_of_heap hl) (.inl (by omega))).trans hl,(ht.old _ (lt_of_heap hk) (.inl (by omega))).trans hk⟩)
   ?_ ⟨hI1,hL1,hD1⟩).mono ?_
  ·rintro k v W hkN ⟨hi,hl,hk⟩ hE hbW
   have hwW:Below n0 w W:=(hbw.mono hn0).trans hbW
   have hy:=run_yield (P:=P) (args:=#[v]) hl (by rw [hrec];rfl)
   rw [hrec] at hy
   have hz:((#[p]:Array Tmp).zip #[v]).foldl (fun tmps (x:Tmp × Value) => tmps.setIfInBounds x.1 x.2) a.tmps = a.tmps.setIfInBounds p v:=by simp [Array.zip_eq_zipWith]
   simp only [hz] at hy
   refine ⟨fn,_,assign,body,hy,roundIn_of_wpIn hfn ?_⟩
   refine wpIn_mono (hassign (w.heap.size + 1) k v W hkN hi hE hwW.size hwW) ?_
   intro e a' Wa hp
   cases e with
   | normal =>
    obtain ⟨hka,hax⟩:=hp
    have hla:=hka.mine _ _ (by omega) hl (hM1 _)
    have hda:=hka.mine _ _ (Nat.le_refl _) hk (hM2 _)
    refine ⟨_,run_beginRound hla (by rw [hrec]),?_⟩
    have hl2:(Wa.putObj (w.heap.size + 1) (.loop { rec .ready none with state:=.busy })).heap[w.heap.size + 1]? = some (.loop { rec .ready none with state:=.busy }):=World.putObj_heap_same (lt_of_heap hla)
    have hd2:(Wa.putObj (w.heap.size + 1) (.loop { rec .ready none with state:=.busy })).heap[w.heap.size]? = some (.deferred (some [])):=(World.putObj_heap_other (by omega)).trans hda
    have hn1:n0 ≤ Wa.heap.size:=Nat.le_trans hn0 (Nat.le_trans hwW.size hka.below.size)
    have hkb:Kp M W1.heap.size n0 W (Wa.putObj (w.heap.size + 1) (.loop { rec .ready none with state:=.busy })):=(hka.mono (by omega)).put _ (by omega) (by omega) hn1
    refine wpIn_mono (hbody (w.heap.size + 1) k a' _ hkN (hAx k a' Wa _ _ _ hax hla (by omega))) ?_
    have fin:∀ (jump:Option Code) (W3:World),Kp M w.heap.size n0 (Wa.putObj (w.heap.size + 1) (.loop { rec .ready none with state:=.busy })) W3 →
      (Instr.endRound (w.heap.size + 1) jump).run P W3 = .ok (.bool jump.isNone) (W3.putObj (w.heap.size + 1) (.loop (rec (if jump.isNone then .ready else .done) jump))) ∧
      W3.heap[w.heap.size + 1]? = some (.loop { rec .ready none with state:=.busy }) ∧
      (W3.putObj (w.heap.size + 1) (.loop (rec (if jump.isNone then .ready else .done) jump))).heap[w.heap.size + 1]? = some (.loop (rec (if jump.isNone then .ready else .done) jump)) ∧
      (W3.putObj (w.heap.size + 1) (.loop (rec (if jump.isNone then .ready else .done) jump))).heap[w.heap.size]? = some (.deferred (some [])) ∧
      Kp M W1.heap.size n0 W (W3.putObj (w.heap.size + 1) (.loop (rec (if jump.isNone then .ready else .done) jump))) ∧
      Tn M w.heap.size W3 (W3.putObj (w.heap.size + 1) (.loop (rec (if jump.isNone then .ready else .done) jump))):=fun jump W3 hk3 => by
     have hl3:=hk3.mine _ _ (by omega) hl2 (hM1 _)
     have hd3:=hk3.mine _ _ (Nat.le_refl _) hd2 (hM2 _)
     have:=run_endRound (P:=P) jump hl3
     rw [hrec] at this
     refine ⟨by rw [hrec];exact this,hl3,World.putObj_heap_same (lt_of_heap hl3),(World.putObj_heap_other (by omega)).trans hd3,?_,Tn.put _ hl3 (hM1 _) (by omega)⟩
     exact (hkb.trans (hk3.mono (by omega))).put _ (by omega) (by omega) (by have:=hk3.below.size;simp at this;omega)
    rintro e a3 W3 hp
    cases e with
    | normal =>
     obtain ⟨hk3,hi3⟩:=hp
     obtain ⟨hr,hl3,hl4,hd4,hk4,ht⟩:=fin none W3 hk3
     exact ⟨_,_,hr,.inl ⟨rfl,hI _ _ _ hi3 ht,hl4,hd4⟩,hk4⟩
    | ret =>
     obtain ⟨hk3,hi3⟩:=hp
     obtain ⟨hr,hl3,hl4,hd4,hk4,ht⟩:=fin (some .ret) W3 hk3
     exact ⟨_,_,hr,.inr ⟨rfl,.ret,hIx _ _ _ _ hi3 ht,hl4,hd4⟩,hk4⟩
    | exit id =>
     obtain ⟨hk3,hi3⟩:=hp
     obtain ⟨hr,hl3,hl4,hd4,hk4,ht⟩:=fin (some (.exit id)) W3 hk3
     exact ⟨_,_,hr,.inr ⟨rfl,.exit id,hIx _ _ _ _ hi3 ht,hl4,hd4⟩,hk4⟩
    | goto t =>
     obtain ⟨hk3,hi3⟩:=hp
     obtain ⟨hr,hl3,hl4,hd4,hk4,ht⟩:=fin (some (.goto t)) W3 hk3
     exact ⟨_,_,hr,.inr ⟨rfl,.goto t,hIx _ _ _ _ hi3 ht,hl4,hd4⟩,hk4⟩
    | panic ch => exact hp.elim
    | outgrown => exact hp.elim
   | ret => exact hp.elim
   | exit id => exact hp.elim
   | goto t => exact hp.elim
   | panic ch => exact hp.elim
   | outgrown => exact hp.elim
  ·rintro e W2 ⟨⟨v,rfl⟩,(⟨hi,hl,hk⟩ | ⟨k,hkN,c,hi,hl,hk⟩),hb⟩
   ·refine ⟨none,_,by have:=run_endLoop (P:=P) hl (by rw [hrec];simp);rw [hrec] at this;exact this,hdone _ (hI _ _ _ hi (Tn.put _ hl (hM1 _) (by omega))) ((World.putObj_heap_other (by omega)).trans hk) ?_⟩
    exact ((hbw.mono hn0).trans hb).trans ⟨rfl,rfl,rfl,by simp,fun i hi => World.putObj_heap_other (by omega)⟩
   ·refine ⟨some c,_,by have:=run_endLoop (P:=P) hl (by rw [hrec];simp);rw [hrec] at this;exact this,hstop c k _ hkN (hIx _ _ _ _ hi (Tn.put _ hl (hM1 _) (by omega))) ((World.putObj_heap_other (by omega)).trans hk) ?_⟩
    exact ((hbw.mono hn0).trans hb).trans ⟨rfl,rfl,rfl,by simp,fun i hi => World.putObj_heap_other (by omega)⟩
end Go.Proofs.YtjahlofahjgdbaaGreat
