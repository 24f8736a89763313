/- Texts of stores, joined: Fb, Fc. -/
import Derived.Test.YtjahlofahjgdbaaGreatJ3
import Derived.Deep.RegionHeld3
set_option maxRecDepth 100000
set_option maxHeartbeats 2000000
set_option linter.unusedSimpArgs false
set_option linter.unusedVariables false
namespace Go.Proofs.YtjahlofahjgdbaaGreat
open Go.RowKit
def setL (w:World) (b o:Nat):List Value → World
 | [] => w
 | v :: r => setL (w.setCell ⟨b,o,none⟩ v) b (o + 1) r
theorem setL_size:∀ (vs:List Value) (w:World) (b o:Nat),(setL w b o vs).heap.size = w.heap.size
 | [],w,b,o => rfl
 | v :: r,w,b,o => by
  unfold setL
  rw [setL_size r]
  simp
theorem setL_below:∀ (vs:List Value) (w w':World) (b o n:Nat),Below n w w' → n ≤ b → Below n w (setL w' b o vs)
 | [],w,w',b,o,n,h,_ => h
 | v :: r,w,w',b,o,n,h,hb => setL_below r w _ b (o + 1) n (h.setCell hb v) hb
theorem setL_other:∀ (vs:List Value) (w:World) (b o:Nat) (p:Addr),(∀ i,i < vs.length → p ≠ ⟨b,o + i,none⟩) → (setL w b o vs).cell? p = w.cell? p
 | [],w,b,o,p,_ => rfl
 | v :: r,w,b,o,p,h => by
  unfold setL
  rw [setL_other r _ b (o + 1) p (fun i hi => by have:=h (i + 1) (by simp;omega);rw [show o + 1 + i = o + (i + 1) by omega];exact this)]
  exact World.cell?_setCell_other _ _ _ _ (fun e => h 0 (by simp) e.symm)
theorem setL_frozen:∀ (vs:List Value) (w:World) (b o:Nat) (p:Addr),(setL w b o vs).frozen? p = w.frozen? p
 | [],w,b,o,p => rfl
 | v :: r,w,b,o,p => by
  unfold setL
  rw [setL_frozen r _ b (o + 1) p,World.frozen?_setCell]
theorem setL_at:∀ (vs:List Value) (w:World) (b o i:Nat) (v:Value),vs[i]? = some v → (∀ i,i < vs.length → (w.cell? ⟨b,o + i,none⟩).isSome = true) → (setL w b o vs).cell? ⟨b,o + i,none⟩ = some v
 | [],w,b,o,i,v,h,_ => by cases h
 | u :: r,w,b,o,0,v,h,hs => by
  unfold setL
  have hu:u = v:=by simpa using h
  subst hu
  obtain ⟨x,hx⟩:=Option.isSome_iff_exists.1 (hs 0 (by simp))
  rw [setL_other r _ b (o + 1) _ (fun i hi e => by injection e;omega)]
  exact World.cell?_setCell_same _ _ _ hx
 | u :: r,w,b,o,i + 1,v,h,hs => by
  unfold setL
  have:=setL_at r (w.setCell ⟨b,o,none⟩ u) b (o + 1) i v (by simpa using h) (fun k hk => by
   obtain ⟨x,hx⟩:=Option.isSome_iff_exists.1 (hs (k + 1) (by simp;omega))
   obtain ⟨y,hy⟩:=cell?_setCell_some (p:=⟨b,o,none⟩) (x:=u) hx
   rw [show o + 1 + k = o + (k + 1) by omega,hy];rfl)
  rw [show o + (i + 1) = o + 1 + i by omega]
  exact this
theorem setL_there {vs:List Value} {w:World} {b o n:Nat} (h:w.there b 0 n) (ho:o + vs.length ≤ n):(setL w b o vs).there b 0 n:=by
 intro j hj
 obtain ⟨h1,h2⟩:=h j hj
 refine ⟨?_,by rw [setL_frozen];exact h2⟩
 by_cases hin:o ≤ j ∧ j < o + vs.length
 ·have hlt:j - o < vs.length:=by omega
  have:=setL_at vs w b o (j - o) vs[j - o] (List.getElem?_eq_getElem hlt) (fun i hi => by
   have:=(h (o + i) (by omega)).1
   rwa [Nat.zero_add] at this)
  rw [Nat.zero_add]
  rw [show o + (j - o) = j by omega] at this
  rw [this];rfl
 ·rw [setL_other vs w b o _ (fun i hi e => by injection e with e1 e2;omega)]
  exact h1
def ci (x:It):List Value:=[.int .i64 x.1,.int .i64 x.2.1,.int .i64 x.2.2.1,.int .i64 x.2.2.2.1,.int .i64 x.2.2.2.2]
def ck (t:KT) (ia:Option Addr) (ic:Nat) (ka:Option Addr) (kc:Nat):List Value:=[.int .i64 t.box.1,.int .i64 t.box.2.1,.int .i64 t.box.2.2.1,.int .i64 t.box.2.2.2,.bool t.lf,.slice ia t.its.length ic,.slice ka t.kids.length kc]
def Cs (w:World) (b o:Nat) (vs:List Value):Prop:=∀ i v,vs[i]? = some v → w.cell? ⟨b,o + i,none⟩ = some v
theorem Cs.below {w w':World} {b o:Nat} {vs:List Value} (h:Cs w b o vs) (hb:b < w.heap.size) (H:Below w.heap.size w w'):Cs w' b o vs:=fun i v e => (H.cell (p:=⟨b,o + i,none⟩) hb).trans (h i v e)
theorem Cs.item {w:World} {b o:Nat} {x:It} (h:Cs w b o (ci x)):w.cell? ⟨b,o,none⟩ = some (.int .i64 x.1) ∧ w.cell? ⟨b,o + 1,none⟩ = some (.int .i64 x.2.1) ∧ w.cell? ⟨b,o + 2,none⟩ = some (.int .i64 x.2.2.1) ∧ w.cell? ⟨b,o + 3,none⟩ = some (.int .i64 x.2.2.2.1) ∧ w.cell? ⟨b,o + 4,none⟩ = some (.int .i64 x.2.2.2.2):=
 ⟨h 0 _ rfl,h 1 _ rfl,h 2 _ rfl,h 3 _ rfl,h 4 _ rfl⟩
theorem Cs.knot {w:World} {b o:Nat} {t:KT} {ia ka:Option Addr} {ic kc:Nat} (h:Cs w b o (ck t ia ic ka kc)):w.cell? ⟨b,o,none⟩ = some (.int .i64 t.box.1) ∧ w.cell? ⟨b,o + 1,none⟩ = some (.int .i64 t.box.2.1) ∧ w.cell? ⟨b,o + 2,none⟩ = some (.int .i64 t.box.2.2.1) ∧ w.cell? ⟨b,o + 3,none⟩ = some (.int .i64 t.box.2.2.2) ∧ w.cell? ⟨b,o + 4,none⟩ = some (.bool t.lf) ∧ w.cell? ⟨b,o + 5,none⟩ = some (.slice ia t.its.length ic) ∧ w.cell? ⟨b,o + 6,none⟩ = some (.slice ka t.kids.length kc):=
 ⟨h 0 _ rfl,h 1 _ rfl,h 2 _ rfl,h 3 _ rfl,h 4 _ rfl,h 5 _ rfl,h 6 _ rfl⟩
theorem put_el {w:World} {b m n k:Nat} {vs:List Value} (hv:vs.length = m) (ht:w.there b 0 n) (hk:k * m + m ≤ n):Cs (setL w b (k * m) vs) b (k * m) vs ∧ (setL w b (k * m) vs).there b 0 n ∧ ∀ o us,o + us.length ≤ k * m → Cs w b o us → Cs (setL w b (k * m) vs) b o us:=by
 refine ⟨fun i v e => ?_,setL_there ht (by omega),fun o us ho h i v e => ?_⟩
 ·exact setL_at vs w b (k * m) i v e (fun i hi => by have:=(ht (k * m + i) (by omega)).1;rwa [Nat.zero_add] at this)
 ·have hi:i < us.length:=by
   obtain ⟨h,_⟩:=List.getElem?_eq_some_iff.1 e
   exact h
  rw [setL_other vs w b (k * m) _ (fun j hj e => by injection e with e1 e2;omega)]
  exact h i v e
def ItO (w:World) (b:Nat) (l:List It):Prop:=b < w.heap.size ∧ (∀ j (h:j < l.length),Cs w b (j * 5) (ci l[j])) ∧ w.there b 0 (l.length * 5)
theorem ItO.below {w w':World} {b:Nat} {l:List It} (h:ItO w b l) (H:Below w.heap.size w w'):ItO w' b l:=
 ⟨Nat.lt_of_lt_of_le h.1 H.size,fun j hj => (h.2.1 j hj).below h.1 H,there_below h.2.2 h.1 H⟩
def Kn (lo:Nat):Nat → World → Option Addr → Option Addr → KT → Prop
 | 0,_,_,_,_ => False
 | n + 1,w,ia,ka,t => ∃ bi bk,ia = some ⟨bi,0,none⟩ ∧ ka = some ⟨bk,0,none⟩ ∧ lo ≤ bi ∧ lo ≤ bk ∧ ItO w bi t.its ∧ bk < w.heap.size ∧ w.there bk 0 (t.kids.length * 7) ∧
   ∀ j (h:j < t.kids.length),∃ ia' ka',Cs w bk (j * 7) (ck t.kids[j] ia' t.kids[j].its.length ka' t.kids[j].kids.length) ∧ Kn lo n w ia' ka' t.kids[j]
theorem Kn.below {lo:Nat}:∀ {n:Nat} {w w':World} {ia ka:Option Addr} {t:KT},Kn lo n w ia ka t → Below w.heap.size w w' → Kn lo n w' ia ka t
 | 0,_,_,_,_,_,h,_ => h.elim
 | n + 1,w,w',ia,ka,t,h,H => by
  obtain ⟨bi,bk,h1,h2,h3,h4,h5,h6,h7,h8⟩:=h
  refine ⟨bi,bk,h1,h2,h3,h4,h5.below H,Nat.lt_of_lt_of_le h6 H.size,there_below h7 h6 H,fun j hj => ?_⟩
  obtain ⟨ia',ka',k1,k2⟩:=h8 j hj
  exact ⟨ia',ka',k1.below h6 H,Kn.below k2 H⟩
theorem Kn.lo {lo lo':Nat} (hl:lo' ≤ lo):∀ {n:Nat} {w:World} {ia ka:Option Addr} {t:KT},Kn lo n w ia ka t → Kn lo' n w ia ka t
 | 0,_,_,_,_,h => h.elim
 | n + 1,w,ia,ka,t,h => by
  obtain ⟨bi,bk,h1,h2,h3,h4,h5,h6,h7,h8⟩:=h
  refine ⟨bi,bk,h1,h2,by omega,by omega,h5,h6,h7,fun j hj => ?_⟩
  obtain ⟨ia',ka',k1,k2⟩:=h8 j hj
  exact ⟨ia',ka',k1,Kn.lo hl k2⟩
def kv (t:KT) (ia:Option Addr) (ic:Nat) (ka:Option Addr) (kc:Nat):Value:=.agg #[.int .i64 t.box.1,.int .i64 t.box.2.1,.int .i64 t.box.2.2.1,.int .i64 t.box.2.2.2,.bool t.lf,.slice ia t.its.length ic,.slice ka t.kids.length kc]
def kvo (t:KT) (ia ka:Option Addr):Value:=kv t ia t.its.length ka t.kids.length
def ItL (w:World) (a:Option Addr) (l:List It):Prop:=l = [] ∨ ∃ b off,a = some ⟨b,off,none⟩ ∧ b < w.heap.size ∧ ∀ j (h:j < l.length),Cs w b (off + j * 5) (ci l[j])
theorem ItL.below {w w':World} {a:Option Addr} {l:List It} (h:ItL w a l) (H:Below w.heap.size w w'):ItL w' a l:=by
 rcases h with h | ⟨b,off,h1,h2,h3⟩
 ·exact .inl h
 ·exact .inr ⟨b,off,h1,Nat.lt_of_lt_of_le h2 H.size,fun j hj => (h3 j hj).below h2 H⟩
def KnL:Nat → World → Option Addr → Nat → Option Addr → Nat → KT → Prop
 | 0,_,_,_,_,_,_ => False
 | n + 1,w,ia,ic,ka,kc,t => ItL w ia t.its ∧ t.its.length ≤ ic ∧ ic ≤ 9223372036854775807 ∧ t.kids.length ≤ kc ∧ kc ≤ 9223372036854775807 ∧ (t.kids = [] ∨ ∃ b off,ka = some ⟨b,off,none⟩ ∧ b < w.heap.size ∧
   ∀ j (h:j < t.kids.length),∃ ia' ic' ka' kc',Cs w b (off + j * 7) (ck t.kids[j] ia' ic' ka' kc') ∧ KnL n w ia' ic' ka' kc' t.kids[j])
theorem KnL.below:∀ {n:Nat} {w w':World} {ia ka:Option Addr} {ic kc:Nat} {t:KT},KnL n w ia ic ka kc t → Below w.heap.size w w' → KnL n w' ia ic ka kc t
 | 0,_,_,_,_,_,_,_,h,_ => h.elim
 | n + 1,w,w',ia,ka,ic,kc,t,h,H => by
  obtain ⟨h1,h2,h3,h4,h5,h6⟩:=h
  refine ⟨h1.below H,h2,h3,h4,h5,?_⟩
  rcases h6 with h6 | ⟨b,off,e,hb,h6⟩
  ·exact .inl h6
  ·refine .inr ⟨b,off,e,Nat.lt_of_lt_of_le hb H.size,fun j hj => ?_⟩
   obtain ⟨ia',ic',ka',kc',k1,k2⟩:=h6 j hj
   exact ⟨ia',ic',ka',kc',k1.below hb H,KnL.below k2 H⟩
def ksz:Nat → KT → Nat
 | 0,t => 0
 | n + 1,t => t.its.length + t.kids.length + (t.kids.map (ksz n)).sum
theorem to_boxb (a b c d:Int) (w:World):Calls Tryz.prog 42 #[.agg #[.int .i64 a,.int .i64 b,.int .i64 c,.int .i64 d]] w fun e w' => e = .returned (.agg #[.int .i64 a,.int .i64 b,.int .i64 c,.int .i64 d]) ∧ Below w.heap.size w w':=by
 refine (to_box a b c d w).mono ?_
 rintro e w' ⟨rfl,rfl⟩
 refine ⟨rfl,?_⟩
 (repeat (first | with_reducible exact Below.refl _ _ | with_reducible refine balloc ?_ _ | with_reducible refine bset ?_ (by simp) _ | (refine bset ?_ ?_ _;rotate_left;(first | exact Nat.le_refl _ | (simp;done) | (simp;omega)))))
theorem to_item (i a b c d:Int) (w:World):Calls Tryz.prog 10 #[.agg #[.int .i64 i,.int .i64 a,.int .i64 b,.int .i64 c,.int .i64 d]] w fun e w' => e = .returned (.agg #[.int .i64 i,.int .i64 a,.int .i64 b,.int .i64 c,.int .i64 d]) ∧ Below w.heap.size w w':=by
 go_enter Tryz.func10,Tryz.ntmps10
 go_wp2_with (first | (go_at_call 42;refine (to_box _ _ _ _ _).mono ?_;rintro e w1 ⟨rfl,rfl⟩))
 refine bodyPost_ret (v:=.agg #[.int .i64 i,.int .i64 a,.int .i64 b,.int .i64 c,.int .i64 d]) (by simp [results,Tryz.results10,go_sem]) rfl ⟨rfl,?_⟩
 (repeat (first | with_reducible exact Below.refl _ _ | with_reducible refine balloc ?_ _ | (refine bset ?_ ?_ _;rotate_left;(first | exact Nat.le_refl _ | (simp;done) | (simp;omega)))))
theorem Tryz.infoIt:(Tryz.prog.info? 40).map (fun i => (i.zero,i.size,i.bytes)) = some (some (.agg #[.int .i64 0,.int .i64 0,.int .i64 0,.int .i64 0,.int .i64 0]),5,40):=by kernel_rfl
theorem Tryz.infoKn:(Tryz.prog.info? 35).map (fun i => (i.zero,i.size,i.bytes)) = some (some (.agg #[.int .i64 0,.int .i64 0,.int .i64 0,.int .i64 0,.bool false,.slice none 0 0,.slice none 0 0]),7,88):=by kernel_rfl
theorem make_items (n:Nat) (hn:n ≤ 1099511627776) (w:World):(Instr.makeSlice 32 (.int .i64 n) (.int .i64 n)).run Tryz.prog w = .ok (.slice (some ⟨w.heap.size,0,none⟩) n n) (w.alloc (.cells (madeCells #[.int .i64 0,.int .i64 0,.int .i64 0,.int .i64 0,.int .i64 0] (n * 5)) 40)):=by
 obtain ⟨i0,hi,hz0,hz1,hz2⟩:=info_parts Tryz.infoIt
 have:=run_make (P:=Tryz.prog) w 32 40 i0 _ Tryz.underlying32 hi hz0 .i64 .i64 n n (by omega) (by omega) (by rw [hz2];omega) (by omega)
 rw [hz1] at this
 exact this
theorem make_knots (n:Nat) (hn:n ≤ 1099511627776) (w:World):(Instr.makeSlice 33 (.int .i64 n) (.int .i64 n)).run Tryz.prog w = .ok (.slice (some ⟨w.heap.size,0,none⟩) n n) (w.alloc (.cells (madeCells #[.int .i64 0,.int .i64 0,.int .i64 0,.int .i64 0,.bool false,.slice none 0 0,.slice none 0 0] (n * 7)) 35)):=by
 obtain ⟨i0,hi,hz0,hz1,hz2⟩:=info_parts Tryz.infoKn
 have:=run_make (P:=Tryz.prog) w 33 35 i0 _ Tryz.underlying33 hi hz0 .i64 .i64 n n (by omega) (by omega) (by rw [hz2];omega) (by omega)
 rw [hz1] at this
 exact this
theorem made_ownG (w:World) (zs:Array Value) (n:Nat) (t:TypeId) (h0:0 < zs.size):(w.alloc (.cells (madeCells zs n) t)).there w.heap.size 0 n:=by
 intro j hj
 simp only [Nat.zero_add]
 refine ⟨?_,World.frozen?_alloc_new w _ _ j⟩
 rw [World.cell?_alloc_new]
 unfold madeCells
 rw [Array.getElem?_map,Array.getElem?_range,if_pos hj]
 rfl
theorem to_items (a:Option Addr) (cap:Nat) (l:List It) (w:World) (hm:l.length ≤ 1099511627776) (hc:l.length ≤ cap) (h:ItL w a l):Calls Tryz.prog 43 #[.slice a l.length cap] w fun e w' => ∃ b,e = .returned (.slice (some ⟨b,0,none⟩) l.length l.length) ∧ w.heap.size ≤ b ∧ ItO w' b l ∧ Below w.heap.size w w':=by
 have hmk:=make_items l.length hm
 go_enter Tryz.func43,Tryz.ntmps43
 go_wp2_with fail
 go_loopw [4] (fun ti wr => ∃ k:Nat,ti = .int .i64 k ∧ k ≤ l.length ∧ Below w.heap.size w wr ∧ w.heap.size < wr.heap.size ∧ (∀ j (h:j < l.length),j < k → Cs wr w.heap.size (j * 5) (ci l[j])) ∧ wr.there w.heap.size 0 (l.length * 5)) (fun ti _ => l.length - (intOf ti).toNat)
 case atStart => exact ⟨0,rfl,Nat.zero_le _,(Below.refl _ _).alloc (Nat.le_refl _) _,by simp,fun j _ hj => by omega,made_ownG w _ _ _ (by simp)⟩
 case round =>
  clear hmk
  obtain ⟨k,rfl,hk,hb,hB,hp,ht⟩:=hrel
  by_cases hlt:k < l.length
  ·rcases h with rfl | ⟨b,off,rfl,hbs,hq⟩
   ·simp at hlt
   obtain ⟨c0,c1,c2,c3,c4⟩:=((hq k hlt).below hbs hb).item
   have hci:ci l[k] = [.int .i64 l[k].1,.int .i64 l[k].2.1,.int .i64 l[k].2.2.1,.int .i64 l[k].2.2.2.1,.int .i64 l[k].2.2.2.2]:=rfl
   generalize hx:l[k].1 = x at *
   generalize hy:l[k].2.1 = y at *
   generalize hu:l[k].2.2.1 = u at *
   generalize hv:l[k].2.2.2.1 = v at *
   generalize hz:l[k].2.2.2.2 = z at *
   have Hci:=hid hci
   have Hq:=hid hq
   have Hp:=hid hp
   have Ht:=hid ht
   clear hq hp ht hci hx hy hu hv hz
   go_wp2_with fail
   refine (to_item _ _ _ _ _ _).mono ?_
   rintro e w1 ⟨rfl,hb1⟩
   have Ht1:=hid (there_below Ht.out hB hb1)
   have Hp1:=hid (fun j (h:j < l.length) hjk => (Hp.out j h hjk).below hB hb1)
   have hB1:=Nat.lt_of_lt_of_le hB hb1.size
   obtain ⟨g0,g0'⟩:=Ht1.out (k * 5) (by omega)
   obtain ⟨g1,g1'⟩:=Ht1.out (k * 5 + 1) (by omega)
   obtain ⟨g2,g2'⟩:=Ht1.out (k * 5 + 2) (by omega)
   obtain ⟨g3,g3'⟩:=Ht1.out (k * 5 + 3) (by omega)
   obtain ⟨g4,g4'⟩:=Ht1.out (k * 5 + 4) (by omega)
   obtain ⟨u0,hu0⟩:=Option.isSome_iff_exists.1 g0
   obtain ⟨u1,hu1⟩:=Option.isSome_iff_exists.1 g1
   obtain ⟨u2,hu2⟩:=Option.isSome_iff_exists.1 g2
   obtain ⟨u3,hu3⟩:=Option.isSome_iff_exists.1 g3
   obtain ⟨u4,hu4⟩:=Option.isSome_iff_exists.1 g4
   simp only [Nat.zero_add,← Nat.add_assoc] at hu0 hu1 hu2 hu3 hu4 g0' g1' g2' g3' g4'
   clear g0 g1 g2 g3 g4
   go_wp2_with fail
   go_roundw
   case rel =>
    obtain ⟨r1,r2,r3⟩:=put_el (k:=k) (m:=5) (vs:=[.int .i64 x,.int .i64 y,.int .i64 u,.int .i64 v,.int .i64 z]) rfl Ht1.out (by omega)
    refine ⟨k + 1,by go_num,by omega,setL_below [.int .i64 x,.int .i64 y,.int .i64 u,.int .i64 v,.int .i64 z] w w1 w.heap.size (k * 5) _ (btrans hb hb1) (Nat.le_refl _),?_,?_,r2⟩
    ·show w.heap.size < (setL w1 w.heap.size (k * 5) [.int .i64 x,.int .i64 y,.int .i64 u,.int .i64 v,.int .i64 z]).heap.size
     rw [setL_size];exact hB1
    ·intro j hj hjk
     by_cases e:j = k
     ·subst e
      rw [Hci.out]
      exact r1
     ·exact r3 (j * 5) _ (by simp [ci];omega) (Hp1.out j hj (by omega))
   case measure => simp [intOf];omega
  ·have hk':k = l.length:=by omega
   subst hk'
   have Hp:=hid hp
   have Ht:=hid ht
   clear hp ht
   go_wp2_with fail
   go_ret
   exact ⟨w.heap.size,rfl,Nat.le_refl _,⟨hB,fun j hj => Hp.out j hj hj,Ht.out⟩,hb⟩
def szr (left:Int) (n:Nat):Int:=if left < (n:Int) then -1 else left - (n:Int)
theorem szr_more {left:Int} {a b:Nat} (h:¬ szr left a < 0):szr (szr left a) b = szr left (a + b):=by
 unfold szr at *
 split at h
 ·omega
 ·rename_i h1
  rw [if_neg h1]
  by_cases h2:left - (a:Int) < (b:Int)
  ·rw [if_pos h2,if_pos (by omega)]
  ·rw [if_neg h2,if_neg (by omega)];omega
theorem szr_neg {left:Int} {a b:Nat} (h:szr left a < 0) (h0:0 ≤ left) (hab:a ≤ b):szr left b = -1:=by
 unfold szr at *
 split at h
 ·rw [if_pos (by omega)]
 ·omega
theorem szr_le {left:Int} {a:Nat} (h0:0 ≤ left):-1 ≤ szr left a ∧ szr left a ≤ left:=by
 unfold szr
 split <;> omega
theorem sz_items (a:Option Addr) (n cap:Nat) (left:Int) (w:World) (hn:n ≤ 9223372036854775807) (h0:0 ≤ left) (h1:left ≤ 1048576):Calls Tryz.prog 37 #[.slice a n cap,.int .i64 left] w fun e w' => e = .returned (.int .i64 (szr left n)) ∧ w' = w:=by
 unfold szr
 have hw:IntKind.i64.wrap (left - (n:Int)) = left - (n:Int):=by rw [IntKind.wrap_i64];omega
 by_cases h:left < (n:Int)
 ·have hd:left - (n:Int) < 0:=by omega
  rw [if_pos h]
  go_enter Tryz.func37,Tryz.ntmps37
  go_wp2_with fail
  go_ret
  exact ⟨rfl,rfl⟩
 ·have hd:¬ left - (n:Int) < 0:=by omega
  rw [if_neg h]
  go_enter Tryz.func37,Tryz.ntmps37
  go_wp2_with fail
  go_ret
  exact ⟨rfl,rfl⟩
theorem sum_take (f:KT → Nat) (l:List KT) {k:Nat} (h:k < l.length):((l.take (k + 1)).map f).sum = ((l.take k).map f).sum + f l[k]:=by
 rw [List.take_add_one,List.getElem?_eq_getElem h,Option.toList_some,List.map_append,List.sum_append]
 simp only [List.map_cons,List.map_nil,List.sum_cons,List.sum_nil,Nat.add_zero]
theorem sum_take_le (f:KT → Nat) (l:List KT) (k:Nat):((l.take k).map f).sum ≤ (l.map f).sum:=by
 conv => rhs;rw [← List.take_append_drop k l]
 rw [List.map_append,List.sum_append]
 omega
theorem sz_knots (n:Nat) (IH:∀ (t:KT) (ia:Option Addr) (ic:Nat) (ka:Option Addr) (kc:Nat) (left:Int) (w:World),KnL n w ia ic ka kc t → 0 ≤ left → left ≤ 1048576 → Calls Tryz.prog 7 #[kv t ia ic ka kc,.int .i64 left] w fun e w' => e = .returned (.int .i64 (szr left (ksz n t))) ∧ Below w.heap.size w w')
  (a:Option Addr) (cap:Nat) (l:List KT) (left:Int) (w:World) (hc:l.length ≤ cap) (hm:cap ≤ 9223372036854775807) (h0:0 ≤ left) (h1:left ≤ 1048576)
  (h:l = [] ∨ ∃ b off,a = some ⟨b,off,none⟩ ∧ b < w.heap.size ∧ ∀ j (h:j < l.length),∃ ia' ic' ka' kc',Cs w b (off + j * 7) (ck l[j] ia' ic' ka' kc') ∧ KnL n w ia' ic' ka' kc' l[j]) :
  Calls Tryz.prog 38 #[.slice a l.length cap,.int .i64 left] w fun e w' => e = .returned (.int .i64 (szr left (l.length + (l.map (ksz n)).sum))) ∧ Below w.heap.size w w':=by
 have hw:IntKind.i64.wrap (left - (l.length:Int)) = left - (l.length:Int):=by rw [IntKind.wrap_i64];omega
 by_cases hneg:left < (l.length:Int)
 ·have hd:left - (l.length:Int) < 0:=by omega
  have he:szr left (l.length + (l.map (ksz n)).sum) = -1:=by unfold szr;rw [if_pos (by omega)]
  rw [he]
  clear IH h
  go_enter Tryz.func38,Tryz.ntmps38
  go_wp2_with fail
  go_ret
  exact ⟨rfl,Below.refl _ _⟩
 have hd:¬ left - (l.length:Int) < 0:=by omega
 have hIH:=hid IH
 have hh:=hid h
 clear IH h
 go_enter Tryz.func38,Tryz.ntmps38
 go_wp2_with fail
 go_loopw [1,5] (fun tl ti wr => ∃ k:Nat,ti = .int .i64 k ∧ k ≤ l.length ∧ tl = .int .i64 (szr left (l.length + ((l.take k).map (ksz n)).sum)) ∧ ¬ szr left (l.length + ((l.take k).map (ksz n)).sum) < 0 ∧ Below w.heap.size w wr) (fun _ ti _ => l.length - (intOf ti).toNat)
 case atStart => exact ⟨0,rfl,Nat.zero_le _,by rw [List.take_zero];simp only [List.map_nil,List.sum_nil,Nat.add_zero];unfold szr;rw [if_neg (by omega)],by rw [List.take_zero];simp only [List.map_nil,List.sum_nil,Nat.add_zero];unfold szr;rw [if_neg (by omega)];omega,Below.refl _ _⟩
 case round =>
  obtain ⟨k,rfl,hk,rfl,hs,hb⟩:=hrel
  by_cases hlt:k < l.length
  ·obtain ⟨b,off,rfl,hbs,hq⟩:∃ b off,a = some ⟨b,off,none⟩ ∧ b < w.heap.size ∧ ∀ j (h:j < l.length),∃ ia' ic' ka' kc',Cs w b (off + j * 7) (ck l[j] ia' ic' ka' kc') ∧ KnL n w ia' ic' ka' kc' l[j]:=by
    rcases hh.out with h | h
    ·rw [h] at hlt;simp at hlt
    ·exact h
   obtain ⟨ia',ic',ka',kc',q1,q2⟩:=hq k hlt
   obtain ⟨c0,c1,c2,c3,c4,c5,c6⟩:=(q1.below hbs hb).knot
   have hsz:=szr_le (left:=left) (a:=l.length + ((l.take k).map (ksz n)).sum) h0
   have C:=hid (hIH.out l[k] ia' ic' ka' kc' (szr left (l.length + ((l.take k).map (ksz n)).sum)) wr (q2.below hb) (by omega) (by omega))
   rw [szr_more hs,Nat.add_assoc,← sum_take (ksz n) l hlt] at C
   unfold kv at C
   have HS:=hid hs
   clear q1 q2 hq hs hsz
   generalize szr left (l.length + ((l.take k).map (ksz n)).sum) = cur at *
   generalize hnew:szr left (l.length + ((l.take (k + 1)).map (ksz n)).sum) = new at *
   generalize l[k].box.1 = b0 at *
   generalize l[k].box.2.1 = b1 at *
   generalize l[k].box.2.2.1 = b2 at *
   generalize l[k].box.2.2.2 = b3 at *
   generalize l[k].lf = b4 at *
   generalize l[k].its.length = b5 at *
   generalize l[k].kids.length = b6 at *
   go_wp2_with fail
   refine C.out.mono ?_
   rintro e w1 ⟨rfl,hb1⟩
   by_cases hn:new < 0
   ·go_wp2_with fail
    go_ret
    have hfin:=szr_neg (left:=left) (a:=l.length + ((l.take (k + 1)).map (ksz n)).sum) (b:=l.length + (l.map (ksz n)).sum) (by rw [hnew];exact hn) h0 (by have:=sum_take_le (ksz n) l (k + 1);omega)
    exact ⟨by rw [hfin];rfl,btrans hb hb1⟩
   ·go_wp2_with fail
    go_roundw
    case rel => exact ⟨k + 1,by go_num,by omega,by rw [hnew],by rw [hnew];omega,btrans hb hb1⟩
    case measure => simp [intOf];omega
  ·have hk':k = l.length:=by omega
   subst hk'
   rw [List.take_length] at hs ⊢
   go_wp2_with fail
   go_ret
   exact ⟨rfl,hb⟩
theorem sz_knot (n:Nat):∀ (t:KT) (ia:Option Addr) (ic:Nat) (ka:Option Addr) (kc:Nat) (left:Int) (w:World),KnL n w ia ic ka kc t → 0 ≤ left → left ≤ 1048576 → Calls Tryz.prog 7 #[kv t ia ic ka kc,.int .i64 left] w fun e w' => e = .returned (.int .i64 (szr left (ksz n t))) ∧ Below w.heap.size w w':=by
 induction n with
 | zero => intro t ia ic ka kc left w h;exact h.elim
 | succ n ih =>
  intro t ia ic ka kc left w h h0 h1
  obtain ⟨p1,p2,p3,p4,p5,p6⟩:=h
  have hI:=hid (fun (l':Int) (hl0:0 ≤ l') (hl1:l' ≤ 1048576) (W:World) (hb:Below w.heap.size w W) => sz_knots n ih ka kc t.kids l' W p4 p5 hl0 hl1 (by
   rcases p6 with p6 | ⟨b,off,e,hbs,hq⟩
   ·exact .inl p6
   ·refine .inr ⟨b,off,e,Nat.lt_of_lt_of_le hbs hb.size,fun j hj => ?_⟩
    obtain ⟨ia',ic',ka',kc',q1,q2⟩:=hq j hj
    exact ⟨ia',ic',ka',kc',q1.below hbs hb,q2.below hb⟩))
  clear p6 ih p1
  have hks:ksz (n + 1) t = t.its.length + (t.kids.length + (t.kids.map (ksz n)).sum):=by unfold ksz;omega
  rw [hks]
  unfold kv
  have hb2:=t.box
  generalize t.box.1 = b0 at *
  generalize t.box.2.1 = b1 at *
  generalize t.box.2.2.1 = b2 at *
  generalize t.box.2.2.2 = b3 at *
  generalize t.lf = b4 at *
  generalize t.its.length = ni at *
  generalize (t.kids.map (ksz n)).sum = sk at *
  generalize t.kids.length = nk at *
  have C1:=hid (fun W => sz_items ia ni ic left W (by omega) h0 h1)
  have hle:=szr_le (left:=left) (a:=ni) h0
  by_cases hneg:szr left ni < 0
  ·have he:=szr_neg (b:=ni + (nk + sk)) hneg h0 (by omega)
   rw [he]
   generalize szr left ni = cur at *
   go_enter Tryz.func7,Tryz.ntmps7
   go_wp2_with fail
   refine (C1.out _).mono ?_
   rintro e w1 ⟨rfl,rfl⟩
   go_wp2_with fail
   go_ret
   exact ⟨rfl,balloc (Below.refl _ _) _⟩
  ·rw [← szr_more hneg]
   have C2:=hid (hI.out (szr left ni) (by omega) (by omega))
   have hle2:=szr_le (left:=szr left ni) (a:=nk + sk) (by omega)
   generalize szr left ni = cur at *
   generalize szr cur (nk + sk) = fin at *
   clear hI
   have fin2:fin < 0 → fin = -1:=by omega
   go_enter Tryz.func7,Tryz.ntmps7
   go_wp2_with fail
   refine (C1.out _).mono ?_
   rintro e w1 ⟨rfl,rfl⟩
   go_wp2_with fail
   refine (C2.out _ (balloc (Below.refl _ _) _)).mono ?_
   rintro e w2 ⟨rfl,hb2⟩
   have hbF:=btrans (balloc (Below.refl w.heap.size w) _) hb2
   by_cases hf:fin < 0
   ·have:=fin2 hf
    subst this
    go_wp2_with fail
    go_ret
    exact ⟨rfl,hbF⟩
   ·go_wp2_with fail
    go_ret
    exact ⟨rfl,hbF⟩
end Go.Proofs.YtjahlofahjgdbaaGreat
