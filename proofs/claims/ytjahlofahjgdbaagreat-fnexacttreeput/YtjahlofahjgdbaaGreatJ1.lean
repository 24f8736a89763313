/- Texts of stores, joined: Facts, Tk0, Geo, Pts, Geo3, Geo4, Ring2. -/
import Derived.Test.YtjahlofahjgdbaaGreatRows
import Derived.JoinedOf
import Derived.WalkKit
import Derived.ProofKit
import Derived.Handy
import Derived.Below
import Derived.WalkSpells
import Derived.Deep.RegionHeld3
import Derived.Laws.MakeOwn
import Derived.Deep.MidRow
import Derived.Deep.CutRange
import Derived.Deep.DeepCutAuto
set_option maxHeartbeats 4000000
set_option linter.unusedSimpArgs false
set_option linter.unusedVariables false
namespace Go.Proofs.YtjahlofahjgdbaaGreat
set_option maxRecDepth 100000
theorem sh2:(laidOutB Tryz.pinned.checked.prog) = true:=by kernel_rfl
theorem sh3:(mapsRowed Tryz.pinned.checked.prog) = true:=by kernel_rfl
theorem sh7:((Tryz.pinned.checked.prog.stops == [])) = true:=by kernel_rfl
theorem sh9:((Tryz.pinned.checked.prog.stopKnobs == [])) = true:=by kernel_rfl
theorem sh23:((Rows.fnExactTreePutRow.plainKeys == Tryz.pinned.checked.prog.plainKeys)) = true:=by kernel_rfl
theorem sh25:(Tryz.pinned.checked.prog.stopsHeard) = true:=by kernel_rfl
theorem sh26:(Tryz.pinned.checked.prog.mayEnter) = true:=by kernel_rfl
theorem sh27:((Rows.fnExactTreePutRow.lifted == Tryz.pinned.checked.prog.liftsFinal)) = true:=by kernel_rfl
theorem sh28:((Tryz.pinned.checked.prog.make == some Rows.fnExactTreePutRow.make)) = true:=by kernel_rfl
end Go.Proofs.YtjahlofahjgdbaaGreat
namespace Go.Proofs.YtjahlofahjgdbaaGreat
open Go.RowKit
theorem tkV {P:Program} {ops:Array Oper} {Q:Exit → Act → World → Prop} {md:Region.Mode} {S:World → Prop} (v:Value) (i:Nat) {oi:Oper} {fuel:Nat} {listed:Array Bool} {a:Act} {w:World} (hi:ops[i]? = some oi) (hQ:∀ c a w,Q (.panic c) (a.put oi.dst v) w → Q (.panic c) a w) (hS:S w) (hy:∀ w,S w → (execOp a.eval oi).run P w = .ok (.value v) w) (h:wpAnyH P md ops Q S fuel (listed.setIfInBounds i true) (a.put oi.dst v) w) (hw:Region.wanted oi (yielded ops a.tmps) = true:=by rfl) (hc:(Region.noSelect ops && (Region.free md ops listed i && (Region.ready md ops listed).contains i)) = true:=by kernel_rfl):wpAnyH P md ops Q S (fuel + 1) listed a w:=by
  rw [Bool.and_eq_true,Bool.and_eq_true] at hc
  exact wpAnyH_take hi hc.1 hc.2.1 hc.2.2 hQ (.inl ⟨hw,hy⟩) hS h
theorem tkR {P:Program} {ops:Array Oper} {Q:Exit → Act → World → Prop} {md:Region.Mode} {S:World → Prop} (i:Nat) {v:Value} {oi:Oper} {fuel:Nat} {listed:Array Bool} {a:Act} {w:World} (hS:S w) (h:wpAnyH P md ops Q S fuel (listed.setIfInBounds i true) (a.put oi.dst v) w) (hi:ops[i]? = some oi:=by exact rfl) (hy:∀ w,S w → (execOp a.eval oi).run P w = .ok (.value v) w:=by intro w hSw;(try dsimp only at hSw);go_simp;try (with_reducible rfl)) (hQ:∀ c a w,Q (.panic c) (a.put oi.dst v) w → Q (.panic c) a w:=by exact fun _ _ _ h => h) (hw:Region.wanted oi (yielded ops a.tmps) = true:=by rfl) (hc:(Region.noSelect ops && (Region.free md ops listed i && (Region.ready md ops listed).contains i)) = true:=by kernel_rfl):wpAnyH P md ops Q S (fuel + 1) listed a w:=tkV v i hi hQ hS hy h hw hc
theorem rd1 {P:Program} {ops:Array Oper} {Q:Exit → Act → World → Prop} {md:Region.Mode} {S:World → Prop} (i:Nat) {o:Oper} {fuel:Nat} {listed:Array Bool} {a:Act} {w:World} (ho:ops[i]? = some o) (h:∀ K':Act → World → Prop,Shut (∀ a w,S w → (S w → wpAnyH P md ops Q S fuel (listed.setIfInBounds i true) a w) → K' a w) → if Region.wanted o (yielded ops a.tmps) = true then Oper.wp P o a w K' Q else K' (a.put o.dst undef) w) (hr:Region.ready md ops listed = [i]:=by kernel_rfl):wpAnyH P md ops Q S (fuel + 1) listed a w:=wpAnyH_ready hr (by simp) (AllReadyH.cons ho h AllReadyH.nil)
def cok (x:Int):Bool:=decide (-30000 ≤ x) && decide (x ≤ 30000)
def pok (x y:Int):Bool:=cok x && cok y
def bok (a b c d:Int):Bool:=cok a && cok b && cok c && cok d && decide (a ≤ c) && decide (b ≤ d)
theorem hid {p:Prop} (h:p):Hid p:=h
theorem sq:(∀ (a:Act) (d:Tmp) (v:Value),a.put (some d) v = { a with tmps:=a.tmps.setIfInBounds d v }) ∧ (∀ (a:Act) (v:Value),a.put none v = a) ∧ (∀ (α:Type) (l:List α) (i:Nat) (h:i < l.toArray.size),l.toArray[i]'h = l[i]'(by simpa using h)) ∧ (∀ (α:Type) (x:α) (l:List α) (h:0 < (x :: l).length),(x :: l)[0]'h = x) ∧ (∀ (α:Type) (x:α) (l:List α) (i:Nat) (h:i + 1 < (x :: l).length),(x :: l)[i + 1]'h = l[i]'(by simpa using h)) ∧ (∀ (α:Type) (l:List α) (i:Nat) (x:α),l.toArray.setIfInBounds i x = (l.set i x).toArray) ∧ (∀ (α:Type) (x y:α) (l:List α),(x :: l).set 0 y = y :: l) ∧ (∀ (α:Type) (x y:α) (l:List α) (i:Nat),(x :: l).set (i + 1) y = x :: l.set i y):=
 ⟨fun _ _ _ => rfl,fun _ _ => rfl,fun _ _ _ _ => rfl,fun _ _ _ _ => rfl,fun _ _ _ _ _ => rfl,fun _ _ _ _ => List.setIfInBounds_toArray _ _ _,fun _ _ _ _ => rfl,fun _ _ _ _ _ => rfl⟩
theorem inn_calls (x a b:Int) (w:World):Calls Tryz.prog 87 #[.int .i64 x,.int .i64 a,.int .i64 b] w fun e w' => e = .returned (.bool (decide (a ≤ x) && decide (x ≤ b))) ∧ w' = w:=by
 by_cases h:a ≤ x
 ·go_enter Tryz.func87,Tryz.ntmps87
  go_wp2
  go_ret
  exact ⟨by simp [h],rfl⟩
 ·have hd:decide (a ≤ x) = false:=by simpa using h
  go_enter Tryz.func87,Tryz.ntmps87
  go_wp2
  go_ret
  exact ⟨by simp,rfl⟩
theorem spec_coord (x:Int) (w:World):Calls Tryz.prog 64 #[.int .i64 x] w fun e w' => e = .returned (.bool (cok x)) ∧ w' = w:=by
 go_enter Tryz.func64,Tryz.ntmps64
 go_wp2_with fail
 refine (inn_calls _ _ _ _).mono ?_
 rintro e w' ⟨rfl,hw⟩
 replace hw:=hw.symm
 subst hw
 go_wp2_with fail
 go_ret
 exact ⟨rfl,rfl⟩
theorem impl_coord (x:Int) (w:World):Calls Tryz.prog 116 #[.int .i64 x] w fun e w' => e = .returned (.bool (cok x)) ∧ w' = w:=by
 by_cases h:-30000 ≤ x
 ·go_enter Tryz.func116,Tryz.ntmps116
  go_wp2
  go_ret
  exact ⟨by simp [cok,h],rfl⟩
 ·have hd:decide (-30000 ≤ x) = false:=by simpa using h
  go_enter Tryz.func116,Tryz.ntmps116
  go_wp2
  go_ret
  exact ⟨by simp [cok,hd],rfl⟩
theorem impl_ok (x y:Int) (w:World):Calls Tryz.prog 105 #[.agg #[.int .i64 x,.int .i64 y]] w fun e w' => e = .returned (.bool (pok x y)) ∧ w' = w.alloc (.cells #[.int .i64 x,.int .i64 y] 108):=by
 go_enter Tryz.func105,Tryz.ntmps105
 go_wp2_with fail
 refine (impl_coord _ _).mono ?_
 rintro e w' ⟨rfl,hw⟩
 replace hw:=hw.symm
 subst hw
 cases h:cok x
 ·go_wp2_with fail
  go_ret
  exact ⟨by simp [pok,h],rfl⟩
 ·go_wp2_with fail
  refine (impl_coord _ _).mono ?_
  rintro e w' ⟨rfl,hw⟩
  replace hw:=hw.symm
  subst hw
  go_wp2_with fail
  go_ret
  exact ⟨by simp [pok,h],rfl⟩
theorem to_box (a b c d:Int) (w:World):Calls Tryz.prog 42 #[.agg #[.int .i64 a,.int .i64 b,.int .i64 c,.int .i64 d]] w fun e w' => e = .returned (.agg #[.int .i64 a,.int .i64 b,.int .i64 c,.int .i64 d]) ∧ w' = ((w.alloc (.cells #[.int .i64 a,.int .i64 b,.int .i64 c,.int .i64 d] 23)).alloc (.cells #[.int .i64 a,.int .i64 b,.int .i64 c,.int .i64 d] 31)).alloc (.cells #[.int .i64 a,.int .i64 b,.int .i64 c,.int .i64 d] 31):=by
 go_enter Tryz.func42,Tryz.ntmps42
 go_wp2_with fail
 exact bodyPost_ret (v:=.agg #[.int .i64 a,.int .i64 b,.int .i64 c,.int .i64 d]) (by simp [results,Tryz.results42,go_sem]) rfl ⟨rfl,rfl⟩
theorem impl_low (a b c d:Int) (w:World):Calls Tryz.prog 81 #[.agg #[.int .i64 a,.int .i64 b,.int .i64 c,.int .i64 d]] w fun e w' => e = .returned (.agg #[.int .i64 a,.int .i64 b]) ∧ w' = (w.alloc (.cells #[.int .i64 a,.int .i64 b,.int .i64 c,.int .i64 d] 31)).alloc (.cells #[.int .i64 a,.int .i64 b] 108):=by
 go_enter Tryz.func81,Tryz.ntmps81
 go_wp2_with fail
 exact bodyPost_ret (v:=.agg #[.int .i64 a,.int .i64 b]) (by simp [results,Tryz.results81,go_sem]) rfl ⟨rfl,rfl⟩
theorem impl_high (a b c d:Int) (w:World):Calls Tryz.prog 82 #[.agg #[.int .i64 a,.int .i64 b,.int .i64 c,.int .i64 d]] w fun e w' => e = .returned (.agg #[.int .i64 c,.int .i64 d]) ∧ w' = (w.alloc (.cells #[.int .i64 a,.int .i64 b,.int .i64 c,.int .i64 d] 31)).alloc (.cells #[.int .i64 c,.int .i64 d] 108):=by
 go_enter Tryz.func82,Tryz.ntmps82
 go_wp2_with fail
 exact bodyPost_ret (v:=.agg #[.int .i64 c,.int .i64 d]) (by simp [results,Tryz.results82,go_sem]) rfl ⟨rfl,rfl⟩
def PtsAt (w:World) (b off:Nat) (ps:List (Int × Int)):Prop:=
 ∀ k,k < ps.length → w.cell? ⟨b,off + k * 2,none⟩ = some (.int .i64 (ps.getD k (0,0)).1) ∧ w.cell? ⟨b,off + k * 2 + 1,none⟩ = some (.int .i64 (ps.getD k (0,0)).2)
def Pts (w:World) (a:Option Addr) (ps:List (Int × Int)):Prop:=
 ps = [] ∨ ∃ b off,a = some ⟨b,off,none⟩ ∧ b < w.heap.size ∧ PtsAt w b off ps
theorem PtsAt.below {w w':World} {b off:Nat} {ps:List (Int × Int)} (h:PtsAt w b off ps) (hb:b < w.heap.size) (H:Below w.heap.size w w'):PtsAt w' b off ps:=by
 intro k hk
 obtain ⟨h1,h2⟩:=h k hk
 exact ⟨by rw [H.cell hb];exact h1,by rw [H.cell hb];exact h2⟩
theorem Pts.below {w w':World} {a:Option Addr} {ps:List (Int × Int)} (h:Pts w a ps) (H:Below w.heap.size w w'):Pts w' a ps:=by
 rcases h with h | ⟨b,off,rfl,hb,h⟩
 ·exact .inl h
 ·exact .inr ⟨b,off,rfl,Nat.lt_of_lt_of_le hb H.size,h.below hb H⟩
def allok (ps:List (Int × Int)):Bool:=ps.all fun p => pok p.1 p.2
theorem allok_no (ps:List (Int × Int)) (k:Nat) (hk:k < ps.length) (h:pok (ps.getD k (0,0)).1 (ps.getD k (0,0)).2 = false):allok ps = false:=by
 rw [allok,List.all_eq_false]
 refine ⟨ps.getD k (0,0),?_,by rw [h];decide⟩
 rw [List.getD_eq_getElem?_getD,List.getElem?_eq_getElem hk]
 exact List.getElem_mem hk
theorem allok_yes (ps:List (Int × Int)) (h:∀ j,j < ps.length → pok (ps.getD j (0,0)).1 (ps.getD j (0,0)).2 = true):allok ps = true:=by
 rw [allok,List.all_eq_true]
 intro p hp
 obtain ⟨j,hj,rfl⟩:=List.mem_iff_getElem.1 hp
 have:=h j hj
 rwa [List.getD_eq_getElem?_getD,List.getElem?_eq_getElem hj] at this
theorem bel2 {B:Nat} {a w:World} (h:Below B a w) (hB:B ≤ w.heap.size) (o p:Obj):Below B a ((w.alloc o).alloc p):=(h.alloc hB o).alloc (by simp;omega) p
theorem keepcell {w w':World} (hb:Below w.heap.size w w') {p:Addr} {v:Value} (h:w.cell? p = some v):w'.cell? p = some v:=by
 rw [hb.cell (World.block_lt_of_cell? w p h)];exact h
theorem keepalloc {w:World} {p:Addr} {v:Value} (h:w.cell? p = some v) (o:Obj):(w.alloc o).cell? p = some v:=
 keepcell ((Below.refl _ _).alloc (Nat.le_refl _) o) h
theorem keepdrew {w:World} {p:Addr} {v:Value} (h:w.cell? p = some v):w.drew.cell? p = some v:=h
theorem newcell (w:World) (vs:Array Value) (t:TypeId) (n k:Nat) (v:Value) (hn:n = w.heap.size) (h:vs[k]? = some v):(w.alloc (.cells vs t)).cell? ⟨n,k,none⟩ = some v:=by
 rw [World.cell?_alloc_at vs t n k hn];exact h
theorem pts2 {w:World} {n:Nat} {a b c d:Int} (h0:w.cell? ⟨n,0,none⟩ = some (.int .i64 a)) (h1:w.cell? ⟨n,1,none⟩ = some (.int .i64 b)) (h2:w.cell? ⟨n,2,none⟩ = some (.int .i64 c)) (h3:w.cell? ⟨n,3,none⟩ = some (.int .i64 d)):Pts w (some ⟨n,0,none⟩) [(a,b),(c,d)]:=by
 refine .inr ⟨n,0,rfl,World.block_lt_of_cell? w _ h0,?_⟩
 intro k hk
 match k,hk with
 | 0,_ => exact ⟨h0,h1⟩
 | 1,_ => exact ⟨h2,h3⟩
theorem pts3 {w:World} {n:Nat} {a b c d e f:Int} (h0:w.cell? ⟨n,0,none⟩ = some (.int .i64 a)) (h1:w.cell? ⟨n,1,none⟩ = some (.int .i64 b)) (h2:w.cell? ⟨n,2,none⟩ = some (.int .i64 c)) (h3:w.cell? ⟨n,3,none⟩ = some (.int .i64 d)) (h4:w.cell? ⟨n,4,none⟩ = some (.int .i64 e)) (h5:w.cell? ⟨n,5,none⟩ = some (.int .i64 f)):Pts w (some ⟨n,0,none⟩) [(a,b),(c,d),(e,f)]:=by
 refine .inr ⟨n,0,rfl,World.block_lt_of_cell? w _ h0,?_⟩
 intro k hk
 match k,hk with
 | 0,_ => exact ⟨h0,h1⟩
 | 1,_ => exact ⟨h2,h3⟩
 | 2,_ => exact ⟨h4,h5⟩
theorem btrans {w a b:World} (h:Below w.heap.size w a) (k:Below a.heap.size a b):Below w.heap.size w b:=h.trans (k.mono h.size)
theorem balloc {w a:World} (h:Below w.heap.size w a) (o:Obj):Below w.heap.size w (a.alloc o):=h.alloc h.size o
theorem bdrew {w a:World} (h:Below w.heap.size w a):Below w.heap.size w a.drew:=h.drew
theorem impl_all (a:Option Addr) (cap:Nat) (ps:List (Int × Int)) (w:World) (hm:ps.length ≤ 1099511627776) (hc:ps.length ≤ cap) (h:Pts w a ps):Calls Tryz.prog 80 #[.slice a ps.length cap] w fun e w' => e = .returned (.bool (allok ps)) ∧ Below w.heap.size w w':=by
 go_enter Tryz.func80,Tryz.ntmps80
 go_wp2_with fail
 go_loopw [7] (fun ti wr => ∃ k:Nat,ti = .int .i64 k ∧ k ≤ ps.length ∧ Below w.heap.size w wr ∧ Hid (∀ j,j < k → pok (ps.getD j (0,0)).1 (ps.getD j (0,0)).2 = true)) (fun ti _ => ps.length - (intOf ti).toNat)
 case atStart => exact ⟨0,rfl,Nat.zero_le _,Below.refl _ _,fun j hj => absurd hj (by omega)⟩
 case round =>
  obtain ⟨k,rfl,hk,hb,H⟩:=hrel
  by_cases hlt:k < ps.length
  ·rcases h with rfl | ⟨b,off,rfl,hbs,hp⟩
   ·simp at hlt
   obtain ⟨c0,c1⟩:=hp.below hbs hb k hlt
   generalize hx:(ps.getD k (0,0)).1 = x at c0
   generalize hy:(ps.getD k (0,0)).2 = y at c1
   have Hx:=hid hx
   have Hy:=hid hy
   have Hp:=hid hp
   clear hx hy hp
   go_wp2_with fail
   refine (impl_ok _ _ _).mono ?_
   rintro e w' ⟨rfl,rfl⟩
   cases h:pok x y
   ·go_wp2_with fail
    go_ret
    exact ⟨by rw [allok_no ps k hlt (by rw [Hx.out,Hy.out];exact h)];rfl,bel2 hb hb.size _ _⟩
   ·go_wp2_with fail
    go_roundw
    case rel =>
     refine ⟨k + 1,by go_num,by omega,bel2 hb hb.size _ _,hid fun j hj => ?_⟩
     by_cases e:j = k
     ·subst e;rw [Hx.out,Hy.out];exact h
     ·exact H.out j (by omega)
    case measure => simp [intOf];omega
  ·have hk':k = ps.length:=by omega
   go_wp2_with fail
   go_ret
   exact ⟨by rw [allok_yes ps fun j hj => H.out j (by omega)];rfl,hb⟩
def PtsOwn (w:World) (b:Nat) (ps:List (Int × Int)):Prop:=b < w.heap.size ∧ PtsAt w b 0 ps ∧ w.there b 0 (ps.length * 2)
theorem there_below {w w':World} {b n:Nat} (h:w.there b 0 n) (hb:b < w.heap.size) (H:Below w.heap.size w w'):w'.there b 0 n:=by
 intro j hj
 obtain ⟨h1,h2⟩:=h j hj
 exact ⟨by rw [H.cell hb];exact h1,by rw [H.frozen hb];exact h2⟩
def In (x:Int):Prop:=-30000 ≤ x ∧ x ≤ 30000
theorem mulb (x y:Int) (h1:-60000 ≤ x) (h2:x ≤ 60000) (h3:-60000 ≤ y) (h4:y ≤ 60000):-3600000000 ≤ x * y ∧ x * y ≤ 3600000000:=by
 have a:=Int.mul_nonneg (show 0 ≤ 60000 - x by omega) (show 0 ≤ 60000 - y by omega)
 have b:=Int.mul_nonneg (show 0 ≤ 60000 + x by omega) (show 0 ≤ 60000 + y by omega)
 have c:=Int.mul_nonneg (show 0 ≤ 60000 - x by omega) (show 0 ≤ 60000 + y by omega)
 have d:=Int.mul_nonneg (show 0 ≤ 60000 + x by omega) (show 0 ≤ 60000 - y by omega)
 simp only [Int.sub_mul,Int.add_mul,Int.mul_sub,Int.mul_add] at a b c d
 omega
theorem spec_min (a b:Int) (w:World):Calls Tryz.prog 114 #[.int .i64 a,.int .i64 b] w fun e w' => e = .returned (.int .i64 (min a b)) ∧ w' = w:=by
 by_cases h:a < b
 ·have e:min a b = a:=by omega
  go_enter Tryz.func114,Tryz.ntmps114
  go_wp2_with fail
  go_ret
  exact ⟨by first | rfl | (rw [e];rfl),rfl⟩
 ·have e:min a b = b:=by omega
  go_enter Tryz.func114,Tryz.ntmps114
  go_wp2_with fail
  go_ret
  exact ⟨by first | rfl | (rw [e];rfl),rfl⟩
theorem spec_max (a b:Int) (w:World):Calls Tryz.prog 115 #[.int .i64 a,.int .i64 b] w fun e w' => e = .returned (.int .i64 (max a b)) ∧ w' = w:=by
 by_cases h:b < a
 ·have e:max a b = a:=by omega
  go_enter Tryz.func115,Tryz.ntmps115
  go_wp2_with fail
  go_ret
  exact ⟨by first | rfl | (rw [e];rfl),rfl⟩
 ·have e:max a b = b:=by omega
  go_enter Tryz.func115,Tryz.ntmps115
  go_wp2_with fail
  go_ret
  exact ⟨by first | rfl | (rw [e];rfl),rfl⟩
theorem cell4 {w:World} {p:Nat} {a b c d:Value} {t:TypeId} (h:w.heap[p]? = some (.cells #[a,b,c,d] t (0,0))) :
  w.cell? ⟨p,0,none⟩ = some a ∧ w.cell? ⟨p,1,none⟩ = some b ∧ w.cell? ⟨p,2,none⟩ = some c ∧ w.cell? ⟨p,3,none⟩ = some d ∧ w.frozen? ⟨p,0,none⟩ = false ∧ w.frozen? ⟨p,1,none⟩ = false ∧ w.frozen? ⟨p,2,none⟩ = false ∧ w.frozen? ⟨p,3,none⟩ = false:=by
 simp [World.cell?,World.frozen?,h]
theorem cell2 {w:World} {p:Nat} {a b:Value} {t:TypeId} (h:w.heap[p]? = some (.cells #[a,b] t (0,0))):w.cell? ⟨p,0,none⟩ = some a ∧ w.cell? ⟨p,1,none⟩ = some b:=by
 simp [World.cell?,h]
def upto (f:Int → Int × Int → Int) (x:Int) (ps:List (Int × Int)) (k:Nat):Int:=(ps.take k).foldl f x
theorem upto_next (f:Int → Int × Int → Int) (x:Int) (ps:List (Int × Int)) (k:Nat) (h:k < ps.length):upto f x ps (k + 1) = f (upto f x ps k) (ps.getD k (0,0)):=by
 unfold upto
 rw [List.take_add_one,List.getElem?_eq_getElem h,List.foldl_append,List.getD_eq_getElem?_getD,List.getElem?_eq_getElem h]
 rfl
theorem upto_all (f:Int → Int × Int → Int) (x:Int) (ps:List (Int × Int)) (k:Nat) (h:ps.length ≤ k):upto f x ps k = ps.foldl f x:=by
 unfold upto
 rw [List.take_of_length_le h]
theorem set_at {w:World} {p k:Nat} {cs:Array Value} {t:TypeId} {fr:Nat × Nat} {u:Value} (h:w.heap[p]? = some (.cells cs t fr)):(w.setCell ⟨p,k,none⟩ u).heap[p]? = some (.cells (cs.setIfInBounds k u) t fr):=by
 have hlt:=lt_of_block h
 have h':w.heap[p] = .cells cs t fr:=by simpa [Array.getElem?_eq_getElem hlt] using h
 show (w.heap.modify p _)[p]? = _
 rw [Array.getElem?_eq_getElem (by simpa using hlt),Array.getElem_modify_self,h']
 rfl
theorem set_far {w:World} {p q k:Nat} {o:Obj} {u:Value} (h:w.heap[p]? = some o) (hne:p ≠ q):(w.setCell ⟨q,k,none⟩ u).heap[p]? = some o:=by
 rw [Below.heap_setCell w ⟨q,k,none⟩ u p hne];exact h
theorem old_alloc {w:World} {p:Nat} {o o':Obj} (h:w.heap[p]? = some o):(w.alloc o').heap[p]? = some o:=by
 rw [Below.heap_alloc w o' p (lt_of_block h)];exact h
theorem new_alloc (w:World) (p:Nat) (o:Obj) (h:p = w.heap.size):(w.alloc o).heap[p]? = some o:=by
 rw [h];exact heap_alloc_new w o
theorem ite_min (a b:Int):(if b < a then b else a) = min a b:=by
 split <;> omega
theorem ite_max (a b:Int):(if a < b then b else a) = max a b:=by
 split <;> omega
theorem bset {w a:World} (h:Below w.heap.size w a) {q k:Nat} (hq:w.heap.size ≤ q) (u:Value):Below w.heap.size w (a.setCell ⟨q,k,none⟩ u):=h.setCell hq u
theorem impl_boxof (x y:Int) (a:Option Addr) (cap:Nat) (ps:List (Int × Int)) (w:World) (hm:ps.length ≤ 1099511627776) (hc:ps.length ≤ cap) (h:Pts w a ps):Calls Tryz.prog 131 #[.agg #[.int .i64 x,.int .i64 y],.slice a ps.length cap] w fun e w' => e = .returned (.agg #[.int .i64 (ps.foldl (fun m p => min m p.1) x),.int .i64 (ps.foldl (fun m p => min m p.2) y),.int .i64 (ps.foldl (fun m p => max m p.1) x),.int .i64 (ps.foldl (fun m p => max m p.2) y)]) ∧ Below w.heap.size w w':=by
 go_enter Tryz.func131,Tryz.ntmps131
 go_wp2_with fail
 go_loopw [19] (fun ti wr => ∃ k:Nat,∃ a0 b0 a1 b1:Int,ti = .int .i64 k ∧ k ≤ ps.length ∧ Below w.heap.size w wr ∧ wr.heap[w.heap.size + 1]? = some (.cells #[.int .i64 0,.int .i64 0,.int .i64 0,.int .i64 0] 31 (0,0)) ∧ wr.heap[w.heap.size + 1 + 1]? = some (.cells #[.int .i64 a0,.int .i64 b0,.int .i64 a1,.int .i64 b1] 31 (0,0)) ∧
   Hid (a0 = upto (fun m p => min m p.1) x ps k ∧ b0 = upto (fun m p => min m p.2) y ps k ∧ a1 = upto (fun m p => max m p.1) x ps k ∧ b1 = upto (fun m p => max m p.2) y ps k)) (fun ti _ => ps.length - (intOf ti).toNat)
 case atStart => 
  refine ⟨0,x,y,x,y,rfl,Nat.zero_le _,by (repeat (first | exact Below.refl _ _ | (refine btrans ?_ (by assumption)) | refine bdrew ?_ | refine balloc ?_ _)),?_,?_,hid ⟨rfl,rfl,rfl,rfl⟩⟩
  ·exact old_alloc (new_alloc _ _ _ (by simp))
  ·exact new_alloc _ _ _ (by simp)
 case round =>
  obtain ⟨k,a0,b0,a1,b1,rfl,hk,hb,g4,g5,H⟩:=hrel
  by_cases hlt:k < ps.length
  ·rcases h with rfl | ⟨b,off,rfl,hbs,hp⟩
   ·simp at hlt
   obtain ⟨c0,c1⟩:=hp.below hbs hb k hlt
   generalize hx:(ps.getD k (0,0)).1 = px at c0
   generalize hy:(ps.getD k (0,0)).2 = py at c1
   have Hx:=hid hx
   have Hy:=hid hy
   have Hp:=hid hp
   clear hx hy hp
   obtain ⟨d0,d1,d2,d3,f0,f1,f2,f3⟩:=cell4 g5
   have hl:w.heap.size + 1 + 1 < wr.heap.size:=World.block_lt_of_cell? wr _ d0
   have hl2:w.heap.size + 1 < wr.heap.size:=by omega
   have G5:=hid g5
   have G4:=hid g4
   clear g5 g4
   go_wp2_with fail
   go_cut [19] from 19 to 47 (fun t19 wx => t19 = .int .i64 k ∧ ∃ A0 B0:Int,Below w.heap.size w wx ∧ wx.heap[w.heap.size + 1]? = some (.cells #[.int .i64 0,.int .i64 0,.int .i64 0,.int .i64 0] 31 (0,0)) ∧ wx.heap[w.heap.size + 1 + 1]? = some (.cells #[.int .i64 A0,.int .i64 B0,.int .i64 a1,.int .i64 b1] 31 (0,0)) ∧ wx.heap[wr.heap.size]? = some (.cells #[.int .i64 px,.int .i64 py] 108 (0,0)) ∧ Hid (A0 = min a0 px ∧ B0 = min b0 py))
   case first =>
    go_region
    generalize hA:(if px < a0 then px else a0) = A0
    generalize hB:(if py < b0 then py else b0) = B0
    have HA:=hid hA
    have HB:=hid hB
    clear hA hB
    go_wp2_with fail
    go_meet
    refine ⟨rfl,A0,B0,bdrew (balloc (bset (bset hb (by omega) _) (by omega) _) _),?_,?_,?_,hid ⟨?_,?_⟩⟩
    ·exact old_alloc (set_far (set_far G4.out (by omega)) (by omega))
    ·exact old_alloc (set_at (set_at G5.out))
    ·exact new_alloc _ _ _ (by simp)
    ·rw [← HA.out,ite_min]
    ·rw [← HB.out,ite_min]
   case rest =>
    obtain ⟨rfl,A0,B0,hbx,g4,g5,gp,HAB⟩:=hcut
    clear d0 d1 d2 d3 f0 f1 f2 f3 G5 G4 c0 c1 hb
    obtain ⟨d0,d1,d2,d3,f0,f1,f2,f3⟩:=cell4 g5
    obtain ⟨p0,p1⟩:=cell2 gp
    have G5:=hid g5
    have G4:=hid g4
    clear g5 g4 gp
    go_wp2_with fail
    go_region
    generalize hC:(if a1 < px then px else a1) = A1
    generalize hD:(if b1 < py then py else b1) = B1
    have HC:=hid hC
    have HD:=hid hD
    clear hC hD
    go_wp2_with fail
    go_roundw
    case rel =>
     refine ⟨k + 1,A0,B0,A1,B1,by go_num,by omega,?_,?_,?_,hid ?_⟩
     ·exact bdrew (bset (bset hbx (by omega) _) (by omega) _)
     ·exact set_far (set_far G4.out (by omega)) (by omega)
     ·exact set_at (set_at G5.out)
     ·obtain ⟨e1,e2,e3,e4⟩:=H.out
      obtain ⟨e5,e6⟩:=HAB.out
      rw [upto_next _ _ _ _ hlt,upto_next _ _ _ _ hlt,upto_next _ _ _ _ hlt,upto_next _ _ _ _ hlt,← e1,← e2,← e3,← e4,Hx.out,Hy.out,e5,e6,← HC.out,← HD.out,ite_max,ite_max]
      exact ⟨rfl,rfl,rfl,rfl⟩
    case measure => simp [intOf];omega
  ·have hk':k = ps.length:=by omega
   obtain ⟨d0,d1,d2,d3,f0,f1,f2,f3⟩:=cell4 g5
   obtain ⟨i0,i1,i2,i3,j0,j1,j2,j3⟩:=cell4 g4
   have G5:=hid g5
   have G4:=hid g4
   clear g5 g4
   go_wp2_with fail
   have gF:(((((wr.setCell ⟨w.heap.size + 1,0,none⟩ (.int .i64 a0)).setCell ⟨w.heap.size + 1,1,none⟩ (.int .i64 b0)).setCell ⟨w.heap.size + 1,2,none⟩ (.int .i64 a1)).setCell ⟨w.heap.size + 1,3,none⟩ (.int .i64 b1))).heap[w.heap.size + 1]? = some (.cells #[.int .i64 a0,.int .i64 b0,.int .i64 a1,.int .i64 b1] 31 (0,0)):=set_at (set_at (set_at (set_at G4.out)))
   have hbF:Below w.heap.size w (((((wr.setCell ⟨w.heap.size + 1,0,none⟩ (.int .i64 a0)).setCell ⟨w.heap.size + 1,1,none⟩ (.int .i64 b0)).setCell ⟨w.heap.size + 1,2,none⟩ (.int .i64 a1)).setCell ⟨w.heap.size + 1,3,none⟩ (.int .i64 b1))):=bset (bset (bset (bset hb (by omega) _) (by omega) _) (by omega) _) (by omega) _
   generalize ((((wr.setCell ⟨w.heap.size + 1,0,none⟩ (.int .i64 a0)).setCell ⟨w.heap.size + 1,1,none⟩ (.int .i64 b0)).setCell ⟨w.heap.size + 1,2,none⟩ (.int .i64 a1)).setCell ⟨w.heap.size + 1,3,none⟩ (.int .i64 b1)) = wf at gF hbF ⊢
   obtain ⟨z0,z1,z2,z3,_,_,_,_⟩:=cell4 gF
   refine bodyPost_ret (v:=.agg #[.int .i64 a0,.int .i64 b0,.int .i64 a1,.int .i64 b1]) (by simp [results,Tryz.results131,go_sem,z0,z1,z2,z3]) rfl ⟨?_,hbF⟩
   obtain ⟨e1,e2,e3,e4⟩:=H.out
   rw [upto_all _ _ _ _ (by omega)] at e1 e2 e3 e4
   rw [e1,e2,e3,e4]
theorem keepheap2 {w w':World} (hb:Below w.heap.size w w') {b:Nat} {o:Obj} (h:w.heap[b]? = some o):w'.heap[b]? = some o:=by
 rw [hb.block b (Array.getElem?_eq_some_iff.1 h).1];exact h
end Go.Proofs.YtjahlofahjgdbaaGreat
