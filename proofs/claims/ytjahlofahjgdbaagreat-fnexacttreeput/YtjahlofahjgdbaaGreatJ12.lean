/- Texts of stores, joined: Jt, Ju. -/
import Derived.Test.YtjahlofahjgdbaaGreatJp
import Derived.Deep.RegionHeld3
import Derived.BigQuiet
set_option maxRecDepth 100000
set_option maxHeartbeats 8000000
set_option linter.unusedSimpArgs false
set_option linter.unusedVariables false
namespace Go.Proofs.YtjahlofahjgdbaaGreat
open Go.RowKit
theorem two_set {α:Type}:∀ (A:List α) (y x:α) (R:List α),((A ++ y :: x :: R).set (A.length + 1) y).set A.length x = A ++ x :: y :: R
 | [],y,x,R => rfl
 | a :: A,y,x,R => by
  simp only [List.cons_append,List.length_cons,List.set_cons_succ]
  rw [two_set A y x R]
theorem two_at0 {α:Type}:∀ (A:List α) (y x:α) (R:List α),(A ++ y :: x :: R)[A.length]? = some y
 | [],y,x,R => rfl
 | a :: A,y,x,R => by
  simp only [List.cons_append,List.length_cons,List.getElem?_cons_succ]
  exact two_at0 A y x R
theorem two_at1 {α:Type}:∀ (A:List α) (y x:α) (R:List α),(A ++ y :: x :: R)[A.length + 1]? = some x
 | [],y,x,R => rfl
 | a :: A,y,x,R => by
  simp only [List.cons_append,List.length_cons,List.getElem?_cons_succ]
  exact two_at1 A y x R
theorem isort_one {α:Type} (lt:α → α → Bool) (l:List α):isort lt (l.take 1) ++ l.drop 1 = l:=by
 cases l with
 | nil => rfl
 | cons x r => rfl
theorem isort_on {α:Type} {lt:α → α → Bool} {l:List α} {k:Nat} (h:k < l.length):isort lt (l.take k) ++ l[k] :: ([] ++ l.drop (k + 1)) = isort lt (l.take k) ++ l.drop k:=by
 rw [List.nil_append,← List.drop_eq_getElem_cons h]
theorem isort_done {α:Type} {lt:α → α → Bool} {l A B:List α} {k:Nat} (h:k < l.length) (hi:Ins lt l k l[k] A B) (hA:∀ y,A.getLast? = some y → lt l[k] y = false):A ++ l[k] :: (B ++ l.drop (k + 1)) = isort lt (l.take (k + 1)) ++ l.drop (k + 1):=by
 rw [Ins.ends h hi hA];simp
theorem Fr.setL {w w':World} {g:Nat} (h:Fr [g] w w'):∀ (vs:List Value) (o:Nat),Fr [g] w (setL w' g o vs):=by
 intro vs
 induction vs generalizing w' with
 | nil => exact fun o => h
 | cons v r ih =>
  intro o
  refine ih (w':=w'.setCell ⟨g,o,none⟩ v) ?_ (o + 1)
  exact h.trans (Fr.set (S:=[g]) ⟨g,o,none⟩ v (by simp)) (fun k hk => .inl hk)
theorem Fr.bel {w w' w'':World} {S:List Nat} (h:Fr S w w') (hb:Below w'.heap.size w' w''):Fr S w w'':=h.trans (Fr.of hb []) (fun k hk => by cases hk)
def ltK (p q:KP):Bool:=befK p.1 q.1
theorem insV_map (x:KP):∀ R:List KP,(insV ltK x R).map (·.1) = insV befK x.1 (R.map (·.1))
 | [] => rfl
 | y :: r => by
  unfold insV
  rw [List.map_cons]
  show _ = if befK x.1 y.1 = true then _ else _
  have e:ltK x y = befK x.1 y.1:=rfl
  rw [e]
  split
  ·rw [List.map_cons,insV_map x r]
  ·rfl
theorem insR_map (l:List KP) (x:KP):(insR ltK l x).map (·.1) = insR befK (l.map (·.1)) x.1:=by
 unfold insR
 rw [List.map_reverse,insV_map,List.map_reverse]
theorem isort_foldK:∀ (l a:List KP),(l.foldl (insR ltK) a).map (·.1) = (l.map (·.1)).foldl (insR befK) (a.map (·.1))
 | [],a => rfl
 | x :: r,a => by rw [List.foldl_cons,isort_foldK r,insR_map];rfl
theorem isort_map (l:List KP):(isort ltK l).map (·.1) = isort befK (l.map (·.1)):=isort_foldK l []
theorem Cs.item5 {w:World} {b o:Nat} {x0 x1 x2 x3 x4:Int} (h:Cs w b o (ci (x0,x1,x2,x3,x4))):w.cell? ⟨b,o,none⟩ = some (.int .i64 x0) ∧ w.cell? ⟨b,o + 1,none⟩ = some (.int .i64 x1) ∧ w.cell? ⟨b,o + 2,none⟩ = some (.int .i64 x2) ∧ w.cell? ⟨b,o + 3,none⟩ = some (.int .i64 x3) ∧ w.cell? ⟨b,o + 4,none⟩ = some (.int .i64 x4):=
 ⟨h 0 _ rfl,h 1 _ rfl,h 2 _ rfl,h 3 _ rfl,h 4 _ rfl⟩
theorem kh (p:KP):∃ (b0 b1 b2 b3:Int) (b4:Bool) (a:Option Addr) (n c:Nat) (a':Option Addr) (n' c':Nat),ckh p.1 p.2.1 = [.int .i64 b0,.int .i64 b1,.int .i64 b2,.int .i64 b3,.bool b4,.slice a n c,.slice a' n' c'] ∧ p.1.box = (b0,b1,b2,b3):=
 ⟨_,_,_,_,_,_,_,_,_,_,_,rfl,rfl⟩
theorem ins_items (lo g c n:Nat) (l:List It) (w:World) (h:w.ownsRow lo 40 5 (.slice (some ⟨g,0,none⟩) n c) n (flI l)) (hl:l.length = n) (h0:1 ≤ n) (hn:n ≤ 1048576) (hok:l.all (fun x => bkb x.2) = true):Calls Tryz.prog 153 #[.slice (some ⟨g,0,none⟩) n c,.int .i64 0,.int .i64 n,.func (.func 121) #[] #[]] w fun e w' => e = .returned (.tuple #[]) ∧ w'.ownsRow lo 40 5 (.slice (some ⟨g,0,none⟩) n c) n (flI (isort befI l)) ∧ Fr [g] w w':=by
 have HR:=hid (show w.ownsRow lo 40 5 (.slice (some ⟨g,0,none⟩) n c) n (flI (isort befI (l.take 1) ++ l.drop 1)) by rw [isort_one];exact h)
 have HL:=hid hl
 have HOK:=hid (fun (x:It) (hx:x ∈ l) => List.all_eq_true.1 hok x hx)
 have HF:=hid (Fr.refl [g] w)
 have hnI:(1:Int) ≤ (n:Int):=by omega
 clear h hl hok
 go_enter Tryz.func153,Tryz.ntmps153
 go_wp2_with fail
 go_loopw [8] (fun ti wr => ∃ k:Nat,ti = .int .i64 k ∧ 1 ≤ k ∧ k ≤ n ∧ Hid (wr.ownsRow lo 40 5 (.slice (some ⟨g,0,none⟩) n c) n (flI (isort befI (l.take k) ++ l.drop k))) ∧ Hid (Fr [g] w wr)) (fun ti _ => n - (intOf ti).toNat)
 case atStart => exact ⟨1,rfl,Nat.le_refl _,h0,HR,HF⟩
 case round =>
  clear HR HF
  obtain ⟨k,rfl,hk1,hkn,HR,HF⟩:=hrel
  by_cases hlt:k < n
  ·have c1:(k:Int) < (n:Int):=by omega
   have hkl:k < l.length:=by rw [HL.out];exact hlt
   have HXK:=hid (HOK.out l[k] (List.getElem_mem hkl))
   have HIN:=hid (Ins.start befI l k l[k])
   have hls:(isort befI (l.take k)).length = k:=by rw [isort_len,List.length_take];omega
   have HDN:=hid (fun (A B:List It) (hi:Ins befI l k l[k] A B) (hA:∀ y,A.getLast? = some y → befI l[k] y = false) => isort_done hkl hi hA)
   have HLEN:=hid (fun (A B:List It) (hi:Ins befI l k l[k] A B) => Ins.len (Nat.le_of_lt hkl) hi)
   have HON:=hid (fun (A B:List It) (y:It) (hi:Ins befI l k l[k] (A ++ [y]) B) => show y ∈ l from by
    have hm:y ∈ isort befI (l.take k):=by rw [hi.1];simp
    exact List.mem_of_mem_take ((isort_perm befI (l.take k)).mem_iff.1 hm))
   have HR2:=hid (show wr.ownsRow lo 40 5 (.slice (some ⟨g,0,none⟩) n c) n (flI (isort befI (l.take k) ++ l[k] :: ([] ++ l.drop (k + 1)))) by rw [isort_on hkl];exact HR.out)
   have HTL:=hid (show (l.drop (k + 1)).length = n - (k + 1) by rw [List.length_drop,HL.out])
   clear HR
   generalize isort befI (l.take k) = A0 at *
   generalize hrd:l.drop (k + 1) = R at *
   have HRD:=hid hrd
   clear hrd
   generalize l[k] = x at *
   obtain ⟨x0,x1,x2,x3,x4⟩:=x
   have HLS:=hid hls
   clear hls hkl
   go_wp2_with fail
   go_loopw [9] (fun tj wq => ∃ (j:Nat) (A B:List It),tj = .int .i64 j ∧ j ≤ k ∧ Hid (A.length = j) ∧ Hid (Ins befI l k (x0,x1,x2,x3,x4) A B) ∧ Hid (wq.ownsRow lo 40 5 (.slice (some ⟨g,0,none⟩) n c) n (flI (A ++ (x0,x1,x2,x3,x4) :: (B ++ R)))) ∧ Hid (Fr [g] w wq)) (fun tj _ => (intOf tj).toNat)
   case atStart => exact ⟨k,A0,[],rfl,Nat.le_refl _,HLS,HIN,HR2,HF⟩
   case round =>
    clear HLS HIN HR2 HF
    obtain ⟨j,A,B,rfl,hjk,HAL,HIN,HRW,HF⟩:=hrel
    by_cases hj0:j = 0
    ·have hA:A = []:=List.length_eq_zero_iff.1 (HAL.out.trans hj0)
     have HD:=hid (HDN.out A B HIN.out (fun y hy => by rw [hA] at hy;cases hy))
     have c2:¬ (0:Int) < (j:Int):=by omega
     have c3:decide (0 < j) = false:=by rw [decide_eq_false_iff_not];omega
     clear hA hj0
     go_upto_region 4 with fail
     go_quiet (fail)
     go_wp2_with fail
     go_roundw
     case rel => exact ⟨k + 1,by go_num,by omega,by omega,hid (by rw [HRD.out,← HD.out];exact HRW.out),hid (HF.out.bel ⟨rfl,rfl,rfl,Nat.le_refl _,fun _ _ => rfl⟩)⟩
     case measure => simp [intOf];omega
    ·have c2:(0:Int) < (j:Int):=by omega
     have c3:decide (0 < j) = true:=by rw [decide_eq_true_eq];omega
     obtain ⟨A',y,hAy⟩:∃ A' y,A = A' ++ [y]:=by
      have hne:A ≠ []:=fun e => by rw [e] at HAL;exact hj0 HAL.out.symm
      exact ⟨A.dropLast,A.getLast hne,(List.dropLast_concat_getLast hne).symm⟩
     subst hAy
     obtain ⟨m,hm⟩:∃ m,m = A'.length:=⟨_,rfl⟩
     have hmj:j = m + 1:=by have:=HAL.out;rw [List.length_append,← hm] at this;exact this.symm
     have HYL:=hid (HON.out A' B y HIN.out)
     have hyk:=HOK.out y HYL.out
     have HLN:=hid (HLEN.out _ _ HIN.out)
     have hrow:wr.ownsRow lo 40 5 (.slice (some ⟨g,0,none⟩) n c) n (flI (A' ++ y :: (x0,x1,x2,x3,x4) :: (B ++ R))):=by
      have:=HRW.out
      rw [List.append_assoc] at this
      exact this
     have hlenL:(A' ++ y :: (x0,x1,x2,x3,x4) :: (B ++ R)).length = n:=by
      have h1:=HLN.out
      have h2:=HTL.out
      simp only [List.length_append,List.length_cons,List.length_nil] at h1 ⊢
      rw [h2];omega
     have hm1:m + 1 < (A' ++ y :: (x0,x1,x2,x3,x4) :: (B ++ R)).length:=by rw [hlenL];omega
     have hx1:=row_itAt hrow (m + 1) hm1
     have hy1:=row_itAt hrow m (by omega)
     have ex:(A' ++ y :: (x0,x1,x2,x3,x4) :: (B ++ R))[m + 1] = (x0,x1,x2,x3,x4):=by rw [List.getElem_eq_iff,hm];exact two_at1 A' y _ _
     have ey:(A' ++ y :: (x0,x1,x2,x3,x4) :: (B ++ R))[m]'(by omega) = y:=by rw [List.getElem_eq_iff,hm];exact two_at0 A' y _ _
     rw [ex] at hx1
     rw [ey] at hy1
     have HRW2:=hid hrow
     have HJM:=hid hmj
     have HLL:=hid hlenL
     have HAM:=hid hm
     have HON2:=hid (fun (hy:befI (x0,x1,x2,x3,x4) y = true) => Ins.on HIN.out hy)
     have HDE:=hid (fun (hy:befI (x0,x1,x2,x3,x4) y = false) => HDN.out (A' ++ [y]) B HIN.out (fun z hz => by
      have:z = y:=by simpa using hz.symm
      rw [this];exact hy))
     have hmn:m < n:=by omega
     have hjn:j < n:=by omega
     have hwm:IntKind.i64.wrap ((j:Int) - 1) = (m:Int):=by rw [hmj,IntKind.wrap_i64] <;> omega
     rw [← hmj] at hx1
     have c4:(j:Int) < (n:Int):=by omega
     have c5:(m:Int) < (n:Int):=by omega
     have c6:(0:Int) ≤ (m:Int):=by omega
     have hpos:j * 5 = m * 5 + 5:=by omega
     have HPS:=hid hpos
     clear hrow hlenL hm1 ex ey hm hmj HIN HRW HAL HLN HYL hpos hj0
     obtain ⟨y0,y1,y2,y3,y4⟩:=y
     have CC:=hid (fun (W:World) => split_items x0 x1 x2 x3 x4 y0 y1 y2 y3 y4 W HXK.out hyk)
     have hbt:decide (cmI (x0,x1,x2,x3,x4) (y0,y1,y2,y3,y4) < 0) = befI (x0,x1,x2,x3,x4) (y0,y1,y2,y3,y4):=cmI_befI _ _
     generalize cmI (x0,x1,x2,x3,x4) (y0,y1,y2,y3,y4) = cv at *
     obtain ⟨p0,p1,p2,p3,p4⟩:=Cs.item5 hx1
     obtain ⟨q0,q1,q2,q3,q4⟩:=Cs.item5 hy1
     have hFd:=HF.out
     have HFZ:=hid HF.out
     cases hbb:befI (x0,x1,x2,x3,x4) (y0,y1,y2,y3,y4)
     ·rw [hbb] at hbt
      have HD:=hid (HDE.out hbb)
      clear hbb HDE HON2 HON
      go_upto_region 4 with fail
      go_region_held3 (fun w' => w'.cell? ⟨g,j * 5,none⟩ = some (.int .i64 x0) ∧ w'.cell? ⟨g,j * 5 + 1,none⟩ = some (.int .i64 x1) ∧ w'.cell? ⟨g,j * 5 + 2,none⟩ = some (.int .i64 x2) ∧ w'.cell? ⟨g,j * 5 + 3,none⟩ = some (.int .i64 x3) ∧ w'.cell? ⟨g,j * 5 + 4,none⟩ = some (.int .i64 x4) ∧ w'.cell? ⟨g,m * 5,none⟩ = some (.int .i64 y0) ∧ w'.cell? ⟨g,m * 5 + 1,none⟩ = some (.int .i64 y1) ∧ w'.cell? ⟨g,m * 5 + 2,none⟩ = some (.int .i64 y2) ∧ w'.cell? ⟨g,m * 5 + 3,none⟩ = some (.int .i64 y3) ∧ w'.cell? ⟨g,m * 5 + 4,none⟩ = some (.int .i64 y4)) ((go_split_ands;(repeat' apply And.intro) <;> (with_reducible repeat (first | assumption | refine keepdrew ?_ | refine keepcell (by assumption) ?_))))
       (first
        | ((go_at_call 121;refine (CC.out _).mono ?_;rintro e w1 ⟨rfl,hb1⟩)))
      all_goals
       go_wp2_with fail
       go_roundw
       case rel => exact ⟨k + 1,by go_num,by omega,by omega,hid (by rw [HRD.out,← HD.out,List.append_assoc];exact row_blk HRW2.out (fun b hb => (btrans (bdrew (Below.refl _ _)) hb1).block b (row_lt HRW2.out b hb).2)),hid (HFZ.out.bel (btrans (bdrew (Below.refl _ _)) hb1))⟩
       case measure => simp [intOf];omega
     ·rw [hbb] at hbt
      have HI2:=hid (HON2.out hbb)
      clear hbb HDE HON2 HON
      go_upto_region 4 with fail
      go_region_held3 (fun w' => w'.cell? ⟨g,j * 5,none⟩ = some (.int .i64 x0) ∧ w'.cell? ⟨g,j * 5 + 1,none⟩ = some (.int .i64 x1) ∧ w'.cell? ⟨g,j * 5 + 2,none⟩ = some (.int .i64 x2) ∧ w'.cell? ⟨g,j * 5 + 3,none⟩ = some (.int .i64 x3) ∧ w'.cell? ⟨g,j * 5 + 4,none⟩ = some (.int .i64 x4) ∧ w'.cell? ⟨g,m * 5,none⟩ = some (.int .i64 y0) ∧ w'.cell? ⟨g,m * 5 + 1,none⟩ = some (.int .i64 y1) ∧ w'.cell? ⟨g,m * 5 + 2,none⟩ = some (.int .i64 y2) ∧ w'.cell? ⟨g,m * 5 + 3,none⟩ = some (.int .i64 y3) ∧ w'.cell? ⟨g,m * 5 + 4,none⟩ = some (.int .i64 y4)) ((go_split_ands;(repeat' apply And.intro) <;> (with_reducible repeat (first | assumption | refine keepdrew ?_ | refine keepcell (by assumption) ?_))))
       (first
        | ((go_at_call 121;refine (CC.out _).mono ?_;rintro e w1 ⟨rfl,hb1⟩)))
      all_goals
       have hB9:Below wr.heap.size wr w1:=(btrans (bdrew (Below.refl _ _)) hb1)
       have hrow9:=row_blk HRW2.out (fun b hb => hB9.block b (by have h9:=(row_lt HRW2.out b hb).2;exact h9))
       have HR9:=hid hrow9
       have hF9:=hid (HFZ.out.bel hB9)
       clear hbt HRW2 HFZ hFd hrow9
       have hx1:=row_itAt HR9.out j (by rw [HLL.out];exact hjn)
       have hy1:=row_itAt HR9.out m (by rw [HLL.out];exact hmn)
       have ex:(A' ++ (y0,y1,y2,y3,y4) :: (x0,x1,x2,x3,x4) :: (B ++ R))[j]'(by rw [HLL.out];exact hjn) = (x0,x1,x2,x3,x4):=by rw [List.getElem_eq_iff,HJM.out,HAM.out];exact two_at1 A' _ _ _
       have ey:(A' ++ (y0,y1,y2,y3,y4) :: (x0,x1,x2,x3,x4) :: (B ++ R))[m]'(by rw [HLL.out];exact hmn) = (y0,y1,y2,y3,y4):=by rw [List.getElem_eq_iff,HAM.out];exact two_at0 A' _ _ _
       rw [ex] at hx1
       rw [ey] at hy1
       clear ex ey hB9
       obtain ⟨p0,p1,p2,p3,p4⟩:=Cs.item5 hx1
       obtain ⟨q0,q1,q2,q3,q4⟩:=Cs.item5 hy1
       go_upto_region 6 with fail
       generalize w1 = V at *
       refine wp_region_late (L:=[15,17]) (S:=(fun w' => w'.cell? ⟨g,j * 5,none⟩ = some (.int .i64 x0) ∧ w'.cell? ⟨g,j * 5 + 1,none⟩ = some (.int .i64 x1) ∧ w'.cell? ⟨g,j * 5 + 2,none⟩ = some (.int .i64 x2) ∧ w'.cell? ⟨g,j * 5 + 3,none⟩ = some (.int .i64 x3) ∧ w'.cell? ⟨g,j * 5 + 4,none⟩ = some (.int .i64 x4) ∧ w'.cell? ⟨g,m * 5,none⟩ = some (.int .i64 y0) ∧ w'.cell? ⟨g,m * 5 + 1,none⟩ = some (.int .i64 y1) ∧ w'.cell? ⟨g,m * 5 + 2,none⟩ = some (.int .i64 y2) ∧ w'.cell? ⟨g,m * 5 + 3,none⟩ = some (.int .i64 y3) ∧ w'.cell? ⟨g,m * 5 + 4,none⟩ = some (.int .i64 y4))) (by kernel_rfl) ?_ (fun hHeld => ?_)
       ·(refine ⟨p0,p1,p2,p3,p4,q0,q1,q2,q3,q4⟩)
       replace HR9:=hid (HR9.out.drew)
       replace hF9:=hid (hF9.out.bel (bdrew (Below.refl _ _)))
       generalize V.drew = Z0 at *
       refine tkP 0 hHeld ?_
       try simp only [sq]
       refine tkP 1 hHeld ?_
       try simp only [sq]
       refine tkP 2 hHeld ?_
       try simp only [sq]
       refine tkP 3 hHeld ?_
       try simp only [sq]
       refine tkP 4 hHeld ?_
       try simp only [sq]
       refine tkP 5 hHeld ?_
       try simp only [sq]
       refine tkP 6 hHeld ?_
       try simp only [sq]
       refine tkP 7 hHeld ?_
       try simp only [sq]
       refine tkP 8 hHeld ?_
       try simp only [sq]
       refine tkA 9 hHeld ?_
       try simp only [sq]
       refine tkP 10 hHeld ?_
       try simp only [sq]
       refine tkP 11 hHeld ?_
       try simp only [sq]
       refine tkP 12 hHeld ?_
       try simp only [sq]
       refine tkA 13 hHeld ?_
       try simp only [sq]
       refine tkP 14 hHeld ?_
       try simp only [sq]
       refine anyL_1 (i:=15) rfl (by kernel_rfl) rfl ?_
       have hth:=row_there HR9.out
       obtain ⟨s0,s0'⟩:=hth (j * 5) (by omega)
       obtain ⟨s1,s1'⟩:=hth (j * 5 + 1) (by omega)
       obtain ⟨s2,s2'⟩:=hth (j * 5 + 2) (by omega)
       obtain ⟨s3,s3'⟩:=hth (j * 5 + 3) (by omega)
       obtain ⟨s4,s4'⟩:=hth (j * 5 + 4) (by omega)
       simp only [Nat.zero_add,← Nat.add_assoc] at s0' s1' s2' s3' s4'
       clear s0 s1 s2 s3 s4 hth
       refine wpo_late (by kernel_rfl) (by go_simp;first | done | with_reducible rfl | rfl | exact ⟨rfl,rfl⟩) ?_
       clear s0' s1' s2' s3' s4'
       change anyL _ _ _ _ _ _ _ _ _ (setL Z0 g (j * 5) [.int .i64 y0,.int .i64 y1,.int .i64 y2,.int .i64 y3,.int .i64 y4])
       have hr10:=row_setI HR9.out HLL.out hjn (y0,y1,y2,y3,y4)
       have hf10:=Fr.setL hF9.out [.int .i64 y0,.int .i64 y1,.int .i64 y2,.int .i64 y3,.int .i64 y4] (j * 5)
       change (setL Z0 g (j * 5) [.int .i64 y0,.int .i64 y1,.int .i64 y2,.int .i64 y3,.int .i64 y4]).ownsRow _ _ _ _ _ _ at hr10
       have HR10:=hid hr10
       have HF10:=hid hf10
       clear hr10 hf10 HR9 hF9
       generalize setL Z0 g (j * 5) [.int .i64 y0,.int .i64 y1,.int .i64 y2,.int .i64 y3,.int .i64 y4] = V1 at *
       try simp only [sq]
       refine anyL_pure (i:=16) (v:=?_) rfl (by kernel_rfl) (fun _ _ _ h => h) (Or.inl ⟨by rfl,?_⟩) (Or.inl (by kernel_rfl)) ?_
       rotate_left
       ·intro w hSw;clear hSw;go_simp;try (with_reducible rfl)
       try simp only [sq]
       refine anyL_1 (i:=17) rfl (by kernel_rfl) rfl ?_
       have hth:=row_there HR10.out
       obtain ⟨s0,s0'⟩:=hth (m * 5) (by omega)
       obtain ⟨u0,hu0⟩:=Option.isSome_iff_exists.1 s0
       obtain ⟨s1,s1'⟩:=hth (m * 5 + 1) (by omega)
       obtain ⟨u1,hu1⟩:=Option.isSome_iff_exists.1 s1
       obtain ⟨s2,s2'⟩:=hth (m * 5 + 2) (by omega)
       obtain ⟨u2,hu2⟩:=Option.isSome_iff_exists.1 s2
       obtain ⟨s3,s3'⟩:=hth (m * 5 + 3) (by omega)
       obtain ⟨u3,hu3⟩:=Option.isSome_iff_exists.1 s3
       obtain ⟨s4,s4'⟩:=hth (m * 5 + 4) (by omega)
       obtain ⟨u4,hu4⟩:=Option.isSome_iff_exists.1 s4
       simp only [Nat.zero_add,← Nat.add_assoc] at s0' hu0 s1' hu1 s2' hu2 s3' hu3 s4' hu4
       clear s0 s1 s2 s3 s4 hth
       refine wpo_late (by kernel_rfl) (by go_simp;first | done | with_reducible rfl | rfl | exact ⟨rfl,rfl⟩) ?_
       clear s0' hu0 s1' hu1 s2' hu2 s3' hu3 s4' hu4
       change anyL _ _ _ _ _ _ _ _ _ (setL V1 g (m * 5) [.int .i64 x0,.int .i64 x1,.int .i64 x2,.int .i64 x3,.int .i64 x4])
       have hr11:=row_setI HR10.out (by rw [List.length_set];exact HLL.out) hmn (x0,x1,x2,x3,x4)
       have hf11:=Fr.setL HF10.out [.int .i64 x0,.int .i64 x1,.int .i64 x2,.int .i64 x3,.int .i64 x4] (m * 5)
       change (setL V1 g (m * 5) [.int .i64 x0,.int .i64 x1,.int .i64 x2,.int .i64 x3,.int .i64 x4]).ownsRow _ _ _ _ _ _ at hr11
       have e11:((A' ++ (y0,y1,y2,y3,y4) :: (x0,x1,x2,x3,x4) :: (B ++ R)).set j (y0,y1,y2,y3,y4)).set m (x0,x1,x2,x3,x4) = A' ++ (x0,x1,x2,x3,x4) :: (y0,y1,y2,y3,y4) :: (B ++ R):=by rw [HJM.out,HAM.out];exact two_set A' _ _ _
       rw [e11] at hr11
       clear e11
       have HR11:=hid hr11
       have HF11:=hid hf11
       clear hr11 hf11 HR10 HF10
       generalize setL V1 g (m * 5) [.int .i64 x0,.int .i64 x1,.int .i64 x2,.int .i64 x3,.int .i64 x4] = V2 at *
       try simp only [sq]
       refine anyL_done (by kernel_rfl) ?_ _
       go_wp2_with fail
       go_roundw
       case rel => exact ⟨m,A',(y0,y1,y2,y3,y4) :: B,by first | rfl | go_num,by have:=HJM.out;omega,hid HAM.out.symm,HI2,HR11,HF11⟩
       case measure => have:=HJM.out;simp [intOf];omega
  ·obtain rfl:k = n:=by omega
   have c1:¬ (k:Int) < (k:Int):=by omega
   go_wp2_with fail
   go_end0
   refine ⟨rfl,?_,HF.out⟩
   have:=HR.out
   rw [List.take_of_length_le (by rw [HL.out];exact Nat.le_refl _),List.drop_of_length_le (by rw [HL.out];exact Nat.le_refl _),List.append_nil] at this
   exact this
theorem ins_knots (lo g c n:Nat) (l:List KP) (w:World) (h:w.ownsRow lo 35 7 (.slice (some ⟨g,0,none⟩) n c) n (flK l)) (hl:l.length = n) (h0:1 ≤ n) (hn:n ≤ 1048576) (hok:l.all (fun x => bkb x.1.box) = true):Calls Tryz.prog 161 #[.slice (some ⟨g,0,none⟩) n c,.int .i64 0,.int .i64 n,.func (.func 126) #[] #[]] w fun e w' => e = .returned (.tuple #[]) ∧ w'.ownsRow lo 35 7 (.slice (some ⟨g,0,none⟩) n c) n (flK (isort ltK l)) ∧ Fr [g] w w':=by
 have HR:=hid (show w.ownsRow lo 35 7 (.slice (some ⟨g,0,none⟩) n c) n (flK (isort ltK (l.take 1) ++ l.drop 1)) by rw [isort_one];exact h)
 have HL:=hid hl
 have HOK:=hid (fun (x:KP) (hx:x ∈ l) => List.all_eq_true.1 hok x hx)
 have HF:=hid (Fr.refl [g] w)
 have hnI:(1:Int) ≤ (n:Int):=by omega
 clear h hl hok
 go_enter Tryz.func161,Tryz.ntmps161
 go_wp2_with fail
 go_loopw [8] (fun ti wr => ∃ k:Nat,ti = .int .i64 k ∧ 1 ≤ k ∧ k ≤ n ∧ Hid (wr.ownsRow lo 35 7 (.slice (some ⟨g,0,none⟩) n c) n (flK (isort ltK (l.take k) ++ l.drop k))) ∧ Hid (Fr [g] w wr)) (fun ti _ => n - (intOf ti).toNat)
 case atStart => exact ⟨1,rfl,Nat.le_refl _,h0,HR,HF⟩
 case round =>
  clear HR HF
  obtain ⟨k,rfl,hk1,hkn,HR,HF⟩:=hrel
  by_cases hlt:k < n
  ·have c1:(k:Int) < (n:Int):=by omega
   have hkl:k < l.length:=by rw [HL.out];exact hlt
   have HXK:=hid (HOK.out l[k] (List.getElem_mem hkl))
   have HIN:=hid (Ins.start ltK l k l[k])
   have hls:(isort ltK (l.take k)).length = k:=by rw [isort_len,List.length_take];omega
   have HDN:=hid (fun (A B:List KP) (hi:Ins ltK l k l[k] A B) (hA:∀ y,A.getLast? = some y → ltK l[k] y = false) => isort_done hkl hi hA)
   have HLEN:=hid (fun (A B:List KP) (hi:Ins ltK l k l[k] A B) => Ins.len (Nat.le_of_lt hkl) hi)
   have HON:=hid (fun (A B:List KP) (y:KP) (hi:Ins ltK l k l[k] (A ++ [y]) B) => show y ∈ l from by
    have hm:y ∈ isort ltK (l.take k):=by rw [hi.1];simp
    exact List.mem_of_mem_take ((isort_perm ltK (l.take k)).mem_iff.1 hm))
   have HR2:=hid (show wr.ownsRow lo 35 7 (.slice (some ⟨g,0,none⟩) n c) n (flK (isort ltK (l.take k) ++ l[k] :: ([] ++ l.drop (k + 1)))) by rw [isort_on hkl];exact HR.out)
   have HTL:=hid (show (l.drop (k + 1)).length = n - (k + 1) by rw [List.length_drop,HL.out])
   clear HR
   generalize isort ltK (l.take k) = A0 at *
   generalize hrd:l.drop (k + 1) = R at *
   have HRD:=hid hrd
   clear hrd
   generalize l[k] = x at *
   have HXX:=hid (kh x)
   have HLS:=hid hls
   clear hls hkl
   go_wp2_with fail
   go_loopw [9] (fun tj wq => ∃ (j:Nat) (A B:List KP),tj = .int .i64 j ∧ j ≤ k ∧ Hid (A.length = j) ∧ Hid (Ins ltK l k x A B) ∧ Hid (wq.ownsRow lo 35 7 (.slice (some ⟨g,0,none⟩) n c) n (flK (A ++ x :: (B ++ R)))) ∧ Hid (Fr [g] w wq)) (fun tj _ => (intOf tj).toNat)
   case atStart => exact ⟨k,A0,[],rfl,Nat.le_refl _,HLS,HIN,HR2,HF⟩
   case round =>
    clear HLS HIN HR2 HF
    obtain ⟨j,A,B,rfl,hjk,HAL,HIN,HRW,HF⟩:=hrel
    by_cases hj0:j = 0
    ·have hA:A = []:=List.length_eq_zero_iff.1 (HAL.out.trans hj0)
     have HD:=hid (HDN.out A B HIN.out (fun y hy => by rw [hA] at hy;cases hy))
     have c2:¬ (0:Int) < (j:Int):=by omega
     have c3:decide (0 < j) = false:=by rw [decide_eq_false_iff_not];omega
     clear hA hj0
     go_upto_region 4 with fail
     go_quiet (fail)
     go_wp2_with fail
     go_roundw
     case rel => exact ⟨k + 1,by go_num,by omega,by omega,hid (by rw [HRD.out,← HD.out];exact HRW.out),hid (HF.out.bel ⟨rfl,rfl,rfl,Nat.le_refl _,fun _ _ => rfl⟩)⟩
     case measure => simp [intOf];omega
    ·have c2:(0:Int) < (j:Int):=by omega
     have c3:decide (0 < j) = true:=by rw [decide_eq_true_eq];omega
     obtain ⟨A',y,hAy⟩:∃ A' y,A = A' ++ [y]:=by
      have hne:A ≠ []:=fun e => by rw [e] at HAL;exact hj0 HAL.out.symm
      exact ⟨A.dropLast,A.getLast hne,(List.dropLast_concat_getLast hne).symm⟩
     subst hAy
     obtain ⟨m,hm⟩:∃ m,m = A'.length:=⟨_,rfl⟩
     have hmj:j = m + 1:=by have:=HAL.out;rw [List.length_append,← hm] at this;exact this.symm
     have HYL:=hid (HON.out A' B y HIN.out)
     have hyk:=HOK.out y HYL.out
     have HLN:=hid (HLEN.out _ _ HIN.out)
     have hrow:wr.ownsRow lo 35 7 (.slice (some ⟨g,0,none⟩) n c) n (flK (A' ++ y :: x :: (B ++ R))):=by
      have:=HRW.out
      rw [List.append_assoc] at this
      exact this
     have hlenL:(A' ++ y :: x :: (B ++ R)).length = n:=by
      have h1:=HLN.out
      have h2:=HTL.out
      simp only [List.length_append,List.length_cons,List.length_nil] at h1 ⊢
      rw [h2];omega
     have hm1:m + 1 < (A' ++ y :: x :: (B ++ R)).length:=by rw [hlenL];omega
     have hx1:=row_knAt hrow (m + 1) hm1
     have hy1:=row_knAt hrow m (by omega)
     have ex:(A' ++ y :: x :: (B ++ R))[m + 1] = x:=by rw [List.getElem_eq_iff,hm];exact two_at1 A' y _ _
     have ey:(A' ++ y :: x :: (B ++ R))[m]'(by omega) = y:=by rw [List.getElem_eq_iff,hm];exact two_at0 A' y _ _
     rw [ex] at hx1
     rw [ey] at hy1
     have HRW2:=hid hrow
     have HJM:=hid hmj
     have HLL:=hid hlenL
     have HAM:=hid hm
     have HON2:=hid (fun (hy:ltK x y = true) => Ins.on HIN.out hy)
     have HDE:=hid (fun (hy:ltK x y = false) => HDN.out (A' ++ [y]) B HIN.out (fun z hz => by
      have:z = y:=by simpa using hz.symm
      rw [this];exact hy))
     have hmn:m < n:=by omega
     have hjn:j < n:=by omega
     have hwm:IntKind.i64.wrap ((j:Int) - 1) = (m:Int):=by rw [hmj,IntKind.wrap_i64] <;> omega
     rw [← hmj] at hx1
     have c4:(j:Int) < (n:Int):=by omega
     have c5:(m:Int) < (n:Int):=by omega
     have c6:(0:Int) ≤ (m:Int):=by omega
     have hpos:j * 7 = m * 7 + 7:=by omega
     have HPS:=hid hpos
     clear hrow hlenL hm1 ex ey hm hmj HIN HRW HAL HLN HYL hpos hj0
     obtain ⟨x0,x1,x2,x3,x4,xa,xn,xc,xb,xm,xd,hxv,hxb⟩:=HXX.out
     obtain ⟨y0,y1,y2,y3,y4,ya,yn,yc,yb,ym,yd,hyv,hyb⟩:=kh y
     rw [hxv] at hx1
     rw [hyv] at hy1
     have hxk:bkb (x0,x1,x2,x3) = true:=by rw [← hxb];exact HXK.out
     rw [hyb] at hyk
     have HXV:=hid hxv
     have HYV:=hid hyv
     clear hxv hyv
     have CC:=hid (fun (W:World) => split_knots x0 x1 x2 x3 y0 y1 y2 y3 x4 y4 xa xb ya yb xn xc xm xd yn yc ym yd W hxk hyk)
     have hbt:decide (cmid (x0,x1,x2,x3) (y0,y1,y2,y3) < 0) = ltK x y:=(by unfold ltK befK;rw [hxb,hyb];exact cmid_bef _ _)
     generalize cmid (x0,x1,x2,x3) (y0,y1,y2,y3) = cv at *
     obtain ⟨p0,p1,p2,p3,p4,p5,p6⟩:=Cs.knot7 hx1
     obtain ⟨q0,q1,q2,q3,q4,q5,q6⟩:=Cs.knot7 hy1
     have hFd:=HF.out
     have HFZ:=hid HF.out
     cases hbb:ltK x y
     ·rw [hbb] at hbt
      have HD:=hid (HDE.out hbb)
      clear hbb HDE HON2 HON
      go_upto_region 4 with fail
      go_region_held3 (fun w' => w'.cell? ⟨g,j * 7,none⟩ = some (.int .i64 x0) ∧ w'.cell? ⟨g,j * 7 + 1,none⟩ = some (.int .i64 x1) ∧ w'.cell? ⟨g,j * 7 + 2,none⟩ = some (.int .i64 x2) ∧ w'.cell? ⟨g,j * 7 + 3,none⟩ = some (.int .i64 x3) ∧ w'.cell? ⟨g,j * 7 + 4,none⟩ = some (.bool x4) ∧ w'.cell? ⟨g,j * 7 + 5,none⟩ = some (.slice xa xn xc) ∧ w'.cell? ⟨g,j * 7 + 6,none⟩ = some (.slice xb xm xd) ∧ w'.cell? ⟨g,m * 7,none⟩ = some (.int .i64 y0) ∧ w'.cell? ⟨g,m * 7 + 1,none⟩ = some (.int .i64 y1) ∧ w'.cell? ⟨g,m * 7 + 2,none⟩ = some (.int .i64 y2) ∧ w'.cell? ⟨g,m * 7 + 3,none⟩ = some (.int .i64 y3) ∧ w'.cell? ⟨g,m * 7 + 4,none⟩ = some (.bool y4) ∧ w'.cell? ⟨g,m * 7 + 5,none⟩ = some (.slice ya yn yc) ∧ w'.cell? ⟨g,m * 7 + 6,none⟩ = some (.slice yb ym yd)) ((go_split_ands;(repeat' apply And.intro) <;> (with_reducible repeat (first | assumption | refine keepdrew ?_ | refine keepcell (by assumption) ?_))))
       (first
        | ((go_at_call 126;refine (CC.out _).mono ?_;rintro e w1 ⟨rfl,hb1⟩)))
      all_goals
       go_wp2_with fail
       go_roundw
       case rel => exact ⟨k + 1,by go_num,by omega,by omega,hid (by rw [HRD.out,← HD.out,List.append_assoc];exact row_blk HRW2.out (fun b hb => (btrans (bdrew (Below.refl _ _)) hb1).block b (row_lt HRW2.out b hb).2)),hid (HFZ.out.bel (btrans (bdrew (Below.refl _ _)) hb1))⟩
       case measure => simp [intOf];omega
     ·rw [hbb] at hbt
      have HI2:=hid (HON2.out hbb)
      clear hbb HDE HON2 HON
      go_upto_region 4 with fail
      go_region_held3 (fun w' => w'.cell? ⟨g,j * 7,none⟩ = some (.int .i64 x0) ∧ w'.cell? ⟨g,j * 7 + 1,none⟩ = some (.int .i64 x1) ∧ w'.cell? ⟨g,j * 7 + 2,none⟩ = some (.int .i64 x2) ∧ w'.cell? ⟨g,j * 7 + 3,none⟩ = some (.int .i64 x3) ∧ w'.cell? ⟨g,j * 7 + 4,none⟩ = some (.bool x4) ∧ w'.cell? ⟨g,j * 7 + 5,none⟩ = some (.slice xa xn xc) ∧ w'.cell? ⟨g,j * 7 + 6,none⟩ = some (.slice xb xm xd) ∧ w'.cell? ⟨g,m * 7,none⟩ = some (.int .i64 y0) ∧ w'.cell? ⟨g,m * 7 + 1,none⟩ = some (.int .i64 y1) ∧ w'.cell? ⟨g,m * 7 + 2,none⟩ = some (.int .i64 y2) ∧ w'.cell? ⟨g,m * 7 + 3,none⟩ = some (.int .i64 y3) ∧ w'.cell? ⟨g,m * 7 + 4,none⟩ = some (.bool y4) ∧ w'.cell? ⟨g,m * 7 + 5,none⟩ = some (.slice ya yn yc) ∧ w'.cell? ⟨g,m * 7 + 6,none⟩ = some (.slice yb ym yd)) ((go_split_ands;(repeat' apply And.intro) <;> (with_reducible repeat (first | assumption | refine keepdrew ?_ | refine keepcell (by assumption) ?_))))
       (first
        | ((go_at_call 126;refine (CC.out _).mono ?_;rintro e w1 ⟨rfl,hb1⟩)))
      all_goals
       have hB9:Below wr.heap.size wr w1:=(btrans (bdrew (Below.refl _ _)) hb1)
       have hrow9:=row_blk HRW2.out (fun b hb => hB9.block b (by have h9:=(row_lt HRW2.out b hb).2;exact h9))
       have HR9:=hid hrow9
       have hF9:=hid (HFZ.out.bel hB9)
       clear hbt HRW2 HFZ hFd hrow9
       have hx1:=row_knAt HR9.out j (by rw [HLL.out];exact hjn)
       have hy1:=row_knAt HR9.out m (by rw [HLL.out];exact hmn)
       have ex:(A' ++ y :: x :: (B ++ R))[j]'(by rw [HLL.out];exact hjn) = x:=by rw [List.getElem_eq_iff,HJM.out,HAM.out];exact two_at1 A' _ _ _
       have ey:(A' ++ y :: x :: (B ++ R))[m]'(by rw [HLL.out];exact hmn) = y:=by rw [List.getElem_eq_iff,HAM.out];exact two_at0 A' _ _ _
       rw [ex] at hx1
       rw [ey] at hy1
       clear ex ey hB9
       rw [HXV.out] at hx1
       rw [HYV.out] at hy1
       obtain ⟨p0,p1,p2,p3,p4,p5,p6⟩:=Cs.knot7 hx1
       obtain ⟨q0,q1,q2,q3,q4,q5,q6⟩:=Cs.knot7 hy1
       go_upto_region 6 with fail
       generalize w1 = V at *
       refine wp_region_late (L:=[15,17]) (S:=(fun w' => w'.cell? ⟨g,j * 7,none⟩ = some (.int .i64 x0) ∧ w'.cell? ⟨g,j * 7 + 1,none⟩ = some (.int .i64 x1) ∧ w'.cell? ⟨g,j * 7 + 2,none⟩ = some (.int .i64 x2) ∧ w'.cell? ⟨g,j * 7 + 3,none⟩ = some (.int .i64 x3) ∧ w'.cell? ⟨g,j * 7 + 4,none⟩ = some (.bool x4) ∧ w'.cell? ⟨g,j * 7 + 5,none⟩ = some (.slice xa xn xc) ∧ w'.cell? ⟨g,j * 7 + 6,none⟩ = some (.slice xb xm xd) ∧ w'.cell? ⟨g,m * 7,none⟩ = some (.int .i64 y0) ∧ w'.cell? ⟨g,m * 7 + 1,none⟩ = some (.int .i64 y1) ∧ w'.cell? ⟨g,m * 7 + 2,none⟩ = some (.int .i64 y2) ∧ w'.cell? ⟨g,m * 7 + 3,none⟩ = some (.int .i64 y3) ∧ w'.cell? ⟨g,m * 7 + 4,none⟩ = some (.bool y4) ∧ w'.cell? ⟨g,m * 7 + 5,none⟩ = some (.slice ya yn yc) ∧ w'.cell? ⟨g,m * 7 + 6,none⟩ = some (.slice yb ym yd))) (by kernel_rfl) ?_ (fun hHeld => ?_)
       ·(refine ⟨p0,p1,p2,p3,p4,p5,p6,q0,q1,q2,q3,q4,q5,q6⟩)
       replace HR9:=hid (HR9.out.drew)
       replace hF9:=hid (hF9.out.bel (bdrew (Below.refl _ _)))
       generalize V.drew = Z0 at *
       refine tkP 0 hHeld ?_
       try simp only [sq]
       refine tkP 1 hHeld ?_
       try simp only [sq]
       refine tkP 2 hHeld ?_
       try simp only [sq]
       refine tkP 3 hHeld ?_
       try simp only [sq]
       refine tkP 4 hHeld ?_
       try simp only [sq]
       refine tkP 5 hHeld ?_
       try simp only [sq]
       refine tkP 6 hHeld ?_
       try simp only [sq]
       refine tkP 7 hHeld ?_
       try simp only [sq]
       refine tkP 8 hHeld ?_
       try simp only [sq]
       refine tkA 9 hHeld ?_
       try simp only [sq]
       refine tkP 10 hHeld ?_
       try simp only [sq]
       refine tkP 11 hHeld ?_
       try simp only [sq]
       refine tkP 12 hHeld ?_
       try simp only [sq]
       refine tkA 13 hHeld ?_
       try simp only [sq]
       refine tkP 14 hHeld ?_
       try simp only [sq]
       refine anyL_1 (i:=15) rfl (by kernel_rfl) rfl ?_
       have hth:=row_there HR9.out
       obtain ⟨s0,s0'⟩:=hth (j * 7) (by omega)
       obtain ⟨s1,s1'⟩:=hth (j * 7 + 1) (by omega)
       obtain ⟨s2,s2'⟩:=hth (j * 7 + 2) (by omega)
       obtain ⟨s3,s3'⟩:=hth (j * 7 + 3) (by omega)
       obtain ⟨s4,s4'⟩:=hth (j * 7 + 4) (by omega)
       obtain ⟨s5,s5'⟩:=hth (j * 7 + 5) (by omega)
       obtain ⟨s6,s6'⟩:=hth (j * 7 + 6) (by omega)
       simp only [Nat.zero_add,← Nat.add_assoc] at s0' s1' s2' s3' s4' s5' s6'
       clear s0 s1 s2 s3 s4 s5 s6 hth
       refine wpo_late (by kernel_rfl) (by go_simp;first | done | with_reducible rfl | rfl | exact ⟨rfl,rfl⟩) ?_
       clear s0' s1' s2' s3' s4' s5' s6'
       change anyL _ _ _ _ _ _ _ _ _ (setL Z0 g (j * 7) [.int .i64 y0,.int .i64 y1,.int .i64 y2,.int .i64 y3,.bool y4,.slice ya yn yc,.slice yb ym yd])
       have hr10:=row_setK HR9.out HLL.out hjn y
       have hf10:=Fr.setL hF9.out [.int .i64 y0,.int .i64 y1,.int .i64 y2,.int .i64 y3,.bool y4,.slice ya yn yc,.slice yb ym yd] (j * 7)
       rw [HYV.out] at hr10
       have HR10:=hid hr10
       have HF10:=hid hf10
       clear hr10 hf10 HR9 hF9
       generalize setL Z0 g (j * 7) [.int .i64 y0,.int .i64 y1,.int .i64 y2,.int .i64 y3,.bool y4,.slice ya yn yc,.slice yb ym yd] = V1 at *
       try simp only [sq]
       refine anyL_pure (i:=16) (v:=?_) rfl (by kernel_rfl) (fun _ _ _ h => h) (Or.inl ⟨by rfl,?_⟩) (Or.inl (by kernel_rfl)) ?_
       rotate_left
       ·intro w hSw;clear hSw;go_simp;try (with_reducible rfl)
       try simp only [sq]
       refine anyL_1 (i:=17) rfl (by kernel_rfl) rfl ?_
       have hth:=row_there HR10.out
       obtain ⟨s0,s0'⟩:=hth (m * 7) (by omega)
       obtain ⟨u0,hu0⟩:=Option.isSome_iff_exists.1 s0
       obtain ⟨s1,s1'⟩:=hth (m * 7 + 1) (by omega)
       obtain ⟨u1,hu1⟩:=Option.isSome_iff_exists.1 s1
       obtain ⟨s2,s2'⟩:=hth (m * 7 + 2) (by omega)
       obtain ⟨u2,hu2⟩:=Option.isSome_iff_exists.1 s2
       obtain ⟨s3,s3'⟩:=hth (m * 7 + 3) (by omega)
       obtain ⟨u3,hu3⟩:=Option.isSome_iff_exists.1 s3
       obtain ⟨s4,s4'⟩:=hth (m * 7 + 4) (by omega)
       obtain ⟨u4,hu4⟩:=Option.isSome_iff_exists.1 s4
       obtain ⟨s5,s5'⟩:=hth (m * 7 + 5) (by omega)
       obtain ⟨u5,hu5⟩:=Option.isSome_iff_exists.1 s5
       obtain ⟨s6,s6'⟩:=hth (m * 7 + 6) (by omega)
       obtain ⟨u6,hu6⟩:=Option.isSome_iff_exists.1 s6
       simp only [Nat.zero_add,← Nat.add_assoc] at s0' hu0 s1' hu1 s2' hu2 s3' hu3 s4' hu4 s5' hu5 s6' hu6
       clear s0 s1 s2 s3 s4 s5 s6 hth
       refine wpo_late (by kernel_rfl) (by go_simp;first | done | with_reducible rfl | rfl | exact ⟨rfl,rfl⟩) ?_
       clear s0' hu0 s1' hu1 s2' hu2 s3' hu3 s4' hu4 s5' hu5 s6' hu6
       change anyL _ _ _ _ _ _ _ _ _ (setL V1 g (m * 7) [.int .i64 x0,.int .i64 x1,.int .i64 x2,.int .i64 x3,.bool x4,.slice xa xn xc,.slice xb xm xd])
       have hr11:=row_setK HR10.out (by rw [List.length_set];exact HLL.out) hmn x
       have hf11:=Fr.setL HF10.out [.int .i64 x0,.int .i64 x1,.int .i64 x2,.int .i64 x3,.bool x4,.slice xa xn xc,.slice xb xm xd] (m * 7)
       rw [HXV.out] at hr11
       have e11:((A' ++ y :: x :: (B ++ R)).set j y).set m x = A' ++ x :: y :: (B ++ R):=by rw [HJM.out,HAM.out];exact two_set A' _ _ _
       rw [e11] at hr11
       clear e11
       have HR11:=hid hr11
       have HF11:=hid hf11
       clear hr11 hf11 HR10 HF10
       generalize setL V1 g (m * 7) [.int .i64 x0,.int .i64 x1,.int .i64 x2,.int .i64 x3,.bool x4,.slice xa xn xc,.slice xb xm xd] = V2 at *
       try simp only [sq]
       refine anyL_done (by kernel_rfl) ?_ _
       go_wp2_with fail
       go_roundw
       case rel => exact ⟨m,A',y :: B,by first | rfl | go_num,by have:=HJM.out;omega,hid HAM.out.symm,HI2,HR11,HF11⟩
       case measure => have:=HJM.out;simp [intOf];omega
  ·obtain rfl:k = n:=by omega
   have c1:¬ (k:Int) < (k:Int):=by omega
   go_wp2_with fail
   go_end0
   refine ⟨rfl,?_,HF.out⟩
   have:=HR.out
   rw [List.take_of_length_le (by rw [HL.out];exact Nat.le_refl _),List.drop_of_length_le (by rw [HL.out];exact Nat.le_refl _),List.append_nil] at this
   exact this
end Go.Proofs.YtjahlofahjgdbaaGreat
