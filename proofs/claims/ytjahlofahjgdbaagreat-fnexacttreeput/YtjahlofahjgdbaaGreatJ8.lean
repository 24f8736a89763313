/- Texts of stores, joined: Jn, Tk1, Ja, Jc. -/
import Derived.Test.YtjahlofahjgdbaaGreatJ7
import Derived.OrdersIn
import Derived.Deep.RegionHeld3
set_option linter.unusedSimpArgs false
set_option linter.unusedVariables false
namespace Go.Proofs.YtjahlofahjgdbaaGreat
open Go.RowKit
theorem oper_round {P:Program} {l n:Nat} {o:Oper} {a:Act} {w:World} {K:Act → World → Prop} {Q:Exit → Act → World → Prop} (hd:∀ c,o.op ≠ .defer c) (h:o.wp P a w K Q):o.wpIn (Fence.wide.inRound l) n P a w K Q:=by
 refine ⟨fun _ _ => trivial,?_⟩
 rw [Oper.semAt_eq _ _ _ hd]
 unfold Oper.wp at h
 generalize (execOp a.eval o).run P w = r at *
 cases r with
 | ok x w' =>
  cases x <;> simp only [Oper.upon,Oper.uponIn] at h ⊢ <;>
   first
    | exact h
    | exact ⟨fun e => (by cases e),callsIn_wide.2 h⟩
    | exact ⟨fun e => (by cases e),fun c cs _ => let ⟨v,w'',q,s⟩:=h c cs;⟨v,w'',q,stepsIn_wide.2 s⟩⟩
 | halt x w' => cases x <;> simp only [Oper.upon,Oper.uponIn] at h ⊢ <;> exact h
theorem any_round {P:Program} {md:Region.Mode} {ops:Array Oper} {l n:Nat} {Q:Exit → Act → World → Prop} (hd:∀ (i:Nat) (o:Oper),ops[i]? = some o → ∀ c,o.op ≠ .defer c) (hL:¬ LetsOut Q):∀ (fuel:Nat) (listed:Array Bool) (a:Act) (w:World),wpAny P md ops Q fuel listed a w → wpAnyIn (Fence.wide.inRound l) n P md ops Q fuel listed a w
 | 0,_,_,_,h => h
 | fuel + 1,listed,a,w,h => by
  refine ⟨h.1,fun i hi => ?_⟩
  have h2:=h.2 i hi
  unfold wpOp at h2
  unfold wpOpIn
  cases ho:ops[i]? with
  | none =>
   rw [ho] at h2
   exact any_round hd hL fuel _ a w h2
  | some o =>
   rw [ho] at h2
   simp only [] at h2 ⊢
   by_cases hw:Region.wanted o (yielded ops a.tmps) = true
   ·rw [if_pos hw] at h2 ⊢
    rcases h2 with h2 | ⟨_,h2⟩
    ·exact Oper.wpIn_mono (fun a w h => any_round hd hL fuel _ a w h) (oper_round (hd i o ho) h2)
    ·exact absurd h2 hL
   ·rw [if_neg hw] at h2 ⊢
    exact ⟨fun _ _ => trivial,any_round hd hL fuel _ _ _ h2⟩
def late (L:List Nat) (listed:Array Bool):Bool:=L.any fun l => listed.getD l false
theorem late_set {L:List Nat} {listed:Array Bool} {j:Nat} (h:L.contains j = false):late L (listed.setIfInBounds j true) = late L listed:=by
 unfold late
 induction L with
 | nil => rfl
 | cons l r ih =>
  rw [List.contains_cons,Bool.or_eq_false_iff] at h
  rw [List.any_cons,List.any_cons,ih h.2]
  congr 1
  have hne:j ≠ l:=fun e => by rw [e] at h;simp at h
  simp [Array.getD_eq_getD_getElem?,Array.getElem?_setIfInBounds,hne]
def anyL (P:Program) (md:Region.Mode) (ops:Array Oper) (Q:Exit → Act → World → Prop) (L:List Nat) (S:World → Prop):Nat → Array Bool → Act → World → Prop
 | 0,listed,a,w => Region.ready md ops listed = [] ∧ Q .normal a w
 | fuel + 1,listed,a,w =>
  (Region.ready md ops listed = [] → Q .normal a w) ∧
  ∀ i ∈ Region.ready md ops listed,wpOp P ops Q i (fun a' w' => (late L (listed.setIfInBounds i true) = true ∨ S w') ∧ anyL P md ops Q L S fuel (listed.setIfInBounds i true) a' w') a w
theorem anyL_any {P:Program} {md:Region.Mode} {ops:Array Oper} {Q:Exit → Act → World → Prop} {L:List Nat} {S:World → Prop}:∀ (fuel:Nat) (listed:Array Bool) (a:Act) (w:World),anyL P md ops Q L S fuel listed a w → wpAny P md ops Q fuel listed a w
 | 0,_,_,_,h => h
 | fuel + 1,_,_,_,h => ⟨h.1,fun i hi => wpOp_mono (fun a' w' h' => anyL_any fuel _ a' w' h'.2) (h.2 i hi)⟩
def waits (md:Region.Mode) (ops:Array Oper) (L:List Nat) (i:Nat):Bool:=L.all fun l => match ops[l]? with
 | none => false
 | some o => o.after.any fun e => Region.binds md e && e.on == i
theorem anyL_first {P:Program} {md:Region.Mode} {ops:Array Oper} {Q:Exit → Act → World → Prop} {L:List Nat} {S:World → Prop} {i:Nat} {oi:Oper} {v:Value} (hi:ops[i]? = some oi) (hL:L.contains i = false) (hW:waits md ops L i = true) (hsel:∀ (j:Nat) (o:Oper) cs b,ops[j]? = some o → o.op ≠ .select cs b)
  (hQ:∀ c a w,Q (.panic c) (a.put oi.dst v) w → Q (.panic c) a w) :
  ∀ (fuel:Nat) (listed:Array Bool) (a:Act) (w:World),
   (∀ j oj,ops[j]? = some oj → j ≠ i → listed.getD j true = false → (∀ e ∈ oj.after,Region.binds md e = true → e.on ≠ i) → oi.apart ops oj = true) →
   i ∈ Region.ready md ops listed → YieldsIf P ops S oi v a → late L listed = false → S w →
   anyL P md ops Q L S fuel (listed.setIfInBounds i true) (a.put oi.dst v) w → anyL P md ops Q L S (fuel + 1) listed a w:=by
 intro fuel
 induction fuel with
 | zero =>
  intro listed a w _ hr hy hl hS H
  refine ⟨fun h => (by rw [h] at hr;cases hr),fun j hj => ?_⟩
  by_cases hji:j = i
  ·subst hji;exact hy.wpOp hi hS ⟨.inr hS,H⟩
  ·have:=ready_mono hj hji
   rw [H.1] at this
   cases this
 | succ fuel ih =>
  intro listed a w hfree hr hy hl hS H
  refine ⟨fun h => (by rw [h] at hr;cases hr),fun j hj => ?_⟩
  by_cases hji:j = i
  ·subst hji;exact hy.wpOp hi hS ⟨.inr hS,H⟩
  ·have h1:=H.2 j (ready_mono hj hji)
   obtain ⟨hjun,oj,hoj,hall⟩:=mem_ready.1 hj
   have hnot:∀ e ∈ oj.after,Region.binds md e = true → e.on ≠ i:=fun e he hb heq => by
    have h1:=hall e he hb
    have h0:=(mem_ready.1 hr).1
    rw [heq] at h1
    rcases Nat.lt_or_ge i listed.size with h' | h'
    ·simp [h'] at h0 h1;rw [h0] at h1;cases h1
    ·simp [Array.getElem?_eq_none h'] at h1
   have hjL:L.contains j = false:=by
    cases hc:L.contains j with
    | false => rfl
    | true =>
     exfalso
     unfold waits at hW
     rw [List.all_eq_true] at hW
     have:=hW j (by simpa using hc)
     rw [hoj] at this
     simp only [Array.any_eq_true,Bool.and_eq_true,beq_iff_eq] at this
     obtain ⟨k,hk,hb,he⟩:=this
     exact hnot _ (Array.getElem_mem hk) hb he
   have h2:=wpOp_putIf hoj (hfree j oj hoj hji hjun hnot) (fun cs b => hsel i oi cs b hi) (fun cs b => hsel j oj cs b hoj) hQ hy h1
   have hfree':∀ k ok,ops[k]? = some ok → k ≠ i → (listed.setIfInBounds j true).getD k true = false →
     (∀ e ∈ ok.after,Region.binds md e = true → e.on ≠ i) → oi.apart ops ok = true:=fun k ok hk hki hun hno => by
    refine hfree k ok hk hki ?_ hno
    by_cases hjk:j = k
    ·subst hjk;exact hjun
    ·rw [getD_set_ne true hjk] at hun;exact hun
   refine wpOp_mono (fun a' w' h3 => ?_) h2
   have hS':S w':=by
    rcases h3.2.1 with e | e
    ·rw [late_set hjL,late_set hL,hl] at e;cases e
    ·exact e
   refine ⟨.inr hS',ih (listed.setIfInBounds j true) a' w' hfree' (ready_mono hr (Ne.symm hji)) h3.1 (by rw [late_set hjL];exact hl) hS' ?_⟩
   rw [Array.setIfInBounds_comm _ _ hji]
   exact h3.2.2
theorem anyL_take {P:Program} {md:Region.Mode} {ops:Array Oper} {Q:Exit → Act → World → Prop} {L:List Nat} {S:World → Prop} {i:Nat} {oi:Oper} {v:Value} {fuel:Nat} {listed:Array Bool} {a:Act} {w:World} (hi:ops[i]? = some oi) (hc:(!L.contains i && waits md ops L i && !late L listed && Region.noSelect ops && Region.free md ops listed i && (Region.ready md ops listed).contains i) = true)
  (hQ:∀ c a w,Q (.panic c) (a.put oi.dst v) w → Q (.panic c) a w) (hy:YieldsIf P ops S oi v a) (hS:S w)
  (h:anyL P md ops Q L S fuel (listed.setIfInBounds i true) (a.put oi.dst v) w):anyL P md ops Q L S (fuel + 1) listed a w:=by
 simp only [Bool.and_eq_true,Bool.not_eq_true'] at hc
 obtain ⟨⟨⟨⟨⟨h1,h2⟩,h3⟩,h4⟩,h5⟩,h6⟩:=hc
 exact anyL_first hi h1 h2 (Region.noSelect_spec h4) hQ fuel listed a w (Region.free_spec hi h5) (by simpa using h6) hy h3 hS h
theorem anyL_pureF {P:Program} {md:Region.Mode} {ops:Array Oper} {Q:Exit → Act → World → Prop} {L:List Nat} {S:World → Prop} {i:Nat} {oi:Oper} {v:Value} (hi:ops[i]? = some oi) (hL:L.contains i = false) (hsel:∀ (j:Nat) (o:Oper) cs b,ops[j]? = some o → o.op ≠ .select cs b)
  (hQ:∀ c a w,Q (.panic c) (a.put oi.dst v) w → Q (.panic c) a w) :
  ∀ (fuel:Nat) (listed:Array Bool) (a:Act) (w:World),
   (∀ j oj,ops[j]? = some oj → j ≠ i → listed.getD j true = false → (∀ e ∈ oj.after,Region.binds md e = true → e.on ≠ i) → oi.apart ops oj = true) →
   i ∈ Region.ready md ops listed → YieldsIf P ops (fun _ => True) oi v a → (late L listed = true ∨ S w) →
   anyL P md ops Q L S fuel (listed.setIfInBounds i true) (a.put oi.dst v) w → anyL P md ops Q L S (fuel + 1) listed a w:=by
 intro fuel
 induction fuel with
 | zero =>
  intro listed a w _ hr hy hS H
  refine ⟨fun h => (by rw [h] at hr;cases hr),fun j hj => ?_⟩
  by_cases hji:j = i
  ·subst hji;exact hy.wpOp hi trivial ⟨by rw [late_set hL];exact hS,H⟩
  ·have:=ready_mono hj hji
   rw [H.1] at this
   cases this
 | succ fuel ih =>
  intro listed a w hfree hr hy hS H
  refine ⟨fun h => (by rw [h] at hr;cases hr),fun j hj => ?_⟩
  by_cases hji:j = i
  ·subst hji;exact hy.wpOp hi trivial ⟨by rw [late_set hL];exact hS,H⟩
  ·have h1:=H.2 j (ready_mono hj hji)
   obtain ⟨hjun,oj,hoj,hall⟩:=mem_ready.1 hj
   have hnot:∀ e ∈ oj.after,Region.binds md e = true → e.on ≠ i:=fun e he hb heq => by
    have h1:=hall e he hb
    have h0:=(mem_ready.1 hr).1
    rw [heq] at h1
    rcases Nat.lt_or_ge i listed.size with h' | h'
    ·simp [h'] at h0 h1;rw [h0] at h1;cases h1
    ·simp [Array.getElem?_eq_none h'] at h1
   have h2:=wpOp_putIf hoj (hfree j oj hoj hji hjun hnot) (fun cs b => hsel i oi cs b hi) (fun cs b => hsel j oj cs b hoj) hQ hy h1
   have hfree':∀ k ok,ops[k]? = some ok → k ≠ i → (listed.setIfInBounds j true).getD k true = false →
     (∀ e ∈ ok.after,Region.binds md e = true → e.on ≠ i) → oi.apart ops ok = true:=fun k ok hk hki hun hno => by
    refine hfree k ok hk hki ?_ hno
    by_cases hjk:j = k
    ·subst hjk;exact hjun
    ·rw [getD_set_ne true hjk] at hun;exact hun
   refine wpOp_mono (fun a' w' h3 => ?_) h2
   have hS':late L (listed.setIfInBounds j true) = true ∨ S w':=by
    rcases h3.2.1 with e | e
    ·rw [Array.setIfInBounds_comm _ _ (Ne.symm hji),late_set hL] at e
     exact .inl e
    ·exact .inr e
   refine ⟨hS',ih (listed.setIfInBounds j true) a' w' hfree' (ready_mono hr (Ne.symm hji)) h3.1 hS' ?_⟩
   rw [Array.setIfInBounds_comm _ _ hji]
   exact h3.2.2
theorem anyL_pure {P:Program} {md:Region.Mode} {ops:Array Oper} {Q:Exit → Act → World → Prop} {L:List Nat} {S:World → Prop} {i:Nat} {oi:Oper} {v:Value} {fuel:Nat} {listed:Array Bool} {a:Act} {w:World} (hi:ops[i]? = some oi) (hc:(!L.contains i && Region.noSelect ops && Region.free md ops listed i && (Region.ready md ops listed).contains i) = true)
  (hQ:∀ c a w,Q (.panic c) (a.put oi.dst v) w → Q (.panic c) a w) (hy:YieldsIf P ops (fun _ => True) oi v a) (hS:late L listed = true ∨ S w)
  (h:anyL P md ops Q L S fuel (listed.setIfInBounds i true) (a.put oi.dst v) w):anyL P md ops Q L S (fuel + 1) listed a w:=by
 simp only [Bool.and_eq_true,Bool.not_eq_true'] at hc
 obtain ⟨⟨⟨h1,h4⟩,h5⟩,h6⟩:=hc
 exact anyL_pureF hi h1 (Region.noSelect_spec h4) hQ fuel listed a w (Region.free_spec hi h5) (by simpa using h6) hy hS h
theorem anyL_done {P:Program} {md:Region.Mode} {ops:Array Oper} {Q:Exit → Act → World → Prop} {L:List Nat} {S:World → Prop} {listed:Array Bool} {a:Act} {w:World} (hr:Region.ready md ops listed = []) (h:Q .normal a w):∀ fuel,anyL P md ops Q L S fuel listed a w
 | 0 => ⟨hr,h⟩
 | _ + 1 => ⟨fun _ => h,by rw [hr];simp⟩
theorem wp_region_late {P:Program} {ops:Array Oper} {L:List Nat} {S:World → Prop} {Q:Exit → Act → World → Prop} {id:Nat} {a:Act} {w:World} (hm:P.follows .mixedOrders = true) (hS:S w.drew)
  (h:S w.drew → anyL P .any ops Q L S ops.size (Array.replicate ops.size false) a w.drew):(Code.region id ops true).wp P Q a w:=
 wp_region_any hm (anyL_any _ _ _ _ (h hS))
theorem wpIn_region_late {P:Program} {ops:Array Oper} {l n:Nat} {L:List Nat} {S:World → Prop} {Q:Exit → Act → World → Prop} {id:Nat} {a:Act} {w:World} (hd:ops.all (fun o => match o.op with | .defer _ => false | _ => true) = true) (hL:¬ LetsOut Q) (hm:P.follows .mixedOrders = true) (hS:S w.drew)
  (h:S w.drew → anyL P .any ops Q L S ops.size (Array.replicate ops.size false) a w.drew):(Code.region id ops true).wpIn (Fence.wide.inRound l) n P Q a w:=by
 refine wpIn_region_any hm (any_round (fun i o ho c e => ?_) hL _ _ _ _ (anyL_any _ _ _ _ (h hS)))
 rw [Array.all_eq_true] at hd
 obtain ⟨hi,he⟩:=Array.getElem?_eq_some_iff.1 ho
 have:=hd i hi
 rw [he,e] at this
 cases this
theorem wpOp_of {P:Program} {ops:Array Oper} {Q:Exit → Act → World → Prop} {i:Nat} {o:Oper} {a:Act} {w:World} {K:Act → World → Prop} (ho:ops[i]? = some o) (hg:o.guard = none) (h:o.wp P a w K Q):wpOp P ops Q i K a w:=by
 unfold wpOp
 rw [ho]
 simp only []
 have hw:Region.wanted o (yielded ops a.tmps) = true:=by simp [Region.wanted,hg]
 rw [if_pos hw]
 exact .inl h
def Next1 (P:Program) (md:Region.Mode) (ops:Array Oper) (Q:Exit → Act → World → Prop) (L:List Nat) (S:World → Prop) (fuel:Nat) (listed:Array Bool) (i:Nat) (a:Act) (w:World):Prop:=(late L (listed.setIfInBounds i true) = true ∨ S w) ∧ anyL P md ops Q L S fuel (listed.setIfInBounds i true) a w
theorem anyL_1 {P:Program} {md:Region.Mode} {ops:Array Oper} {Q:Exit → Act → World → Prop} {L:List Nat} {S:World → Prop} {i:Nat} {o:Oper} {fuel:Nat} {listed:Array Bool} {a:Act} {w:World} (ho:ops[i]? = some o) (hr:Region.ready md ops listed = [i]) (hg:o.guard = none)
  (h:o.wp P a w (Next1 P md ops Q L S fuel listed i) Q):anyL P md ops Q L S (fuel + 1) listed a w:=by
 refine ⟨fun h0 => (by rw [hr] at h0;cases h0),fun j hj => ?_⟩
 rw [hr] at hj
 have e:j = i:=by simpa using hj
 subst e
 exact wpOp_of ho hg h
theorem anyL_2 {P:Program} {md:Region.Mode} {ops:Array Oper} {Q:Exit → Act → World → Prop} {L:List Nat} {S:World → Prop} {i j:Nat} {o o':Oper} {fuel:Nat} {listed:Array Bool} {a:Act} {w:World} (ho:ops[i]? = some o) (ho':ops[j]? = some o') (hr:Region.ready md ops listed = [i,j]) (hg:o.guard = none) (hg':o'.guard = none)
  (h:o.wp P a w (Next1 P md ops Q L S fuel listed i) Q) (h':o'.wp P a w (Next1 P md ops Q L S fuel listed j) Q):anyL P md ops Q L S (fuel + 1) listed a w:=by
 refine ⟨fun h0 => (by rw [hr] at h0;cases h0),fun k hk => ?_⟩
 rw [hr] at hk
 have e:k = i ∨ k = j:=by simpa using hk
 rcases e with e | e
 ·subst e;exact wpOp_of ho hg h
 ·subst e;exact wpOp_of ho' hg' h'
theorem wpo_val {P:Program} {md:Region.Mode} {ops:Array Oper} {Q:Exit → Act → World → Prop} {L:List Nat} {S:World → Prop} {i:Nat} {o:Oper} {fuel:Nat} {listed:Array Bool} {a:Act} {w w':World} {v:Value} (hrun:(execOp a.eval o).run P w = .ok (.value v) w') (h:S w' ∧ (S w' → anyL P md ops Q L S fuel (listed.setIfInBounds i true) (a.put o.dst v) w')):o.wp P a w (Next1 P md ops Q L S fuel listed i) Q:=by
 unfold Oper.wp
 rw [hrun]
 exact ⟨.inr h.1,h.2 h.1⟩
theorem wpo_st {P:Program} {md:Region.Mode} {ops:Array Oper} {Q:Exit → Act → World → Prop} {L:List Nat} {S:World → Prop} {i:Nat} {o:Oper} {fuel:Nat} {listed:Array Bool} {a:Act} {w w':World} (hrun:(execOp a.eval o).run P w = .ok .skip w') (h:S w' ∧ (S w' → anyL P md ops Q L S fuel (listed.setIfInBounds i true) (a.put o.dst undef) w')):o.wp P a w (Next1 P md ops Q L S fuel listed i) Q:=by
 unfold Oper.wp
 rw [hrun]
 exact ⟨.inr h.1,h.2 h.1⟩
theorem wpo_late {P:Program} {md:Region.Mode} {ops:Array Oper} {Q:Exit → Act → World → Prop} {L:List Nat} {S:World → Prop} {i:Nat} {o:Oper} {fuel:Nat} {listed:Array Bool} {a:Act} {w w':World} (hl:late L (listed.setIfInBounds i true) = true) (hrun:(execOp a.eval o).run P w = .ok .skip w') (h:anyL P md ops Q L S fuel (listed.setIfInBounds i true) (a.put o.dst undef) w'):o.wp P a w (Next1 P md ops Q L S fuel listed i) Q:=by
 unfold Oper.wp
 rw [hrun]
 exact ⟨.inl hl,h⟩
theorem wpo_call {P:Program} {md:Region.Mode} {ops:Array Oper} {Q:Exit → Act → World → Prop} {L:List Nat} {S:World → Prop} {i:Nat} {o:Oper} {fuel:Nat} {listed:Array Bool} {a:Act} {w w0:World} {f:FuncId} {args:Array Value} {Post:Ending → World → Prop} (hc:Calls P f args w0 Post) (hrun:(execOp a.eval o).run P w = .ok (.enter f args) w0) (hret:∀ e w',Post e w' → ∃ v,e = .returned v) (h:∀ v w',Post (.returned v) w' → S w' ∧ (S w' → anyL P md ops Q L S fuel (listed.setIfInBounds i true) (a.put o.dst v) w')):o.wp P a w (Next1 P md ops Q L S fuel listed i) Q:=by
 unfold Oper.wp
 rw [hrun,Oper.upon_enter]
 refine hc.mono ?_
 intro e w' hp
 obtain ⟨v,rfl⟩:=hret e w' hp
 obtain ⟨h1,h2⟩:=h v w' hp
 exact ⟨.inr h1,h2 h1⟩
theorem wpo_app {P:Program} {md:Region.Mode} {ops:Array Oper} {Q:Exit → Act → World → Prop} {L:List Nat} {S:World → Prop} {i:Nat} {o:Oper} {fuel:Nat} {listed:Array Bool} {a:Act} {w:World} (s x:Operand) (t:TypeId)
  (ho:o.op = .call { callee:=.builtin .append,args:=#[s,x],argTypes:=#[t,t] })
  (base:Nat) (e:TypeId) (i':TypeInfo) (z:Value) (size bytes:Nat) (ht:P.underlying t = some (.slice e)) (hi:P.info? e = some i') (hz:i'.zero = some z)
  (hsize:i'.size = size) (hby:i'.bytes = bytes) (hzs:z.cells.size = size) (hsz:0 < size)
  (a0:Option Addr) (n cap:Nat) (xs:List Value) (hs:a.eval s = .slice a0 n cap) (hown:w.ownsRow base e size (.slice a0 n cap) n xs)
  (b:Option Addr) (m c:Nat) (news:List Value) (hx:a.eval x = .slice b m c) (hsrc:SrcA w b m news) (hl:news.length = m * size) (h1:∀ u ∈ news,u.oneCell' = true)
  (h63:n + m ≤ maxLen) (hbytes:(n + m) * bytes ≤ 140737488355328) (hbase:base ≤ w.heap.size)
  (h:∀ a' c' w',w'.ownsRow base e size (.slice a' (n + m) c') (n + m) (xs ++ news) → w.grownBy w' (Value.ownBlock (.slice a0 n cap)) → (∀ k ∈ hb a',k ∈ hb a0 ∨ k = w.heap.size) → S w' ∧ (S w' → anyL P md ops Q L S fuel (listed.setIfInBounds i true) (a.put o.dst (.slice a' (n + m) c')) w')):o.wp P a w (Next1 P md ops Q L S fuel listed i) Q:=by
 obtain ⟨a',c',w',hr,h2,h3,h4⟩:=run_app (P:=P) w base t o.type e i' z size bytes ht hi hz hsize hby hzs hsz a0 n cap xs hown b m c news hsrc hl h1 h63 hbytes hbase
 unfold Oper.wp execOp
 simp only [ho,resolve,invoke,builtin,Sem.run_bind,Sem.run_pure,Result.andThen_ok,List.map_toArray,List.map_cons,List.map_nil,hs,hx,hr]
 obtain ⟨q1,q2⟩:=h a' c' w' h2 h3 h4
 exact ⟨.inr q1,q2 q1⟩
theorem tkP {P:Program} {md:Region.Mode} {ops:Array Oper} {Q:Exit → Act → World → Prop} {L:List Nat} {S:World → Prop} (i:Nat) {oi:Oper} {v:Value} {fuel:Nat} {listed:Array Bool} {a:Act} {w:World} (hS:S w) (h:anyL P md ops Q L S fuel (listed.setIfInBounds i true) (a.put oi.dst v) w) (hi:ops[i]? = some oi:=by exact rfl) (hw:Region.wanted oi (yielded ops a.tmps) = true:=by rfl) (hy:∀ w,True → (execOp a.eval oi).run P w = .ok (.value v) w:=by intro w hSw;clear hSw;go_simp;try (with_reducible rfl)) (hQ:∀ c a w,Q (.panic c) (a.put oi.dst v) w → Q (.panic c) a w:=by exact fun _ _ _ h => h) (hc:(!L.contains i && Region.noSelect ops && Region.free md ops listed i && (Region.ready md ops listed).contains i) = true:=by kernel_rfl):anyL P md ops Q L S (fuel + 1) listed a w:=anyL_pure hi hc hQ (.inl ⟨hw,hy⟩) (.inr hS) h
theorem tkA {P:Program} {md:Region.Mode} {ops:Array Oper} {Q:Exit → Act → World → Prop} {L:List Nat} {S:World → Prop} (i:Nat) {oi:Oper} {v:Value} {fuel:Nat} {listed:Array Bool} {a:Act} {w:World} (hS:S w) (h:anyL P md ops Q L S fuel (listed.setIfInBounds i true) (a.put oi.dst v) w) (hi:ops[i]? = some oi:=by exact rfl) (hw:Region.wanted oi (yielded ops a.tmps) = true:=by rfl) (hy:∀ w,S w → (execOp a.eval oi).run P w = .ok (.value v) w:=by intro w hSw;(try dsimp only at hSw);go_simp;try (with_reducible rfl)) (hQ:∀ c a w,Q (.panic c) (a.put oi.dst v) w → Q (.panic c) a w:=by exact fun _ _ _ h => h) (hc:(!L.contains i && waits md ops L i && !late L listed && Region.noSelect ops && Region.free md ops listed i && (Region.ready md ops listed).contains i) = true:=by kernel_rfl):anyL P md ops Q L S (fuel + 1) listed a w:=anyL_take hi hc hQ (.inl ⟨hw,hy⟩) hS h
def bef (a b:Bx):Bool:=if a.1 + a.2.2.1 = b.1 + b.2.2.1 then decide (a.2.1 + a.2.2.2 < b.2.1 + b.2.2.2) else decide (a.1 + a.2.2.1 < b.1 + b.2.2.1)
def befI (a b:It):Bool:=bef a.2 b.2 || (!bef b.2 a.2 && decide (a.1 < b.1))
def befK (a b:KT):Bool:=bef a.box b.box
def insV {α:Type} (lt:α → α → Bool) (x:α):List α → List α
 | [] => [x]
 | y :: r => if lt x y then y :: insV lt x r else x :: y :: r
def insR {α:Type} (lt:α → α → Bool) (l:List α) (x:α):List α:=(insV lt x l.reverse).reverse
def isort {α:Type} (lt:α → α → Bool) (l:List α):List α:=l.foldl (insR lt) []
theorem insV_perm {α:Type} (lt:α → α → Bool) (x:α):∀ l:List α,(insV lt x l).Perm (x :: l)
 | [] => List.Perm.refl _
 | y :: r => by
  unfold insV
  split
  ·exact ((insV_perm lt x r).cons y).trans (List.Perm.swap x y r)
  ·exact List.Perm.refl _
theorem insR_perm {α:Type} (lt:α → α → Bool) (l:List α) (x:α):(insR lt l x).Perm (x :: l):=
 (List.reverse_perm _).trans ((insV_perm lt x _).trans ((List.reverse_perm l).cons x))
theorem isort_fold {α:Type} (lt:α → α → Bool):∀ (l a:List α),(l.foldl (insR lt) a).Perm (l ++ a)
 | [],a => List.Perm.refl _
 | x :: r,a => by
  rw [List.foldl_cons]
  refine (isort_fold lt r (insR lt a x)).trans ?_
  exact ((insR_perm lt a x).append_left r).trans List.perm_middle
theorem isort_perm {α:Type} (lt:α → α → Bool) (l:List α):(isort lt l).Perm l:=by
 have:=isort_fold lt l []
 rw [List.append_nil] at this
 exact this
theorem isort_len {α:Type} (lt:α → α → Bool) (l:List α):(isort lt l).length = l.length:=(isort_perm lt l).length_eq
theorem isort_next {α:Type} (lt:α → α → Bool) (l:List α) (i:Nat) (h:i < l.length):isort lt (l.take (i + 1)) = insR lt (isort lt (l.take i)) l[i]:=by
 unfold isort
 rw [List.take_add_one,List.getElem?_eq_getElem h,Option.toList_some,List.foldl_append]
 rfl
def knotL (l:List It):KT:=.mk (jns (l.map (·.2))) true l []
def knotK (ks:List KT):KT:=.mk (jns (ks.map KT.box)) false [] ks
def dn (t:KT):List KT:=if t.fan ≤ 4 then [t] else if t.lf then [knotL ((isort befI t.its).take 3),knotL ((isort befI t.its).drop 3)] else [knotK ((isort befK t.kids).take 3),knotK ((isort befK t.kids).drop 3)]
def ara (b:Bx):Int:=areav b.1 b.2.1 b.2.2.1 b.2.2.2
def kfr (b:Bx) (ks:List KT):Nat → Nat × Int × Int
 | 0 => (0,-1,0)
 | i + 1 => match ks[i]? with
  | none => kfr b ks i
  | some k => if decide ((kfr b ks i).2.1 < 0) || decide (ara (jnb k.box b) - ara k.box < (kfr b ks i).2.1) || (decide (ara (jnb k.box b) - ara k.box = (kfr b ks i).2.1) && decide (ara k.box < (kfr b ks i).2.2)) then (i,ara (jnb k.box b) - ara k.box,ara k.box) else kfr b ks i
def kidF (b:Bx) (ks:List KT):Nat:=(kfr b ks ks.length).1
theorem kfr_lt (b:Bx) (ks:List KT):∀ i,(kfr b ks i).1 ≤ i - 1
 | 0 => Nat.le_refl 0
 | i + 1 => by
  have h:=kfr_lt b ks i
  unfold kfr
  split
  ·omega
  ·split
   ·simp
   ·omega
theorem kidF_lt (b:Bx) (ks:List KT) (h:0 < ks.length):kidF b ks < ks.length:=by
 have:=kfr_lt b ks ks.length
 unfold kidF;omega
def putI:Nat → KT → It → KT
 | 0,t,_ => t
 | n + 1,t,it => if t.lf then knotL (t.its ++ [it]) else match t.kids[kidF it.2 t.kids]? with
  | none => t
  | some k => knotK (t.kids.take (kidF it.2 t.kids) ++ dn (putI n k it) ++ t.kids.drop (kidF it.2 t.kids + 1))
def putT (t:KT) (it:It):KT:=match dn (putI 20 t it) with
 | [k] => k
 | ks => knotK ks
def g5 (d:Nat) (top:Bool) (t:KT):Prop:=t.fan ≤ 5 ∧ (top = true ∨ 2 ≤ t.fan) ∧ t.box = arS t ∧ ((t.lf = true ∧ t.kids = [] ∧ d = 0 ∧ t.ibs.all bkb = true) ∨ (t.lf = false ∧ t.its = [] ∧ 2 ≤ t.kids.length ∧ t.kids.all (gd d false) = true))
theorem gd_of {d:Nat} {top:Bool} {t:KT} (h:g5 d top t) (h4:t.fan ≤ 4):gd (d + 1) top t = true:=by
 obtain ⟨h1,h2,h3,h5⟩:=h
 unfold gd
 simp only [Bool.and_eq_true,decide_eq_true_eq,Bool.or_eq_true]
 refine ⟨⟨⟨h4,h2⟩,?_⟩,h3⟩
 rcases h5 with ⟨hl,hk,h0,ha⟩ | ⟨hl,hi,hk,ha⟩
 ·rw [hl];simp [hk,h0,ha]
 ·rw [hl];simp [hi,hk]
  simpa using ha
theorem knotL_g5 {l:List It} {top:Bool} (h5:l.length ≤ 5) (h2:top = true ∨ 2 ≤ l.length) (ha:(l.map (·.2)).all bkb = true):g5 0 top (knotL l):=
 ⟨h5,h2,rfl,.inl ⟨rfl,rfl,rfl,ha⟩⟩
theorem knotK_g5 {d:Nat} {ks:List KT} {top:Bool} (h5:ks.length ≤ 5) (h2:2 ≤ ks.length) (ha:ks.all (gd d false) = true):g5 d top (knotK ks):=by
 refine ⟨h5,.inr h2,?_,.inr ⟨rfl,rfl,h2,ha⟩⟩
 cases ks with
 | nil => simp at h2
 | cons k r => rfl
theorem all_perm {α:Type} {p:α → Bool} {l m:List α} (h:l.Perm m) (hm:m.all p = true):l.all p = true:=by
 rw [List.all_eq_true] at *
 exact fun x hx => hm x (h.mem_iff.1 hx)
theorem dn_gd {d:Nat} {top:Bool} {t:KT} (h:g5 d top t):(t.fan ≤ 4 ∧ dn t = [t] ∧ gd (d + 1) top t = true) ∨ ∃ a b,dn t = [a,b] ∧ gd (d + 1) false a = true ∧ gd (d + 1) false b = true:=by
 by_cases h4:t.fan ≤ 4
 ·exact .inl ⟨h4,by unfold dn;rw [if_pos h4],gd_of h h4⟩
 ·obtain ⟨h1,h2,h3,h5⟩:=h
  have hf:t.fan = 5:=by omega
  refine .inr ?_
  unfold dn
  rw [if_neg h4]
  rcases h5 with ⟨hl,hk,h0,ha⟩ | ⟨hl,hi,hk,ha⟩
  ·rw [hl,if_pos rfl]
   have hlen:t.its.length = 5:=by unfold KT.fan at hf;rw [hl,if_pos rfl] at hf;exact hf
   have hs:=isort_len befI t.its
   have hall:((isort befI t.its).map (·.2)).all bkb = true:=all_perm ((isort_perm befI t.its).map _) ha
   subst h0
   refine ⟨_,_,rfl,gd_of (knotL_g5 ?_ ?_ ?_) ?_,gd_of (knotL_g5 ?_ ?_ ?_) ?_⟩
   ·rw [List.length_take];omega
   ·right;rw [List.length_take];omega
   ·rw [List.map_take];rw [List.all_eq_true] at *;exact fun x hx => hall x (List.mem_of_mem_take hx)
   ·show (List.take 3 _).length ≤ 4;rw [List.length_take];omega
   ·rw [List.length_drop];omega
   ·right;rw [List.length_drop];omega
   ·rw [List.map_drop];rw [List.all_eq_true] at *;exact fun x hx => hall x (List.mem_of_mem_drop hx)
   ·show (List.drop 3 _).length ≤ 4;rw [List.length_drop];omega
  ·rw [hl,if_neg (by simp)]
   have hlen:t.kids.length = 5:=by unfold KT.fan at hf;rw [hl] at hf;simpa using hf
   have hs:=isort_len befK t.kids
   have hall:(isort befK t.kids).all (gd d false) = true:=all_perm (isort_perm befK t.kids) ha
   refine ⟨_,_,rfl,gd_of (knotK_g5 ?_ ?_ ?_) ?_,gd_of (knotK_g5 ?_ ?_ ?_) ?_⟩
   ·rw [List.length_take];omega
   ·rw [List.length_take];omega
   ·rw [List.all_eq_true] at *;exact fun x hx => hall x (List.mem_of_mem_take hx)
   ·show (List.take 3 _).length ≤ 4;rw [List.length_take];omega
   ·rw [List.length_drop];omega
   ·rw [List.length_drop];omega
   ·rw [List.all_eq_true] at *;exact fun x hx => hall x (List.mem_of_mem_drop hx)
   ·show (List.drop 3 _).length ≤ 4;rw [List.length_drop];omega
theorem putI_g5 {it:It} (hb:bkb it.2 = true):∀ (n d:Nat) (top:Bool) (t:KT),gd (d + 1) top t = true → d < n → g5 d top (putI n t it) ∧ t.fan ≤ (putI n t it).fan
 | 0,d,top,t,h,hd => by omega
 | n + 1,d,top,t,h,hd => by
  obtain ⟨h1,h2,h3,h5⟩:=gd_parts h
  rcases h5 with ⟨hl,hk,h0,ha⟩ | ⟨hl,hi,hk,ha⟩
  ·have hlen:t.its.length ≤ 4:=by unfold KT.fan at h1;rw [hl,if_pos rfl] at h1;exact h1
   have e:putI (n + 1) t it = knotL (t.its ++ [it]):=by rw [putI,if_pos hl]
   have hf:t.fan = t.its.length:=by unfold KT.fan;rw [hl,if_pos rfl]
   have hf':(knotL (t.its ++ [it])).fan = t.its.length + 1:=by show (t.its ++ [it]).length = _;simp
   rw [e]
   subst h0
   refine ⟨knotL_g5 (by simp;omega) ?_ ?_,by omega⟩
   ·rcases h2 with h2 | h2
    ·exact .inl h2
    ·right;simp;omega
   ·rw [List.map_append,List.all_append]
    unfold KT.ibs at ha
    rw [ha];simp [hb]
  ·have hlen:t.kids.length ≤ 4:=by unfold KT.fan at h1;rw [hl] at h1;simpa using h1
   have hf:t.fan = t.kids.length:=by unfold KT.fan;rw [hl];rfl
   have hi':=kidF_lt it.2 t.kids (by omega)
   have e:putI (n + 1) t it = knotK (t.kids.take (kidF it.2 t.kids) ++ dn (putI n t.kids[kidF it.2 t.kids] it) ++ t.kids.drop (kidF it.2 t.kids + 1)):=by
    rw [putI,if_neg (by rw [hl];simp),List.getElem?_eq_getElem hi']
   rw [e]
   generalize kidF it.2 t.kids = i at *
   cases d with
   | zero =>
    rw [List.all_eq_true] at ha
    have:=ha _ (List.getElem_mem hi')
    cases this
   | succ d =>
    rw [List.all_eq_true] at ha
    have hk':=putI_g5 hb n d false t.kids[i] (ha _ (List.getElem_mem hi')) (by omega)
    have hdn:(∀ x ∈ dn (putI n t.kids[i] it),gd (d + 1) false x = true) ∧ 1 ≤ (dn (putI n t.kids[i] it)).length ∧ (dn (putI n t.kids[i] it)).length ≤ 2:=by
     rcases dn_gd hk'.1 with ⟨_,e1,e2⟩ | ⟨a,b,e1,e2,e3⟩
     ·rw [e1];simp [e2]
     ·rw [e1];simp [e2,e3]
    generalize dn (putI n t.kids[i] it) = D at *
    have hL:(t.kids.take i ++ D ++ t.kids.drop (i + 1)).length = t.kids.length - 1 + D.length:=by
     simp only [List.length_append,List.length_take,List.length_drop];omega
    have hF:(knotK (t.kids.take i ++ D ++ t.kids.drop (i + 1))).fan = t.kids.length - 1 + D.length:=hL
    refine ⟨knotK_g5 (by omega) (by omega) ?_,by omega⟩
    rw [List.all_eq_true]
    intro x hx
    rw [List.mem_append,List.mem_append] at hx
    rcases hx with (hx | hx) | hx
    ·exact ha x (List.mem_of_mem_take hx)
    ·exact hdn.1 x hx
    ·exact ha x (List.mem_of_mem_drop hx)
theorem putT_gd {it:It} {d:Nat} {t:KT} (hb:bkb it.2 = true) (h:gd (d + 1) true t = true) (hd:d < 20):gd (d + 1) true (putT t it) = true ∨ gd (d + 2) true (putT t it) = true:=by
 obtain ⟨hg,_⟩:=putI_g5 hb 20 d true t h hd
 unfold putT
 rcases dn_gd hg with ⟨_,e1,e2⟩ | ⟨a,b,e1,e2,e3⟩
 ·rw [e1];exact .inl e2
 ·rw [e1]
  refine .inr (gd_of (knotK_g5 (by simp) (by simp) (by simp [e2,e3])) (by show (2:Nat) ≤ 4;omega))
theorem insV_app {α:Type} {lt:α → α → Bool} {x:α}:∀ (B A:List α),(∀ y ∈ B,lt x y = true) → (∀ y r,A = y :: r → lt x y = false) → insV lt x (B ++ A) = B ++ x :: A
 | [],A,_,hA => by
  cases A with
  | nil => rfl
  | cons y r =>
   rw [List.nil_append]
   unfold insV
   rw [hA y r rfl];rfl
 | b :: B,A,hB,hA => by
  rw [List.cons_append,insV,if_pos (hB b (List.mem_cons_self ..)),insV_app B A (fun y hy => hB y (List.mem_cons_of_mem _ hy)) hA]
  rfl
theorem insR_app {α:Type} {lt:α → α → Bool} {x:α} {A B:List α} (hB:∀ y ∈ B,lt x y = true) (hA:∀ y,A.getLast? = some y → lt x y = false):insR lt (A ++ B) x = A ++ x :: B:=by
 unfold insR
 rw [List.reverse_append,insV_app B.reverse A.reverse (fun y hy => hB y (List.mem_reverse.1 hy)) (fun y r e => hA y (by rw [List.getLast?_eq_head?_reverse,e];rfl))]
 simp
def Sw {α:Type} (lt:α → α → Bool):Prop:=(∀ a b,lt a b = true → lt b a = false) ∧ ∀ a b c,lt a b = false → lt b c = false → lt a c = false
theorem insV_srt {α:Type} {lt:α → α → Bool} (h:Sw lt) (x:α):∀ R:List α,R.Pairwise (fun a b => lt a b = false) → (insV lt x R).Pairwise (fun a b => lt a b = false)
 | [],_ => by unfold insV;simp
 | y :: r,hp => by
  rw [List.pairwise_cons] at hp
  unfold insV
  by_cases hx:lt x y = true
  ·rw [if_pos hx,List.pairwise_cons]
   refine ⟨fun z hz => ?_,insV_srt h x r hp.2⟩
   rcases List.mem_cons.1 ((insV_perm lt x r).mem_iff.1 hz) with e | e
   ·rw [e];exact h.1 _ _ hx
   ·exact hp.1 z e
  ·rw [if_neg hx,List.pairwise_cons]
   have hx':lt x y = false:=by simpa using hx
   refine ⟨fun z hz => ?_,by rw [List.pairwise_cons];exact hp⟩
   rcases List.mem_cons.1 hz with e | e
   ·rw [e];exact hx'
   ·exact h.2 _ _ _ hx' (hp.1 z e)
theorem insR_srt {α:Type} {lt:α → α → Bool} (h:Sw lt) (x:α) {l:List α} (hl:l.Pairwise (fun a b => lt b a = false)):(insR lt l x).Pairwise (fun a b => lt b a = false):=by
 unfold insR
 rw [List.pairwise_reverse]
 refine insV_srt h x l.reverse ?_
 rw [List.pairwise_reverse]
 exact hl
theorem isort_fold_srt {α:Type} {lt:α → α → Bool} (h:Sw lt):∀ (l a:List α),a.Pairwise (fun a b => lt b a = false) → (l.foldl (insR lt) a).Pairwise (fun a b => lt b a = false)
 | [],a,ha => ha
 | x :: r,a,ha => by rw [List.foldl_cons];exact isort_fold_srt h r _ (insR_srt h x ha)
theorem isort_srt {α:Type} {lt:α → α → Bool} (h:Sw lt) (l:List α):(isort lt l).Pairwise (fun a b => lt b a = false):=isort_fold_srt h l [] List.Pairwise.nil
theorem bef_iff (a b:Bx):bef a b = true ↔ (a.1 + a.2.2.1 < b.1 + b.2.2.1 ∨ (a.1 + a.2.2.1 = b.1 + b.2.2.1 ∧ a.2.1 + a.2.2.2 < b.2.1 + b.2.2.2)):=by
 unfold bef
 split
 ·simp only [decide_eq_true_eq];omega
 ·simp only [decide_eq_true_eq];omega
theorem befI_iff (a b:It):befI a b = true ↔ (a.2.1 + a.2.2.2.1 < b.2.1 + b.2.2.2.1 ∨ (a.2.1 + a.2.2.2.1 = b.2.1 + b.2.2.2.1 ∧ (a.2.2.1 + a.2.2.2.2 < b.2.2.1 + b.2.2.2.2 ∨ (a.2.2.1 + a.2.2.2.2 = b.2.2.1 + b.2.2.2.2 ∧ a.1 < b.1)))):=by
 unfold befI
 simp only [Bool.or_eq_true,Bool.and_eq_true,Bool.not_eq_true',decide_eq_true_eq]
 rw [← Bool.not_eq_true,bef_iff,bef_iff]
 omega
theorem befI_sw:Sw befI:=by
 refine ⟨fun a b h => ?_,fun a b c h1 h2 => ?_⟩
 ·rw [befI_iff] at h
  rw [← Bool.not_eq_true,befI_iff]
  omega
 ·rw [← Bool.not_eq_true,befI_iff] at *
  omega
theorem befK_sw:Sw befK:=by
 refine ⟨fun a b h => ?_,fun a b c h1 h2 => ?_⟩
 ·unfold befK at *
  rw [bef_iff] at h
  rw [← Bool.not_eq_true,bef_iff]
  omega
 ·unfold befK at *
  rw [← Bool.not_eq_true,bef_iff] at *
  omega
def Ins {α:Type} (lt:α → α → Bool) (l:List α) (i:Nat) (x:α) (A B:List α):Prop:=isort lt (l.take i) = A ++ B ∧ (∀ y ∈ B,lt x y = true)
theorem Ins.start {α:Type} (lt:α → α → Bool) (l:List α) (i:Nat) (x:α):Ins lt l i x (isort lt (l.take i)) []:=⟨(List.append_nil _).symm,fun y h => by cases h⟩
theorem Ins.on {α:Type} {lt:α → α → Bool} {l A B:List α} {i:Nat} {x y:α} (h:Ins lt l i x (A ++ [y]) B) (hy:lt x y = true):Ins lt l i x A (y :: B):=by
 refine ⟨by rw [h.1,List.append_assoc];rfl,fun z hz => ?_⟩
 rcases List.mem_cons.1 hz with e | e
 ·rw [e];exact hy
 ·exact h.2 z e
theorem Ins.ends {α:Type} {lt:α → α → Bool} {l A B:List α} {i:Nat} (hi:i < l.length) (h:Ins lt l i l[i] A B) (hA:∀ y,A.getLast? = some y → lt l[i] y = false):isort lt (l.take (i + 1)) = A ++ l[i] :: B:=by
 rw [isort_next lt l i hi,h.1]
 exact insR_app h.2 hA
theorem Ins.len {α:Type} {lt:α → α → Bool} {l A B:List α} {i:Nat} {x:α} (hi:i ≤ l.length) (h:Ins lt l i x A B):A.length + B.length = i:=by
 have:=isort_len lt (l.take i)
 rw [h.1,List.length_append,List.length_take] at this
 omega
theorem srt_next {α:Type} {lt:α → α → Bool} {l:List α} (h:l.Pairwise (fun a b => lt b a = false)) {k:Nat} (hk:k + 1 < l.length):lt l[k + 1] l[k] = false:=
 (List.pairwise_iff_getElem.1 h) k (k + 1) (by omega) hk (by omega)
end Go.Proofs.YtjahlofahjgdbaaGreat
