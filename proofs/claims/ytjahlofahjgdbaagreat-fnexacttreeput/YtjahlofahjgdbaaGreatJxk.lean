import Derived.Test.YtjahlofahjgdbaaGreatJ15
import Derived.Test.YtjahlofahjgdbaaGreatJg
set_option maxRecDepth 100000
set_option maxHeartbeats 16000000
set_option linter.unusedSimpArgs false
set_option linter.unusedVariables false
namespace Go.Proofs.YtjahlofahjgdbaaGreat
open Go.RowKit
theorem ltK_sw:Sw ltK:=⟨fun a b => befK_sw.1 a.1 b.1,fun a b c => befK_sw.2 a.1 b.1 c.1⟩
theorem spec_splitK (lo n0:Nat) (b0 b1 b2 b3:Int) (ks:List KT) (ia ka:Option Addr) (ic kc:Nat) (S:List Nat) (w:World) (k:KO lo (n0 + 1) w (ia,ic,ka,kc) S (.mk (b0,b1,b2,b3) false [] ks)) (hlo:lo ≤ w.heap.size) (h5:4 < ks.length) (hm:ks.length ≤ 1048576) (hok:ks.all (fun k => bkb k.box) = true):Calls Tryz.prog 102 #[.agg #[.int .i64 b0,.int .i64 b1,.int .i64 b2,.int .i64 b3,.bool false,.slice ia 0 ic,.slice ka ks.length kc]] w (KRow w lo (n0 + 1) S [knotK ((isort befK ks).take 3),knotK ((isort befK ks).drop 3)]):=by
  obtain ⟨k0,hki0,hkz0,hkz1,hkzz⟩:=info_parts Tryz.infoKn
  have HBLD:Tryz.prog.built 35 [(1,.bool false)] = some #[.int .i64 0,.int .i64 0,.int .i64 0,.int .i64 0,.bool false,.slice none 0 0,.slice none 0 0]:=by kernel_rfl
  have hSl:∀ x ∈ S,x < w.heap.size:=fun x hx => (k.lt x hx).2
  obtain ⟨ps,l1,r1,r2,hS,hN,hk⟩:=k
  have hks:ks = ps.map (·.1):=l1
  subst hks
  have hpl:(ps.map (·.1)).length = ps.length:=List.length_map _
  rw [hpl] at h5 hm ⊢
  have hokp:∀ p ∈ ps,bkb p.1.box = true:=fun p hp => List.all_eq_true.1 hok p.1 (List.mem_map_of_mem hp)
  have r2':w.ownsRow lo 35 7 (.slice ka ps.length kc) ps.length (flK ps):=r2
  obtain ⟨g,e0,hg,_⟩:=row_cs r2' (by omega)
  subst e0
  have hgS:g ∈ S:=hS.mem_iff.2 (by simp [hb])
  have hpS:∀ x ∈ ps.flatMap (·.2.2),x ∈ S:=fun x hx => hS.mem_iff.2 (by simp only [List.mem_append];exact .inr hx)
  have hN2:=hS.nodup_iff.1 hN
  rw [List.nodup_append,List.nodup_append] at hN2
  have hgp:∀ x ∈ ps.flatMap (·.2.2),x ≠ g:=fun x hx e => hN2.2.2 g (by simp [hb]) x hx e.symm
  have HKS:=hid (show KOs lo n0 w ps from ⟨hN2.2.1,hk⟩)
  clear hk hN2 hN hS r1 r2 l1 hok
  obtain ⟨hc3,hc63⟩:ps.length ≤ kc ∧ kc ≤ 9223372036854775807:=row_caps r2'
  have FAN:∀ W:World,Calls Tryz.prog 101 #[.agg #[.int .i64 b0,.int .i64 b1,.int .i64 b2,.int .i64 b3,.bool false,.slice ia 0 ic,.slice (some ⟨g,0,none⟩) ps.length kc]] W fun e w' => e = .returned (.int .i64 (ps.length:Int)) ∧ Below W.heap.size W w':=fun W => by
    have:=spec_fan (.mk (b0,b1,b2,b3) false [] (ps.map (·.1))) ia ic (some ⟨g,0,none⟩) kc W
    unfold kv at this
    show Calls _ _ #[.agg #[_,_,_,_,_,_,.slice _ ps.length _]] W fun e w' => e = .returned (.int .i64 (ps.length:Int)) ∧ _
    rw [← hpl]
    exact this
  have hI1:(3:Int) ≤ (kc:Int):=by omega
  have hI2:(3:Int) ≤ (ps.length:Int):=by omega
  have hI3:(ps.length:Int) ≤ (kc:Int):=by omega
  have hne3:¬ kc = 3:=by omega
  have HOK:Hid (∀ p ∈ ps,bkb p.1.box = true):=hid hokp
  have hSL:=isort_len ltK ps
  have m1:(isort befK (ps.map (·.1))).take 3 = ((isort ltK ps).take 3).map (·.1):=by rw [← isort_map,List.map_take]
  have m2:(isort befK (ps.map (·.1))).drop 3 = ((isort ltK ps).drop 3).map (·.1):=by rw [← isort_map,List.map_drop]
  rw [m1,m2]
  have hPM:=isort_perm ltK ps
  generalize hmm:ps.length = m at *
  have HMM:=hid hmm
  have HALL:=hid (srtd_all ltK ps (n:=m) (by omega))
  have HR0:=r2'
  clear m1 m2 hokp r2' hpl hmm
  generalize isort ltK ps = srt at *
  have DONE:∀ (aA aB:Option Addr) (cA cB:Nat) (X:World),(∀ b ∈ hb aA,b ∉ hb aB) → Hid (X.ownsRow w.heap.size 35 7 (.slice aA 3 cA) 3 (flK (srt.take 3))) → Hid (X.ownsRow w.heap.size 35 7 (.slice aB (m - 3) cB) (m - 3) (flK (srt.drop 3))) → Hid (Fr [g] w X) → w.heap.size ≤ X.heap.size → Hid (KOs lo n0 X ps) → KRow w lo (n0 + 1) S [knotK ((srt.take 3).map (·.1)),knotK ((srt.drop 3).map (·.1))] (.returned (.slice (some ⟨X.heap.size,0,none⟩) 2 2)) (X.alloc (.cells #[.int .i64 (jns (((srt.take 3).map (·.1)).map KT.box)).1,.int .i64 (jns (((srt.take 3).map (·.1)).map KT.box)).2.1,.int .i64 (jns (((srt.take 3).map (·.1)).map KT.box)).2.2.1,.int .i64 (jns (((srt.take 3).map (·.1)).map KT.box)).2.2.2,.bool false,.slice none 0 0,.slice aA 3 cA,.int .i64 (jns (((srt.drop 3).map (·.1)).map KT.box)).1,.int .i64 (jns (((srt.drop 3).map (·.1)).map KT.box)).2.1,.int .i64 (jns (((srt.drop 3).map (·.1)).map KT.box)).2.2.1,.int .i64 (jns (((srt.drop 3).map (·.1)).map KT.box)).2.2.2,.bool false,.slice none 0 0,.slice aB (m - 3) cB] 35)):=by
    intro aA aB cA cB X hd HA HB HF hsz HK
    have e1:(srt.take 3).length = 3:=by rw [List.length_take];omega
    have e2:(srt.drop 3).length = m - 3:=by rw [List.length_drop];omega
    have hKW:=HK.out.perm hPM
    have HW1:=hKW.sub (List.take_sublist 3 _)
    have HW2:=hKW.sub (List.drop_sublist 3 _)
    have p0:∀ x ∈ srt.flatMap (·.2.2),x ∈ S:=fun x hx => hpS x ((hPM.flatMap_right _).mem_iff.1 hx)
    have p1:∀ x ∈ (srt.take 3).flatMap (·.2.2),x ∈ S:=fun x hx => p0 x ((sub_flat (List.take_sublist 3 _)).mem hx)
    have p2:∀ x ∈ (srt.drop 3).flatMap (·.2.2),x ∈ S:=fun x hx => p0 x ((sub_flat (List.drop_sublist 3 _)).mem hx)
    have p12:∀ x ∈ (srt.take 3).flatMap (·.2.2),x ∉ (srt.drop 3).flatMap (·.2.2):=fun x h1 h2 => by
      have hn:=hKW.1
      rw [← List.take_append_drop 3 srt,List.flatMap_append,List.nodup_append] at hn
      exact hn.2.2 x h1 x h2 rfl
    have la:=row_lt HA.out
    have lb:=row_lt HB.out
    have kA:KO lo (n0 + 1) X (none,0,aA,cA) (hb none ++ hb aA ++ (srt.take 3).flatMap (·.2.2)) (knotK ((srt.take 3).map (·.1))):=KO.mk' (ps:=srt.take 3) rfl (own_nilR _ _ _ _) (by rw [e1];exact own_base HA.out hlo) HW1 (fun x hx => by simp [hb] at hx) (fun x hx hc => by have:=(la x hx).1;have:=hSl x (p1 x hc);omega)
    have kB:KO lo (n0 + 1) X (none,0,aB,cB) (hb none ++ hb aB ++ (srt.drop 3).flatMap (·.2.2)) (knotK ((srt.drop 3).map (·.1))):=KO.mk' (ps:=srt.drop 3) rfl (own_nilR _ _ _ _) (by rw [e2];exact own_base HB.out hlo) HW2 (fun x hx => by simp [hb] at hx) (fun x hx hc => by have:=(lb x hx).1;have:=hSl x (p2 x hc);omega)
    have sA:∀ x ∈ hb none ++ hb aA ++ (srt.take 3).flatMap (·.2.2),x ∈ S ∨ w.heap.size ≤ x:=fun x hx => by
      simp only [List.mem_append] at hx
      rcases hx with (h | h) | h
      · simp [hb] at h
      · exact .inr (la x h).1
      · exact .inl (p1 x h)
    have sB:∀ x ∈ hb none ++ hb aB ++ (srt.drop 3).flatMap (·.2.2),x ∈ S ∨ w.heap.size ≤ x:=fun x hx => by
      simp only [List.mem_append] at hx
      rcases hx with (h | h) | h
      · simp [hb] at h
      · exact .inr (lb x h).1
      · exact .inl (p2 x h)
    have sAB:∀ x ∈ hb none ++ hb aA ++ (srt.take 3).flatMap (·.2.2),x ∉ hb none ++ hb aB ++ (srt.drop 3).flatMap (·.2.2):=fun x hx hc => by
      simp only [List.mem_append] at hx hc
      rcases hx with (h | h) | h
      · simp [hb] at h
      · rcases hc with (h' | h') | h'
        · simp [hb] at h'
        · exact hd x h h'
        · have:=(la x h).1;have:=hSl x (p2 x h');omega
      · rcases hc with (h' | h') | h'
        · simp [hb] at h'
        · have:=(lb x h').1;have:=hSl x (p1 x h);omega
        · exact p12 x h h'
    have hal:Below X.heap.size X (X.alloc (.cells (ckh (knotK ((srt.take 3).map (·.1))) (none,0,aA,cA) ++ ckh (knotK ((srt.drop 3).map (·.1))) (none,0,aB,cB)).toArray 35)):=balloc (Below.refl _ _) _
    have:=KRow.two (w0:=w) (S:=S) (p:=(knotK ((srt.take 3).map (·.1)),(none,0,aA,cA),_)) (q:=(knotK ((srt.drop 3).map (·.1)),(none,0,aB,cB),_)) (kA.below hal) (kB.below hal) sAB (heap_alloc_new X _) hsz (fun hc => by have:=(kA.lt _ hc).2;omega) (fun hc => by have:=(kB.lt _ hc).2;omega) sA sB ((HF.out.bel hal).mono (fun k hk => by rw [List.mem_singleton] at hk;subst hk;exact .inl hgS))
    have this2:KRow w lo (n0 + 1) S [knotK ((srt.take 3).map (·.1)),knotK ((srt.drop 3).map (·.1))] (.returned (.slice (some ⟨X.heap.size,0,none⟩) 2 2)) (X.alloc (.cells #[.int .i64 (jns (((srt.take 3).map (·.1)).map KT.box)).1,.int .i64 (jns (((srt.take 3).map (·.1)).map KT.box)).2.1,.int .i64 (jns (((srt.take 3).map (·.1)).map KT.box)).2.2.1,.int .i64 (jns (((srt.take 3).map (·.1)).map KT.box)).2.2.2,.bool false,.slice none 0 0,.slice aA ((srt.take 3).map (·.1)).length cA,.int .i64 (jns (((srt.drop 3).map (·.1)).map KT.box)).1,.int .i64 (jns (((srt.drop 3).map (·.1)).map KT.box)).2.1,.int .i64 (jns (((srt.drop 3).map (·.1)).map KT.box)).2.2.1,.int .i64 (jns (((srt.drop 3).map (·.1)).map KT.box)).2.2.2,.bool false,.slice none 0 0,.slice aB ((srt.drop 3).map (·.1)).length cB] 35)):=this
    rw [List.length_map,List.length_map,e1,e2] at this2
    exact this2
  have AR:∀ (l:List KP) (n:Nat) (hl:l.length = n) (hn:n ≤ 1048576) (hsub:l.Sublist srt) (W:World) (a:Option Addr) (c:Nat),Hid (W.ownsRow w.heap.size 35 7 (.slice a n c) n (flK l)) → Hid (KOs lo n0 W ps) → Calls Tryz.prog 77 #[.agg #[.int .i64 0,.int .i64 0,.int .i64 0,.int .i64 0,.bool false,.slice none 0 0,.slice a n c]] W fun e w' => e = .returned (.agg #[.int .i64 (jns ((l.map (·.1)).map KT.box)).1,.int .i64 (jns ((l.map (·.1)).map KT.box)).2.1,.int .i64 (jns ((l.map (·.1)).map KT.box)).2.2.1,.int .i64 (jns ((l.map (·.1)).map KT.box)).2.2.2]) ∧ Below W.heap.size W w':=by
    intro l n hl hn hsub W a c h hK
    have hKW:=(hK.out.perm hPM).sub hsub
    have kA:KO lo (n0 + 1) W (none,0,a,c) (hb none ++ hb a ++ l.flatMap (·.2.2)) (.mk (0,0,0,0) false [] (l.map (·.1))):=KO.mk' (ps:=l) rfl (own_nilR _ _ _ _) (by rw [hl];exact own_base h.out hlo) hKW (fun x hx => by simp [hb] at hx) (fun x hx hc => by have:=(row_lt h.out x hx).1;have:=hSl x (hpS x ((hPM.flatMap_right _).mem_iff.1 ((sub_flat hsub).mem hc)));omega)
    have:=ko_around kA (by show 0 ≤ _;omega) (by show (l.map (·.1)).length ≤ _;rw [List.length_map];omega)
    have ea:arS (KT.mk (0,0,0,0) false [] (l.map (·.1))) = jns ((l.map (·.1)).map KT.box):=by
      cases l with
      | nil => rfl
      | cons p r => rfl
    rw [ea] at this
    subst hl
    have hv:kvh (KT.mk (0,0,0,0) false [] (l.map (·.1))) (none,0,a,c) = .agg #[.int .i64 0,.int .i64 0,.int .i64 0,.int .i64 0,.bool false,.slice none 0 0,.slice a l.length c]:=by
      show Value.agg #[_,_,_,_,_,_,.slice a (l.map (·.1)).length c] = _
      rw [List.length_map]
      rfl
    rw [hv] at this
    exact this
  have ARA:=hid (fun (W:World) (a:Option Addr) (c:Nat) => AR (srt.take 3) 3 (by rw [List.length_take];omega) (by omega) (List.take_sublist 3 _) W a c)
  have ARB:=hid (fun (W:World) (a:Option Addr) (c:Nat) => AR (srt.drop 3) (m - 3) (by rw [List.length_drop];omega) (by omega) (List.drop_sublist 3 _) W a c)
  have SRC:∀ W:World,Hid (W.ownsRow lo 35 7 (.slice (some ⟨g,0,none⟩) m kc) m (flK srt)) → SrcA W (some ⟨g,0,none⟩) 3 (flK (srt.take 3)) ∧ SrcA W (some ⟨g,21,none⟩) (m - 3) (flK (srt.drop 3)):=by
    intro W h
    obtain ⟨g',e1,_,hc⟩:=row_cs h.out (by omega)
    cases e1
    refine ⟨.inr ⟨_,rfl,fun j u e => ?_⟩,.inr ⟨_,rfl,fun j u e => ?_⟩⟩
    · rw [Addr.add_mid]
      refine hc j u ?_
      rw [show flK (srt.take 3) = (flK srt).take (3 * 7) from flat_take ckp_len srt 3,List.getElem?_take] at e
      split at e
      · exact e
      · cases e
    · rw [Addr.add_mid]
      have:=hc (21 + j) u (by
        rw [show flK (srt.drop 3) = (flK srt).drop (3 * 7) from flat_drop ckp_len srt 3,List.getElem?_drop] at e
        exact e)
      rwa [Nat.zero_add] at this
  have SRCA:=hid (fun (W:World) h => (SRC W h).1)
  have SRCB:=hid (fun (W:World) h => (SRC W h).2)
  have HLA:=hid (show (flK (srt.take 3)).length = 3 * 7 by rw [flK_len,List.length_take];omega)
  have HLB:=hid (show (flK (srt.drop 3)).length = (m - 3) * 7 by rw [flK_len,List.length_drop];omega)
  have HDONE:=hid DONE
  clear AR SRC DONE
  generalize srt.take 3 = l1 at *
  generalize srt.drop 3 = l2 at *
  generalize jns ((l1.map (·.1)).map KT.box) = jA at *
  generalize jns ((l2.map (·.1)).map KT.box) = jB at *
  have hnm:¬ ((m:Int) ≤ 4):=by omega
  have gT:=new_alloc w w.heap.size (.cells #[.int .i64 b0,.int .i64 b1,.int .i64 b2,.int .i64 b3,.bool false,.slice ia 0 ic,.slice (some ⟨g,0,none⟩) m kc] 35) rfl
  have hB0:=balloc (Below.refl w.heap.size w) (.cells #[.int .i64 b0,.int .i64 b1,.int .i64 b2,.int .i64 b3,.bool false,.slice ia 0 ic,.slice (some ⟨g,0,none⟩) m kc] 35)
  have HR:=hid (row_blk HR0 (fun b hb' => hB0.block b (row_lt HR0 b hb').2))
  have HF:=hid (Fr.of hB0 [g])
  replace HKS:=hid (HKS.out.keep (fun x hx => hB0.block x (KO_blk HKS.out x hx)))
  have hgw:g < w.heap.size:=hg
  have hgb:∀ b,b ∈ hb (some (⟨g,0,none⟩:Addr)) → b = g:=fun b hb' => by simpa [hb] using hb'
  clear HR0 hB0 hg
  go_enter Tryz.func102,Tryz.ntmps102
  go_wp2_with fail
  refine (FAN _).mono ?_
  rintro e v1 ⟨rfl,hb⟩
  replace gT:=keepheap hb gT
  replace HR:=hid (row_blk HR.out (fun b hb' => hb.block b (row_lt HR.out b hb').2))
  replace HKS:=hid (HKS.out.keep (fun x hx => hb.block x (KO_blk HKS.out x hx)))
  replace HF:=hid (HF.out.bel hb)
  clear hb FAN
  obtain ⟨_,_,_,_,_,a5,a6,_,_,_,_,_,_,_⟩:=cell7k gT
  go_wp2_with fail
  clear a5 a6
  have HSB:=hid (fun (W:World) (hf:Fr [g] w W) => fun x (hx:x ∈ ps.flatMap (·.2.2)) => hf.blk x (hSl x (hpS x hx)) (by rw [List.mem_singleton];exact hgp x hx))
  have HK1:=hid (fun (W:World) (hf:Fr [g] w W) => HKS.out.keep (w':=W) (fun x hx => (HSB.out W hf x hx).trans (HSB.out v1 HF.out x hx).symm))
  clear HSB HKS
  go_loopw [3] (fun ti wr => ti = .int .i64 1 ∧ wr = v1) (fun ti _ => 0)
  case atStart => exact ⟨rfl,rfl⟩
  case round =>
   obtain ⟨rfl,rfl⟩:=hrel
   obtain ⟨_,_,_,_,_,a5,a6,_,_,_,_,_,_,_⟩:=cell7k gT
   go_wp2_with fail
   clear a5 a6
   go_loopw [7] (fun ti wr => ∃ i:Nat,ti = .int .i64 i ∧ 1 ≤ i ∧ i ≤ m ∧ wr.heap[w.heap.size]? = some (.cells #[.int .i64 b0,.int .i64 b1,.int .i64 b2,.int .i64 b3,.bool false,.slice ia 0 ic,.slice (some ⟨g,0,none⟩) m kc] 35 (0,0)) ∧ Hid (wr.ownsRow lo 35 7 (.slice (some ⟨g,0,none⟩) m kc) m (flK (srtd ltK ps i))) ∧ Hid (Fr [g] w wr)) (fun ti _ => m - (intOf ti).toNat)
   case atStart => exact ⟨1,rfl,Nat.le_refl _,by omega,gT,hid (by rw [srtd_one];exact HR.out),HF⟩
   case round =>
    clear gT HR HF
    obtain ⟨i,rfl,hi1,him,gT,HR,HF⟩:=hrel
    obtain ⟨_,_,_,_,_,a5,a6,_,_,_,_,_,_,_⟩:=cell7k gT
    by_cases hlt:i < m
    · have c1:(i:Int) < (m:Int):=by omega
      have hil:i < ps.length:=by rw [HMM.out];exact hlt
      have HST:=hid (InvK.start (lt:=ltK) hil)
      have HLE:=hid (fun (j:Nat) (l':List KP) (h:InvK ltK ps i j l') => h.le hil)
      have HPM:=hid (fun (j:Nat) (l':List KP) (h:InvK ltK ps i j l') => h.perm)
      have HY':=hid (fun (q:Nat) (l':List KP) (h:InvK ltK ps i (q + 1) l') => h.yes ltK_sw hil)
      have HN':=hid (fun (q:Nat) (l':List KP) (h:InvK ltK ps i (q + 1) l') => h.no (k:=q))
      clear hil
      go_wp2_with fail
      clear a5 a6
      go_loopw [8] (fun tj wq => ∃ (j:Nat) (l':List KP),tj = .int .i64 j ∧ j ≤ i ∧ Hid (InvK ltK ps i j l') ∧ wq.heap[w.heap.size]? = some (.cells #[.int .i64 b0,.int .i64 b1,.int .i64 b2,.int .i64 b3,.bool false,.slice ia 0 ic,.slice (some ⟨g,0,none⟩) m kc] 35 (0,0)) ∧ Hid (wq.ownsRow lo 35 7 (.slice (some ⟨g,0,none⟩) m kc) m (flK l')) ∧ Hid (Fr [g] w wq)) (fun tj _ => (intOf tj).toNat)
      case atStart => exact ⟨i,_,rfl,Nat.le_refl _,HST,gT,HR,HF⟩
      case round =>
        clear gT HR HF HST
        obtain ⟨j,l',rfl,hji,HINV,gT,HR,HF⟩:=hrel
        obtain ⟨_,_,_,_,_,a5,a6,_,_,_,_,_,_,_⟩:=cell7k gT
        rcases j with _ | q
        · have HE:=hid (HINV.out.nil)
          have c3:decide ((0:Int) < ((0:Nat):Int)) = false:=rfl
          go_upto_region 18 with fail
          go_quiet (fail)
          go_wp2_with fail
          go_roundw
          case rel => exact ⟨i + 1,by go_num,by omega,by omega,gT,hid (by rw [← HE.out];exact HR.out),hid (HF.out.bel ⟨rfl,rfl,rfl,Nat.le_refl _,fun _ _ => rfl⟩)⟩
          case measure => simp [intOf];omega
        · have hLL:l'.length = m:=by rw [← HMM.out];exact (HPM.out _ _ HINV.out).length_eq
          have HMEM:=hid (fun x (hx:x ∈ l') => HOK.out x ((HPM.out _ _ HINV.out).mem_iff.1 hx))
          have hq1:q + 1 < l'.length:=by omega
          have hbx:=HMEM.out _ (List.getElem_mem hq1)
          have hby:=HMEM.out _ (List.getElem_mem (show q < l'.length by omega))
          have HXC:=hid (fun (W:World) (h:Hid (W.ownsRow lo 35 7 (.slice (some ⟨g,0,none⟩) m kc) m (flK l'))) => row_knAt h.out (q + 1) hq1)
          have HYC:=hid (fun (W:World) (h:Hid (W.ownsRow lo 35 7 (.slice (some ⟨g,0,none⟩) m kc) m (flK l'))) => row_knAt h.out q (by omega))
          have HYES:=hid (fun hb => hid (HY'.out q l' HINV.out hq1 hb))
          have HNO:=hid (fun hb => hid (HN'.out q l' HINV.out hq1 hb))
          have HSW:=hid ((List.set_comm _ _ (by omega)).trans (swp2_at hq1).symm)
          have HLL:=hid hLL
          clear HMEM HINV hLL
          generalize l'[q + 1] = x at *
          generalize l'[q]'(by omega) = y at *
          obtain ⟨x0,x1,x2,x3,x4,xa,xn,xc,xb,xm,xd,hxv,hxb⟩:=kh x
          obtain ⟨y0,y1,y2,y3,y4,ya,yn,yc,yb,ym,yd,hyv,hyb⟩:=kh y
          rw [hxb] at hbx
          rw [hyb] at hby
          rw [hxv] at HXC
          rw [hyv] at HYC
          have HXV:=hid hxv
          have HYV:=hid hyv
          obtain ⟨j,hj⟩:∃ j,j = q + 1:=⟨_,rfl⟩
          rw [← hj] at HXC HSW ⊢
          have HX:=HXC
          have HY:=HYC
          have BXY:=hid (fun (W:World) => spec_before x0 x1 x2 x3 y0 y1 y2 y3 W hbx hby)
          have HBT:=hid (show ltK x y = bef (x0,x1,x2,x3) (y0,y1,y2,y3) by unfold ltK befK;rw [hxb,hyb])
          have hqn:q < m:=by omega
          have hjm:j < m:=by omega
          have hwq:IntKind.i64.wrap ((j:Int) - 1) = (q:Int):=by rw [hj,IntKind.wrap_i64] <;> omega
          have hj0:(0:Int) < (j:Int):=by omega
          have c3:decide (0 < j) = true:=by rw [decide_eq_true_eq];omega
          have hjI:(j:Int) < (m:Int):=by omega
          have hqI:(q:Int) < (m:Int):=by omega
          have hq0:(0:Int) ≤ (q:Int):=by omega
          have HJQ:=hid hj
          clear hj HXC HYC hbx hby hxv hyv hxb hyb hq1 HPM HLE HY' HN'
          go_upto_region 18 with fail
          clear a5 a6
          refine wp_region_late (L:=[]) (S:=(fun w' => w'.cell? ⟨w.heap.size,6,none⟩ = some (.slice (some ⟨g,0,none⟩) m kc) ∧ w'.cell? ⟨g,j * 7,none⟩ = some (.int .i64 x0) ∧ w'.cell? ⟨g,j * 7 + 1,none⟩ = some (.int .i64 x1) ∧ w'.cell? ⟨g,j * 7 + 2,none⟩ = some (.int .i64 x2) ∧ w'.cell? ⟨g,j * 7 + 3,none⟩ = some (.int .i64 x3) ∧ w'.cell? ⟨g,q * 7,none⟩ = some (.int .i64 y0) ∧ w'.cell? ⟨g,q * 7 + 1,none⟩ = some (.int .i64 y1) ∧ w'.cell? ⟨g,q * 7 + 2,none⟩ = some (.int .i64 y2) ∧ w'.cell? ⟨g,q * 7 + 3,none⟩ = some (.int .i64 y3))) (by kernel_rfl) ?_ (fun hHeld => ?_)
          · (obtain ⟨_,_,_,_,_,_,a6,_,_,_,_,_,_,_⟩:=cell7k gT;obtain ⟨q0,q1,q2,q3,q4,q5,q6⟩:=Cs.knot7 (HY.out _ HR);obtain ⟨p0,p1,p2,p3,p4,p5,p6⟩:=Cs.knot7 (HX.out _ HR);exact ⟨a6,p0,p1,p2,p3,q0,q1,q2,q3⟩)
          replace HR:=hid (HR.out.drew)
          replace HF:=hid (HF.out.bel (bdrew (Below.refl _ _)))
          replace gT:=keepheap (bdrew (Below.refl _ _)) gT
          generalize wr.drew = Va at *
          refine tkP 0 hHeld ?_
          try simp only [sq]
          refine tkP 1 hHeld ?_
          try simp only [sq]
          refine tkP 2 hHeld ?_
          try simp only [sq]
          refine tkP 3 hHeld ?_
          try simp only [sq]
          refine tkA 4 hHeld ?_
          try simp only [sq]
          refine tkP 5 hHeld ?_
          try simp only [sq]
          refine tkP 6 hHeld ?_
          try simp only [sq]
          refine tkP 7 hHeld ?_
          try simp only [sq]
          refine tkA 8 hHeld ?_
          try simp only [sq]
          refine tkP 9 hHeld ?_
          try simp only [sq]
          refine tkA 10 hHeld ?_
          try simp only [sq]
          refine tkP 11 hHeld ?_
          try simp only [sq]
          refine tkP 12 hHeld ?_
          try simp only [sq]
          refine tkP 13 hHeld ?_
          try simp only [sq]
          refine tkP 14 hHeld ?_
          try simp only [sq]
          refine tkA 15 hHeld ?_
          try simp only [sq]
          refine anyL_1w (i:=16) rfl (by kernel_rfl) (by rfl) ?_
          refine wpo_call (BXY.out Va) ?_ (fun e w' hp => ?_) (fun v w1 hp => ?_)
          · go_simp
          · exact ⟨_,hp.1⟩
          clear hHeld
          obtain ⟨e0,hb1⟩:=hp
          injection e0 with e0
          subst e0
          replace gT:=keepheap hb1 gT
          replace HR:=hid (row_blk HR.out (fun b hb' => hb1.block b (by have h9:=(row_lt HR.out b hb').2;exact h9)))
          replace HF:=hid (HF.out.bel hb1)
          clear hb1
          refine ⟨by (obtain ⟨_,_,_,_,_,_,a6,_,_,_,_,_,_,_⟩:=cell7k gT;obtain ⟨q0,q1,q2,q3,q4,q5,q6⟩:=Cs.knot7 (HY.out _ HR);obtain ⟨p0,p1,p2,p3,p4,p5,p6⟩:=Cs.knot7 (HX.out _ HR);exact ⟨a6,p0,p1,p2,p3,q0,q1,q2,q3⟩),fun hHeld => ?_⟩
          try simp only [sq]
          refine tkP 17 hHeld ?_
          try simp only [sq]
          refine anyL_done (by kernel_rfl) ?_ _
          cases hr1:bef (x0,x1,x2,x3) (y0,y1,y2,y3)
          · have hbt:ltK x y = false:=by rw [HBT.out];exact hr1
            have HE:=hid ((HNO.out hbt).out)
            go_wp2_with fail
            go_roundw
            case rel => exact ⟨i + 1,by go_num,by omega,by omega,gT,hid (by rw [← HE.out];exact HR.out),HF⟩
            case measure => simp [intOf];omega
          · have hbt:ltK x y = true:=by rw [HBT.out];exact hr1
            have a6:=(cell7k gT).2.2.2.2.2.2.1
            obtain ⟨p0,p1,p2,p3,p4,p5,p6⟩:=Cs.knot7 (HX.out _ HR)
            go_upto_region 21 with fail
            have gX:=heap_alloc_new w1 (.cells #[.int .i64 x0,.int .i64 x1,.int .i64 x2,.int .i64 x3,.bool x4,.slice xa xn xc,.slice xb xm xd] 35)
            have hbA:=balloc (Below.refl w1.heap.size w1) (.cells #[.int .i64 x0,.int .i64 x1,.int .i64 x2,.int .i64 x3,.bool x4,.slice xa xn xc,.slice xb xm xd] 35)
            have hTX:=lt_of_heap gT
            obtain ⟨X,hX⟩:∃ X,X = w1.heap.size:=⟨_,rfl⟩
            rw [← hX] at gX hTX ⊢
            replace gT:=keepheap hbA gT
            replace HR:=hid (row_blk HR.out (fun b hb' => hbA.block b (by have h9:=(row_lt HR.out b hb').2;exact h9)))
            replace HF:=hid (HF.out.bel hbA)
            generalize w1.alloc (.cells #[.int .i64 x0,.int .i64 x1,.int .i64 x2,.int .i64 x3,.bool x4,.slice xa xn xc,.slice xb xm xd] 35) = Vb at *
            clear hbA hX a6 p0 p1 p2 p3 p4 p5 p6
            refine wp_region_late (L:=[10]) (S:=(fun w' => w'.cell? ⟨w.heap.size,6,none⟩ = some (.slice (some ⟨g,0,none⟩) m kc) ∧ w'.cell? ⟨g,q * 7,none⟩ = some (.int .i64 y0) ∧ w'.cell? ⟨g,q * 7 + 1,none⟩ = some (.int .i64 y1) ∧ w'.cell? ⟨g,q * 7 + 2,none⟩ = some (.int .i64 y2) ∧ w'.cell? ⟨g,q * 7 + 3,none⟩ = some (.int .i64 y3) ∧ w'.cell? ⟨g,q * 7 + 4,none⟩ = some (.bool y4) ∧ w'.cell? ⟨g,q * 7 + 5,none⟩ = some (.slice ya yn yc) ∧ w'.cell? ⟨g,q * 7 + 6,none⟩ = some (.slice yb ym yd))) (by kernel_rfl) ?_ (fun hHeld => ?_)
            · (obtain ⟨_,_,_,_,_,_,a6,_,_,_,_,_,_,_⟩:=cell7k gT;obtain ⟨q0,q1,q2,q3,q4,q5,q6⟩:=Cs.knot7 (HY.out _ HR);exact ⟨a6,q0,q1,q2,q3,q4,q5,q6⟩)
            replace HR:=hid (HR.out.drew)
            replace HF:=hid (HF.out.bel (bdrew (Below.refl _ _)))
            replace gT:=keepheap (bdrew (Below.refl _ _)) gT
            replace gX:=keepheap (bdrew (Below.refl _ _)) gX
            generalize Vb.drew = Vc at *
            refine tkP 0 hHeld ?_
            try simp only [sq]
            refine tkA 1 hHeld ?_
            try simp only [sq]
            refine tkP 2 hHeld ?_
            try simp only [sq]
            refine tkP 3 hHeld ?_
            try simp only [sq]
            refine tkA 4 hHeld ?_
            try simp only [sq]
            refine tkP 5 hHeld ?_
            try simp only [sq]
            refine tkP 6 hHeld ?_
            try simp only [sq]
            refine tkP 7 hHeld ?_
            try simp only [sq]
            refine tkA 8 hHeld ?_
            try simp only [sq]
            refine tkP 9 hHeld ?_
            try simp only [sq]
            refine anyL_1 (i:=10) rfl (by kernel_rfl) rfl ?_
            have hth:=row_there HR.out
            obtain ⟨s0,s0'⟩:=hth (j * 7) (by omega)
            obtain ⟨u0,hu0⟩:=Option.isSome_iff_exists.1 s0
            obtain ⟨s1,s1'⟩:=hth (j * 7 + 1) (by omega)
            obtain ⟨u1,hu1⟩:=Option.isSome_iff_exists.1 s1
            obtain ⟨s2,s2'⟩:=hth (j * 7 + 2) (by omega)
            obtain ⟨u2,hu2⟩:=Option.isSome_iff_exists.1 s2
            obtain ⟨s3,s3'⟩:=hth (j * 7 + 3) (by omega)
            obtain ⟨u3,hu3⟩:=Option.isSome_iff_exists.1 s3
            obtain ⟨s4,s4'⟩:=hth (j * 7 + 4) (by omega)
            obtain ⟨u4,hu4⟩:=Option.isSome_iff_exists.1 s4
            obtain ⟨s5,s5'⟩:=hth (j * 7 + 5) (by omega)
            obtain ⟨u5,hu5⟩:=Option.isSome_iff_exists.1 s5
            obtain ⟨s6,s6'⟩:=hth (j * 7 + 6) (by omega)
            obtain ⟨u6,hu6⟩:=Option.isSome_iff_exists.1 s6
            simp only [Nat.zero_add,← Nat.add_assoc] at s0' hu0 s1' hu1 s2' hu2 s3' hu3 s4' hu4 s5' hu5 s6' hu6
            clear s0 s1 s2 s3 s4 s5 s6 hth
            refine wpo_late (by kernel_rfl) (by go_simp;first | done | with_reducible rfl | rfl | exact ⟨rfl,rfl⟩) ?_
            clear s0' hu0 s1' hu1 s2' hu2 s3' hu3 s4' hu4 s5' hu5 s6' hu6
            have hr10:=row_setK HR.out HLL.out hjm y
            have hf10:=Fr.setL HF.out [.int .i64 y0,.int .i64 y1,.int .i64 y2,.int .i64 y3,.bool y4,.slice ya yn yc,.slice yb ym yd] (j * 7)
            have gT2:=(setL_blk [.int .i64 y0,.int .i64 y1,.int .i64 y2,.int .i64 y3,.bool y4,.slice ya yn yc,.slice yb ym yd] Vc g (j * 7) w.heap.size (by omega)).trans gT
            have gX2:=(setL_blk [.int .i64 y0,.int .i64 y1,.int .i64 y2,.int .i64 y3,.bool y4,.slice ya yn yc,.slice yb ym yd] Vc g (j * 7) X (by omega)).trans gX
            rw [HYV.out] at hr10
            have HR10:=hid hr10
            have HF10:=hid hf10
            clear hr10 hf10 HR HF gT gX
            change anyL _ _ _ _ _ _ _ _ _ (setL Vc g (j * 7) [.int .i64 y0,.int .i64 y1,.int .i64 y2,.int .i64 y3,.bool y4,.slice ya yn yc,.slice yb ym yd])
            generalize setL Vc g (j * 7) [.int .i64 y0,.int .i64 y1,.int .i64 y2,.int .i64 y3,.bool y4,.slice ya yn yc,.slice yb ym yd] = Vd at *
            have gT:=gT2
            have gX:=gX2
            have HR:=HR10
            have HF:=HF10
            clear gT2 gX2 HR10 HF10
            try simp only [sq]
            refine anyL_done (by kernel_rfl) ?_ _
            obtain ⟨_,_,_,_,_,a5,a6,_,_,_,_,_,_,_⟩:=cell7k gT
            obtain ⟨z0,z1,z2,z3,z4,z5,z6,_,_,_,_,_,_,_⟩:=cell7k gX
            have hth:=row_there HR.out
            obtain ⟨s0,s0'⟩:=hth (q * 7) (by omega)
            obtain ⟨u0,hu0⟩:=Option.isSome_iff_exists.1 s0
            obtain ⟨s1,s1'⟩:=hth (q * 7 + 1) (by omega)
            obtain ⟨u1,hu1⟩:=Option.isSome_iff_exists.1 s1
            obtain ⟨s2,s2'⟩:=hth (q * 7 + 2) (by omega)
            obtain ⟨u2,hu2⟩:=Option.isSome_iff_exists.1 s2
            obtain ⟨s3,s3'⟩:=hth (q * 7 + 3) (by omega)
            obtain ⟨u3,hu3⟩:=Option.isSome_iff_exists.1 s3
            obtain ⟨s4,s4'⟩:=hth (q * 7 + 4) (by omega)
            obtain ⟨u4,hu4⟩:=Option.isSome_iff_exists.1 s4
            obtain ⟨s5,s5'⟩:=hth (q * 7 + 5) (by omega)
            obtain ⟨u5,hu5⟩:=Option.isSome_iff_exists.1 s5
            obtain ⟨s6,s6'⟩:=hth (q * 7 + 6) (by omega)
            obtain ⟨u6,hu6⟩:=Option.isSome_iff_exists.1 s6
            simp only [Nat.zero_add,← Nat.add_assoc] at s0' hu0 s1' hu1 s2' hu2 s3' hu3 s4' hu4 s5' hu5 s6' hu6
            clear s0 s1 s2 s3 s4 s5 s6 hth
            go_upto_region 19 with fail
            have hr11:=row_setK HR.out (by rw [List.length_set];exact HLL.out) hqn x
            have hf11:=Fr.setL HF.out [.int .i64 x0,.int .i64 x1,.int .i64 x2,.int .i64 x3,.bool x4,.slice xa xn xc,.slice xb xm xd] (q * 7)
            have gT2:=(setL_blk [.int .i64 x0,.int .i64 x1,.int .i64 x2,.int .i64 x3,.bool x4,.slice xa xn xc,.slice xb xm xd] Vd g (q * 7) w.heap.size (by omega)).trans gT
            rw [HXV.out,HSW.out] at hr11
            simp only [setL,Nat.add_assoc,Nat.reduceAdd] at hr11 hf11 gT2
            refine wp_wld (fun X => X.heap[w.heap.size]? = some (.cells #[.int .i64 b0,.int .i64 b1,.int .i64 b2,.int .i64 b3,.bool false,.slice ia 0 ic,.slice (some ⟨g,0,none⟩) m kc] 35 (0,0)) ∧ Hid (X.ownsRow lo 35 7 (.slice (some ⟨g,0,none⟩) m kc) m (flK (swp2 l' q))) ∧ Hid (Fr [g] w X)) ⟨gT2,hid hr11,hid hf11⟩ ?_
            clear a5 a6 z0 z1 z2 z3 z4 z5 z6 hr11 hf11 gT2 gT gX HR HF
            clear s0' hu0 s1' hu1 s2' hu2 s3' hu3 s4' hu4 s5' hu5 s6' hu6
            rintro X2 ⟨gT,HR,HF⟩
            go_wp2_with fail
            go_roundw
            case rel => exact ⟨q,swp2 l' q,by first | rfl | go_num,by omega,HYES.out hbt,gT,HR,HF⟩
            case measure => have:=HJQ.out;simp [intOf];omega
    · obtain rfl:m = i:=by omega
      have c1:¬ (m:Int) < (m:Int):=by omega
      rw [HALL.out] at HR
      have HKS:=hid (HK1.out wr HF.out)
      go_upto_region 23 with fail
      clear a5 a6
      refine wp_region_late (L:=[]) (S:=(fun w' => w'.cell? ⟨w.heap.size,4,none⟩ = some (.bool false))) (by kernel_rfl) ?_ (fun hHeld => ?_)
      · (obtain ⟨_,_,_,_,a4,_,_,_,_,_,_,_,_,_⟩:=cell7k gT;exact a4)
      replace HR:=hid (HR.out.drew)
      replace HF:=hid (HF.out.bel (bdrew (Below.refl _ _)))
      replace gT:=keepheap (bdrew (Below.refl _ _)) gT
      replace HKS:=hid (HKS.out.keep (fun x hx => (bdrew (Below.refl wr.heap.size wr)).block x (KO_blk HKS.out x hx)))
      generalize wr.drew = Vb0 at *
      refine tkP 0 hHeld ?_
      try simp only [sq]
      refine tkA 1 hHeld ?_
      try simp only [sq]
      refine anyL_pure (i:=2) (v:=_) rfl (by kernel_rfl) (fun _ _ _ h => h) (Or.inl ⟨by rfl,fun w hSw => exec_build _ _ _ rfl rfl HBLD⟩) (Or.inr hHeld) ?_
      try simp only [sq]
      refine tkP 3 hHeld ?_
      try simp only [sq]
      refine tkA 4 hHeld ?_
      try simp only [sq]
      refine anyL_pure (i:=5) (v:=_) rfl (by kernel_rfl) (fun _ _ _ h => h) (Or.inl ⟨by rfl,fun w hSw => exec_build _ _ _ rfl rfl HBLD⟩) (Or.inr hHeld) ?_
      try simp only [sq]
      refine anyL_2 (i:=6) (j:=7) rfl rfl (by kernel_rfl) rfl rfl ?_ ?_
      · skip
        clear hHeld
        refine wpo_val (by go_simp;first | done | with_reducible rfl | rfl | exact ⟨rfl,rfl⟩) ?_
        have gA:=heap_alloc_new Vb0 (.cells #[.int .i64 0,.int .i64 0,.int .i64 0,.int .i64 0,.bool false,.slice none 0 0,.slice none 0 0] 35)
        have hTA:=lt_of_heap gT
        replace gT:=old_alloc (o':=(.cells #[.int .i64 0,.int .i64 0,.int .i64 0,.int .i64 0,.bool false,.slice none 0 0,.slice none 0 0] 35)) gT
        replace HR:=hid (HR.out.alloc (.cells #[.int .i64 0,.int .i64 0,.int .i64 0,.int .i64 0,.bool false,.slice none 0 0,.slice none 0 0] 35))
        replace HF:=hid (HF.out.bel (balloc (Below.refl _ _) (.cells #[.int .i64 0,.int .i64 0,.int .i64 0,.int .i64 0,.bool false,.slice none 0 0,.slice none 0 0] 35)))
        replace HKS:=hid (HKS.out.keep (fun x hx => (balloc (Below.refl _ _) (.cells #[.int .i64 0,.int .i64 0,.int .i64 0,.int .i64 0,.bool false,.slice none 0 0,.slice none 0 0] 35)).block x (KO_blk HKS.out x hx)))
        obtain ⟨A,hA⟩:∃ A,A = Vb0.heap.size:=⟨_,rfl⟩
        rw [← hA] at gA hTA ⊢
        generalize Vb0.alloc (.cells #[.int .i64 0,.int .i64 0,.int .i64 0,.int .i64 0,.bool false,.slice none 0 0,.slice none 0 0] 35) = Vb1 at *
        clear hA
        refine ⟨by (obtain ⟨_,_,_,_,a4,_,_,_,_,_,_,_,_,_⟩:=cell7k gT;exact a4),fun hHeld => ?_⟩
        try simp only [sq]
        refine anyL_1 (i:=7) rfl (by kernel_rfl) rfl ?_
        clear hHeld
        refine wpo_val (by go_simp;first | done | with_reducible rfl | rfl | exact ⟨rfl,rfl⟩) ?_
        have gB:=heap_alloc_new Vb1 (.cells #[.int .i64 0,.int .i64 0,.int .i64 0,.int .i64 0,.bool false,.slice none 0 0,.slice none 0 0] 35)
        have hTB:=lt_of_heap gT
        replace gT:=old_alloc (o':=(.cells #[.int .i64 0,.int .i64 0,.int .i64 0,.int .i64 0,.bool false,.slice none 0 0,.slice none 0 0] 35)) gT
        have hAB:=lt_of_heap gA
        replace gA:=old_alloc (o':=(.cells #[.int .i64 0,.int .i64 0,.int .i64 0,.int .i64 0,.bool false,.slice none 0 0,.slice none 0 0] 35)) gA
        replace HR:=hid (HR.out.alloc (.cells #[.int .i64 0,.int .i64 0,.int .i64 0,.int .i64 0,.bool false,.slice none 0 0,.slice none 0 0] 35))
        replace HF:=hid (HF.out.bel (balloc (Below.refl _ _) (.cells #[.int .i64 0,.int .i64 0,.int .i64 0,.int .i64 0,.bool false,.slice none 0 0,.slice none 0 0] 35)))
        replace HKS:=hid (HKS.out.keep (fun x hx => (balloc (Below.refl _ _) (.cells #[.int .i64 0,.int .i64 0,.int .i64 0,.int .i64 0,.bool false,.slice none 0 0,.slice none 0 0] 35)).block x (KO_blk HKS.out x hx)))
        obtain ⟨B,hB⟩:∃ B,B = Vb1.heap.size:=⟨_,rfl⟩
        rw [← hB] at gB hTB ⊢
        rw [← hB] at hAB
        generalize Vb1.alloc (.cells #[.int .i64 0,.int .i64 0,.int .i64 0,.int .i64 0,.bool false,.slice none 0 0,.slice none 0 0] 35) = Vb2 at *
        clear hB
        refine ⟨by (obtain ⟨_,_,_,_,a4,_,_,_,_,_,_,_,_,_⟩:=cell7k gT;exact a4),fun hHeld => ?_⟩
        try simp only [sq]
        refine anyL_1 (i:=8) rfl (by kernel_rfl) rfl ?_
        obtain ⟨u0,u1,u2,u3,u4,u5,u6,f0,f1,f2,f3,f4,f5,f6⟩:=cell7k gA
        clear hHeld
        refine wpo_st (by go_simp;first | done | with_reducible rfl | rfl | exact ⟨rfl,rfl⟩) ?_
        clear u0 u1 u2 u3 u4 u5 u6 f0 f1 f2 f3 f4 f5 f6
        have q1:=setL_new [.int .i64 0,.int .i64 0,.int .i64 0,.int .i64 0,.bool false,.slice none 0 0,.slice none 0 0] gA rfl
        have q2:=(setL_blk [.int .i64 0,.int .i64 0,.int .i64 0,.int .i64 0,.bool false,.slice none 0 0,.slice none 0 0] Vb2 A 0 w.heap.size (by omega)).trans gT
        have q3:=(setL_blk [.int .i64 0,.int .i64 0,.int .i64 0,.int .i64 0,.bool false,.slice none 0 0,.slice none 0 0] Vb2 A 0 B (by omega)).trans gB
        have q4:=row_blk HR.out (fun b hb' => setL_blk [.int .i64 0,.int .i64 0,.int .i64 0,.int .i64 0,.bool false,.slice none 0 0,.slice none 0 0] Vb2 A 0 b (by have h9:=hgb b hb';omega))
        have q5:=fr_setN (g:=A) HF.out (.inr (by omega)) [.int .i64 0,.int .i64 0,.int .i64 0,.int .i64 0,.bool false,.slice none 0 0,.slice none 0 0] 0
        have q6:=HKS.out.keep (fun x hx => setL_blk [.int .i64 0,.int .i64 0,.int .i64 0,.int .i64 0,.bool false,.slice none 0 0,.slice none 0 0] Vb2 A 0 x (by have:=hpS x hx;have:=hSl x this;omega))
        simp only [setL,Nat.zero_add,Nat.reduceAdd] at q1 q2 q3 q4 q5 q6
        clear gA gT gB HR HF HKS
        generalize (((((((Vb2.setCell ⟨A,0,none⟩ (.int .i64 0)).setCell ⟨A,1,none⟩ (.int .i64 0)).setCell ⟨A,2,none⟩ (.int .i64 0)).setCell ⟨A,3,none⟩ (.int .i64 0)).setCell ⟨A,4,none⟩ (.bool false)).setCell ⟨A,5,none⟩ (.slice none 0 0)).setCell ⟨A,6,none⟩ (.slice none 0 0)) = Vb3 at *
        have gA:=q1
        have gT:=q2
        have gB:=q3
        have HR:=hid q4
        have HF:=hid q5
        have HKS:=hid q6
        clear q1 q2 q3 q4 q5 q6
        refine ⟨by (obtain ⟨_,_,_,_,a4,_,_,_,_,_,_,_,_,_⟩:=cell7k gT;exact a4),fun hHeld => ?_⟩
        try simp only [sq]
        refine anyL_1 (i:=9) rfl (by kernel_rfl) rfl ?_
        obtain ⟨u0,u1,u2,u3,u4,u5,u6,f0,f1,f2,f3,f4,f5,f6⟩:=cell7k gB
        clear hHeld
        refine wpo_st (by go_simp;first | done | with_reducible rfl | rfl | exact ⟨rfl,rfl⟩) ?_
        clear u0 u1 u2 u3 u4 u5 u6 f0 f1 f2 f3 f4 f5 f6
        have q1:=setL_new [.int .i64 0,.int .i64 0,.int .i64 0,.int .i64 0,.bool false,.slice none 0 0,.slice none 0 0] gB rfl
        have q2:=(setL_blk [.int .i64 0,.int .i64 0,.int .i64 0,.int .i64 0,.bool false,.slice none 0 0,.slice none 0 0] Vb3 B 0 w.heap.size (by omega)).trans gT
        have q3:=(setL_blk [.int .i64 0,.int .i64 0,.int .i64 0,.int .i64 0,.bool false,.slice none 0 0,.slice none 0 0] Vb3 B 0 A (by omega)).trans gA
        have q4:=row_blk HR.out (fun b hb' => setL_blk [.int .i64 0,.int .i64 0,.int .i64 0,.int .i64 0,.bool false,.slice none 0 0,.slice none 0 0] Vb3 B 0 b (by have h9:=hgb b hb';omega))
        have q5:=fr_setN (g:=B) HF.out (.inr (by omega)) [.int .i64 0,.int .i64 0,.int .i64 0,.int .i64 0,.bool false,.slice none 0 0,.slice none 0 0] 0
        have q6:=HKS.out.keep (fun x hx => setL_blk [.int .i64 0,.int .i64 0,.int .i64 0,.int .i64 0,.bool false,.slice none 0 0,.slice none 0 0] Vb3 B 0 x (by have:=hpS x hx;have:=hSl x this;omega))
        simp only [setL,Nat.zero_add,Nat.reduceAdd] at q1 q2 q3 q4 q5 q6
        clear gB gT gA HR HF HKS
        generalize (((((((Vb3.setCell ⟨B,0,none⟩ (.int .i64 0)).setCell ⟨B,1,none⟩ (.int .i64 0)).setCell ⟨B,2,none⟩ (.int .i64 0)).setCell ⟨B,3,none⟩ (.int .i64 0)).setCell ⟨B,4,none⟩ (.bool false)).setCell ⟨B,5,none⟩ (.slice none 0 0)).setCell ⟨B,6,none⟩ (.slice none 0 0)) = Vb4 at *
        have gB:=q1
        have gT:=q2
        have gA:=q3
        have HR:=hid q4
        have HF:=hid q5
        have HKS:=hid q6
        clear q1 q2 q3 q4 q5 q6
        refine ⟨by (obtain ⟨_,_,_,_,a4,_,_,_,_,_,_,_,_,_⟩:=cell7k gT;exact a4),fun hHeld => ?_⟩
        try simp only [sq]
        refine anyL_done (by kernel_rfl) ?_ _
        have hA0:=lt_of_heap gA
        have hB0:=lt_of_heap gB
        obtain ⟨_,_,_,_,a4,_,_,_,_,_,_,_,_,_⟩:=cell7k gT
        go_upto_region 27 with fail
        clear a4
        refine wp_region_late (L:=[7]) (S:=(fun w' => w'.cell? ⟨A,6,none⟩ = some (.slice none 0 0) ∧ w'.cell? ⟨w.heap.size,6,none⟩ = some (.slice (some ⟨g,0,none⟩) m kc))) (by kernel_rfl) ?_ (fun hHeld => ?_)
        · (obtain ⟨_,_,_,_,_,_,l6,_,_,_,_,_,_,_⟩:=cell7k gA;obtain ⟨_,_,_,_,_,_,a6,_,_,_,_,_,_,_⟩:=cell7k gT;exact ⟨l6,a6⟩)
        have hbD:=bdrew (Below.refl Vb4.heap.size Vb4)
        replace gT:=keepheap hbD gT
        replace gA:=keepheap hbD gA
        replace gB:=keepheap hbD gB
        replace HR:=hid (HR.out.drew)
        replace HF:=hid (HF.out.bel hbD)
        replace HKS:=hid (HKS.out.keep (fun x hx => hbD.block x (KO_blk HKS.out x hx)))
        clear hbD
        generalize Vb4.drew = Vc at *
        have hA0:=lt_of_heap gA
        have hB0:=lt_of_heap gB
        have hT0:=lt_of_heap gT
        refine tkP 0 hHeld ?_
        try simp only [sq]
        refine tkA 1 hHeld ?_
        try simp only [sq]
        refine tkP 2 hHeld ?_
        try simp only [sq]
        refine tkA 3 hHeld ?_
        try simp only [sq]
        refine tkP 4 hHeld ?_
        try simp only [sq]
        refine anyL_1 (i:=5) rfl (by kernel_rfl) rfl ?_
        clear hHeld
        refine wpo_app (.tmp 146) (.tmp 149) 33 rfl w.heap.size 35 k0 _ 7 88 Tryz.underlying33 hki0 hkz0 hkz1 hkzz rfl (by decide) none 0 0 [] (by rfl) (own_nilR _ _ _ _) (some ⟨g,0,none⟩) 3 kc (flK l1) (by rfl) (SRCA.out _ HR) HLA.out (flK_one _) (by unfold maxLen;omega) (by omega) (Fr.size HF.out) ?_
        intro aA cA WA hown hgrow hat
        replace gT:=(app_blk hgrow (lt_of_heap gT) (by simp [hb])).trans gT
        replace gA:=(app_blk hgrow (lt_of_heap gA) (by simp [hb])).trans gA
        replace gB:=(app_blk hgrow (lt_of_heap gB) (by simp [hb])).trans gB
        replace HR:=hid (row_blk HR.out (fun b hb' => app_blk hgrow (row_lt HR.out b hb').2 (by simp [hb])))
        replace HKS:=hid (HKS.out.keep (fun x hx => app_blk hgrow (KO_blk HKS.out x hx) (by simp [hb])))
        replace HF:=hid (HF.out.trans (app_fr hgrow) (fun k hk => by simp [hb] at hk))
        have hnAA:A ∉ hb aA:=fun hc => by
          rcases hat A hc with e | e
          · simp [hb] at e
          · have:=hA0;omega
        have hnAB:B ∉ hb aA:=fun hc => by
          rcases hat B hc with e | e
          · simp [hb] at e
          · have:=hB0;omega
        have HOA:=hid (show WA.ownsRow w.heap.size 35 7 (.slice aA 3 cA) 3 (flK l1) from by simpa using hown)
        have hAl:∀ b ∈ hb aA,b < WA.heap.size:=fun b h => (row_lt HOA.out b h).2
        have hA0:=lt_of_heap gA
        have hB0:=lt_of_heap gB
        rw [Nat.zero_add]
        clear hown hgrow hat
        refine ⟨?_,fun hHeld => ?_⟩
        · (obtain ⟨_,_,_,_,_,_,l6,_,_,_,_,_,_,_⟩:=cell7k gA;obtain ⟨_,_,_,_,_,_,a6,_,_,_,_,_,_,_⟩:=cell7k gT;exact ⟨l6,a6⟩)
        try simp only [sq]
        refine tkP 6 hHeld ?_
        try simp only [sq]
        refine anyL_1 (i:=7) rfl (by kernel_rfl) rfl ?_
        obtain ⟨u0,u1,u2,u3,u4,u5,u6,f0,f1,f2,f3,f4,f5,f6⟩:=cell7k gA
        refine wpo_late (by kernel_rfl) (by go_simp;first | done | with_reducible rfl | rfl | exact ⟨rfl,rfl⟩) ?_
        clear u0 u1 u2 u3 u4 u5 u6 f0 f1 f2 f3 f4 f5 f6
        change anyL _ _ _ _ _ _ _ _ _ (setL WA A 6 [.slice aA 3 cA])
        replace gA:=set_6k gA (.slice aA 3 cA)
        replace gT:=(setL_blk [.slice aA 3 cA] WA A 6 w.heap.size (by omega)).trans gT
        replace gB:=(setL_blk [.slice aA 3 cA] WA A 6 B (by omega)).trans gB
        replace HR:=hid (row_blk HR.out (fun b hb' => setL_blk [.slice aA 3 cA] WA A 6 b (by have h9:=hgb b hb';omega)))
        replace HF:=hid (fr_setN (g:=A) HF.out (.inr (by omega)) [.slice aA 3 cA] 6)
        replace HOA:=hid (row_blk HOA.out (fun b hb' => setL_blk [.slice aA 3 cA] WA A 6 b (fun e => hnAA (e ▸ hb'))))
        replace HKS:=hid (HKS.out.keep (fun x hx => setL_blk [.slice aA 3 cA] WA A 6 x (by have:=hpS x hx;have:=hSl x this;omega)))
        change (setL WA A 6 [.slice aA 3 cA]).heap[A]? = _ at gA
        generalize setL WA A 6 [.slice aA 3 cA] = VA at *
        try simp only [sq]
        refine anyL_done (by kernel_rfl) ?_ _
        have hA0:=lt_of_heap gA
        have hB0:=lt_of_heap gB
        go_upto_region 28 with fail
        clear hAl
        refine wp_region_late (L:=[7]) (S:=(fun w' => w'.cell? ⟨B,6,none⟩ = some (.slice none 0 0) ∧ w'.cell? ⟨w.heap.size,6,none⟩ = some (.slice (some ⟨g,0,none⟩) m kc))) (by kernel_rfl) ?_ (fun hHeld => ?_)
        · (obtain ⟨_,_,_,_,_,_,l6,_,_,_,_,_,_,_⟩:=cell7k gB;obtain ⟨_,_,_,_,_,_,a6,_,_,_,_,_,_,_⟩:=cell7k gT;exact ⟨l6,a6⟩)
        have hbD:=bdrew (Below.refl VA.heap.size VA)
        replace gT:=keepheap hbD gT
        replace gA:=keepheap hbD gA
        replace gB:=keepheap hbD gB
        replace HR:=hid (HR.out.drew)
        replace HF:=hid (HF.out.bel hbD)
        replace HKS:=hid (HKS.out.keep (fun x hx => hbD.block x (KO_blk HKS.out x hx)))
        replace HOA:=hid (HOA.out.drew)
        clear hbD
        generalize VA.drew = Vc0 at *
        have hA0:=lt_of_heap gA
        have hB0:=lt_of_heap gB
        have hT0:=lt_of_heap gT
        have hAl:∀ b ∈ hb aA,b < Vc0.heap.size:=fun b h => (row_lt HOA.out b h).2
        refine tkP 0 hHeld ?_
        try simp only [sq]
        refine tkA 1 hHeld ?_
        try simp only [sq]
        refine tkP 2 hHeld ?_
        try simp only [sq]
        refine tkA 3 hHeld ?_
        try simp only [sq]
        refine tkP 4 hHeld ?_
        try simp only [sq]
        refine anyL_1 (i:=5) rfl (by kernel_rfl) rfl ?_
        clear hHeld
        refine wpo_app (.tmp 153) (.tmp 156) 33 rfl w.heap.size 35 k0 _ 7 88 Tryz.underlying33 hki0 hkz0 hkz1 hkzz rfl (by decide) none 0 0 [] (by rfl) (own_nilR _ _ _ _) (some ⟨g,21,none⟩) (m - 3) (kc - 3) (flK l2) (by rfl) (SRCB.out _ HR) HLB.out (flK_one _) (by unfold maxLen;omega) (by omega) (Fr.size HF.out) ?_
        intro aB cB WB hown hgrow hat
        replace gT:=(app_blk hgrow (lt_of_heap gT) (by simp [hb])).trans gT
        replace gA:=(app_blk hgrow (lt_of_heap gA) (by simp [hb])).trans gA
        replace gB:=(app_blk hgrow (lt_of_heap gB) (by simp [hb])).trans gB
        replace HR:=hid (row_blk HR.out (fun b hb' => app_blk hgrow (row_lt HR.out b hb').2 (by simp [hb])))
        replace HKS:=hid (HKS.out.keep (fun x hx => app_blk hgrow (KO_blk HKS.out x hx) (by simp [hb])))
        replace HF:=hid (HF.out.trans (app_fr hgrow) (fun k hk => by simp [hb] at hk))
        replace HOA:=hid (row_blk HOA.out (fun b hb' => app_blk hgrow (row_lt HOA.out b hb').2 (by simp [hb])))
        have hABd:∀ b ∈ hb aA,b ∉ hb aB:=fun b h1 h2 => by
          rcases hat b h2 with e | e
          · simp [hb] at e
          · have:=(hAl b h1);omega
        have hnBA:A ∉ hb aB:=fun hc => by
          rcases hat A hc with e | e
          · simp [hb] at e
          · have:=hA0;omega
        have hnBB:B ∉ hb aB:=fun hc => by
          rcases hat B hc with e | e
          · simp [hb] at e
          · have:=hB0;omega
        have HOB:=hid (show WB.ownsRow w.heap.size 35 7 (.slice aB (m - 3) cB) (m - 3) (flK l2) from by simpa using hown)
        have hBl:∀ b ∈ hb aB,b < WB.heap.size:=fun b h => (row_lt HOB.out b h).2
        have hA0:=lt_of_heap gA
        have hB0:=lt_of_heap gB
        rw [Nat.zero_add]
        clear hown hgrow hat
        refine ⟨?_,fun hHeld => ?_⟩
        · (obtain ⟨_,_,_,_,_,_,l6,_,_,_,_,_,_,_⟩:=cell7k gB;obtain ⟨_,_,_,_,_,_,a6,_,_,_,_,_,_,_⟩:=cell7k gT;exact ⟨l6,a6⟩)
        try simp only [sq]
        refine tkP 6 hHeld ?_
        try simp only [sq]
        refine anyL_1 (i:=7) rfl (by kernel_rfl) rfl ?_
        obtain ⟨u0,u1,u2,u3,u4,u5,u6,f0,f1,f2,f3,f4,f5,f6⟩:=cell7k gB
        refine wpo_late (by kernel_rfl) (by go_simp;first | done | with_reducible rfl | rfl | exact ⟨rfl,rfl⟩) ?_
        clear u0 u1 u2 u3 u4 u5 u6 f0 f1 f2 f3 f4 f5 f6
        change anyL _ _ _ _ _ _ _ _ _ (setL WB B 6 [.slice aB (m - 3) cB])
        replace gB:=set_6k gB (.slice aB (m - 3) cB)
        replace gT:=(setL_blk [.slice aB (m - 3) cB] WB B 6 w.heap.size (by omega)).trans gT
        replace gA:=(setL_blk [.slice aB (m - 3) cB] WB B 6 A (by omega)).trans gA
        replace HR:=hid (row_blk HR.out (fun b hb' => setL_blk [.slice aB (m - 3) cB] WB B 6 b (by have h9:=hgb b hb';omega)))
        replace HF:=hid (fr_setN (g:=B) HF.out (.inr (by omega)) [.slice aB (m - 3) cB] 6)
        replace HOB:=hid (row_blk HOB.out (fun b hb' => setL_blk [.slice aB (m - 3) cB] WB B 6 b (fun e => hnBB (e ▸ hb'))))
        replace HOA:=hid (row_blk HOA.out (fun b hb' => setL_blk [.slice aB (m - 3) cB] WB B 6 b (fun e => hnAB (e ▸ hb'))))
        replace HKS:=hid (HKS.out.keep (fun x hx => setL_blk [.slice aB (m - 3) cB] WB B 6 x (by have:=hpS x hx;have:=hSl x this;omega)))
        change (setL WB B 6 [.slice aB (m - 3) cB]).heap[B]? = _ at gB
        generalize setL WB B 6 [.slice aB (m - 3) cB] = VB at *
        try simp only [sq]
        refine anyL_done (by kernel_rfl) ?_ _
        have hAl2:∀ b ∈ hb aA,b < VB.heap.size:=fun b h => (row_lt HOA.out b h).2
        have hBl2:∀ b ∈ hb aB,b < VB.heap.size:=fun b h => (row_lt HOB.out b h).2
        clear HR SRCA SRCB gT
        obtain ⟨ka0,ka1,ka2,ka3,ka4,ka5,ka6,fa0,fa1,fa2,fa3,_,_,_⟩:=cell7k gA
        go_wp2_with fail
        refine (ARA.out _ _ _ HOA HKS).mono ?_
        rintro e ZA ⟨rfl,hb⟩
        replace gA:=keepheap hb gA
        replace gB:=keepheap hb gB
        replace HOA:=hid (row_blk HOA.out (fun b hb' => hb.block b (hAl2 b hb')))
        replace HOB:=hid (row_blk HOB.out (fun b hb' => hb.block b (hBl2 b hb')))
        replace HKS:=hid (HKS.out.keep (fun x hx => hb.block x (KO_blk HKS.out x hx)))
        replace HF:=hid (HF.out.bel hb)
        clear hb
        clear ka0 ka1 ka2 ka3 ka4 ka5 ka6 fa0 fa1 fa2 fa3
        obtain ⟨ka0,ka1,ka2,ka3,_,_,_,fa0,fa1,fa2,fa3,_,_,_⟩:=cell7k gA
        go_upto_region 30 with fail
        clear ka0 ka1 ka2 ka3 fa0 fa1 fa2 fa3
        have q1:=set4k gA (.int .i64 jA.1) (.int .i64 jA.2.1) (.int .i64 jA.2.2.1) (.int .i64 jA.2.2.2)
        have q2:=(setL_blk [.int .i64 jA.1,.int .i64 jA.2.1,.int .i64 jA.2.2.1,.int .i64 jA.2.2.2] ZA A 0 _ (by omega)).trans gB
        have q3:=hid (row_blk HOA.out (fun b hb' => setL_blk [.int .i64 jA.1,.int .i64 jA.2.1,.int .i64 jA.2.2.1,.int .i64 jA.2.2.2] ZA A 0 b (fun e => hnAA (e ▸ hb'))))
        have q4:=hid (row_blk HOB.out (fun b hb' => setL_blk [.int .i64 jA.1,.int .i64 jA.2.1,.int .i64 jA.2.2.1,.int .i64 jA.2.2.2] ZA A 0 b (fun e => hnBA (e ▸ hb'))))
        have q5:=hid (fr_setN (g:=A) HF.out (.inr (by omega)) [.int .i64 jA.1,.int .i64 jA.2.1,.int .i64 jA.2.2.1,.int .i64 jA.2.2.2] 0)
        have q10:=hid (HKS.out.keep (fun x hx => setL_blk [.int .i64 jA.1,.int .i64 jA.2.1,.int .i64 jA.2.2.1,.int .i64 jA.2.2.2] ZA A 0 x (by have:=hpS x hx;have:=hSl x this;omega)))
        simp only [setL,Nat.zero_add,Nat.reduceAdd] at q2 q3 q4 q5 q10
        have q8:=fun b hb' => (row_lt q3.out b hb').2
        have q9:=fun b hb' => (row_lt q4.out b hb').2
        have q6:=lt_of_heap q1
        have q7:=lt_of_heap q2
        refine wp_wld (fun X => X.heap[A]? = some (.cells #[.int .i64 jA.1,.int .i64 jA.2.1,.int .i64 jA.2.2.1,.int .i64 jA.2.2.2,.bool false,.slice none 0 0,.slice aA 3 cA] 35 (0,0)) ∧ X.heap[B]? = some (.cells #[.int .i64 0,.int .i64 0,.int .i64 0,.int .i64 0,.bool false,.slice none 0 0,.slice aB (m - 3) cB] 35 (0,0)) ∧ Hid (X.ownsRow w.heap.size 35 7 (.slice aA 3 cA) 3 (flK l1)) ∧ Hid (X.ownsRow w.heap.size 35 7 (.slice aB (m - 3) cB) (m - 3) (flK l2)) ∧ Hid (Fr [g] w X) ∧ Hid (KOs lo n0 X ps) ∧ A < X.heap.size ∧ B < X.heap.size ∧ (∀ b ∈ hb aA,b < X.heap.size) ∧ ∀ b ∈ hb aB,b < X.heap.size) ⟨q1,q2,q3,q4,q5,q10,q6,q7,q8,q9⟩ ?_
        clear gA gB HOA HOB HF HKS hAl2 hBl2 q1 q2 q3 q4 q5 q6 q7 q8 q9 q10
        rintro XA ⟨gA,gB,HOA,HOB,HF,HKS,hA0,hB0,hAl2,hBl2⟩
        obtain ⟨ka0,ka1,ka2,ka3,ka4,ka5,ka6,fa0,fa1,fa2,fa3,_,_,_⟩:=cell7k gB
        go_wp2_with fail
        refine (ARB.out _ _ _ HOB HKS).mono ?_
        rintro e ZB ⟨rfl,hb⟩
        replace gA:=keepheap hb gA
        replace gB:=keepheap hb gB
        replace HOA:=hid (row_blk HOA.out (fun b hb' => hb.block b (hAl2 b hb')))
        replace HOB:=hid (row_blk HOB.out (fun b hb' => hb.block b (hBl2 b hb')))
        replace HKS:=hid (HKS.out.keep (fun x hx => hb.block x (KO_blk HKS.out x hx)))
        replace HF:=hid (HF.out.bel hb)
        clear hb
        clear ka0 ka1 ka2 ka3 ka4 ka5 ka6 fa0 fa1 fa2 fa3
        obtain ⟨ka0,ka1,ka2,ka3,_,_,_,fa0,fa1,fa2,fa3,_,_,_⟩:=cell7k gB
        go_upto_region 31 with fail
        clear ka0 ka1 ka2 ka3 fa0 fa1 fa2 fa3
        have q1:=set4k gB (.int .i64 jB.1) (.int .i64 jB.2.1) (.int .i64 jB.2.2.1) (.int .i64 jB.2.2.2)
        have q2:=(setL_blk [.int .i64 jB.1,.int .i64 jB.2.1,.int .i64 jB.2.2.1,.int .i64 jB.2.2.2] ZB B 0 _ (by omega)).trans gA
        have q3:=hid (row_blk HOA.out (fun b hb' => setL_blk [.int .i64 jB.1,.int .i64 jB.2.1,.int .i64 jB.2.2.1,.int .i64 jB.2.2.2] ZB B 0 b (fun e => hnAB (e ▸ hb'))))
        have q4:=hid (row_blk HOB.out (fun b hb' => setL_blk [.int .i64 jB.1,.int .i64 jB.2.1,.int .i64 jB.2.2.1,.int .i64 jB.2.2.2] ZB B 0 b (fun e => hnBB (e ▸ hb'))))
        have q5:=hid (fr_setN (g:=B) HF.out (.inr (by omega)) [.int .i64 jB.1,.int .i64 jB.2.1,.int .i64 jB.2.2.1,.int .i64 jB.2.2.2] 0)
        have q10:=hid (HKS.out.keep (fun x hx => setL_blk [.int .i64 jB.1,.int .i64 jB.2.1,.int .i64 jB.2.2.1,.int .i64 jB.2.2.2] ZB B 0 x (by have:=hpS x hx;have:=hSl x this;omega)))
        simp only [setL,Nat.zero_add,Nat.reduceAdd] at q2 q3 q4 q5 q10
        have q8:=fun b hb' => (row_lt q3.out b hb').2
        have q9:=fun b hb' => (row_lt q4.out b hb').2
        have q6:=lt_of_heap q2
        have q7:=lt_of_heap q1
        refine wp_wld (fun X => X.heap[B]? = some (.cells #[.int .i64 jB.1,.int .i64 jB.2.1,.int .i64 jB.2.2.1,.int .i64 jB.2.2.2,.bool false,.slice none 0 0,.slice aB (m - 3) cB] 35 (0,0)) ∧ X.heap[A]? = some (.cells #[.int .i64 jA.1,.int .i64 jA.2.1,.int .i64 jA.2.2.1,.int .i64 jA.2.2.2,.bool false,.slice none 0 0,.slice aA 3 cA] 35 (0,0)) ∧ Hid (X.ownsRow w.heap.size 35 7 (.slice aA 3 cA) 3 (flK l1)) ∧ Hid (X.ownsRow w.heap.size 35 7 (.slice aB (m - 3) cB) (m - 3) (flK l2)) ∧ Hid (Fr [g] w X) ∧ Hid (KOs lo n0 X ps) ∧ A < X.heap.size ∧ B < X.heap.size ∧ (∀ b ∈ hb aA,b < X.heap.size) ∧ ∀ b ∈ hb aB,b < X.heap.size) ⟨q1,q2,q3,q4,q5,q10,q6,q7,q8,q9⟩ ?_
        clear gA gB HOA HOB HF HKS hAl2 hBl2 q1 q2 q3 q4 q5 q6 q7 q8 q9 q10
        rintro XB ⟨gB,gA,HOA,HOB,HF,HKS,hA0,hB0,hAl2,hBl2⟩
        obtain ⟨ka0,ka1,ka2,ka3,ka4,ka5,ka6,_,_,_,_,_,_,_⟩:=cell7k gA
        obtain ⟨kb0,kb1,kb2,kb3,kb4,kb5,kb6,_,_,_,_,_,_,_⟩:=cell7k gB
        go_wp2_with fail
        go_ret
        exact HDONE.out aA aB cA cB XB hABd HOA HOB HF HF.out.size HKS
      · skip
        clear hHeld
        refine wpo_val (by go_simp;first | done | with_reducible rfl | rfl | exact ⟨rfl,rfl⟩) ?_
        have gB:=heap_alloc_new Vb0 (.cells #[.int .i64 0,.int .i64 0,.int .i64 0,.int .i64 0,.bool false,.slice none 0 0,.slice none 0 0] 35)
        have hTB:=lt_of_heap gT
        replace gT:=old_alloc (o':=(.cells #[.int .i64 0,.int .i64 0,.int .i64 0,.int .i64 0,.bool false,.slice none 0 0,.slice none 0 0] 35)) gT
        replace HR:=hid (HR.out.alloc (.cells #[.int .i64 0,.int .i64 0,.int .i64 0,.int .i64 0,.bool false,.slice none 0 0,.slice none 0 0] 35))
        replace HF:=hid (HF.out.bel (balloc (Below.refl _ _) (.cells #[.int .i64 0,.int .i64 0,.int .i64 0,.int .i64 0,.bool false,.slice none 0 0,.slice none 0 0] 35)))
        replace HKS:=hid (HKS.out.keep (fun x hx => (balloc (Below.refl _ _) (.cells #[.int .i64 0,.int .i64 0,.int .i64 0,.int .i64 0,.bool false,.slice none 0 0,.slice none 0 0] 35)).block x (KO_blk HKS.out x hx)))
        obtain ⟨B,hB⟩:∃ B,B = Vb0.heap.size:=⟨_,rfl⟩
        rw [← hB] at gB hTB ⊢
        generalize Vb0.alloc (.cells #[.int .i64 0,.int .i64 0,.int .i64 0,.int .i64 0,.bool false,.slice none 0 0,.slice none 0 0] 35) = Vb1 at *
        clear hB
        refine ⟨by (obtain ⟨_,_,_,_,a4,_,_,_,_,_,_,_,_,_⟩:=cell7k gT;exact a4),fun hHeld => ?_⟩
        try simp only [sq]
        refine anyL_1 (i:=6) rfl (by kernel_rfl) rfl ?_
        clear hHeld
        refine wpo_val (by go_simp;first | done | with_reducible rfl | rfl | exact ⟨rfl,rfl⟩) ?_
        have gA:=heap_alloc_new Vb1 (.cells #[.int .i64 0,.int .i64 0,.int .i64 0,.int .i64 0,.bool false,.slice none 0 0,.slice none 0 0] 35)
        have hTA:=lt_of_heap gT
        replace gT:=old_alloc (o':=(.cells #[.int .i64 0,.int .i64 0,.int .i64 0,.int .i64 0,.bool false,.slice none 0 0,.slice none 0 0] 35)) gT
        have hAB:=lt_of_heap gB
        replace gB:=old_alloc (o':=(.cells #[.int .i64 0,.int .i64 0,.int .i64 0,.int .i64 0,.bool false,.slice none 0 0,.slice none 0 0] 35)) gB
        replace HR:=hid (HR.out.alloc (.cells #[.int .i64 0,.int .i64 0,.int .i64 0,.int .i64 0,.bool false,.slice none 0 0,.slice none 0 0] 35))
        replace HF:=hid (HF.out.bel (balloc (Below.refl _ _) (.cells #[.int .i64 0,.int .i64 0,.int .i64 0,.int .i64 0,.bool false,.slice none 0 0,.slice none 0 0] 35)))
        replace HKS:=hid (HKS.out.keep (fun x hx => (balloc (Below.refl _ _) (.cells #[.int .i64 0,.int .i64 0,.int .i64 0,.int .i64 0,.bool false,.slice none 0 0,.slice none 0 0] 35)).block x (KO_blk HKS.out x hx)))
        obtain ⟨A,hA⟩:∃ A,A = Vb1.heap.size:=⟨_,rfl⟩
        rw [← hA] at gA hTA ⊢
        rw [← hA] at hAB
        generalize Vb1.alloc (.cells #[.int .i64 0,.int .i64 0,.int .i64 0,.int .i64 0,.bool false,.slice none 0 0,.slice none 0 0] 35) = Vb2 at *
        clear hA
        refine ⟨by (obtain ⟨_,_,_,_,a4,_,_,_,_,_,_,_,_,_⟩:=cell7k gT;exact a4),fun hHeld => ?_⟩
        try simp only [sq]
        refine anyL_1 (i:=8) rfl (by kernel_rfl) rfl ?_
        obtain ⟨u0,u1,u2,u3,u4,u5,u6,f0,f1,f2,f3,f4,f5,f6⟩:=cell7k gA
        clear hHeld
        refine wpo_st (by go_simp;first | done | with_reducible rfl | rfl | exact ⟨rfl,rfl⟩) ?_
        clear u0 u1 u2 u3 u4 u5 u6 f0 f1 f2 f3 f4 f5 f6
        have q1:=setL_new [.int .i64 0,.int .i64 0,.int .i64 0,.int .i64 0,.bool false,.slice none 0 0,.slice none 0 0] gA rfl
        have q2:=(setL_blk [.int .i64 0,.int .i64 0,.int .i64 0,.int .i64 0,.bool false,.slice none 0 0,.slice none 0 0] Vb2 A 0 w.heap.size (by omega)).trans gT
        have q3:=(setL_blk [.int .i64 0,.int .i64 0,.int .i64 0,.int .i64 0,.bool false,.slice none 0 0,.slice none 0 0] Vb2 A 0 B (by omega)).trans gB
        have q4:=row_blk HR.out (fun b hb' => setL_blk [.int .i64 0,.int .i64 0,.int .i64 0,.int .i64 0,.bool false,.slice none 0 0,.slice none 0 0] Vb2 A 0 b (by have h9:=hgb b hb';omega))
        have q5:=fr_setN (g:=A) HF.out (.inr (by omega)) [.int .i64 0,.int .i64 0,.int .i64 0,.int .i64 0,.bool false,.slice none 0 0,.slice none 0 0] 0
        have q6:=HKS.out.keep (fun x hx => setL_blk [.int .i64 0,.int .i64 0,.int .i64 0,.int .i64 0,.bool false,.slice none 0 0,.slice none 0 0] Vb2 A 0 x (by have:=hpS x hx;have:=hSl x this;omega))
        simp only [setL,Nat.zero_add,Nat.reduceAdd] at q1 q2 q3 q4 q5 q6
        clear gA gT gB HR HF HKS
        generalize (((((((Vb2.setCell ⟨A,0,none⟩ (.int .i64 0)).setCell ⟨A,1,none⟩ (.int .i64 0)).setCell ⟨A,2,none⟩ (.int .i64 0)).setCell ⟨A,3,none⟩ (.int .i64 0)).setCell ⟨A,4,none⟩ (.bool false)).setCell ⟨A,5,none⟩ (.slice none 0 0)).setCell ⟨A,6,none⟩ (.slice none 0 0)) = Vb3 at *
        have gA:=q1
        have gT:=q2
        have gB:=q3
        have HR:=hid q4
        have HF:=hid q5
        have HKS:=hid q6
        clear q1 q2 q3 q4 q5 q6
        refine ⟨by (obtain ⟨_,_,_,_,a4,_,_,_,_,_,_,_,_,_⟩:=cell7k gT;exact a4),fun hHeld => ?_⟩
        try simp only [sq]
        refine anyL_1 (i:=9) rfl (by kernel_rfl) rfl ?_
        obtain ⟨u0,u1,u2,u3,u4,u5,u6,f0,f1,f2,f3,f4,f5,f6⟩:=cell7k gB
        clear hHeld
        refine wpo_st (by go_simp;first | done | with_reducible rfl | rfl | exact ⟨rfl,rfl⟩) ?_
        clear u0 u1 u2 u3 u4 u5 u6 f0 f1 f2 f3 f4 f5 f6
        have q1:=setL_new [.int .i64 0,.int .i64 0,.int .i64 0,.int .i64 0,.bool false,.slice none 0 0,.slice none 0 0] gB rfl
        have q2:=(setL_blk [.int .i64 0,.int .i64 0,.int .i64 0,.int .i64 0,.bool false,.slice none 0 0,.slice none 0 0] Vb3 B 0 w.heap.size (by omega)).trans gT
        have q3:=(setL_blk [.int .i64 0,.int .i64 0,.int .i64 0,.int .i64 0,.bool false,.slice none 0 0,.slice none 0 0] Vb3 B 0 A (by omega)).trans gA
        have q4:=row_blk HR.out (fun b hb' => setL_blk [.int .i64 0,.int .i64 0,.int .i64 0,.int .i64 0,.bool false,.slice none 0 0,.slice none 0 0] Vb3 B 0 b (by have h9:=hgb b hb';omega))
        have q5:=fr_setN (g:=B) HF.out (.inr (by omega)) [.int .i64 0,.int .i64 0,.int .i64 0,.int .i64 0,.bool false,.slice none 0 0,.slice none 0 0] 0
        have q6:=HKS.out.keep (fun x hx => setL_blk [.int .i64 0,.int .i64 0,.int .i64 0,.int .i64 0,.bool false,.slice none 0 0,.slice none 0 0] Vb3 B 0 x (by have:=hpS x hx;have:=hSl x this;omega))
        simp only [setL,Nat.zero_add,Nat.reduceAdd] at q1 q2 q3 q4 q5 q6
        clear gB gT gA HR HF HKS
        generalize (((((((Vb3.setCell ⟨B,0,none⟩ (.int .i64 0)).setCell ⟨B,1,none⟩ (.int .i64 0)).setCell ⟨B,2,none⟩ (.int .i64 0)).setCell ⟨B,3,none⟩ (.int .i64 0)).setCell ⟨B,4,none⟩ (.bool false)).setCell ⟨B,5,none⟩ (.slice none 0 0)).setCell ⟨B,6,none⟩ (.slice none 0 0)) = Vb4 at *
        have gB:=q1
        have gT:=q2
        have gA:=q3
        have HR:=hid q4
        have HF:=hid q5
        have HKS:=hid q6
        clear q1 q2 q3 q4 q5 q6
        refine ⟨by (obtain ⟨_,_,_,_,a4,_,_,_,_,_,_,_,_,_⟩:=cell7k gT;exact a4),fun hHeld => ?_⟩
        try simp only [sq]
        refine anyL_done (by kernel_rfl) ?_ _
        have hA0:=lt_of_heap gA
        have hB0:=lt_of_heap gB
        obtain ⟨_,_,_,_,a4,_,_,_,_,_,_,_,_,_⟩:=cell7k gT
        go_upto_region 27 with fail
        clear a4
        refine wp_region_late (L:=[7]) (S:=(fun w' => w'.cell? ⟨A,6,none⟩ = some (.slice none 0 0) ∧ w'.cell? ⟨w.heap.size,6,none⟩ = some (.slice (some ⟨g,0,none⟩) m kc))) (by kernel_rfl) ?_ (fun hHeld => ?_)
        · (obtain ⟨_,_,_,_,_,_,l6,_,_,_,_,_,_,_⟩:=cell7k gA;obtain ⟨_,_,_,_,_,_,a6,_,_,_,_,_,_,_⟩:=cell7k gT;exact ⟨l6,a6⟩)
        have hbD:=bdrew (Below.refl Vb4.heap.size Vb4)
        replace gT:=keepheap hbD gT
        replace gA:=keepheap hbD gA
        replace gB:=keepheap hbD gB
        replace HR:=hid (HR.out.drew)
        replace HF:=hid (HF.out.bel hbD)
        replace HKS:=hid (HKS.out.keep (fun x hx => hbD.block x (KO_blk HKS.out x hx)))
        clear hbD
        generalize Vb4.drew = Vc at *
        have hA0:=lt_of_heap gA
        have hB0:=lt_of_heap gB
        have hT0:=lt_of_heap gT
        refine tkP 0 hHeld ?_
        try simp only [sq]
        refine tkA 1 hHeld ?_
        try simp only [sq]
        refine tkP 2 hHeld ?_
        try simp only [sq]
        refine tkA 3 hHeld ?_
        try simp only [sq]
        refine tkP 4 hHeld ?_
        try simp only [sq]
        refine anyL_1 (i:=5) rfl (by kernel_rfl) rfl ?_
        clear hHeld
        refine wpo_app (.tmp 146) (.tmp 149) 33 rfl w.heap.size 35 k0 _ 7 88 Tryz.underlying33 hki0 hkz0 hkz1 hkzz rfl (by decide) none 0 0 [] (by rfl) (own_nilR _ _ _ _) (some ⟨g,0,none⟩) 3 kc (flK l1) (by rfl) (SRCA.out _ HR) HLA.out (flK_one _) (by unfold maxLen;omega) (by omega) (Fr.size HF.out) ?_
        intro aA cA WA hown hgrow hat
        replace gT:=(app_blk hgrow (lt_of_heap gT) (by simp [hb])).trans gT
        replace gA:=(app_blk hgrow (lt_of_heap gA) (by simp [hb])).trans gA
        replace gB:=(app_blk hgrow (lt_of_heap gB) (by simp [hb])).trans gB
        replace HR:=hid (row_blk HR.out (fun b hb' => app_blk hgrow (row_lt HR.out b hb').2 (by simp [hb])))
        replace HKS:=hid (HKS.out.keep (fun x hx => app_blk hgrow (KO_blk HKS.out x hx) (by simp [hb])))
        replace HF:=hid (HF.out.trans (app_fr hgrow) (fun k hk => by simp [hb] at hk))
        have hnAA:A ∉ hb aA:=fun hc => by
          rcases hat A hc with e | e
          · simp [hb] at e
          · have:=hA0;omega
        have hnAB:B ∉ hb aA:=fun hc => by
          rcases hat B hc with e | e
          · simp [hb] at e
          · have:=hB0;omega
        have HOA:=hid (show WA.ownsRow w.heap.size 35 7 (.slice aA 3 cA) 3 (flK l1) from by simpa using hown)
        have hAl:∀ b ∈ hb aA,b < WA.heap.size:=fun b h => (row_lt HOA.out b h).2
        have hA0:=lt_of_heap gA
        have hB0:=lt_of_heap gB
        rw [Nat.zero_add]
        clear hown hgrow hat
        refine ⟨?_,fun hHeld => ?_⟩
        · (obtain ⟨_,_,_,_,_,_,l6,_,_,_,_,_,_,_⟩:=cell7k gA;obtain ⟨_,_,_,_,_,_,a6,_,_,_,_,_,_,_⟩:=cell7k gT;exact ⟨l6,a6⟩)
        try simp only [sq]
        refine tkP 6 hHeld ?_
        try simp only [sq]
        refine anyL_1 (i:=7) rfl (by kernel_rfl) rfl ?_
        obtain ⟨u0,u1,u2,u3,u4,u5,u6,f0,f1,f2,f3,f4,f5,f6⟩:=cell7k gA
        refine wpo_late (by kernel_rfl) (by go_simp;first | done | with_reducible rfl | rfl | exact ⟨rfl,rfl⟩) ?_
        clear u0 u1 u2 u3 u4 u5 u6 f0 f1 f2 f3 f4 f5 f6
        change anyL _ _ _ _ _ _ _ _ _ (setL WA A 6 [.slice aA 3 cA])
        replace gA:=set_6k gA (.slice aA 3 cA)
        replace gT:=(setL_blk [.slice aA 3 cA] WA A 6 w.heap.size (by omega)).trans gT
        replace gB:=(setL_blk [.slice aA 3 cA] WA A 6 B (by omega)).trans gB
        replace HR:=hid (row_blk HR.out (fun b hb' => setL_blk [.slice aA 3 cA] WA A 6 b (by have h9:=hgb b hb';omega)))
        replace HF:=hid (fr_setN (g:=A) HF.out (.inr (by omega)) [.slice aA 3 cA] 6)
        replace HOA:=hid (row_blk HOA.out (fun b hb' => setL_blk [.slice aA 3 cA] WA A 6 b (fun e => hnAA (e ▸ hb'))))
        replace HKS:=hid (HKS.out.keep (fun x hx => setL_blk [.slice aA 3 cA] WA A 6 x (by have:=hpS x hx;have:=hSl x this;omega)))
        change (setL WA A 6 [.slice aA 3 cA]).heap[A]? = _ at gA
        generalize setL WA A 6 [.slice aA 3 cA] = VA at *
        try simp only [sq]
        refine anyL_done (by kernel_rfl) ?_ _
        have hA0:=lt_of_heap gA
        have hB0:=lt_of_heap gB
        go_upto_region 28 with fail
        clear hAl
        refine wp_region_late (L:=[7]) (S:=(fun w' => w'.cell? ⟨B,6,none⟩ = some (.slice none 0 0) ∧ w'.cell? ⟨w.heap.size,6,none⟩ = some (.slice (some ⟨g,0,none⟩) m kc))) (by kernel_rfl) ?_ (fun hHeld => ?_)
        · (obtain ⟨_,_,_,_,_,_,l6,_,_,_,_,_,_,_⟩:=cell7k gB;obtain ⟨_,_,_,_,_,_,a6,_,_,_,_,_,_,_⟩:=cell7k gT;exact ⟨l6,a6⟩)
        have hbD:=bdrew (Below.refl VA.heap.size VA)
        replace gT:=keepheap hbD gT
        replace gA:=keepheap hbD gA
        replace gB:=keepheap hbD gB
        replace HR:=hid (HR.out.drew)
        replace HF:=hid (HF.out.bel hbD)
        replace HKS:=hid (HKS.out.keep (fun x hx => hbD.block x (KO_blk HKS.out x hx)))
        replace HOA:=hid (HOA.out.drew)
        clear hbD
        generalize VA.drew = Vc0 at *
        have hA0:=lt_of_heap gA
        have hB0:=lt_of_heap gB
        have hT0:=lt_of_heap gT
        have hAl:∀ b ∈ hb aA,b < Vc0.heap.size:=fun b h => (row_lt HOA.out b h).2
        refine tkP 0 hHeld ?_
        try simp only [sq]
        refine tkA 1 hHeld ?_
        try simp only [sq]
        refine tkP 2 hHeld ?_
        try simp only [sq]
        refine tkA 3 hHeld ?_
        try simp only [sq]
        refine tkP 4 hHeld ?_
        try simp only [sq]
        refine anyL_1 (i:=5) rfl (by kernel_rfl) rfl ?_
        clear hHeld
        refine wpo_app (.tmp 153) (.tmp 156) 33 rfl w.heap.size 35 k0 _ 7 88 Tryz.underlying33 hki0 hkz0 hkz1 hkzz rfl (by decide) none 0 0 [] (by rfl) (own_nilR _ _ _ _) (some ⟨g,21,none⟩) (m - 3) (kc - 3) (flK l2) (by rfl) (SRCB.out _ HR) HLB.out (flK_one _) (by unfold maxLen;omega) (by omega) (Fr.size HF.out) ?_
        intro aB cB WB hown hgrow hat
        replace gT:=(app_blk hgrow (lt_of_heap gT) (by simp [hb])).trans gT
        replace gA:=(app_blk hgrow (lt_of_heap gA) (by simp [hb])).trans gA
        replace gB:=(app_blk hgrow (lt_of_heap gB) (by simp [hb])).trans gB
        replace HR:=hid (row_blk HR.out (fun b hb' => app_blk hgrow (row_lt HR.out b hb').2 (by simp [hb])))
        replace HKS:=hid (HKS.out.keep (fun x hx => app_blk hgrow (KO_blk HKS.out x hx) (by simp [hb])))
        replace HF:=hid (HF.out.trans (app_fr hgrow) (fun k hk => by simp [hb] at hk))
        replace HOA:=hid (row_blk HOA.out (fun b hb' => app_blk hgrow (row_lt HOA.out b hb').2 (by simp [hb])))
        have hABd:∀ b ∈ hb aA,b ∉ hb aB:=fun b h1 h2 => by
          rcases hat b h2 with e | e
          · simp [hb] at e
          · have:=(hAl b h1);omega
        have hnBA:A ∉ hb aB:=fun hc => by
          rcases hat A hc with e | e
          · simp [hb] at e
          · have:=hA0;omega
        have hnBB:B ∉ hb aB:=fun hc => by
          rcases hat B hc with e | e
          · simp [hb] at e
          · have:=hB0;omega
        have HOB:=hid (show WB.ownsRow w.heap.size 35 7 (.slice aB (m - 3) cB) (m - 3) (flK l2) from by simpa using hown)
        have hBl:∀ b ∈ hb aB,b < WB.heap.size:=fun b h => (row_lt HOB.out b h).2
        have hA0:=lt_of_heap gA
        have hB0:=lt_of_heap gB
        rw [Nat.zero_add]
        clear hown hgrow hat
        refine ⟨?_,fun hHeld => ?_⟩
        · (obtain ⟨_,_,_,_,_,_,l6,_,_,_,_,_,_,_⟩:=cell7k gB;obtain ⟨_,_,_,_,_,_,a6,_,_,_,_,_,_,_⟩:=cell7k gT;exact ⟨l6,a6⟩)
        try simp only [sq]
        refine tkP 6 hHeld ?_
        try simp only [sq]
        refine anyL_1 (i:=7) rfl (by kernel_rfl) rfl ?_
        obtain ⟨u0,u1,u2,u3,u4,u5,u6,f0,f1,f2,f3,f4,f5,f6⟩:=cell7k gB
        refine wpo_late (by kernel_rfl) (by go_simp;first | done | with_reducible rfl | rfl | exact ⟨rfl,rfl⟩) ?_
        clear u0 u1 u2 u3 u4 u5 u6 f0 f1 f2 f3 f4 f5 f6
        change anyL _ _ _ _ _ _ _ _ _ (setL WB B 6 [.slice aB (m - 3) cB])
        replace gB:=set_6k gB (.slice aB (m - 3) cB)
        replace gT:=(setL_blk [.slice aB (m - 3) cB] WB B 6 w.heap.size (by omega)).trans gT
        replace gA:=(setL_blk [.slice aB (m - 3) cB] WB B 6 A (by omega)).trans gA
        replace HR:=hid (row_blk HR.out (fun b hb' => setL_blk [.slice aB (m - 3) cB] WB B 6 b (by have h9:=hgb b hb';omega)))
        replace HF:=hid (fr_setN (g:=B) HF.out (.inr (by omega)) [.slice aB (m - 3) cB] 6)
        replace HOB:=hid (row_blk HOB.out (fun b hb' => setL_blk [.slice aB (m - 3) cB] WB B 6 b (fun e => hnBB (e ▸ hb'))))
        replace HOA:=hid (row_blk HOA.out (fun b hb' => setL_blk [.slice aB (m - 3) cB] WB B 6 b (fun e => hnAB (e ▸ hb'))))
        replace HKS:=hid (HKS.out.keep (fun x hx => setL_blk [.slice aB (m - 3) cB] WB B 6 x (by have:=hpS x hx;have:=hSl x this;omega)))
        change (setL WB B 6 [.slice aB (m - 3) cB]).heap[B]? = _ at gB
        generalize setL WB B 6 [.slice aB (m - 3) cB] = VB at *
        try simp only [sq]
        refine anyL_done (by kernel_rfl) ?_ _
        have hAl2:∀ b ∈ hb aA,b < VB.heap.size:=fun b h => (row_lt HOA.out b h).2
        have hBl2:∀ b ∈ hb aB,b < VB.heap.size:=fun b h => (row_lt HOB.out b h).2
        clear HR SRCA SRCB gT
        obtain ⟨ka0,ka1,ka2,ka3,ka4,ka5,ka6,fa0,fa1,fa2,fa3,_,_,_⟩:=cell7k gA
        go_wp2_with fail
        refine (ARA.out _ _ _ HOA HKS).mono ?_
        rintro e ZA ⟨rfl,hb⟩
        replace gA:=keepheap hb gA
        replace gB:=keepheap hb gB
        replace HOA:=hid (row_blk HOA.out (fun b hb' => hb.block b (hAl2 b hb')))
        replace HOB:=hid (row_blk HOB.out (fun b hb' => hb.block b (hBl2 b hb')))
        replace HKS:=hid (HKS.out.keep (fun x hx => hb.block x (KO_blk HKS.out x hx)))
        replace HF:=hid (HF.out.bel hb)
        clear hb
        clear ka0 ka1 ka2 ka3 ka4 ka5 ka6 fa0 fa1 fa2 fa3
        obtain ⟨ka0,ka1,ka2,ka3,_,_,_,fa0,fa1,fa2,fa3,_,_,_⟩:=cell7k gA
        go_upto_region 30 with fail
        clear ka0 ka1 ka2 ka3 fa0 fa1 fa2 fa3
        have q1:=set4k gA (.int .i64 jA.1) (.int .i64 jA.2.1) (.int .i64 jA.2.2.1) (.int .i64 jA.2.2.2)
        have q2:=(setL_blk [.int .i64 jA.1,.int .i64 jA.2.1,.int .i64 jA.2.2.1,.int .i64 jA.2.2.2] ZA A 0 _ (by omega)).trans gB
        have q3:=hid (row_blk HOA.out (fun b hb' => setL_blk [.int .i64 jA.1,.int .i64 jA.2.1,.int .i64 jA.2.2.1,.int .i64 jA.2.2.2] ZA A 0 b (fun e => hnAA (e ▸ hb'))))
        have q4:=hid (row_blk HOB.out (fun b hb' => setL_blk [.int .i64 jA.1,.int .i64 jA.2.1,.int .i64 jA.2.2.1,.int .i64 jA.2.2.2] ZA A 0 b (fun e => hnBA (e ▸ hb'))))
        have q5:=hid (fr_setN (g:=A) HF.out (.inr (by omega)) [.int .i64 jA.1,.int .i64 jA.2.1,.int .i64 jA.2.2.1,.int .i64 jA.2.2.2] 0)
        have q10:=hid (HKS.out.keep (fun x hx => setL_blk [.int .i64 jA.1,.int .i64 jA.2.1,.int .i64 jA.2.2.1,.int .i64 jA.2.2.2] ZA A 0 x (by have:=hpS x hx;have:=hSl x this;omega)))
        simp only [setL,Nat.zero_add,Nat.reduceAdd] at q2 q3 q4 q5 q10
        have q8:=fun b hb' => (row_lt q3.out b hb').2
        have q9:=fun b hb' => (row_lt q4.out b hb').2
        have q6:=lt_of_heap q1
        have q7:=lt_of_heap q2
        refine wp_wld (fun X => X.heap[A]? = some (.cells #[.int .i64 jA.1,.int .i64 jA.2.1,.int .i64 jA.2.2.1,.int .i64 jA.2.2.2,.bool false,.slice none 0 0,.slice aA 3 cA] 35 (0,0)) ∧ X.heap[B]? = some (.cells #[.int .i64 0,.int .i64 0,.int .i64 0,.int .i64 0,.bool false,.slice none 0 0,.slice aB (m - 3) cB] 35 (0,0)) ∧ Hid (X.ownsRow w.heap.size 35 7 (.slice aA 3 cA) 3 (flK l1)) ∧ Hid (X.ownsRow w.heap.size 35 7 (.slice aB (m - 3) cB) (m - 3) (flK l2)) ∧ Hid (Fr [g] w X) ∧ Hid (KOs lo n0 X ps) ∧ A < X.heap.size ∧ B < X.heap.size ∧ (∀ b ∈ hb aA,b < X.heap.size) ∧ ∀ b ∈ hb aB,b < X.heap.size) ⟨q1,q2,q3,q4,q5,q10,q6,q7,q8,q9⟩ ?_
        clear gA gB HOA HOB HF HKS hAl2 hBl2 q1 q2 q3 q4 q5 q6 q7 q8 q9 q10
        rintro XA ⟨gA,gB,HOA,HOB,HF,HKS,hA0,hB0,hAl2,hBl2⟩
        obtain ⟨ka0,ka1,ka2,ka3,ka4,ka5,ka6,fa0,fa1,fa2,fa3,_,_,_⟩:=cell7k gB
        go_wp2_with fail
        refine (ARB.out _ _ _ HOB HKS).mono ?_
        rintro e ZB ⟨rfl,hb⟩
        replace gA:=keepheap hb gA
        replace gB:=keepheap hb gB
        replace HOA:=hid (row_blk HOA.out (fun b hb' => hb.block b (hAl2 b hb')))
        replace HOB:=hid (row_blk HOB.out (fun b hb' => hb.block b (hBl2 b hb')))
        replace HKS:=hid (HKS.out.keep (fun x hx => hb.block x (KO_blk HKS.out x hx)))
        replace HF:=hid (HF.out.bel hb)
        clear hb
        clear ka0 ka1 ka2 ka3 ka4 ka5 ka6 fa0 fa1 fa2 fa3
        obtain ⟨ka0,ka1,ka2,ka3,_,_,_,fa0,fa1,fa2,fa3,_,_,_⟩:=cell7k gB
        go_upto_region 31 with fail
        clear ka0 ka1 ka2 ka3 fa0 fa1 fa2 fa3
        have q1:=set4k gB (.int .i64 jB.1) (.int .i64 jB.2.1) (.int .i64 jB.2.2.1) (.int .i64 jB.2.2.2)
        have q2:=(setL_blk [.int .i64 jB.1,.int .i64 jB.2.1,.int .i64 jB.2.2.1,.int .i64 jB.2.2.2] ZB B 0 _ (by omega)).trans gA
        have q3:=hid (row_blk HOA.out (fun b hb' => setL_blk [.int .i64 jB.1,.int .i64 jB.2.1,.int .i64 jB.2.2.1,.int .i64 jB.2.2.2] ZB B 0 b (fun e => hnAB (e ▸ hb'))))
        have q4:=hid (row_blk HOB.out (fun b hb' => setL_blk [.int .i64 jB.1,.int .i64 jB.2.1,.int .i64 jB.2.2.1,.int .i64 jB.2.2.2] ZB B 0 b (fun e => hnBB (e ▸ hb'))))
        have q5:=hid (fr_setN (g:=B) HF.out (.inr (by omega)) [.int .i64 jB.1,.int .i64 jB.2.1,.int .i64 jB.2.2.1,.int .i64 jB.2.2.2] 0)
        have q10:=hid (HKS.out.keep (fun x hx => setL_blk [.int .i64 jB.1,.int .i64 jB.2.1,.int .i64 jB.2.2.1,.int .i64 jB.2.2.2] ZB B 0 x (by have:=hpS x hx;have:=hSl x this;omega)))
        simp only [setL,Nat.zero_add,Nat.reduceAdd] at q2 q3 q4 q5 q10
        have q8:=fun b hb' => (row_lt q3.out b hb').2
        have q9:=fun b hb' => (row_lt q4.out b hb').2
        have q6:=lt_of_heap q2
        have q7:=lt_of_heap q1
        refine wp_wld (fun X => X.heap[B]? = some (.cells #[.int .i64 jB.1,.int .i64 jB.2.1,.int .i64 jB.2.2.1,.int .i64 jB.2.2.2,.bool false,.slice none 0 0,.slice aB (m - 3) cB] 35 (0,0)) ∧ X.heap[A]? = some (.cells #[.int .i64 jA.1,.int .i64 jA.2.1,.int .i64 jA.2.2.1,.int .i64 jA.2.2.2,.bool false,.slice none 0 0,.slice aA 3 cA] 35 (0,0)) ∧ Hid (X.ownsRow w.heap.size 35 7 (.slice aA 3 cA) 3 (flK l1)) ∧ Hid (X.ownsRow w.heap.size 35 7 (.slice aB (m - 3) cB) (m - 3) (flK l2)) ∧ Hid (Fr [g] w X) ∧ Hid (KOs lo n0 X ps) ∧ A < X.heap.size ∧ B < X.heap.size ∧ (∀ b ∈ hb aA,b < X.heap.size) ∧ ∀ b ∈ hb aB,b < X.heap.size) ⟨q1,q2,q3,q4,q5,q10,q6,q7,q8,q9⟩ ?_
        clear gA gB HOA HOB HF HKS hAl2 hBl2 q1 q2 q3 q4 q5 q6 q7 q8 q9 q10
        rintro XB ⟨gB,gA,HOA,HOB,HF,HKS,hA0,hB0,hAl2,hBl2⟩
        obtain ⟨ka0,ka1,ka2,ka3,ka4,ka5,ka6,_,_,_,_,_,_,_⟩:=cell7k gA
        obtain ⟨kb0,kb1,kb2,kb3,kb4,kb5,kb6,_,_,_,_,_,_,_⟩:=cell7k gB
        go_wp2_with fail
        go_ret
        exact HDONE.out aA aB cA cB XB hABd HOA HOB HF HF.out.size HKS
end Go.Proofs.YtjahlofahjgdbaaGreat
