import Derived.Test.YtjahlofahjgdbaaGreatJi
import Derived.Test.YtjahlofahjgdbaaGreatJb
import Derived.Test.YtjahlofahjgdbaaGreatFj
import Derived.Deep.RegionHeld3
set_option maxRecDepth 100000
set_option maxHeartbeats 8000000
set_option linter.unusedSimpArgs false
set_option linter.unusedVariables false
namespace Go.Proofs.YtjahlofahjgdbaaGreat
open Go.RowKit
theorem Cs.knot7 {w:World} {b o:Nat} {x0 x1 x2 x3 x4 x5 x6:Value} (h:Cs w b o [x0,x1,x2,x3,x4,x5,x6]):w.cell? ⟨b,o,none⟩ = some x0 ∧ w.cell? ⟨b,o + 1,none⟩ = some x1 ∧ w.cell? ⟨b,o + 2,none⟩ = some x2 ∧ w.cell? ⟨b,o + 3,none⟩ = some x3 ∧ w.cell? ⟨b,o + 4,none⟩ = some x4 ∧ w.cell? ⟨b,o + 5,none⟩ = some x5 ∧ w.cell? ⟨b,o + 6,none⟩ = some x6:=
 ⟨h 0 _ rfl,h 1 _ rfl,h 2 _ rfl,h 3 _ rfl,h 4 _ rfl,h 5 _ rfl,h 6 _ rfl⟩
theorem own_hb {a:Option Addr} {n c r:Nat} (h:Value.ownBlock (.slice a n c) = some r):r ∈ hb a:=by
 cases a with
 | none => cases h
 | some x =>
  have:x.block = r:=by simpa [Value.ownBlock] using h
  simp [hb,this]
theorem ck_one (t:KT) (h:Hd):∀ u ∈ ckh t h,u.oneCell' = true:=by
 intro u hu
 have:=flK_one [(t,h,[])] u (by rw [show flK [(t,h,[])] = ckh t h from List.append_nil _];exact hu)
 exact this
theorem src_blk {w:World} {b:Nat} {vs:List Value} {t:TypeId} (h:w.heap[b]? = some (.cells vs.toArray t (0,0))):∀ j u,vs[j]? = some u → w.cell? ((⟨b,0,none⟩:Addr).add j) = some u:=fun j u e => by
 rw [Addr.add_mid b 0 j,Nat.zero_add]
 simp [World.cell?,h,e]
theorem set_6k {w:World} {B:Nat} {o0 o1 o2 o3 o4 o5 o6:Value} {t:TypeId} (gz:w.heap[B]? = some (.cells #[o0,o1,o2,o3,o4,o5,o6] t (0,0))) (a:Value):(w.setCell ⟨B,6,none⟩ a).heap[B]? = some (.cells #[o0,o1,o2,o3,o4,o5,a] t (0,0)):=set_at gz
theorem set_5k {w:World} {B:Nat} {o0 o1 o2 o3 o4 o5 o6:Value} {t:TypeId} (gz:w.heap[B]? = some (.cells #[o0,o1,o2,o3,o4,o5,o6] t (0,0))) (a:Value):(w.setCell ⟨B,5,none⟩ a).heap[B]? = some (.cells #[o0,o1,o2,o3,o4,a,o6] t (0,0)):=set_at gz
def KAns (w:World) (n:Nat) (t:KT) (e:Ending) (w':World):Prop:=∃ h S,e = .returned (kvh t h) ∧ KO w.heap.size n w' h S t ∧ Below w.heap.size w w'
theorem KAns.ret {w w':World} {n:Nat} {t:KT} {e:Ending} (h:KAns w n t e w'):∃ v,e = .returned v:=by
 obtain ⟨_,_,e,_⟩:=h
 exact ⟨_,e⟩
def CpX (v0:World) (m:Nat) (p:KT) (A:Hd → Array Value) (t5:Value) (wx:World):Prop:=∃ X h S,t5 = .pointer (some ⟨X,0,none⟩) ∧ wx.heap[X]? = some (.cells (A h) 35 (0,0)) ∧ KO v0.heap.size (m + 1) wx h S p ∧ X ∉ S ∧ v0.heap.size ≤ X ∧ Below v0.heap.size v0 wx
def pcp (l':Nat) (t:KT) (k:Nat):KT:=.mk t.box t.lf t.its ((t.kids.take k).map (cpy l'))
theorem pcp_next {l':Nat} {t:KT} {k:Nat} (h:k < t.kids.length):pcp l' t (k + 1) = .mk (pcp l' t k).box (pcp l' t k).lf (pcp l' t k).its ((pcp l' t k).kids ++ [cpy l' t.kids[k]]):=by
 cases t with
 | mk b l i ks =>
  show KT.mk b l i ((ks.take (k + 1)).map (cpy l')) = KT.mk b l i ((ks.take k).map (cpy l') ++ [cpy l' ks[k]])
  rw [List.take_add_one,List.getElem?_eq_getElem (show k < ks.length from h),Option.toList_some,List.map_append];rfl
theorem pcp_len {l':Nat} {t:KT} {k:Nat} (h:k ≤ t.kids.length):(pcp l' t k).kids.length = k:=by
 unfold pcp
 simp only [KT.kids]
 rw [List.length_map,List.length_take]
 exact Nat.min_eq_left h
theorem pcp_all (l':Nat) (t:KT):pcp l' t t.kids.length = cpy (l' + 1) t:=by
 unfold pcp cpy
 rw [List.take_length]
theorem copy_step (left:Nat) (IH:∀ l',left = l' + 1 → ∀ (n:Nat) (t:KT) (ia ka:Option Addr) (ic kc:Nat) (w:World),KnL n w ia ic ka kc t → ksz n t ≤ 1048576 → Calls Tryz.prog 40 #[kv t ia ic ka kc,.int .i64 l'] w (KAns w (l' + 1) (cpy l' t)))
  (n:Nat) (t:KT) (ia ka:Option Addr) (ic kc:Nat) (w:World) (hl20:left ≤ 20) (H:KnL n w ia ic ka kc t) (hz:ksz n t ≤ 1048576):Calls Tryz.prog 40 #[kv t ia ic ka kc,.int .i64 left] w (KAns w (left + 1) (cpy left t)):=by
 cases n with
 | zero => exact H.elim
 | succ n =>
 obtain ⟨h1,h2,h3,h4,h5,h6⟩:=H
 obtain ⟨i0,hi0,hz0,hz1,hzz⟩:=info_parts Tryz.infoIt
 obtain ⟨k0,hki0,hkz0,hkz1,hkzz⟩:=info_parts Tryz.infoKn
 have hz2:t.its.length ≤ 1048576 ∧ t.kids.length ≤ 1048576:=by unfold ksz at hz;omega
 have HKZ:=hid (fun k (hk:k ∈ t.kids) => Nat.le_trans (ksz_kid (n:=n) hk) hz)
 have hN5:=flI_len t.its
 have HF1:=hid (flI_one t.its)
 obtain ⟨b0,b1,b2,b3,b4,ni,nk,hkf⟩:=kf t
 have HNI:=hid hkf.its.symm
 have HNK:=hid hkf.kids
 have hkv:kv t ia ic ka kc = .agg #[.int .i64 b0,.int .i64 b1,.int .i64 b2,.int .i64 b3,.bool b4,.slice ia ni ic,.slice ka nk kc]:=by
  unfold kv;rw [hkf.x0,hkf.x1,hkf.x2,hkf.x3,hkf.lf,hkf.its,hkf.kids]
 rw [hkf.its] at hN5 hz2 h2
 rw [hkf.kids] at hz2 h4
 have hbx:t.box = (b0,b1,b2,b3):=by rw [← hkf.x0,← hkf.x1,← hkf.x2,← hkf.x3]
 have HBX:=hid hbx
 have HLF:=hid hkf.lf
 rw [hkv]
 clear hkv hz hbx hkf
 obtain ⟨gT,gR,hB2,hs2⟩:((w.alloc (.cells #[.int .i64 b0,.int .i64 b1,.int .i64 b2,.int .i64 b3,.bool b4,.slice ia ni ic,.slice ka nk kc] 35)).alloc (.cells #[.int .i64 0,.int .i64 0,.int .i64 0,.int .i64 0,.bool false,.slice none 0 0,.slice none 0 0] 35)).heap[w.heap.size]? = some (.cells #[.int .i64 b0,.int .i64 b1,.int .i64 b2,.int .i64 b3,.bool b4,.slice ia ni ic,.slice ka nk kc] 35 (0,0)) ∧ ((w.alloc (.cells #[.int .i64 b0,.int .i64 b1,.int .i64 b2,.int .i64 b3,.bool b4,.slice ia ni ic,.slice ka nk kc] 35)).alloc (.cells #[.int .i64 0,.int .i64 0,.int .i64 0,.int .i64 0,.bool false,.slice none 0 0,.slice none 0 0] 35)).heap[w.heap.size + 1]? = some (.cells #[.int .i64 0,.int .i64 0,.int .i64 0,.int .i64 0,.bool false,.slice none 0 0,.slice none 0 0] 35 (0,0)) ∧ Below w.heap.size w ((w.alloc (.cells #[.int .i64 b0,.int .i64 b1,.int .i64 b2,.int .i64 b3,.bool b4,.slice ia ni ic,.slice ka nk kc] 35)).alloc (.cells #[.int .i64 0,.int .i64 0,.int .i64 0,.int .i64 0,.bool false,.slice none 0 0,.slice none 0 0] 35)) ∧ ((w.alloc (.cells #[.int .i64 b0,.int .i64 b1,.int .i64 b2,.int .i64 b3,.bool b4,.slice ia ni ic,.slice ka nk kc] 35)).alloc (.cells #[.int .i64 0,.int .i64 0,.int .i64 0,.int .i64 0,.bool false,.slice none 0 0,.slice none 0 0] 35)).heap.size = w.heap.size + 2:=
  ⟨old_alloc (new_alloc w _ _ rfl),new_alloc _ _ _ (by simp),balloc (balloc (Below.refl _ _) _) _,by simp⟩
 go_enter Tryz.func40,Tryz.ntmps40
 go_upto_region 1 with fail
 generalize (w.alloc (.cells #[.int .i64 b0,.int .i64 b1,.int .i64 b2,.int .i64 b3,.bool b4,.slice ia ni ic,.slice ka nk kc] 35)).alloc (.cells #[.int .i64 0,.int .i64 0,.int .i64 0,.int .i64 0,.bool false,.slice none 0 0,.slice none 0 0] 35) = v0 at *
 have HSRC:=hid (fun (W:World) (hb:Below v0.heap.size v0 W) => show SrcA W ia ni (flI t.its) by
  have:=src_items ((h1.below hB2).below hb)
  rwa [← HNI.out] at this)
 have HB2:=hid hB2
 have HGR:=hid gR
 have HT0:=hid gT
 clear h1 hB2 gR
 go_cut [5] from 7 to 15 (fun t5 wx => CpX v0 left (.mk (b0,b1,b2,b3) b4 t.its []) (fun h => #[.int .i64 b0,.int .i64 b1,.int .i64 b2,.int .i64 b3,.bool b4,.slice h.1 ni h.2.1,.slice h.2.2.1 0 h.2.2.2]) t5 wx)
 case first =>
  have hB:Below v0.heap.size v0 v0.drew:=bdrew (Below.refl _ _)
  have hB0s:v0.heap.size ≤ v0.drew.heap.size:=Nat.le_refl _
  replace gT:v0.drew.heap[w.heap.size]? = _:=gT
  refine wp_region_held_drew (S:=(fun w' => w'.cell? ⟨w.heap.size,0,none⟩ = some (.int .i64 b0) ∧ w'.cell? ⟨w.heap.size,1,none⟩ = some (.int .i64 b1) ∧ w'.cell? ⟨w.heap.size,2,none⟩ = some (.int .i64 b2) ∧ w'.cell? ⟨w.heap.size,3,none⟩ = some (.int .i64 b3) ∧ w'.cell? ⟨w.heap.size,4,none⟩ = some (.bool b4) ∧ w'.cell? ⟨w.heap.size,5,none⟩ = some (.slice ia ni ic))) (by kernel_rfl) ?_ (fun hHeld => ?_)
  ·(obtain ⟨a0,a1,a2,a3,a4,a5,a6,_,_,_,_,_,_,_⟩:=cell7k gT;exact ⟨a0,a1,a2,a3,a4,a5⟩)
  generalize v0.drew = V at *
  refine tkR 0 hHeld ?_
  try simp only [sq]
  refine tkR 1 hHeld ?_
  try simp only [sq]
  refine tkR 2 hHeld ?_
  try simp only [sq]
  refine tkR 3 hHeld ?_
  try simp only [sq]
  refine tkR 5 hHeld ?_
  try simp only [sq]
  refine tkR 6 hHeld ?_
  try simp only [sq]
  refine wpAnyH_ready (rs:=[4,9]) (by kernel_rfl) (by simp) ?_
  refine (AllReadyH.cons rfl (fun K hK => ?_) (AllReadyH.cons rfl (fun K hK => ?_) AllReadyH.nil))
  ·skip
   try simp only [sq]
   go_simp
   refine hK.out _ _ ?_ (fun hHeld => ?_)
   ·(obtain ⟨a0,a1,a2,a3,a4,a5,a6,_,_,_,_,_,_,_⟩:=cell7k (old_alloc (o':=(.cells #[] 40)) gT);exact ⟨a0,a1,a2,a3,a4,a5⟩)
   clear hK K
   try simp only [sq]
   have hgb:=lt_of_heap gT
   have HO:=hid (World.ownsRow_made (base:=v0.heap.size) (e:=40) (size:=5) V #[] 0 hB.size (by decide) rfl)
   replace hB:=balloc hB (.cells #[] 40)
   replace gT:=old_alloc (o':=(.cells #[] 40)) gT
   obtain ⟨gb,hgb0⟩:∃ gb,gb = V.heap.size:=⟨_,rfl⟩
   have hvb:v0.heap.size ≤ gb:=by rw [hgb0];exact hB0s
   have hgb1:gb < (V.alloc (.cells #[] 40)).heap.size:=by rw [hgb0];simp
   rw [← hgb0] at HO ⊢
   have hB0s:=hB.size
   generalize V.alloc (.cells #[] 40) = V1 at *
   clear hgb0
   refine wpAnyH_ready (rs:=[7,9]) (by kernel_rfl) (by simp) ?_
   refine (AllReadyH.cons rfl (fun K hK => ?_) (AllReadyH.cons rfl (fun K hK => ?_) AllReadyH.nil))
   ·skip
    refine step_app (by rfl) (.tmp 11) (.tmp 13) 32 (by rfl) v0.heap.size 40 i0 _ 5 40 Tryz.underlying32 hi0 hz0 hz1 hzz rfl (by decide) (some ⟨gb,0,none⟩) 0 0 [] (by rfl) HO.out ia ni ic (flI t.its) (by rfl) (HSRC.out _ hB) hN5 HF1.out (by unfold maxLen;omega) (by omega) hB.size ?_
    intro a' c' W2 hown hgrow hat
    have hTg:w.heap.size ∉ hb (some (⟨gb,0,none⟩:Addr)):=by simp [hb];omega
    replace gT:=(app_blk hgrow (lt_of_heap gT) hTg).trans gT
    refine hK.out _ _ ?_ (fun hHeld => ?_)
    ·(obtain ⟨a0,a1,a2,a3,a4,a5,a6,_,_,_,_,_,_,_⟩:=cell7k gT;exact ⟨a0,a1,a2,a3,a4,a5⟩)
    clear hK K
    try simp only [sq]
    replace hB:Below v0.heap.size v0 W2:=Below.grown hB hgrow hB0s (fun r e => by cases e;exact hvb)
    replace HO:Hid (W2.ownsRow v0.heap.size 40 5 (.slice a' t.its.length c') t.its.length (flI t.its)):=hid (by rw [← HNI.out];simpa using hown)
    have hav:∀ k ∈ hb a',k < W2.heap.size:=fun k hk => (row_lt HO.out k hk).2
    rw [Nat.zero_add]
    have hB0s:=hB.size
    clear hown hgrow hat hTg
    refine tkR 8 hHeld ?_
    try simp only [sq]
    refine rd1 9 rfl (fun K hK => ?_)
    try simp only [sq]
    go_simp
    refine hK.out _ _ ?_ (fun hHeld => ?_)
    ·(obtain ⟨a0,a1,a2,a3,a4,a5,a6,_,_,_,_,_,_,_⟩:=cell7k (old_alloc (o':=(.cells #[.int .i64 0,.int .i64 0,.int .i64 0,.int .i64 0,.bool false,.slice none 0 0,.slice none 0 0] 35)) gT);exact ⟨a0,a1,a2,a3,a4,a5⟩)
    clear hK K
    try simp only [sq]
    have gX:=heap_alloc_new W2 (.cells #[.int .i64 0,.int .i64 0,.int .i64 0,.int .i64 0,.bool false,.slice none 0 0,.slice none 0 0] 35)
    replace hB:=balloc hB (.cells #[.int .i64 0,.int .i64 0,.int .i64 0,.int .i64 0,.bool false,.slice none 0 0,.slice none 0 0] 35)
    replace gT:=old_alloc (o':=(.cells #[.int .i64 0,.int .i64 0,.int .i64 0,.int .i64 0,.bool false,.slice none 0 0,.slice none 0 0] 35)) gT
    obtain ⟨X,hX⟩:∃ X,X = W2.heap.size:=⟨_,rfl⟩
    have hvX:v0.heap.size ≤ X:=by rw [hX];exact hB0s
    rw [← hX] at gX ⊢
    replace HO:=hid (HO.out.alloc (.cells #[.int .i64 0,.int .i64 0,.int .i64 0,.int .i64 0,.bool false,.slice none 0 0,.slice none 0 0] 35))
    have hXa:X ∉ hb a':=fun hc => by have:=hav X hc;omega
    have hB0s:=hB.size
    have hXs:=lt_of_heap gX
    generalize W2.alloc (.cells #[.int .i64 0,.int .i64 0,.int .i64 0,.int .i64 0,.bool false,.slice none 0 0,.slice none 0 0] 35) = V3 at *
    clear hX
    refine rd1 10 rfl (fun K hK => ?_)
    try simp only [sq]
    obtain ⟨_,_,_,_,_,_,_,f0,f1,f2,f3,f4,f5,f6⟩:=cell7k gX
    obtain ⟨x0,x1,x2,x3,x4,x5,x6,_,_,_,_,_,_,_⟩:=cell7k gX
    go_simp
    have gX2:=set7k gX (.int .i64 b0) (.int .i64 b1) (.int .i64 b2) (.int .i64 b3) (.bool b4) (.slice a' ni c') (.slice none 0 0)
    have hBX:=setL_below [.int .i64 b0,.int .i64 b1,.int .i64 b2,.int .i64 b3,.bool b4,.slice a' ni c',.slice none 0 0] v0 V3 X 0 _ hB hvX
    have gT2:=(setL_blk [.int .i64 b0,.int .i64 b1,.int .i64 b2,.int .i64 b3,.bool b4,.slice a' ni c',.slice none 0 0] V3 X 0 w.heap.size (by omega)).trans gT
    have HO2:=row_blk HO.out (fun k hk => setL_blk [.int .i64 b0,.int .i64 b1,.int .i64 b2,.int .i64 b3,.bool b4,.slice a' ni c',.slice none 0 0] V3 X 0 k (fun e => hXa (e ▸ hk)))
    simp only [setL,Nat.zero_add,Nat.reduceAdd] at hBX gT2 HO2
    refine hK.out _ _ ?_ (fun hHeld => ?_)
    ·(obtain ⟨a0,a1,a2,a3,a4,a5,a6,_,_,_,_,_,_,_⟩:=cell7k gT2;exact ⟨a0,a1,a2,a3,a4,a5⟩)
    clear hK K
    try simp only [sq]
    refine wpAnyH_done (by kernel_rfl) ?_ _
    go_wp2_with fail
    go_meet
    exact ⟨X,(a',c',none,0),_,rfl,gX2,KO.leafy (b0,b1,b2,b3) b4 HO2,hXa,hvX,hBX⟩
   ·skip
    try simp only [sq]
    go_simp
    refine hK.out _ _ ?_ (fun hHeld => ?_)
    ·(obtain ⟨a0,a1,a2,a3,a4,a5,a6,_,_,_,_,_,_,_⟩:=cell7k (old_alloc (o':=(.cells #[.int .i64 0,.int .i64 0,.int .i64 0,.int .i64 0,.bool false,.slice none 0 0,.slice none 0 0] 35)) gT);exact ⟨a0,a1,a2,a3,a4,a5⟩)
    clear hK K
    try simp only [sq]
    have gX:=heap_alloc_new V1 (.cells #[.int .i64 0,.int .i64 0,.int .i64 0,.int .i64 0,.bool false,.slice none 0 0,.slice none 0 0] 35)
    replace hB:=balloc hB (.cells #[.int .i64 0,.int .i64 0,.int .i64 0,.int .i64 0,.bool false,.slice none 0 0,.slice none 0 0] 35)
    replace gT:=old_alloc (o':=(.cells #[.int .i64 0,.int .i64 0,.int .i64 0,.int .i64 0,.bool false,.slice none 0 0,.slice none 0 0] 35)) gT
    obtain ⟨X,hX⟩:∃ X,X = V1.heap.size:=⟨_,rfl⟩
    have hvX:v0.heap.size ≤ X:=by rw [hX];exact hB0s
    rw [← hX] at gX ⊢
    replace HO:=hid (HO.out.alloc (.cells #[.int .i64 0,.int .i64 0,.int .i64 0,.int .i64 0,.bool false,.slice none 0 0,.slice none 0 0] 35))
    have hXg:X ≠ gb:=by omega
    have hB0s:=hB.size
    have hXs:=lt_of_heap gX
    generalize V1.alloc (.cells #[.int .i64 0,.int .i64 0,.int .i64 0,.int .i64 0,.bool false,.slice none 0 0,.slice none 0 0] 35) = V2 at *
    clear hX
    refine rd1 7 rfl (fun K hK => ?_)
    refine step_app (by rfl) (.tmp 11) (.tmp 13) 32 (by rfl) v0.heap.size 40 i0 _ 5 40 Tryz.underlying32 hi0 hz0 hz1 hzz rfl (by decide) (some ⟨gb,0,none⟩) 0 0 [] (by rfl) HO.out ia ni ic (flI t.its) (by rfl) (HSRC.out _ hB) hN5 HF1.out (by unfold maxLen;omega) (by omega) hB.size ?_
    have hXl:=lt_of_heap gX
    intro a' c' W2 hown hgrow hat
    have hTg:w.heap.size ∉ hb (some (⟨gb,0,none⟩:Addr)):=by simp [hb];omega
    replace gT:=(app_blk hgrow (lt_of_heap gT) hTg).trans gT
    refine hK.out _ _ ?_ (fun hHeld => ?_)
    ·(obtain ⟨a0,a1,a2,a3,a4,a5,a6,_,_,_,_,_,_,_⟩:=cell7k gT;exact ⟨a0,a1,a2,a3,a4,a5⟩)
    clear hK K
    try simp only [sq]
    replace hB:Below v0.heap.size v0 W2:=Below.grown hB hgrow hB0s (fun r e => by cases e;exact hvb)
    replace HO:Hid (W2.ownsRow v0.heap.size 40 5 (.slice a' t.its.length c') t.its.length (flI t.its)):=hid (by rw [← HNI.out];simpa using hown)
    have hav:∀ k ∈ hb a',k < W2.heap.size:=fun k hk => (row_lt HO.out k hk).2
    have hXa:X ∉ hb a':=fun hc => by
     rcases hat X hc with e | e
     ·simp [hb] at e;omega
     ·omega
    replace gX:=(app_blk hgrow (lt_of_heap gX) (by simp [hb];omega)).trans gX
    rw [Nat.zero_add]
    have hB0s:=hB.size
    clear hown hgrow hat hTg
    refine tkR 8 hHeld ?_
    try simp only [sq]
    refine rd1 10 rfl (fun K hK => ?_)
    try simp only [sq]
    obtain ⟨_,_,_,_,_,_,_,f0,f1,f2,f3,f4,f5,f6⟩:=cell7k gX
    obtain ⟨x0,x1,x2,x3,x4,x5,x6,_,_,_,_,_,_,_⟩:=cell7k gX
    go_simp
    have gX2:=set7k gX (.int .i64 b0) (.int .i64 b1) (.int .i64 b2) (.int .i64 b3) (.bool b4) (.slice a' ni c') (.slice none 0 0)
    have hBX:=setL_below [.int .i64 b0,.int .i64 b1,.int .i64 b2,.int .i64 b3,.bool b4,.slice a' ni c',.slice none 0 0] v0 W2 X 0 _ hB hvX
    have gT2:=(setL_blk [.int .i64 b0,.int .i64 b1,.int .i64 b2,.int .i64 b3,.bool b4,.slice a' ni c',.slice none 0 0] W2 X 0 w.heap.size (by omega)).trans gT
    have HO2:=row_blk HO.out (fun k hk => setL_blk [.int .i64 b0,.int .i64 b1,.int .i64 b2,.int .i64 b3,.bool b4,.slice a' ni c',.slice none 0 0] W2 X 0 k (fun e => hXa (e ▸ hk)))
    simp only [setL,Nat.zero_add,Nat.reduceAdd] at hBX gT2 HO2
    refine hK.out _ _ ?_ (fun hHeld => ?_)
    ·(obtain ⟨a0,a1,a2,a3,a4,a5,a6,_,_,_,_,_,_,_⟩:=cell7k gT2;exact ⟨a0,a1,a2,a3,a4,a5⟩)
    clear hK K
    try simp only [sq]
    refine wpAnyH_done (by kernel_rfl) ?_ _
    go_wp2_with fail
    go_meet
    exact ⟨X,(a',c',none,0),_,rfl,gX2,KO.leafy (b0,b1,b2,b3) b4 HO2,hXa,hvX,hBX⟩
  ·skip
   try simp only [sq]
   go_simp
   refine hK.out _ _ ?_ (fun hHeld => ?_)
   ·(obtain ⟨a0,a1,a2,a3,a4,a5,a6,_,_,_,_,_,_,_⟩:=cell7k (old_alloc (o':=(.cells #[.int .i64 0,.int .i64 0,.int .i64 0,.int .i64 0,.bool false,.slice none 0 0,.slice none 0 0] 35)) gT);exact ⟨a0,a1,a2,a3,a4,a5⟩)
   clear hK K
   try simp only [sq]
   have gX:=heap_alloc_new V (.cells #[.int .i64 0,.int .i64 0,.int .i64 0,.int .i64 0,.bool false,.slice none 0 0,.slice none 0 0] 35)
   replace hB:=balloc hB (.cells #[.int .i64 0,.int .i64 0,.int .i64 0,.int .i64 0,.bool false,.slice none 0 0,.slice none 0 0] 35)
   replace gT:=old_alloc (o':=(.cells #[.int .i64 0,.int .i64 0,.int .i64 0,.int .i64 0,.bool false,.slice none 0 0,.slice none 0 0] 35)) gT
   obtain ⟨X,hX⟩:∃ X,X = V.heap.size:=⟨_,rfl⟩
   have hvX:v0.heap.size ≤ X:=by rw [hX];exact hB0s
   rw [← hX] at gX ⊢
   have hB0s:=hB.size
   have hXs:=lt_of_heap gX
   generalize V.alloc (.cells #[.int .i64 0,.int .i64 0,.int .i64 0,.int .i64 0,.bool false,.slice none 0 0,.slice none 0 0] 35) = V1 at *
   clear hX
   refine rd1 4 rfl (fun K hK => ?_)
   try simp only [sq]
   go_simp
   refine hK.out _ _ ?_ (fun hHeld => ?_)
   ·(obtain ⟨a0,a1,a2,a3,a4,a5,a6,_,_,_,_,_,_,_⟩:=cell7k (old_alloc (o':=(.cells #[] 40)) gT);exact ⟨a0,a1,a2,a3,a4,a5⟩)
   clear hK K
   try simp only [sq]
   have hgb:=lt_of_heap gT
   have HO:=hid (World.ownsRow_made (base:=v0.heap.size) (e:=40) (size:=5) V1 #[] 0 hB.size (by decide) rfl)
   replace hB:=balloc hB (.cells #[] 40)
   replace gT:=old_alloc (o':=(.cells #[] 40)) gT
   obtain ⟨gb,hgb0⟩:∃ gb,gb = V1.heap.size:=⟨_,rfl⟩
   have hvb:v0.heap.size ≤ gb:=by rw [hgb0];exact hB0s
   have hgb1:gb < (V1.alloc (.cells #[] 40)).heap.size:=by rw [hgb0];simp
   rw [← hgb0] at HO ⊢
   replace gX:=old_alloc (o':=(.cells #[] 40)) gX
   have hXg:X ≠ gb:=by omega
   have hB0s:=hB.size
   generalize V1.alloc (.cells #[] 40) = V2 at *
   clear hgb0
   refine rd1 7 rfl (fun K hK => ?_)
   refine step_app (by rfl) (.tmp 11) (.tmp 13) 32 (by rfl) v0.heap.size 40 i0 _ 5 40 Tryz.underlying32 hi0 hz0 hz1 hzz rfl (by decide) (some ⟨gb,0,none⟩) 0 0 [] (by rfl) HO.out ia ni ic (flI t.its) (by rfl) (HSRC.out _ hB) hN5 HF1.out (by unfold maxLen;omega) (by omega) hB.size ?_
   have hXl:=lt_of_heap gX
   intro a' c' W2 hown hgrow hat
   have hTg:w.heap.size ∉ hb (some (⟨gb,0,none⟩:Addr)):=by simp [hb];omega
   replace gT:=(app_blk hgrow (lt_of_heap gT) hTg).trans gT
   refine hK.out _ _ ?_ (fun hHeld => ?_)
   ·(obtain ⟨a0,a1,a2,a3,a4,a5,a6,_,_,_,_,_,_,_⟩:=cell7k gT;exact ⟨a0,a1,a2,a3,a4,a5⟩)
   clear hK K
   try simp only [sq]
   replace hB:Below v0.heap.size v0 W2:=Below.grown hB hgrow hB0s (fun r e => by cases e;exact hvb)
   replace HO:Hid (W2.ownsRow v0.heap.size 40 5 (.slice a' t.its.length c') t.its.length (flI t.its)):=hid (by rw [← HNI.out];simpa using hown)
   have hav:∀ k ∈ hb a',k < W2.heap.size:=fun k hk => (row_lt HO.out k hk).2
   have hXa:X ∉ hb a':=fun hc => by
    rcases hat X hc with e | e
    ·simp [hb] at e;omega
    ·omega
   replace gX:=(app_blk hgrow (lt_of_heap gX) (by simp [hb];omega)).trans gX
   rw [Nat.zero_add]
   have hB0s:=hB.size
   clear hown hgrow hat hTg
   refine tkR 8 hHeld ?_
   try simp only [sq]
   refine rd1 10 rfl (fun K hK => ?_)
   try simp only [sq]
   obtain ⟨_,_,_,_,_,_,_,f0,f1,f2,f3,f4,f5,f6⟩:=cell7k gX
   obtain ⟨x0,x1,x2,x3,x4,x5,x6,_,_,_,_,_,_,_⟩:=cell7k gX
   go_simp
   have gX2:=set7k gX (.int .i64 b0) (.int .i64 b1) (.int .i64 b2) (.int .i64 b3) (.bool b4) (.slice a' ni c') (.slice none 0 0)
   have hBX:=setL_below [.int .i64 b0,.int .i64 b1,.int .i64 b2,.int .i64 b3,.bool b4,.slice a' ni c',.slice none 0 0] v0 W2 X 0 _ hB hvX
   have gT2:=(setL_blk [.int .i64 b0,.int .i64 b1,.int .i64 b2,.int .i64 b3,.bool b4,.slice a' ni c',.slice none 0 0] W2 X 0 w.heap.size (by omega)).trans gT
   have HO2:=row_blk HO.out (fun k hk => setL_blk [.int .i64 b0,.int .i64 b1,.int .i64 b2,.int .i64 b3,.bool b4,.slice a' ni c',.slice none 0 0] W2 X 0 k (fun e => hXa (e ▸ hk)))
   simp only [setL,Nat.zero_add,Nat.reduceAdd] at hBX gT2 HO2
   refine hK.out _ _ ?_ (fun hHeld => ?_)
   ·(obtain ⟨a0,a1,a2,a3,a4,a5,a6,_,_,_,_,_,_,_⟩:=cell7k gT2;exact ⟨a0,a1,a2,a3,a4,a5⟩)
   clear hK K
   try simp only [sq]
   refine wpAnyH_done (by kernel_rfl) ?_ _
   go_wp2_with fail
   go_meet
   exact ⟨X,(a',c',none,0),_,rfl,gX2,KO.leafy (b0,b1,b2,b3) b4 HO2,hXa,hvX,hBX⟩
 case rest =>
  obtain ⟨X,h,S,rfl,gX,hKO,hXS,hvX,hB⟩:=hcut
  have HB:=hid hB
  replace gX:wc.heap[X]? = some (.cells #[.int .i64 b0,.int .i64 b1,.int .i64 b2,.int .i64 b3,.bool b4,.slice h.1 ni h.2.1,.slice h.2.2.1 0 h.2.2.2] 35 (0,0)):=gX
  clear hB gT
  have e0:pcp (left - 1) t 0 = .mk (b0,b1,b2,b3) b4 t.its []:=by unfold pcp;rw [HBX.out,HLF.out];rfl
  have HKO:=hid hKO
  rw [← e0] at HKO
  have GX:=hid gX
  clear hKO gX e0
  go_wp2_with fail
  go_loopw [6] (fun t6 wr => ∃ (k:Nat) (h:Hd) (S:List Nat),t6 = .int .i64 k ∧ k ≤ nk ∧ (k ≠ 0 → left ≠ 0) ∧ Hid (wr.heap[X]? = some (.cells #[.int .i64 b0,.int .i64 b1,.int .i64 b2,.int .i64 b3,.bool b4,.slice h.1 ni h.2.1,.slice h.2.2.1 k h.2.2.2] 35 (0,0))) ∧ Hid (KO v0.heap.size (left + 1) wr h S (pcp (left - 1) t k)) ∧ X ∉ S ∧ Hid (Below v0.heap.size v0 wr)) (fun t6 _ => nk - (intOf t6).toNat)
  case atStart => exact ⟨0,h,S,rfl,Nat.zero_le _,fun h => absurd rfl h,GX,HKO,hXS,HB⟩
  case round =>
   clear HKO GX HB hXS h S
   obtain ⟨k,h,S,rfl,hk,hk0,GX,HKO,hXS,HB⟩:=hrel
   have gT:=keepheap HB.out HT0.out
   have gR:=keepheap HB.out HGR.out
   have gX:=GX.out
   by_cases hlt:k < nk
   ·have hk1:(k:Int) < (nk:Int):=by omega
    have hkI:(0:Int) ≤ (k:Int):=by omega
    by_cases hn:left = 0
    ·have hnI:¬ (0:Int) < (left:Int):=by omega
     obtain rfl:k = 0:=by
      by_cases e:k = 0
      ·exact e
      ·exact absurd hn (hk0 e)
     have hpf:pcp (left - 1) t 0 = cpy left t:=by subst hn;rfl
     clear hn hk0
     have hval:kvh (cpy left t) h = .agg #[.int .i64 b0,.int .i64 b1,.int .i64 b2,.int .i64 b3,.bool b4,.slice h.1 ni h.2.1,.slice h.2.2.1 0 h.2.2.2]:=by
      rw [← hpf]
      show kv (pcp (left - 1) t 0) h.1 h.2.1 h.2.2.1 h.2.2.2 = _
      unfold kv
      rw [pcp_len (by rw [HNK.out];omega)]
      show Value.agg #[.int .i64 t.box.1,.int .i64 t.box.2.1,.int .i64 t.box.2.2.1,.int .i64 t.box.2.2.2,.bool t.lf,.slice h.1 t.its.length h.2.1,.slice h.2.2.1 0 h.2.2.2] = _
      rw [HBX.out,HLF.out,← HNI.out]
     have HVAL:=hid hval
     have HPF:=hid hpf
     have HGR2:=hid gR
     clear hpf hval
     obtain ⟨a0,a1,a2,a3,a4,a5,a6,_,_,_,_,_,_,_⟩:=cell7k gT
     obtain ⟨x0,x1,x2,x3,x4,x5,x6,_,_,_,_,_,_,_⟩:=cell7k gX
     obtain ⟨r0,r1,r2,r3,r4,r5,r6,f0,f1,f2,f3,f4,f5,f6⟩:=cell7k gR
     clear gT gX gR
     go_wp2_with fail
     have gF:=set7k HGR2.out (.int .i64 b0) (.int .i64 b1) (.int .i64 b2) (.int .i64 b3) (.bool b4) (.slice h.1 ni h.2.1) (.slice h.2.2.1 0 h.2.2.2)
     obtain ⟨z0,z1,z2,z3,z4,z5,z6,_,_,_,_,_,_,_⟩:=cell7k gF
     have BF:=setL_below [.int .i64 b0,.int .i64 b1,.int .i64 b2,.int .i64 b3,.bool b4,.slice h.1 ni h.2.1,.slice h.2.2.1 0 h.2.2.2] w wr (w.heap.size + 1) 0 _ (btrans HB2.out (HB.out.mono (by omega))) (by omega)
     have KF:=HKO.out.keep (w':=setL wr (w.heap.size + 1) 0 [.int .i64 b0,.int .i64 b1,.int .i64 b2,.int .i64 b3,.bool b4,.slice h.1 ni h.2.1,.slice h.2.2.1 0 h.2.2.2]) (fun b hb => setL_blk [.int .i64 b0,.int .i64 b1,.int .i64 b2,.int .i64 b3,.bool b4,.slice h.1 ni h.2.1,.slice h.2.2.1 0 h.2.2.2] wr (w.heap.size + 1) 0 b (by have:=(HKO.out.lt b hb).1;omega))
     rw [HPF.out] at KF
     exact bodyPost_ret (v:=.agg #[.int .i64 b0,.int .i64 b1,.int .i64 b2,.int .i64 b3,.bool b4,.slice h.1 ni h.2.1,.slice h.2.2.1 0 h.2.2.2]) (by simp [results,Tryz.results40,go_sem,z0,z1,z2,z3,z4,z5,z6]) rfl (show KAns _ _ _ _ _ from ⟨h,S,by rw [HVAL.out],KO.lo (by omega) KF,BF⟩)
    ·have hnI:(0:Int) < (left:Int):=by omega
     have HHN:=hid hn
     obtain ⟨l',hl'⟩:∃ l',l' = left - 1:=⟨_,rfl⟩
     have hwl:IntKind.i64.wrap ((left:Int) - 1) = (l':Int):=by rw [IntKind.wrap_i64] <;> omega
     have HL:=hid (show left = l' + 1 by omega)
     have hkt:k < t.kids.length:=by rw [HNK.out];exact hlt
     obtain ⟨bk,ok,rfl,hbk,hkk⟩:∃ b off,ka = some ⟨b,off,none⟩ ∧ b < w.heap.size ∧ ∀ j (h:j < t.kids.length),∃ ia' ic' ka' kc',Cs w b (off + j * 7) (ck t.kids[j] ia' ic' ka' kc') ∧ KnL n w ia' ic' ka' kc' t.kids[j]:=by
      rcases h6 with h | h
      ·rw [h] at hkt;exact absurd hkt (by simp)
      ·exact h
     obtain ⟨ja,jc,jk,jd,q1,q2⟩:=hkk k hkt
     have HIK:=hid (fun (W:World) (hb:Below v0.heap.size v0 W) => IH l' HL.out n t.kids[k] ja jk jc jd W ((q2.below HB2.out).below hb) (HKZ.out _ (List.getElem_mem hkt)))
     have HKC0:=hid ((q1.below hbk HB2.out).below (by omega) HB.out)
     obtain ⟨c0,c1,c2,c3,c4,mi,mk,hcf⟩:=kf t.kids[k]
     have hckv:kv t.kids[k] ja jc jk jd = .agg #[.int .i64 c0,.int .i64 c1,.int .i64 c2,.int .i64 c3,.bool c4,.slice ja mi jc,.slice jk mk jd]:=by
      unfold kv;rw [hcf.x0,hcf.x1,hcf.x2,hcf.x3,hcf.lf,hcf.its,hcf.kids]
     rw [hckv] at HIK
     have HKC:Hid (Cs wr bk (ok + k * 7) [.int .i64 c0,.int .i64 c1,.int .i64 c2,.int .i64 c3,.bool c4,.slice ja mi jc,.slice jk mk jd]):=hid (by
      have:=HKC0.out
      unfold ck at this
      rw [hcf.x0,hcf.x1,hcf.x2,hcf.x3,hcf.lf,hcf.its,hcf.kids] at this
      exact this)
     clear q1 q2 hkk HKC0 hcf hckv hl' hn
     have HPK:=hid (pcp_len (l':=l') (t:=t) (k:=k) (Nat.le_of_lt hkt))
     have HNX:=hid (pcp_next (l':=l') hkt)
     have HNL:=hid (pcp_len (l':=l') (t:=t) (k:=k + 1) hkt)
     rw [show left - 1 = l' by have:=HL.out;omega] at HKO
     replace HKO:Hid (KO v0.heap.size (l' + 1 + 1) wr h S (pcp l' t k)):=hid (by have:=HKO.out;rwa [HL.out] at this)
     have HPB:=hid (show (pcp l' t k).box = (b0,b1,b2,b3) ∧ (pcp l' t k).lf = b4 ∧ (pcp l' t k).its = t.its from ⟨HBX.out,HLF.out,rfl⟩)
     have hbk2:bk < v0.heap.size:=by omega
     have a6:=(cell7k gT).2.2.2.2.2.2.1
     go_upto_region 5 with fail
     clear a6
     have hB:=bdrew (Below.refl wr.heap.size wr)
     replace hB:Below v0.heap.size v0 wr.drew:=bdrew HB.out
     have hB0s:=hB.size
     replace gT:wr.drew.heap[w.heap.size]? = _:=gT
     replace gX:wr.drew.heap[X]? = _:=gX
     replace HKC:Hid (Cs wr.drew bk (ok + k * 7) _):=HKC
     replace HKO:Hid (KO v0.heap.size (l' + 1 + 1) wr.drew h S (pcp l' t k)):=hid (HKO.out.below (bdrew (Below.refl _ _)))
     have hXl:=lt_of_heap gX
     refine wp_region_held_drew (S:=(fun w' => w'.cell? ⟨w.heap.size,6,none⟩ = some (.slice (some ⟨bk,ok,none⟩) nk kc) ∧ w'.cell? ⟨bk,ok + k * 7,none⟩ = some (.int .i64 c0) ∧ w'.cell? ⟨bk,ok + k * 7 + 1,none⟩ = some (.int .i64 c1) ∧ w'.cell? ⟨bk,ok + k * 7 + 2,none⟩ = some (.int .i64 c2) ∧ w'.cell? ⟨bk,ok + k * 7 + 3,none⟩ = some (.int .i64 c3) ∧ w'.cell? ⟨bk,ok + k * 7 + 4,none⟩ = some (.bool c4) ∧ w'.cell? ⟨bk,ok + k * 7 + 5,none⟩ = some (.slice ja mi jc) ∧ w'.cell? ⟨bk,ok + k * 7 + 6,none⟩ = some (.slice jk mk jd))) (by kernel_rfl) ?_ (fun hHeld => ?_)
     ·(obtain ⟨_,_,_,_,_,_,a6,_,_,_,_,_,_,_⟩:=cell7k gT;obtain ⟨d0,d1,d2,d3,d4,d5,d6⟩:=Cs.knot7 HKC.out;exact ⟨a6,d0,d1,d2,d3,d4,d5,d6⟩)
     generalize wr.drew = V at *
     refine tkR 0 hHeld ?_
     try simp only [sq]
     refine tkR 2 hHeld ?_
     try simp only [sq]
     refine tkR 3 hHeld ?_
     try simp only [sq]
     refine tkR 4 hHeld ?_
     try simp only [sq]
     refine tkR 5 hHeld ?_
     try simp only [sq]
     refine tkR 6 hHeld ?_
     try simp only [sq]
     refine tkR 7 hHeld ?_
     try simp only [sq]
     refine tkR 8 hHeld ?_
     try simp only [sq]
     refine wpAnyH_ready (rs:=[1,9]) (by kernel_rfl) (by simp) ?_
     refine (AllReadyH.cons rfl (fun K hK => ?_) (AllReadyH.cons rfl (fun K hK => ?_) AllReadyH.nil))
     ·skip
      try simp only [sq]
      obtain ⟨_,_,_,_,_,_,x6,_,_,_,_,_,_,_⟩:=cell7k gX
      go_simp
      refine hK.out _ _ ?_ (fun hHeld => ?_)
      ·(obtain ⟨_,_,_,_,_,_,a6,_,_,_,_,_,_,_⟩:=cell7k gT;obtain ⟨d0,d1,d2,d3,d4,d5,d6⟩:=Cs.knot7 HKC.out;exact ⟨a6,d0,d1,d2,d3,d4,d5,d6⟩)
      clear hK K
      try simp only [sq]
      clear x6
      refine rd1 9 rfl (fun K hK => ?_)
      try simp only [sq]
      go_simp
      go_at_call 40
      refine (HIK.out _ hB).mono ?_
      rintro e W1 ⟨hq,Sq,rfl,hko,hb1⟩
      replace gT:=keepheap hb1 gT
      replace gX:=keepheap hb1 gX
      replace HKC:=hid (HKC.out.below (by have:=hB.size;omega) hb1)
      have HKO1:=hid (HKO.out.below hb1)
      have hdis:∀ b ∈ Sq,b ∉ S:=fun b hb hc => by have:=(hko.lt b hb).1;have:=(HKO.out.lt b hc).2;omega
      have hqlt:∀ b ∈ Sq,v0.heap.size ≤ b ∧ b ≠ X:=fun b hb => by have:=(hko.lt b hb).1;omega
      have HQ:=hid (KO.lo hB0s hko)
      replace hB:=btrans hB hb1
      have hB0s:=hB.size
      clear hko hb1
      obtain ⟨q,hqq⟩:∃ q:KP,q = (cpy l' t.kids[k],hq,Sq):=⟨_,rfl⟩
      have e1:kvh (cpy l' t.kids[k]) hq = .agg #[.int .i64 q.1.box.1,.int .i64 q.1.box.2.1,.int .i64 q.1.box.2.2.1,.int .i64 q.1.box.2.2.2,.bool q.1.lf,.slice q.2.1.1 q.1.its.length q.2.1.2.1,.slice q.2.1.2.2.1 q.1.kids.length q.2.1.2.2.2]:=by rw [hqq];rfl
      rw [e1]
      replace HQ:Hid (KO v0.heap.size (l' + 1) W1 q.2.1 q.2.2 q.1):=hid (by rw [hqq];exact HQ.out)
      replace hdis:∀ b ∈ q.2.2,b ∉ S:=by rw [hqq];exact hdis
      replace hqlt:∀ b ∈ q.2.2,v0.heap.size ≤ b ∧ b ≠ X:=by rw [hqq];exact hqlt
      have HQ1:=hid (show q.1 = cpy l' t.kids[k] by rw [hqq])
      clear hqq e1
      go_wp2_with fail
      refine hK.out _ _ ?_ (fun hHeld => ?_)
      ·(obtain ⟨_,_,_,_,_,_,a6,_,_,_,_,_,_,_⟩:=cell7k gT;obtain ⟨d0,d1,d2,d3,d4,d5,d6⟩:=Cs.knot7 HKC.out;exact ⟨a6,d0,d1,d2,d3,d4,d5,d6⟩)
      clear hK K
      try simp only [sq]
      refine rd1 10 rfl (fun K hK => ?_)
      try simp only [sq]
      go_simp
      have gN:=heap_alloc_new W1 (.cells #[.int .i64 q.1.box.1,.int .i64 q.1.box.2.1,.int .i64 q.1.box.2.2.1,.int .i64 q.1.box.2.2.2,.bool q.1.lf,.slice q.2.1.1 q.1.its.length q.2.1.2.1,.slice q.2.1.2.2.1 q.1.kids.length q.2.1.2.2.2] 35)
      replace gT:=old_alloc (o':=(.cells #[.int .i64 q.1.box.1,.int .i64 q.1.box.2.1,.int .i64 q.1.box.2.2.1,.int .i64 q.1.box.2.2.2,.bool q.1.lf,.slice q.2.1.1 q.1.its.length q.2.1.2.1,.slice q.2.1.2.2.1 q.1.kids.length q.2.1.2.2.2] 35)) gT
      replace gX:=old_alloc (o':=(.cells #[.int .i64 q.1.box.1,.int .i64 q.1.box.2.1,.int .i64 q.1.box.2.2.1,.int .i64 q.1.box.2.2.2,.bool q.1.lf,.slice q.2.1.1 q.1.its.length q.2.1.2.1,.slice q.2.1.2.2.1 q.1.kids.length q.2.1.2.2.2] 35)) gX
      replace HKC:=hid (HKC.out.below (by have:=hB.size;omega) (balloc (Below.refl _ _) (.cells #[.int .i64 q.1.box.1,.int .i64 q.1.box.2.1,.int .i64 q.1.box.2.2.1,.int .i64 q.1.box.2.2.2,.bool q.1.lf,.slice q.2.1.1 q.1.its.length q.2.1.2.1,.slice q.2.1.2.2.1 q.1.kids.length q.2.1.2.2.2] 35)))
      have HKO2:=hid (HKO1.out.below (balloc (Below.refl _ _) (.cells #[.int .i64 q.1.box.1,.int .i64 q.1.box.2.1,.int .i64 q.1.box.2.2.1,.int .i64 q.1.box.2.2.2,.bool q.1.lf,.slice q.2.1.1 q.1.its.length q.2.1.2.1,.slice q.2.1.2.2.1 q.1.kids.length q.2.1.2.2.2] 35)))
      replace HQ:=hid (HQ.out.below (balloc (Below.refl _ _) (.cells #[.int .i64 q.1.box.1,.int .i64 q.1.box.2.1,.int .i64 q.1.box.2.2.1,.int .i64 q.1.box.2.2.2,.bool q.1.lf,.slice q.2.1.1 q.1.its.length q.2.1.2.1,.slice q.2.1.2.2.1 q.1.kids.length q.2.1.2.2.2] 35)))
      replace hB:=balloc hB (.cells #[.int .i64 q.1.box.1,.int .i64 q.1.box.2.1,.int .i64 q.1.box.2.2.1,.int .i64 q.1.box.2.2.2,.bool q.1.lf,.slice q.2.1.1 q.1.its.length q.2.1.2.1,.slice q.2.1.2.2.1 q.1.kids.length q.2.1.2.2.2] 35)
      have hB0s:=hB.size
      generalize hnb:W1.heap.size = nb at *
      generalize hW1:W1.alloc (.cells #[.int .i64 q.1.box.1,.int .i64 q.1.box.2.1,.int .i64 q.1.box.2.2.1,.int .i64 q.1.box.2.2.2,.bool q.1.lf,.slice q.2.1.1 q.1.its.length q.2.1.2.1,.slice q.2.1.2.2.1 q.1.kids.length q.2.1.2.2.2] 35) = W2 at *
      refine hK.out _ _ ?_ (fun hHeld => ?_)
      ·(obtain ⟨_,_,_,_,_,_,a6,_,_,_,_,_,_,_⟩:=cell7k gT;obtain ⟨d0,d1,d2,d3,d4,d5,d6⟩:=Cs.knot7 HKC.out;exact ⟨a6,d0,d1,d2,d3,d4,d5,d6⟩)
      clear hK K
      try simp only [sq]
      refine rd1 11 rfl (fun K hK => ?_)
      obtain ⟨ps,hop⟩:=HKO2.out.op
      have hpl:ps.length = k:=by rw [← hop.len,HPK.out]
      have hrow:=hop.2.2.1
      rw [hpl] at hrow
      have hXK:X ∉ hb h.2.2.1:=fun hc => hXS (hop.parts.2.1 X hc)
      have hTK:w.heap.size ∉ hb h.2.2.1:=fun hc => by have:=(HKO2.out.lt _ (hop.parts.2.1 _ hc)).1;omega
      refine step_app (by rfl) (.tmp 28) (.tmp 37) 33 (by rfl) v0.heap.size 35 k0 _ 7 88 Tryz.underlying33 hki0 hkz0 hkz1 hkzz rfl (by decide) h.2.2.1 k h.2.2.2 (flK ps) (by rfl) hrow (some ⟨nb,0,none⟩) 1 1 (ckh q.1 q.2.1) (by rfl) (.inr ⟨_,rfl,src_blk gN⟩) rfl (ck_one _ _) (by unfold maxLen;omega) (by omega) hB0s ?_
      intro a' c' W3 hown hgrow hat
      obtain ⟨S',hko',hsub⟩:=hop.addKid HQ.out hdis hpl.symm hown hgrow hat
      have hX2:X ∉ S':=fun hc => by
       rcases hsub X hc with e | e | e
       ·exact hXS e
       ·exact (hqlt X e).2 rfl
       ·have:=lt_of_heap gX;omega
      replace gT:=(app_blk hgrow (lt_of_heap gT) hTK).trans gT
      replace gX:=(app_blk hgrow (lt_of_heap gX) hXK).trans gX
      replace HKC:=hid (HKC.out.keep (app_blk hgrow (by have:=hB.size;omega) (fun hc => by have:=(HKO2.out.lt _ (hop.parts.2.1 _ hc)).1;omega)))
      replace hB:Below v0.heap.size v0 W3:=Below.grown hB hgrow hB0s (fun r e => (HKO2.out.lt r (hop.parts.2.1 r (own_hb e))).1)
      have hB0s:=hB.size
      clear hown hgrow hat hsub hop hrow
      refine hK.out _ _ ?_ (fun hHeld => ?_)
      ·(obtain ⟨_,_,_,_,_,_,a6,_,_,_,_,_,_,_⟩:=cell7k gT;obtain ⟨d0,d1,d2,d3,d4,d5,d6⟩:=Cs.knot7 HKC.out;exact ⟨a6,d0,d1,d2,d3,d4,d5,d6⟩)
      clear hK K
      try simp only [sq]
      refine tkR 12 hHeld ?_
      try simp only [sq]
      refine rd1 13 rfl (fun K hK => ?_)
      try simp only [sq]
      obtain ⟨_,_,_,_,_,_,_,_,_,_,_,_,_,f6⟩:=cell7k gX
      obtain ⟨_,_,_,_,_,_,x6,_,_,_,_,_,_,_⟩:=cell7k gX
      go_simp
      have gX2:=set_6k gX (.slice a' (k + 1) c')
      have hko2:=hko'.keep (w':=W3.setCell ⟨X,6,none⟩ (.slice a' (k + 1) c')) (fun b hb => heap_set W3 X 6 b _ (fun e => hX2 (e ▸ hb)))
      have hBX:=hB.setCell (p:=⟨X,6,none⟩) hvX (.slice a' (k + 1) c')
      replace gT:=(heap_set W3 X 6 w.heap.size (.slice a' (k + 1) c') (by omega)).trans gT
      replace HKC:=hid (HKC.out.keep (heap_set W3 X 6 bk (.slice a' (k + 1) c') (by omega)))
      refine hK.out _ _ ?_ (fun hHeld => ?_)
      ·(obtain ⟨_,_,_,_,_,_,a6,_,_,_,_,_,_,_⟩:=cell7k gT;obtain ⟨d0,d1,d2,d3,d4,d5,d6⟩:=Cs.knot7 HKC.out;exact ⟨a6,d0,d1,d2,d3,d4,d5,d6⟩)
      clear hK K
      try simp only [sq]
      refine wpAnyH_done (by kernel_rfl) ?_ _
      go_wp2_with fail
      go_roundw
      case rel => exact ⟨k + 1,(h.1,h.2.1,a',c'),S',by go_num,by omega,fun _ => HHN.out,hid gX2,hid (by rw [show left - 1 = l' by have:=HL.out;omega,HL.out,HNX.out,← HQ1.out];exact hko2),hX2,hid hBX⟩
      case measure => simp [intOf];omega
     ·skip
      try simp only [sq]
      go_simp
      go_at_call 40
      refine (HIK.out _ hB).mono ?_
      rintro e W1 ⟨hq,Sq,rfl,hko,hb1⟩
      replace gT:=keepheap hb1 gT
      replace gX:=keepheap hb1 gX
      replace HKC:=hid (HKC.out.below (by have:=hB.size;omega) hb1)
      have HKO1:=hid (HKO.out.below hb1)
      have hdis:∀ b ∈ Sq,b ∉ S:=fun b hb hc => by have:=(hko.lt b hb).1;have:=(HKO.out.lt b hc).2;omega
      have hqlt:∀ b ∈ Sq,v0.heap.size ≤ b ∧ b ≠ X:=fun b hb => by have:=(hko.lt b hb).1;omega
      have HQ:=hid (KO.lo hB0s hko)
      replace hB:=btrans hB hb1
      have hB0s:=hB.size
      clear hko hb1
      obtain ⟨q,hqq⟩:∃ q:KP,q = (cpy l' t.kids[k],hq,Sq):=⟨_,rfl⟩
      have e1:kvh (cpy l' t.kids[k]) hq = .agg #[.int .i64 q.1.box.1,.int .i64 q.1.box.2.1,.int .i64 q.1.box.2.2.1,.int .i64 q.1.box.2.2.2,.bool q.1.lf,.slice q.2.1.1 q.1.its.length q.2.1.2.1,.slice q.2.1.2.2.1 q.1.kids.length q.2.1.2.2.2]:=by rw [hqq];rfl
      rw [e1]
      replace HQ:Hid (KO v0.heap.size (l' + 1) W1 q.2.1 q.2.2 q.1):=hid (by rw [hqq];exact HQ.out)
      replace hdis:∀ b ∈ q.2.2,b ∉ S:=by rw [hqq];exact hdis
      replace hqlt:∀ b ∈ q.2.2,v0.heap.size ≤ b ∧ b ≠ X:=by rw [hqq];exact hqlt
      have HQ1:=hid (show q.1 = cpy l' t.kids[k] by rw [hqq])
      clear hqq e1
      go_wp2_with fail
      refine hK.out _ _ ?_ (fun hHeld => ?_)
      ·(obtain ⟨_,_,_,_,_,_,a6,_,_,_,_,_,_,_⟩:=cell7k gT;obtain ⟨d0,d1,d2,d3,d4,d5,d6⟩:=Cs.knot7 HKC.out;exact ⟨a6,d0,d1,d2,d3,d4,d5,d6⟩)
      clear hK K
      try simp only [sq]
      refine wpAnyH_ready (rs:=[1,10]) (by kernel_rfl) (by simp) ?_
      refine (AllReadyH.cons rfl (fun K hK => ?_) (AllReadyH.cons rfl (fun K hK => ?_) AllReadyH.nil))
      ·skip
       try simp only [sq]
       obtain ⟨_,_,_,_,_,_,x6,_,_,_,_,_,_,_⟩:=cell7k gX
       go_simp
       refine hK.out _ _ ?_ (fun hHeld => ?_)
       ·(obtain ⟨_,_,_,_,_,_,a6,_,_,_,_,_,_,_⟩:=cell7k gT;obtain ⟨d0,d1,d2,d3,d4,d5,d6⟩:=Cs.knot7 HKC.out;exact ⟨a6,d0,d1,d2,d3,d4,d5,d6⟩)
       clear hK K
       try simp only [sq]
       clear x6
       refine rd1 10 rfl (fun K hK => ?_)
       try simp only [sq]
       go_simp
       have gN:=heap_alloc_new W1 (.cells #[.int .i64 q.1.box.1,.int .i64 q.1.box.2.1,.int .i64 q.1.box.2.2.1,.int .i64 q.1.box.2.2.2,.bool q.1.lf,.slice q.2.1.1 q.1.its.length q.2.1.2.1,.slice q.2.1.2.2.1 q.1.kids.length q.2.1.2.2.2] 35)
       replace gT:=old_alloc (o':=(.cells #[.int .i64 q.1.box.1,.int .i64 q.1.box.2.1,.int .i64 q.1.box.2.2.1,.int .i64 q.1.box.2.2.2,.bool q.1.lf,.slice q.2.1.1 q.1.its.length q.2.1.2.1,.slice q.2.1.2.2.1 q.1.kids.length q.2.1.2.2.2] 35)) gT
       replace gX:=old_alloc (o':=(.cells #[.int .i64 q.1.box.1,.int .i64 q.1.box.2.1,.int .i64 q.1.box.2.2.1,.int .i64 q.1.box.2.2.2,.bool q.1.lf,.slice q.2.1.1 q.1.its.length q.2.1.2.1,.slice q.2.1.2.2.1 q.1.kids.length q.2.1.2.2.2] 35)) gX
       replace HKC:=hid (HKC.out.below (by have:=hB.size;omega) (balloc (Below.refl _ _) (.cells #[.int .i64 q.1.box.1,.int .i64 q.1.box.2.1,.int .i64 q.1.box.2.2.1,.int .i64 q.1.box.2.2.2,.bool q.1.lf,.slice q.2.1.1 q.1.its.length q.2.1.2.1,.slice q.2.1.2.2.1 q.1.kids.length q.2.1.2.2.2] 35)))
       have HKO2:=hid (HKO1.out.below (balloc (Below.refl _ _) (.cells #[.int .i64 q.1.box.1,.int .i64 q.1.box.2.1,.int .i64 q.1.box.2.2.1,.int .i64 q.1.box.2.2.2,.bool q.1.lf,.slice q.2.1.1 q.1.its.length q.2.1.2.1,.slice q.2.1.2.2.1 q.1.kids.length q.2.1.2.2.2] 35)))
       replace HQ:=hid (HQ.out.below (balloc (Below.refl _ _) (.cells #[.int .i64 q.1.box.1,.int .i64 q.1.box.2.1,.int .i64 q.1.box.2.2.1,.int .i64 q.1.box.2.2.2,.bool q.1.lf,.slice q.2.1.1 q.1.its.length q.2.1.2.1,.slice q.2.1.2.2.1 q.1.kids.length q.2.1.2.2.2] 35)))
       replace hB:=balloc hB (.cells #[.int .i64 q.1.box.1,.int .i64 q.1.box.2.1,.int .i64 q.1.box.2.2.1,.int .i64 q.1.box.2.2.2,.bool q.1.lf,.slice q.2.1.1 q.1.its.length q.2.1.2.1,.slice q.2.1.2.2.1 q.1.kids.length q.2.1.2.2.2] 35)
       have hB0s:=hB.size
       generalize hnb:W1.heap.size = nb at *
       generalize hW1:W1.alloc (.cells #[.int .i64 q.1.box.1,.int .i64 q.1.box.2.1,.int .i64 q.1.box.2.2.1,.int .i64 q.1.box.2.2.2,.bool q.1.lf,.slice q.2.1.1 q.1.its.length q.2.1.2.1,.slice q.2.1.2.2.1 q.1.kids.length q.2.1.2.2.2] 35) = W2 at *
       refine hK.out _ _ ?_ (fun hHeld => ?_)
       ·(obtain ⟨_,_,_,_,_,_,a6,_,_,_,_,_,_,_⟩:=cell7k gT;obtain ⟨d0,d1,d2,d3,d4,d5,d6⟩:=Cs.knot7 HKC.out;exact ⟨a6,d0,d1,d2,d3,d4,d5,d6⟩)
       clear hK K
       try simp only [sq]
       refine rd1 11 rfl (fun K hK => ?_)
       obtain ⟨ps,hop⟩:=HKO2.out.op
       have hpl:ps.length = k:=by rw [← hop.len,HPK.out]
       have hrow:=hop.2.2.1
       rw [hpl] at hrow
       have hXK:X ∉ hb h.2.2.1:=fun hc => hXS (hop.parts.2.1 X hc)
       have hTK:w.heap.size ∉ hb h.2.2.1:=fun hc => by have:=(HKO2.out.lt _ (hop.parts.2.1 _ hc)).1;omega
       refine step_app (by rfl) (.tmp 28) (.tmp 37) 33 (by rfl) v0.heap.size 35 k0 _ 7 88 Tryz.underlying33 hki0 hkz0 hkz1 hkzz rfl (by decide) h.2.2.1 k h.2.2.2 (flK ps) (by rfl) hrow (some ⟨nb,0,none⟩) 1 1 (ckh q.1 q.2.1) (by rfl) (.inr ⟨_,rfl,src_blk gN⟩) rfl (ck_one _ _) (by unfold maxLen;omega) (by omega) hB0s ?_
       intro a' c' W3 hown hgrow hat
       obtain ⟨S',hko',hsub⟩:=hop.addKid HQ.out hdis hpl.symm hown hgrow hat
       have hX2:X ∉ S':=fun hc => by
        rcases hsub X hc with e | e | e
        ·exact hXS e
        ·exact (hqlt X e).2 rfl
        ·have:=lt_of_heap gX;omega
       replace gT:=(app_blk hgrow (lt_of_heap gT) hTK).trans gT
       replace gX:=(app_blk hgrow (lt_of_heap gX) hXK).trans gX
       replace HKC:=hid (HKC.out.keep (app_blk hgrow (by have:=hB.size;omega) (fun hc => by have:=(HKO2.out.lt _ (hop.parts.2.1 _ hc)).1;omega)))
       replace hB:Below v0.heap.size v0 W3:=Below.grown hB hgrow hB0s (fun r e => (HKO2.out.lt r (hop.parts.2.1 r (own_hb e))).1)
       have hB0s:=hB.size
       clear hown hgrow hat hsub hop hrow
       refine hK.out _ _ ?_ (fun hHeld => ?_)
       ·(obtain ⟨_,_,_,_,_,_,a6,_,_,_,_,_,_,_⟩:=cell7k gT;obtain ⟨d0,d1,d2,d3,d4,d5,d6⟩:=Cs.knot7 HKC.out;exact ⟨a6,d0,d1,d2,d3,d4,d5,d6⟩)
       clear hK K
       try simp only [sq]
       refine tkR 12 hHeld ?_
       try simp only [sq]
       refine rd1 13 rfl (fun K hK => ?_)
       try simp only [sq]
       obtain ⟨_,_,_,_,_,_,_,_,_,_,_,_,_,f6⟩:=cell7k gX
       obtain ⟨_,_,_,_,_,_,x6,_,_,_,_,_,_,_⟩:=cell7k gX
       go_simp
       have gX2:=set_6k gX (.slice a' (k + 1) c')
       have hko2:=hko'.keep (w':=W3.setCell ⟨X,6,none⟩ (.slice a' (k + 1) c')) (fun b hb => heap_set W3 X 6 b _ (fun e => hX2 (e ▸ hb)))
       have hBX:=hB.setCell (p:=⟨X,6,none⟩) hvX (.slice a' (k + 1) c')
       replace gT:=(heap_set W3 X 6 w.heap.size (.slice a' (k + 1) c') (by omega)).trans gT
       replace HKC:=hid (HKC.out.keep (heap_set W3 X 6 bk (.slice a' (k + 1) c') (by omega)))
       refine hK.out _ _ ?_ (fun hHeld => ?_)
       ·(obtain ⟨_,_,_,_,_,_,a6,_,_,_,_,_,_,_⟩:=cell7k gT;obtain ⟨d0,d1,d2,d3,d4,d5,d6⟩:=Cs.knot7 HKC.out;exact ⟨a6,d0,d1,d2,d3,d4,d5,d6⟩)
       clear hK K
       try simp only [sq]
       refine wpAnyH_done (by kernel_rfl) ?_ _
       go_wp2_with fail
       go_roundw
       case rel => exact ⟨k + 1,(h.1,h.2.1,a',c'),S',by go_num,by omega,fun _ => HHN.out,hid gX2,hid (by rw [show left - 1 = l' by have:=HL.out;omega,HL.out,HNX.out,← HQ1.out];exact hko2),hX2,hid hBX⟩
       case measure => simp [intOf];omega
      ·skip
       try simp only [sq]
       go_simp
       have gN:=heap_alloc_new W1 (.cells #[.int .i64 q.1.box.1,.int .i64 q.1.box.2.1,.int .i64 q.1.box.2.2.1,.int .i64 q.1.box.2.2.2,.bool q.1.lf,.slice q.2.1.1 q.1.its.length q.2.1.2.1,.slice q.2.1.2.2.1 q.1.kids.length q.2.1.2.2.2] 35)
       replace gT:=old_alloc (o':=(.cells #[.int .i64 q.1.box.1,.int .i64 q.1.box.2.1,.int .i64 q.1.box.2.2.1,.int .i64 q.1.box.2.2.2,.bool q.1.lf,.slice q.2.1.1 q.1.its.length q.2.1.2.1,.slice q.2.1.2.2.1 q.1.kids.length q.2.1.2.2.2] 35)) gT
       replace gX:=old_alloc (o':=(.cells #[.int .i64 q.1.box.1,.int .i64 q.1.box.2.1,.int .i64 q.1.box.2.2.1,.int .i64 q.1.box.2.2.2,.bool q.1.lf,.slice q.2.1.1 q.1.its.length q.2.1.2.1,.slice q.2.1.2.2.1 q.1.kids.length q.2.1.2.2.2] 35)) gX
       replace HKC:=hid (HKC.out.below (by have:=hB.size;omega) (balloc (Below.refl _ _) (.cells #[.int .i64 q.1.box.1,.int .i64 q.1.box.2.1,.int .i64 q.1.box.2.2.1,.int .i64 q.1.box.2.2.2,.bool q.1.lf,.slice q.2.1.1 q.1.its.length q.2.1.2.1,.slice q.2.1.2.2.1 q.1.kids.length q.2.1.2.2.2] 35)))
       have HKO2:=hid (HKO1.out.below (balloc (Below.refl _ _) (.cells #[.int .i64 q.1.box.1,.int .i64 q.1.box.2.1,.int .i64 q.1.box.2.2.1,.int .i64 q.1.box.2.2.2,.bool q.1.lf,.slice q.2.1.1 q.1.its.length q.2.1.2.1,.slice q.2.1.2.2.1 q.1.kids.length q.2.1.2.2.2] 35)))
       replace HQ:=hid (HQ.out.below (balloc (Below.refl _ _) (.cells #[.int .i64 q.1.box.1,.int .i64 q.1.box.2.1,.int .i64 q.1.box.2.2.1,.int .i64 q.1.box.2.2.2,.bool q.1.lf,.slice q.2.1.1 q.1.its.length q.2.1.2.1,.slice q.2.1.2.2.1 q.1.kids.length q.2.1.2.2.2] 35)))
       replace hB:=balloc hB (.cells #[.int .i64 q.1.box.1,.int .i64 q.1.box.2.1,.int .i64 q.1.box.2.2.1,.int .i64 q.1.box.2.2.2,.bool q.1.lf,.slice q.2.1.1 q.1.its.length q.2.1.2.1,.slice q.2.1.2.2.1 q.1.kids.length q.2.1.2.2.2] 35)
       have hB0s:=hB.size
       generalize hnb:W1.heap.size = nb at *
       generalize hW1:W1.alloc (.cells #[.int .i64 q.1.box.1,.int .i64 q.1.box.2.1,.int .i64 q.1.box.2.2.1,.int .i64 q.1.box.2.2.2,.bool q.1.lf,.slice q.2.1.1 q.1.its.length q.2.1.2.1,.slice q.2.1.2.2.1 q.1.kids.length q.2.1.2.2.2] 35) = W2 at *
       refine hK.out _ _ ?_ (fun hHeld => ?_)
       ·(obtain ⟨_,_,_,_,_,_,a6,_,_,_,_,_,_,_⟩:=cell7k gT;obtain ⟨d0,d1,d2,d3,d4,d5,d6⟩:=Cs.knot7 HKC.out;exact ⟨a6,d0,d1,d2,d3,d4,d5,d6⟩)
       clear hK K
       try simp only [sq]
       refine rd1 1 rfl (fun K hK => ?_)
       try simp only [sq]
       obtain ⟨_,_,_,_,_,_,x6,_,_,_,_,_,_,_⟩:=cell7k gX
       go_simp
       refine hK.out _ _ ?_ (fun hHeld => ?_)
       ·(obtain ⟨_,_,_,_,_,_,a6,_,_,_,_,_,_,_⟩:=cell7k gT;obtain ⟨d0,d1,d2,d3,d4,d5,d6⟩:=Cs.knot7 HKC.out;exact ⟨a6,d0,d1,d2,d3,d4,d5,d6⟩)
       clear hK K
       try simp only [sq]
       clear x6
       refine rd1 11 rfl (fun K hK => ?_)
       obtain ⟨ps,hop⟩:=HKO2.out.op
       have hpl:ps.length = k:=by rw [← hop.len,HPK.out]
       have hrow:=hop.2.2.1
       rw [hpl] at hrow
       have hXK:X ∉ hb h.2.2.1:=fun hc => hXS (hop.parts.2.1 X hc)
       have hTK:w.heap.size ∉ hb h.2.2.1:=fun hc => by have:=(HKO2.out.lt _ (hop.parts.2.1 _ hc)).1;omega
       refine step_app (by rfl) (.tmp 28) (.tmp 37) 33 (by rfl) v0.heap.size 35 k0 _ 7 88 Tryz.underlying33 hki0 hkz0 hkz1 hkzz rfl (by decide) h.2.2.1 k h.2.2.2 (flK ps) (by rfl) hrow (some ⟨nb,0,none⟩) 1 1 (ckh q.1 q.2.1) (by rfl) (.inr ⟨_,rfl,src_blk gN⟩) rfl (ck_one _ _) (by unfold maxLen;omega) (by omega) hB0s ?_
       intro a' c' W3 hown hgrow hat
       obtain ⟨S',hko',hsub⟩:=hop.addKid HQ.out hdis hpl.symm hown hgrow hat
       have hX2:X ∉ S':=fun hc => by
        rcases hsub X hc with e | e | e
        ·exact hXS e
        ·exact (hqlt X e).2 rfl
        ·have:=lt_of_heap gX;omega
       replace gT:=(app_blk hgrow (lt_of_heap gT) hTK).trans gT
       replace gX:=(app_blk hgrow (lt_of_heap gX) hXK).trans gX
       replace HKC:=hid (HKC.out.keep (app_blk hgrow (by have:=hB.size;omega) (fun hc => by have:=(HKO2.out.lt _ (hop.parts.2.1 _ hc)).1;omega)))
       replace hB:Below v0.heap.size v0 W3:=Below.grown hB hgrow hB0s (fun r e => (HKO2.out.lt r (hop.parts.2.1 r (own_hb e))).1)
       have hB0s:=hB.size
       clear hown hgrow hat hsub hop hrow
       refine hK.out _ _ ?_ (fun hHeld => ?_)
       ·(obtain ⟨_,_,_,_,_,_,a6,_,_,_,_,_,_,_⟩:=cell7k gT;obtain ⟨d0,d1,d2,d3,d4,d5,d6⟩:=Cs.knot7 HKC.out;exact ⟨a6,d0,d1,d2,d3,d4,d5,d6⟩)
       clear hK K
       try simp only [sq]
       refine tkR 12 hHeld ?_
       try simp only [sq]
       refine rd1 13 rfl (fun K hK => ?_)
       try simp only [sq]
       obtain ⟨_,_,_,_,_,_,_,_,_,_,_,_,_,f6⟩:=cell7k gX
       obtain ⟨_,_,_,_,_,_,x6,_,_,_,_,_,_,_⟩:=cell7k gX
       go_simp
       have gX2:=set_6k gX (.slice a' (k + 1) c')
       have hko2:=hko'.keep (w':=W3.setCell ⟨X,6,none⟩ (.slice a' (k + 1) c')) (fun b hb => heap_set W3 X 6 b _ (fun e => hX2 (e ▸ hb)))
       have hBX:=hB.setCell (p:=⟨X,6,none⟩) hvX (.slice a' (k + 1) c')
       replace gT:=(heap_set W3 X 6 w.heap.size (.slice a' (k + 1) c') (by omega)).trans gT
       replace HKC:=hid (HKC.out.keep (heap_set W3 X 6 bk (.slice a' (k + 1) c') (by omega)))
       refine hK.out _ _ ?_ (fun hHeld => ?_)
       ·(obtain ⟨_,_,_,_,_,_,a6,_,_,_,_,_,_,_⟩:=cell7k gT;obtain ⟨d0,d1,d2,d3,d4,d5,d6⟩:=Cs.knot7 HKC.out;exact ⟨a6,d0,d1,d2,d3,d4,d5,d6⟩)
       clear hK K
       try simp only [sq]
       refine wpAnyH_done (by kernel_rfl) ?_ _
       go_wp2_with fail
       go_roundw
       case rel => exact ⟨k + 1,(h.1,h.2.1,a',c'),S',by go_num,by omega,fun _ => HHN.out,hid gX2,hid (by rw [show left - 1 = l' by have:=HL.out;omega,HL.out,HNX.out,← HQ1.out];exact hko2),hX2,hid hBX⟩
       case measure => simp [intOf];omega
   ·have hk1:¬ (k:Int) < (nk:Int):=by omega
    obtain rfl:k = nk:=by omega
    have hpf:pcp (left - 1) t k = cpy left t:=by
     rw [← HNK.out]
     by_cases hn:left = 0
     ·have:k = 0:=by
       by_cases e:k = 0
       ·exact e
       ·exact absurd hn (hk0 e)
      have e2:t.kids.length = 0:=by rw [HNK.out];exact this
      subst hn
      unfold pcp cpy
      rw [List.length_eq_zero_iff.1 e2];rfl
     ·obtain ⟨l',rfl⟩:∃ l',left = l' + 1:=⟨left - 1,by omega⟩
      exact pcp_all l' t
    have hval:kvh (cpy left t) h = .agg #[.int .i64 b0,.int .i64 b1,.int .i64 b2,.int .i64 b3,.bool b4,.slice h.1 ni h.2.1,.slice h.2.2.1 k h.2.2.2]:=by
     rw [← hpf]
     show kv (pcp (left - 1) t k) h.1 h.2.1 h.2.2.1 h.2.2.2 = _
     unfold kv
     rw [pcp_len (by rw [HNK.out];omega)]
     show Value.agg #[.int .i64 t.box.1,.int .i64 t.box.2.1,.int .i64 t.box.2.2.1,.int .i64 t.box.2.2.2,.bool t.lf,.slice h.1 t.its.length h.2.1,.slice h.2.2.1 k h.2.2.2] = _
     rw [HBX.out,HLF.out,← HNI.out]
    have HVAL:=hid hval
    have HPF:=hid hpf
    have HGR2:=hid gR
    clear hpf hval
    obtain ⟨a0,a1,a2,a3,a4,a5,a6,_,_,_,_,_,_,_⟩:=cell7k gT
    obtain ⟨x0,x1,x2,x3,x4,x5,x6,_,_,_,_,_,_,_⟩:=cell7k gX
    obtain ⟨r0,r1,r2,r3,r4,r5,r6,f0,f1,f2,f3,f4,f5,f6⟩:=cell7k gR
    clear gT gX gR
    go_wp2_with fail
    have gF:=set7k HGR2.out (.int .i64 b0) (.int .i64 b1) (.int .i64 b2) (.int .i64 b3) (.bool b4) (.slice h.1 ni h.2.1) (.slice h.2.2.1 k h.2.2.2)
    obtain ⟨z0,z1,z2,z3,z4,z5,z6,_,_,_,_,_,_,_⟩:=cell7k gF
    have BF:=setL_below [.int .i64 b0,.int .i64 b1,.int .i64 b2,.int .i64 b3,.bool b4,.slice h.1 ni h.2.1,.slice h.2.2.1 k h.2.2.2] w wr (w.heap.size + 1) 0 _ (btrans HB2.out (HB.out.mono (by omega))) (by omega)
    have KF:=HKO.out.keep (w':=setL wr (w.heap.size + 1) 0 [.int .i64 b0,.int .i64 b1,.int .i64 b2,.int .i64 b3,.bool b4,.slice h.1 ni h.2.1,.slice h.2.2.1 k h.2.2.2]) (fun b hb => setL_blk [.int .i64 b0,.int .i64 b1,.int .i64 b2,.int .i64 b3,.bool b4,.slice h.1 ni h.2.1,.slice h.2.2.1 k h.2.2.2] wr (w.heap.size + 1) 0 b (by have:=(HKO.out.lt b hb).1;omega))
    rw [HPF.out] at KF
    exact bodyPost_ret (v:=.agg #[.int .i64 b0,.int .i64 b1,.int .i64 b2,.int .i64 b3,.bool b4,.slice h.1 ni h.2.1,.slice h.2.2.1 k h.2.2.2]) (by simp [results,Tryz.results40,go_sem,z0,z1,z2,z3,z4,z5,z6]) rfl (show KAns _ _ _ _ _ from ⟨h,S,by rw [HVAL.out],KO.lo (by omega) KF,BF⟩)
theorem spec_kcopy (left:Nat):left ≤ 20 → ∀ (n:Nat) (t:KT) (ia ka:Option Addr) (ic kc:Nat) (w:World),KnL n w ia ic ka kc t → ksz n t ≤ 1048576 → Calls Tryz.prog 40 #[kv t ia ic ka kc,.int .i64 left] w (KAns w (left + 1) (cpy left t)):=by
 induction left with
 | zero => exact fun h20 n t ia ka ic kc w => copy_step 0 (fun l' e => by omega) n t ia ka ic kc w h20
 | succ l ih =>
  refine fun h20 n t ia ka ic kc w => copy_step (l + 1) (fun l' e => ?_) n t ia ka ic kc w h20
  have e':l' = l:=by omega
  subst e'
  exact ih (by omega)
end Go.Proofs.YtjahlofahjgdbaaGreat
