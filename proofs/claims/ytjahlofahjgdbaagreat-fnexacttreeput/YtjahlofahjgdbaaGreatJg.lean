import Derived.Test.YtjahlofahjgdbaaGreatJ8
import Derived.Test.YtjahlofahjgdbaaGreatFf
set_option maxRecDepth 100000
set_option maxHeartbeats 2000000
set_option linter.unusedSimpArgs false
set_option linter.unusedVariables false
namespace Go.Proofs.YtjahlofahjgdbaaGreat
open Go.RowKit
theorem spec_before (a0 a1 a2 a3 b0 b1 b2 b3:Int) (w:World) (ha:bkb (a0,a1,a2,a3) = true) (hb:bkb (b0,b1,b2,b3) = true):Calls Tryz.prog 113 #[.agg #[.int .i64 a0,.int .i64 a1,.int .i64 a2,.int .i64 a3],.agg #[.int .i64 b0,.int .i64 b1,.int .i64 b2,.int .i64 b3]] w fun e w' => e = .returned (.bool (bef (a0,a1,a2,a3) (b0,b1,b2,b3))) ∧ Below w.heap.size w w':=by
 have h1:=bkb_le ha
 have h2:=bkb_le hb
 simp only [] at h1 h2
 have e1:IntKind.i64.wrap (a0 + a2) = a0 + a2:=by rw [IntKind.wrap_i64];omega
 have e2:IntKind.i64.wrap (a1 + a3) = a1 + a3:=by rw [IntKind.wrap_i64];omega
 have e3:IntKind.i64.wrap (b0 + b2) = b0 + b2:=by rw [IntKind.wrap_i64];omega
 have e4:IntKind.i64.wrap (b1 + b3) = b1 + b3:=by rw [IntKind.wrap_i64];omega
 clear ha hb h1 h2
 have gA:=old_alloc (o':=(.cells #[.int .i64 b0,.int .i64 b1,.int .i64 b2,.int .i64 b3] 31)) (new_alloc w w.heap.size (.cells #[.int .i64 a0,.int .i64 a1,.int .i64 a2,.int .i64 a3] 31) rfl)
 have gB:=new_alloc (w.alloc (.cells #[.int .i64 a0,.int .i64 a1,.int .i64 a2,.int .i64 a3] 31)) (w.heap.size + 1) (.cells #[.int .i64 b0,.int .i64 b1,.int .i64 b2,.int .i64 b3] 31) (by simp)
 have HB:=balloc (balloc (Below.refl w.heap.size w) (.cells #[.int .i64 a0,.int .i64 a1,.int .i64 a2,.int .i64 a3] 31)) (.cells #[.int .i64 b0,.int .i64 b1,.int .i64 b2,.int .i64 b3] 31)
 obtain ⟨x0,x1,x2,x3,_,_,_,_⟩:=cell4b gA
 obtain ⟨y0,y1,y2,y3,_,_,_,_⟩:=cell4b gB
 clear gA gB
 by_cases h:a0 + a2 = b0 + b2
 ·have hr:bef (a0,a1,a2,a3) (b0,b1,b2,b3) = decide (a1 + a3 < b1 + b3):=by unfold bef;exact if_pos h
  rw [hr]
  have hn:(a0 + a2 != b0 + b2) = false:=by simp [h]
  generalize hd:decide (a1 + a3 < b1 + b3) = d
  go_enter Tryz.func113,Tryz.ntmps113
  go_upto_region 1 with fail
  generalize (w.alloc (.cells #[.int .i64 a0,.int .i64 a1,.int .i64 a2,.int .i64 a3] 31)).alloc (.cells #[.int .i64 b0,.int .i64 b1,.int .i64 b2,.int .i64 b3] 31) = v0 at *
  go_wp2_with fail
  go_ret
  exact ⟨by first | rfl | simp [hd],HB⟩
 ·have hr:bef (a0,a1,a2,a3) (b0,b1,b2,b3) = decide (a0 + a2 < b0 + b2):=by unfold bef;exact if_neg h
  rw [hr]
  have hn:(a0 + a2 != b0 + b2) = true:=by simp [h]
  generalize hd:decide (a0 + a2 < b0 + b2) = d
  go_enter Tryz.func113,Tryz.ntmps113
  go_upto_region 1 with fail
  generalize (w.alloc (.cells #[.int .i64 a0,.int .i64 a1,.int .i64 a2,.int .i64 a3] 31)).alloc (.cells #[.int .i64 b0,.int .i64 b1,.int .i64 b2,.int .i64 b3] 31) = v0 at *
  go_wp2_with fail
  go_ret
  exact ⟨by first | rfl | simp [hd],HB⟩
theorem has_next (l:List It) (id:Int) (k:Nat) (h:k < l.length) (hn:(l.take k).all (fun x => decide (x.1 ≠ id)) = true) (hk:l[k].1 ≠ id):(l.take (k + 1)).all (fun x => decide (x.1 ≠ id)) = true:=by
 rw [List.take_add_one,List.getElem?_eq_getElem h,Option.toList_some,List.all_append,hn]
 simp [hk]
theorem spec_has (b c:Nat) (id:Int) (l:List It) (w:World) (hm:l.length ≤ 1048576) (h:ItR w b l):Calls Tryz.prog 39 #[.slice (some ⟨b,0,none⟩) l.length c,.int .i64 id] w fun e w' => e = .returned (.bool ((l.map (·.1)).contains id)) ∧ Below w.heap.size w w':=by
 have HP:=hid h
 clear h
 go_enter Tryz.func39,Tryz.ntmps39
 go_wp2_with fail
 go_loopw [5] (fun ti wr => ∃ k:Nat,ti = .int .i64 k ∧ k ≤ l.length ∧ Hid ((l.take k).all (fun x => decide (x.1 ≠ id)) = true) ∧ Below w.heap.size w wr) (fun ti _ => l.length - (intOf ti).toNat)
 case atStart => exact ⟨0,rfl,Nat.zero_le _,hid rfl,Below.refl _ _⟩
 case round =>
  obtain ⟨k,rfl,hk,HA,hb⟩:=hrel
  by_cases hlt:k < l.length
  ·obtain ⟨c0,c1,c2,c3,c4⟩:=((HP.out.below hb).2 k hlt).item
   have hk1:(k:Int) < (l.length:Int):=by omega
   by_cases he:l[k].1 = id
   ·have hc:(l.map (·.1)).contains id = true:=by rw [List.contains_iff_mem,List.mem_map];exact ⟨l[k],List.getElem_mem hlt,he⟩
    rw [he] at c0
    go_wp2_with fail
    go_ret
    exact ⟨by rw [hc];rfl,hb⟩
   ·have HN:=hid (has_next l id k hlt HA.out he)
    clear HA
    generalize l[k].1 = x at *
    have hn:(x == id) = false:=by simpa using he
    go_wp2_with fail
    go_roundw
    case rel => exact ⟨k + 1,by go_num,by omega,HN,hb⟩
    case measure => simp [intOf];omega
  ·have hk':k = l.length:=by omega
   have hA:=HA.out
   rw [hk',List.take_length,List.all_eq_true] at hA
   have hc:(l.map (·.1)).contains id = false:=by
    rw [← Bool.not_eq_true,List.contains_iff_mem,List.mem_map]
    rintro ⟨x,hx,e⟩
    have:=hA x hx
    simp at this
    exact this e
   clear hA HA
   go_wp2_with fail
   go_ret
   exact ⟨by rw [hc];rfl,hb⟩
end Go.Proofs.YtjahlofahjgdbaaGreat
