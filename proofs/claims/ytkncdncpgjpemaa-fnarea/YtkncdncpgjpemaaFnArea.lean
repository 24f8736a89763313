/- What points go around is the other way round the same, with the other sign, and the same wherever they are moved and from whichever point on. -/
import Derived.Test.YtkncdncpgjpemaaRows
import Derived.Test.YtkncdncpgjpemaaFacts
import Derived.Test.YtkncdncpgjpemaaCode
import Derived.Test.YtkncdncpgjpemaaRows3
import Derived.Test.YtkncdncpgjpemaaRing2
import Derived.Test.YtkncdncpgjpemaaSym
import Derived.WalkKit
import Derived.Deep.DeepCutAuto
import Derived.ProofKit
import Derived.OpenShut
import Derived.ShutString
import Derived.ChangeOld
import Derived.Below
import Derived.Carry
import Derived.Lib.SmallJoins
import Derived.Deep.SlicePairs
namespace Go.Proofs.Ytkncdncpgjpemaa.fnArea
open Go.ChangeShapes Go.WideShapes Go.ChangeAt Go.RowKit Go.Joins
set_option linter.unusedVariables false
set_option linter.unusedSimpArgs false
theorem own : ownKnob Try.prog.godebug = none := by kernel_rfl
theorem laidOut : laidOutB Try.prog = true := by kernel_rfl
set_option maxRecDepth 100000 in
set_option maxHeartbeats 4000000 in
theorem walk (a0 : Option Addr) (len0 cap0 : Nat) (z0 : List Int) (w : World) (w0 : IsRow .u8 w a0 len0 cap0 z0) :
    Calls Try.prog 6 #[.slice a0 len0 cap0] w fun e w' => e = .returned (.bool true) ∧ Below w.heap.size w w' := by
  have hlen := len_of w0
  by_cases hbig : len0 ≤ 1048576
  rotate_left
  · have hd : 1048576 < (len0 : Int) := by omega
    clear w0
    go_enter Try.func6, Try.ntmps6
    go_wp2_with (go_at_call 12; go_in)
    go_ret
    exact ⟨rfl, Below.refl _ _⟩
  have hc := code_of w0 hbig
  have hd : (len0 : Int) ≤ 1048576 := by omega
  have HC := hid hc
  clear hc w0
  go_enter Try.func6, Try.ntmps6
  go_wp2_with (go_at_call 12; go_in)
  refine (draw_area _ a0 len0 cap0 HC.out).mono ?_
  rintro e w1 ⟨ps, ao, cp, rfl, hl8, hlc, hpt, hb1⟩
  have HP := hid hpt
  clear hpt
  go_wp2_with fail
  refine (impl_Area2 ao cp ps _ (by omega) hlc HP.out).mono ?_
  rintro e w2 ⟨rfl, hb2⟩
  replace HP : Hid (Pts w2 ao ps) := hid (HP.out.below hb2)
  have hB2 := btrans hb1 hb2
  clear hb1 hb2
  have hA := hid (fun w (hw : Pts w ao ps) => spec_Area2 ao cp ps w (by omega) hlc hw)
  have hbd := area2_bd ps
  have hlaw := hid (fun dx dy => @area_lawW ps dx dy)
  generalize area2 ps = area at *
  obtain ⟨hbd1, hbd2⟩ := hbd
  go_wp2_with fail
  refine (draw_inring _ a0 len0 cap0 ((HC.out.below hB2).mono hB2.size)).mono ?_
  rintro e w3 ⟨px, py, rs, ro, rp, rfl, hr8, hrc, hrt, hb3⟩
  replace HP : Hid (Pts w3 ao ps) := hid (HP.out.below hb3)
  have HR := hid hrt
  replace hB2 := btrans hB2 hb3
  clear hb3 hrt
  have hI := hid (fun w (hw : Pts w ro rs) => impl_InRing px py ro rp rs w (by omega) hrc hw)
  have hS := hid (fun w (hw : Pts w ro rs) => spec_InRing px py ro rp rs w (by omega) hrc hw)
  generalize inringv px py rs = inr at *
  go_wp2_with fail
  have hp1 : Hid (Pts (w3.alloc (.cells #[.int .i64 px, .int .i64 py] 25)) ao ps) := hid (HP.out.below (balloc (Below.refl _ _) _))
  have hp2 : Hid (Pts (w3.alloc (.cells #[.int .i64 px, .int .i64 py] 25)) ro rs) := hid (HR.out.below (balloc (Below.refl _ _) _))
  have hB3 : Below w.heap.size w (w3.alloc (.cells #[.int .i64 px, .int .i64 py] 25)) := balloc hB2 _
  have c0 : (w3.alloc (.cells #[.int .i64 px, .int .i64 py] 25)).cell? ⟨w3.heap.size, 0, none⟩ = some (.int .i64 px) := by (repeat (first | with_reducible assumption | (refine newcell _ _ _ _ _ _ ?_ rfl; simp; done) | refine keepcell (by with_reducible assumption) ?_ | refine keepdrew ?_ | refine keepalloc ?_ _))
  have c1 : (w3.alloc (.cells #[.int .i64 px, .int .i64 py] 25)).cell? ⟨w3.heap.size, 1, none⟩ = some (.int .i64 py) := by (repeat (first | with_reducible assumption | (refine newcell _ _ _ _ _ _ ?_ rfl; simp; done) | refine keepcell (by with_reducible assumption) ?_ | refine keepdrew ?_ | refine keepalloc ?_ _))
  clear HP HR hB2
  generalize (w3.alloc (.cells #[.int .i64 px, .int .i64 py] 25)) = Y at *
  go_region_held3 (fun w' => w'.cell? ⟨w3.heap.size, 0, none⟩ = some (.int .i64 px) ∧ w'.cell? ⟨w3.heap.size, 1, none⟩ = some (.int .i64 py)) ((go_split_ands; (repeat' apply And.intro) <;> (repeat (first | with_reducible assumption | with_reducible refine keepdrew ?_ | with_reducible refine keepcell (by with_reducible assumption) ?_ | with_reducible refine keepalloc ?_ _))))
    (first
      | (go_at_call 41; refine (hA.out _ (hp1.out.below (by (repeat (first | with_reducible exact Below.refl _ _ | with_reducible assumption | (with_reducible refine btrans ?_ (by with_reducible assumption)) | with_reducible refine bdrew ?_ | with_reducible refine balloc ?_ _))))).mono ?_; rintro e u1 ⟨rfl, hu1⟩)
      | (go_at_call 42; refine (hI.out _ (hp2.out.below (by (repeat (first | with_reducible exact Below.refl _ _ | with_reducible assumption | (with_reducible refine btrans ?_ (by with_reducible assumption)) | with_reducible refine bdrew ?_ | with_reducible refine balloc ?_ _))))).mono ?_; rintro e u2 ⟨rfl, hu2⟩)
      | (go_at_call 43; refine (hS.out _ (hp2.out.below (by (repeat (first | with_reducible exact Below.refl _ _ | with_reducible assumption | (with_reducible refine btrans ?_ (by with_reducible assumption)) | with_reducible refine bdrew ?_ | with_reducible refine balloc ?_ _))))).mono ?_; rintro e u3 ⟨rfl, hu3⟩))
  have hYU : Below Y.heap.size Y u3 := by (repeat (first | with_reducible exact Below.refl _ _ | with_reducible assumption | (with_reducible refine btrans ?_ (by with_reducible assumption)) | with_reducible refine bdrew ?_ | with_reducible refine balloc ?_ _))
  replace hB3 := btrans hB3 hYU
  replace hp1 : Hid (Pts u3 ao ps) := hid (hp1.out.below hYU)
  clear hYU hu1 hu2 hu3 c0 c1 hA hI hS hp2
  go_wp2_with fail
  have hBU : Below u3.heap.size u3 (((u3.alloc (.cells #[] 25)).alloc (.cells #[] 25)).alloc (.cells #[] 25)) := by (repeat (first | with_reducible exact Below.refl _ _ | with_reducible assumption | (with_reducible refine btrans ?_ (by with_reducible assumption)) | with_reducible refine bdrew ?_ | with_reducible refine balloc ?_ _))
  have hBV := btrans hB3 hBU
  have hrw1 : PtRow (((u3.alloc (.cells #[] 25)).alloc (.cells #[] 25)).alloc (.cells #[] 25)) u3.heap.size (.slice (some ⟨u3.heap.size, 0, none⟩) 0 0) [] := World.ownsRow.alloc (World.ownsRow.alloc (ptrow_new (Nat.le_refl _)) _) _
  have hrw2 : PtRow (((u3.alloc (.cells #[] 25)).alloc (.cells #[] 25)).alloc (.cells #[] 25)) u3.heap.size (.slice (some ⟨u3.heap.size + 1, 0, none⟩) 0 0) [] := by
    have := World.ownsRow.alloc (ptrow_new (w := u3.alloc (.cells #[] 25)) (B := u3.heap.size) (by simp)) (.cells #[] 25)
    unfold PtRow; simpa using this
  have hrw3 : PtRow (((u3.alloc (.cells #[] 25)).alloc (.cells #[] 25)).alloc (.cells #[] 25)) u3.heap.size (.slice (some ⟨u3.heap.size + 1 + 1, 0, none⟩) 0 0) [] := by
    have := ptrow_new (w := (u3.alloc (.cells #[] 25)).alloc (.cells #[] 25)) (B := u3.heap.size) (by simp; omega)
    simpa using this
  have HB := hid hBU
  have HBV := hid hBV
  have HR1 := hid hrw1
  have HR2 := hid hrw2
  have HR3 := hid hrw3
  clear hBU hrw1 hrw2 hrw3 hBV
  generalize (((u3.alloc (.cells #[] 25)).alloc (.cells #[] 25)).alloc (.cells #[] 25)) = Z at *
  refine (at_c _ a0 len0 cap0 _ 3 (by omega) (HC.out.below HBV.out)).mono ?_
  rintro e z1 ⟨xa, rfl, ⟨xa0, xa1⟩, hz⟩
  replace hz := hz.symm
  subst hz
  go_wp2_with fail
  refine (at_c _ a0 len0 cap0 _ 4 (by omega) (HC.out.below HBV.out)).mono ?_
  rintro e z1 ⟨xb, rfl, ⟨xb0, xb1⟩, hz⟩
  replace hz := hz.symm
  subst hz
  go_wp2_with fail
  have hdx : 0 ≤ xa % 50 ∧ xa % 50 ≤ 50 := by omega
  have hdy : 0 ≤ xb % 50 ∧ xb % 50 ≤ 50 := by omega
  generalize xa % 50 = dx at *
  generalize xb % 50 = dy at *
  clear xa0 xa1 xb0 xb1
  have Hl := hid (hlaw.out dx dy hdx hdy hl8)
  clear hlaw
  obtain ⟨i0, hi0, hz0, hz1, hz2⟩ := info_parts Try.infoP2
  go_loopw [7, 8, 9, 12] (fun t7 t8 t9 ti wr => ∃ k : Nat, ti = .int .i64 k ∧ k ≤ ps.length ∧ Hid (PtRow wr u3.heap.size t7 (tk (fR ps) k)) ∧ Hid (PtRow wr u3.heap.size t8 (tk (fW ps dx dy) k)) ∧ Hid (PtRow wr u3.heap.size t9 (tk (fN ps) k)) ∧ Hid (t7.ownBlock ≠ t8.ownBlock ∧ t7.ownBlock ≠ t9.ownBlock ∧ t8.ownBlock ≠ t9.ownBlock) ∧ Hid ((∃ g, t7.ownBlock = some g) ∧ (∃ g, t8.ownBlock = some g) ∧ (∃ g, t9.ownBlock = some g)) ∧ Hid (Below u3.heap.size u3 wr)) (fun _ _ _ ti _ => ps.length - (intOf ti).toNat)
  case atStart =>
    refine ⟨0, rfl, Nat.zero_le _, HR1, HR2, HR3, ?_, ?_, HB⟩
    · show _ ∧ _ ∧ _
      simp [Value.ownBlock]
      omega
    · exact ⟨⟨_, rfl⟩, ⟨_, rfl⟩, ⟨_, rfl⟩⟩
  case round =>
    obtain ⟨k, rfl, hk, R7, R8, R9, NE, OB, BE⟩ := hrel
    by_cases hlt : k < ps.length
    · obtain ⟨b, off, rfl, hbs, hp⟩ : ∃ b off, ao = some ⟨b, off, none⟩ ∧ b < u3.heap.size ∧ PtsAt u3 b off ps := by
        rcases hp1.out with h | h
        · rw [h] at hlt; simp at hlt
        · exact h
      have hpw := hp.below hbs BE.out
      obtain ⟨c0, c1⟩ := hpw (ps.length - 1 - k) (by omega)
      obtain ⟨d0, d1⟩ := hpw k hlt
      obtain ⟨e0, e1⟩ := hpw ((k + 1) % ps.length) (Nat.mod_lt _ (by omega))
      have hq : ((ps.length - 1 - k : Nat) : Int) = (ps.length : Int) - 1 - (k : Int) := by omega
      have hq2 : (((k + 1) % ps.length : Nat) : Int) = ((k : Int) + 1) % (ps.length : Int) := by simp
      have n7 : tk (fR ps) (k + 1) = tk (fR ps) k ++ [((ps.getD (ps.length - 1 - k) (0, 0)).1, (ps.getD (ps.length - 1 - k) (0, 0)).2)] := tk_next _ _
      have n8 : tk (fW ps dx dy) (k + 1) = tk (fW ps dx dy) k ++ [(IntKind.i64.wrap ((ps.getD k (0, 0)).1 + dx), IntKind.i64.wrap ((ps.getD k (0, 0)).2 + dy))] := tk_next _ _
      have n9 : tk (fN ps) (k + 1) = tk (fN ps) k ++ [((ps.getD ((k + 1) % ps.length) (0, 0)).1, (ps.getD ((k + 1) % ps.length) (0, 0)).2)] := tk_next _ _
      have N7 := hid n7
      have N8 := hid n8
      have N9 := hid n9
      clear n7 n8 n9 hp hpw
      generalize (ps.getD (ps.length - 1 - k) (0, 0)).1 = x1 at *
      generalize (ps.getD (ps.length - 1 - k) (0, 0)).2 = y1 at *
      generalize (ps.getD k (0, 0)).1 = x2 at *
      generalize (ps.getD k (0, 0)).2 = y2 at *
      generalize (ps.getD ((k + 1) % ps.length) (0, 0)).1 = x3 at *
      generalize (ps.getD ((k + 1) % ps.length) (0, 0)).2 = y3 at *
      have hm1 : ps.length - 1 - k < ps.length := by omega
      have hm3 : (k + 1) % ps.length < ps.length := Nat.mod_lt _ (by omega)
      generalize hg1 : ps.length - 1 - k = m1 at *
      generalize hg3 : (k + 1) % ps.length = m3 at *
      have c1' : (k : Int) < (ps.length : Int) := by omega
      have hqs := hq.symm
      have hqs2 := hq2.symm
      clear hq hq2
      have hpe : ¬ ps = [] := by intro h; rw [h] at hlt; simp at hlt
      have hpl : ¬ (ps.length : Int) = 0 := by omega
      have hsz := BE.out.size
      have l7 := tk_len (fR ps) k
      have l8 := tk_len (fW ps dx dy) k
      have l9 := tk_len (fN ps) k
      have hown := R7.out
      unfold PtRow at hown
      rw [l7] at hown
      clear l7
      go_wp2_with (at_builtin; refine wpList_append_own_at _ rfl (.tmp 53) (.tmp 62) 37 rfl u3.heap.size 25 i0 _ 2 16 Try.underlying37 hi0 hz0 hz1 hz2 rfl (by decide) _ _ _ rfl (hown.alloc _) ⟨wr.heap.size, 0, none⟩ 1 1 [.int .i64 x1, .int .i64 y1] rfl rfl (World.news_of_block (cs := #[.int .i64 x1, .int .i64 y1]) (t := 25) (fr := (0, 0)) (heap_alloc_new wr _)) (by simp [Value.oneCell']) (by unfold maxLen; omega) (by omega) (by simp; omega) ?_; intro v7 s1 hown7 hgrow7 _ hat7)
      have hvb : some b ≠ u7.ownBlock := fun e => absurd (World.ownsRow.lt R7.out b e.symm).1 (by omega)
      have hvb8 : some b ≠ u8.ownBlock := fun e => absurd (World.ownsRow.lt R8.out b e.symm).1 (by omega)
      have hvb9 : some b ≠ u9.ownBlock := fun e => absurd (World.ownsRow.lt R9.out b e.symm).1 (by omega)
      replace d0 := hgrow7.cell (keepalloc d0 _) hvb
      replace d1 := hgrow7.cell (keepalloc d1 _) hvb
      replace e0 := hgrow7.cell (keepalloc e0 _) hvb
      replace e1 := hgrow7.cell (keepalloc e1 _) hvb
      have T7 : Hid (PtRow s1 u3.heap.size v7 (tk (fR ps) (k + 1))) := hid (by rw [N7.out]; exact row_self (by rw [tk_len]; exact hown7))
      obtain ⟨r8, ne78⟩ := row_other R8.out NE.out.1 hgrow7 hat7 (by simp) OB.out.2.1
      obtain ⟨r9, ne79⟩ := row_other R9.out NE.out.2.1 hgrow7 hat7 (by simp) OB.out.2.2
      have B1 : Hid (Below u3.heap.size u3 s1) := hid (bel_row (B := 0) BE.out R7.out hgrow7)
      have O7 := hid (own_at OB.out.1 hat7)
      have hsz1 := B1.out.size
      have hown8 := r8
      unfold PtRow at hown8
      rw [l8] at hown8
      have T8 := hid r8
      have T9 := hid r9
      have M78 := hid ne78
      have M79 := hid ne79
      clear r8 r9 ne78 ne79 hown7 hgrow7 hat7 c0 c1 R7 BE l8 hvb hown
      go_region_held3 (fun w' => w'.cell? ⟨b, off + k * 2, none⟩ = some (.int .i64 x2) ∧ w'.cell? ⟨b, off + k * 2 + 1, none⟩ = some (.int .i64 y2)) ((go_split_ands; (repeat' apply And.intro) <;> (repeat (first | with_reducible assumption | with_reducible refine keepdrew ?_ | with_reducible refine keepalloc ?_ _ | (refine hgrow8.cell ?_ hvb8)))))
        ((refine step_append_lies _ (by rfl) _ _ _ (by rfl) u3.heap.size 25 i0 _ 2 16 Try.underlying37 hi0 hz0 hz1 hz2 rfl (by omega) _ k (flat2 (tk (fW ps dx dy) k)) (by rfl) ((hown8.alloc _).drew) ⟨s1.heap.size, 0, none⟩ 1 1 [.int .i64 (IntKind.i64.wrap (x2 + dx)), .int .i64 (IntKind.i64.wrap (y2 + dy))] (by rfl) (by rfl) (World.news_of_block (cs := #[.int .i64 (IntKind.i64.wrap (x2 + dx)), .int .i64 (IntKind.i64.wrap (y2 + dy))]) (t := 25) (fr := (0, 0)) (heap_alloc_new s1 _)) (by simp [Value.oneCell']) (by omega) (by unfold maxLen; omega) (by omega) (by simp; omega) (s1.heap.size + 1) (by simp) ?_; intro g8 cp8 s2 hown8' hgrow8 hat8 hlt8))
      have hg8 := undrew hgrow8
      have hat8' : (Value.slice (some ⟨g8, 0, none⟩) (k + 1) cp8).ownBlock = u8.ownBlock ∨ (Value.slice (some ⟨g8, 0, none⟩) (k + 1) cp8).ownBlock = some (s1.heap.size + 1) := by
        rcases hat8 with e | e
        · exact .inl e.symm
        · right; rw [e]; rfl
      replace e0 := hg8.cell (keepalloc e0 _) hvb8
      replace e1 := hg8.cell (keepalloc e1 _) hvb8
      have S8 : Hid (PtRow s2 u3.heap.size (.slice (some ⟨g8, 0, none⟩) (k + 1) cp8) (tk (fW ps dx dy) (k + 1))) := hid (by rw [N8.out]; exact row_self (by rw [tk_len]; exact hown8'))
      obtain ⟨r7, ne87⟩ := row_other T7.out (fun e => M78.out e.symm) hg8 hat8' (by omega) O7.out
      obtain ⟨r9, ne89⟩ := row_other T9.out NE.out.2.2 hg8 hat8' (by omega) OB.out.2.2
      have B2 : Hid (Below u3.heap.size u3 s2) := hid (bel_row (B := 0) B1.out T8.out hg8)
      have hsz2 := B2.out.size
      have hown9 := r9
      unfold PtRow at hown9
      rw [l9] at hown9
      have S7 := hid r7
      have S9 := hid r9
      have M87 := hid ne87
      have M89 := hid ne89
      have N79 := M79
      clear r7 r9 ne87 ne89 hown8' hgrow8 hg8 hat8 hat8' d0 d1 T7 T8 T9 B1 l9 hvb8 hown8 M79 M78
      go_wp2_with (at_builtin; refine wpList_append_own_at _ rfl (.tmp 82) (.tmp 91) 37 rfl u3.heap.size 25 i0 _ 2 16 Try.underlying37 hi0 hz0 hz1 hz2 rfl (by decide) _ _ _ rfl (hown9.alloc _) ⟨s2.heap.size, 0, none⟩ 1 1 [.int .i64 x3, .int .i64 y3] rfl rfl (World.news_of_block (cs := #[.int .i64 x3, .int .i64 y3]) (t := 25) (fr := (0, 0)) (heap_alloc_new s2 _)) (by simp [Value.oneCell']) (by unfold maxLen; omega) (by omega) (by simp; omega) ?_; intro v9 s3 hown9' hgrow9 _ hat9)
      have P9 : Hid (PtRow s3 u3.heap.size v9 (tk (fN ps) (k + 1))) := hid (by rw [N9.out]; exact row_self (by rw [tk_len]; exact hown9'))
      obtain ⟨r7, ne97⟩ := row_other S7.out (fun e => N79.out e.symm) hgrow9 hat9 (by simp) O7.out
      obtain ⟨r8, ne98⟩ := row_other S8.out (fun e => M89.out e.symm) hgrow9 hat9 (by simp) ⟨_, rfl⟩
      have B3 : Below u3.heap.size u3 s3 := bel_row (B := 0) B2.out S9.out hgrow9
      have O9 := own_at OB.out.2.2 hat9
      go_roundw
      case rel =>
        refine ⟨k + 1, by go_num, by omega, hid r7, hid r8, P9, hid ⟨fun e => M87.out e.symm, fun e => ne97 e.symm, fun e => ne98 e.symm⟩, hid ⟨O7.out, ⟨_, rfl⟩, O9⟩, hid B3⟩
      case measure => simp [intOf]; omega
    · obtain rfl : k = ps.length := by omega
      have c1 : (ps.length : Int) ≤ (ps.length : Int) := by omega
      obtain ⟨a7, c7, q7, w7, P7⟩ := R7.out.pts
      obtain ⟨a8, c8, q8, w8, P8⟩ := R8.out.pts
      obtain ⟨a9, c9, q9, w9, P9⟩ := R9.out.pts
      rw [tk_len] at q7 q8 q9 w7 w8 w9
      subst q7 q8 q9
      have hBW := btrans hB3 BE.out
      have HL := hid (hp1.out.below BE.out)
      have H7 := hid (P7)
      have H8 := hid (P8)
      have H9 := hid (P9)
      have J7 := hid (fun w (hw : Pts w a7 (tk (fR ps) ps.length)) => impl_Area2 a7 c7 (tk (fR ps) ps.length) w (by rw [tk_len]; omega) (by rw [tk_len]; exact w7) hw)
      have J8 := hid (fun w (hw : Pts w a8 (tk (fW ps dx dy) ps.length)) => impl_Area2 a8 c8 (tk (fW ps dx dy) ps.length) w (by rw [tk_len]; omega) (by rw [tk_len]; exact w8) hw)
      have J9 := hid (fun w (hw : Pts w a9 (tk (fN ps) ps.length)) => impl_Area2 a9 c9 (tk (fN ps) ps.length) w (by rw [tk_len]; omega) (by rw [tk_len]; exact w9) hw)
      clear R7 R8 R9 P7 P8 P9 NE OB BE HR1 HR2 HR3 HB
      generalize wr = V at *
      go_wp2_with fail
      go_loopw [13] (fun ti wr => ∃ k : Nat, ti = .int .i64 k ∧ k ≤ ps.length ∧ Hid (∀ j, j < k → pok (ps.getD j (0, 0)).1 (ps.getD j (0, 0)).2 = true ∧ pok (fW ps dx dy j).1 (fW ps dx dy j).2 = true) ∧ Hid (Below V.heap.size V wr)) (fun ti _ => ps.length - (intOf ti).toNat)
      case atStart => exact ⟨0, rfl, Nat.zero_le _, hid (fun j hj => by omega), hid (Below.refl _ _)⟩
      case round =>
        obtain ⟨k, rfl, hkn, HA, BW⟩ := hrel
        have hBX := btrans hBW BW.out
        by_cases hlt : k < ps.length
        · obtain ⟨b, off, rfl, hbs, hp⟩ : ∃ b off, ao = some ⟨b, off, none⟩ ∧ b < V.heap.size ∧ PtsAt V b off ps := by
            rcases HL.out with h | h
            · rw [h] at hlt; simp at hlt
            · exact h
          obtain ⟨b8, off8, rfl, hbs8, hp8⟩ : ∃ b off, a8 = some ⟨b, off, none⟩ ∧ b < V.heap.size ∧ PtsAt V b off (tk (fW ps dx dy) ps.length) := by
            rcases H8.out with h | h
            · have := congrArg List.length h; rw [tk_len] at this; simp at this; rw [this] at hlt; simp at hlt
            · exact h
          obtain ⟨d0, d1⟩ := hp.below hbs BW.out k hlt
          obtain ⟨f0, f1⟩ := hp8.below hbs8 BW.out k (by rw [tk_len]; exact hlt)
          rw [tk_getD _ _ _ hlt] at f0 f1
          clear hp hp8
          have hnext : pok (ps.getD k (0, 0)).1 (ps.getD k (0, 0)).2 = true → pok (fW ps dx dy k).1 (fW ps dx dy k).2 = true → ∀ j, j < k + 1 → pok (ps.getD j (0, 0)).1 (ps.getD j (0, 0)).2 = true ∧ pok (fW ps dx dy j).1 (fW ps dx dy j).2 = true := by
            intro h1 h2 j hj
            by_cases e : j = k
            · rw [e]; exact ⟨h1, h2⟩
            · exact HA.out j (by omega)
          have HN := hid hnext
          clear hnext
          generalize (ps.getD k (0, 0)).1 = x2 at d0 HN
          generalize (ps.getD k (0, 0)).2 = y2 at d1 HN
          generalize (fW ps dx dy k).1 = x3 at f0 HN
          generalize (fW ps dx dy k).2 = y3 at f1 HN
          have c2 : (k : Int) < (ps.length : Int) := by omega
          have hP1 := hid (fun w => spec_pointok_b x3 y3 w)
          have hP2 := hid (fun w => spec_pointok_b x2 y2 w)
          generalize pok x3 y3 = p3 at *
          generalize pok x2 y2 = p2 at *
          go_wp2_with fail
          refine (hP1.out _).mono ?_
          rintro e u4 ⟨rfl, hu4⟩
          replace d0 := keepcell hu4 d0
          replace d1 := keepcell hu4 d1
          cases p3
          · go_wp2_with fail
            go_ret
            exact ⟨rfl, btrans hBX hu4⟩
          · go_wp2_with fail
            refine (hP2.out _).mono ?_
            rintro e u5 ⟨rfl, hu5⟩
            cases p2
            · go_wp2_with fail
              go_ret
              exact ⟨rfl, btrans (btrans hBX hu4) hu5⟩
            · go_wp2_with fail
              go_roundw
              case rel => exact ⟨k + 1, by go_num, by omega, hid (HN.out (by simp) (by simp)), hid (btrans (btrans BW.out hu4) hu5)⟩
              case measure => simp [intOf]; omega
        · obtain rfl : k = ps.length := by omega
          obtain ⟨l1, l2, l3⟩ := Hl.out HA.out
          have K7 := J7.out
          have K8 := J8.out
          have K9 := J9.out
          rw [l1] at K7
          rw [l2] at K8
          rw [l3] at K9
          have G7 := hid K7
          have G8 := hid K8
          have G9 := hid K9
          have hr7 := hid (H7.out.below BW.out)
          have hr8 := hid (H8.out.below BW.out)
          have hr9 := hid (H9.out.below BW.out)
          have e7 := tk_len (fR ps) ps.length
          have e8 := tk_len (fW ps dx dy) ps.length
          have e9 := tk_len (fN ps) ps.length
          have E7 := hid e7
          have E8 := hid e8
          have E9 := hid e9
          clear K7 K8 K9 J7 J8 J9 H7 H8 H9 l1 l2 l3 HA e7 e8 e9
          go_wp2_with fail
          have A7 := G7.out wr hr7.out
          rw [E7.out] at A7
          refine A7.mono ?_
          rintro e u4 ⟨rfl, hu4⟩
          clear A7
          go_wp2_with fail
          have A8 := G8.out u4 (hr8.out.below hu4)
          rw [E8.out] at A8
          refine A8.mono ?_
          rintro e u5 ⟨rfl, hu5⟩
          clear A8
          go_wp2_with fail
          have A9 := G9.out u5 (hr9.out.below (btrans hu4 hu5))
          rw [E9.out] at A9
          refine A9.mono ?_
          rintro e u6 ⟨rfl, hu6⟩
          clear A9
          go_wp2_with fail
          go_ret
          exact ⟨rfl, btrans (btrans (btrans hBX hu4) hu5) hu6⟩
set_option maxRecDepth 100000 in
theorem lifted (os : Os) (started : os.Started) (H : Type) (enc : TypeId × Value → H) :
    ReturnsInHanded {} Try.checked os 6 .any (Rows.fnAreaSpec.pre6 enc Try.prog Try.f6 Rows.fnAreaRow.domain false) (Rows.fnAreaSpec.post enc Try.prog Try.f6 false true false false) := by
  refine returnsInHanded_of_change (C := Try.checked) own started (by kernel_rfl) Try.func6
    (ChangeSpec.witness6 (enc := enc) (C := Try.checked) false ⟨#[], #[.slice none 0 0], []⟩ 8 (by kernel_rfl) (by kernel_rfl) (by kernel_rfl) (by kernel_rfl)) ?_
  intro W base args ds gs before hval0 hW hcnd _
  have hval : ∀ (j : Nat) t v, Try.f6.params[j]? = some t → args[j]? = some v → Value.okWide Try.prog W .any base t v := hval0
  have hW' := hW
  obtain ⟨p, q, hA0, hV, rfl, hfz, hnd⟩ := hW
  have hA : DataW.TrodAll enc Try.prog W 0 (fun _ => true) true Try.f6.params.toList args.toList ds p := hA0
  rw [Try.params6] at hA hval
  obtain ⟨v0, vs0, d0, ds0, p0, q0, hargs, rfl, rfl, h0, r0⟩ := trodAll_cons hA
  obtain ⟨rfl, rfl, rfl⟩ := trodAll_nil r0
  obtain rfl : args = #[v0] := by cases args; simp_all
  obtain ⟨rfl, rfl⟩ := trodVars_none hV
  have k0 := h0
  have lt0 : ∀ x ∈ p0, x.block < W.heap.size := by obtain ⟨m, hm⟩ := k0; exact DataW.trod_lt m _ _ _ hm
  obtain ⟨a0, len0, cap0, rfl⟩ := okWide_slice Try.underlying22 (hval 0 22 v0 rfl rfl)
  obtain ⟨z0, w0⟩ : ∃ zs, IsRow .u8 W a0 len0 cap0 zs := by
    obtain ⟨fuel, hf⟩ := h0
    rcases open_ints Try.underlying22 Try.underlying5 (by kernel_rfl) hf with ⟨hcs, _⟩ | ⟨x, l, c, zs, hcs, _, hl, hm, hz, _, hcell, hwz⟩
    · simp [Value.cells] at hcs
      obtain ⟨rfl, rfl, rfl⟩ := hcs
      exact ⟨[], .inl ⟨rfl, rfl, rfl, rfl⟩⟩
    · simp [Value.cells] at hcs
      obtain ⟨rfl, rfl, rfl⟩ := hcs
      exact ⟨zs, .inr ⟨_, rfl, hl, hm, by simpa using hz, hcell, hwz⟩⟩
  clear hA0 hval0
  refine (walk a0 len0 cap0 z0 W w0).mono fun e W' ⟨he, bel⟩ => ?_
  subst he
  exact ⟨_, rfl, _, _, _, [], _, [], hW', trodAll_mk1 (shut_bool Try.underlying4 _), (trodAll_cons_mk (Below.trod laidOut (by kernel_rfl) (of_decide_eq_true (by kernel_rfl)) k0 bel lt0) trodAll_mk0), rfl, bel.frame _, fun h => by cases h⟩
theorem band {a b : Bool} (h1 : a = true) (h2 : b = true) : (a && b) = true := by rw [h1, h2]; rfl
set_option maxRecDepth 100000 in
theorem q1 : (Rows.fnAreaRow.wf (OpenSpec.ofChange Rows.fnAreaSpec)) = true := by kernel_rfl
set_option maxRecDepth 100000 in
theorem q2 : (laidOutB Try.pinned.checked.prog) = true := sh2
set_option maxRecDepth 100000 in
theorem q3 : (mapsRowed Try.pinned.checked.prog) = true := sh3
set_option maxRecDepth 100000 in
theorem q4 : (Try.f6.params.all (Try.pinned.checked.prog.readableRec ·)) = true := by kernel_rfl
set_option maxRecDepth 100000 in
theorem q5 : (namedTie Try.pinned.checked.prog Rows.fnAreaRow.named Rows.fnAreaSpec.vars) = true := by kernel_rfl
set_option maxRecDepth 100000 in
theorem q6 : ((Rows.fnAreaRow.stops == [])) = true := by kernel_rfl
set_option maxRecDepth 100000 in
theorem q7 : ((Try.pinned.checked.prog.stops == [])) = true := sh7
set_option maxRecDepth 100000 in
theorem q8 : ((Rows.fnAreaRow.knobs == [])) = true := by kernel_rfl
set_option maxRecDepth 100000 in
theorem q9 : ((Try.pinned.checked.prog.stopKnobs == [])) = true := sh9
set_option maxRecDepth 100000 in
theorem q10 : ((Rows.fnAreaRow.inPlace == Try.pinned.checked.prog.inPlace 6)) = true := by kernel_rfl
set_option maxRecDepth 100000 in
theorem q11 : ((Rows.fnAreaRow.unfollowed == Try.pinned.checked.prog.unfollowed 6)) = true := by kernel_rfl
set_option maxRecDepth 100000 in
theorem q12 : ((Rows.fnAreaRow.recurses == Try.pinned.checked.prog.recurses 6)) = true := by kernel_rfl
set_option maxRecDepth 100000 in
theorem q13 : ((Rows.fnAreaRow.named == Try.pinned.checked.prog.varsNamed 6)) = true := by kernel_rfl
set_option maxRecDepth 100000 in
theorem q14 : ((Rows.fnAreaRow.maps == (Try.f6.params.toList ++ Rows.fnAreaSpec.plain.varTypes Try.pinned.checked.prog).any (Try.pinned.checked.prog.mapsRec ·))) = true := by kernel_rfl
set_option maxRecDepth 100000 in
theorem q15 : ((Rows.fnAreaRow.ifaces == (Try.f6.params.toList ++ Rows.fnAreaSpec.plain.varTypes Try.pinned.checked.prog).any (Try.pinned.checked.prog.ifacesRec ·))) = true := by kernel_rfl
set_option maxRecDepth 100000 in
theorem q16 : ((Rows.fnAreaRow.mapsOut == Try.pinned.checked.prog.mapsAmong Try.f6.resultTypes.toList)) = true := by kernel_rfl
set_option maxRecDepth 100000 in
theorem q17 : ((Rows.fnAreaRow.loops == (Try.f6.params.toList ++ Rows.fnAreaSpec.plain.varTypes Try.pinned.checked.prog).any (Try.pinned.checked.prog.loopsFrom ·))) = true := by kernel_rfl
set_option maxRecDepth 100000 in
theorem q18 : ((Rows.fnAreaRow.wideKeys == (Try.f6.params.toList ++ Rows.fnAreaSpec.plain.varTypes Try.pinned.checked.prog ++ Try.f6.resultTypes.toList).any (Try.pinned.checked.prog.wideKeysFrom ·))) = true := by kernel_rfl
set_option maxRecDepth 100000 in
theorem q19 : (Rows.fnAreaSpec.vars.all (Try.pinned.checked.prog.varReadable ·)) = true := by kernel_rfl
set_option maxRecDepth 100000 in
theorem q20 : (Try.f6.resultTypes.all (fun t => Try.pinned.checked.prog.readableRec t && decide (t < Try.pinned.checked.prog.types.size))) = true := by kernel_rfl
set_option maxRecDepth 100000 in
theorem q21 : ((Rows.fnAreaRow.ifacesOut == Try.f6.resultTypes.toList.any (Try.pinned.checked.prog.ifacesRec ·))) = true := by kernel_rfl
set_option maxRecDepth 100000 in
theorem q22 : ((Rows.fnAreaRow.loopsOut == Try.f6.resultTypes.toList.any (Try.pinned.checked.prog.loopsFrom ·))) = true := by kernel_rfl
set_option maxRecDepth 100000 in
theorem q23 : ((Rows.fnAreaRow.plainKeys == Try.pinned.checked.prog.plainKeys)) = true := sh23
set_option maxRecDepth 100000 in
theorem q24 : (Rows.fnAreaRow.shortTexts.isNone) = true := by kernel_rfl
set_option maxRecDepth 100000 in
theorem q25 : (Try.pinned.checked.prog.stopsHeard) = true := sh25
set_option maxRecDepth 100000 in
theorem q26 : (Try.pinned.checked.prog.mayEnter) = true := sh26
set_option maxRecDepth 100000 in
theorem q27 : ((Rows.fnAreaRow.lifted == Try.pinned.checked.prog.liftsFinal)) = true := sh27
set_option maxRecDepth 100000 in
theorem q28 : ((Try.pinned.checked.prog.make == some Rows.fnAreaRow.make)) = true := sh28
set_option maxRecDepth 100000 in
theorem q29 : ((Rows.fnAreaRow.kinds == (if Rows.fnAreaRow.domain.isEmpty then [] else Try.f6.params.toList.map fun t => match Try.pinned.checked.prog.underlying t with | some (.int k) => some k | _ => none))) = true := by kernel_rfl
set_option maxRecDepth 100000 in
theorem q30 : ((Rows.fnAreaRow.pinned == Rows.fnAreaRow.pinnedBy)) = true := by kernel_rfl
set_option maxRecDepth 100000 in
theorem q31 : ((Rows.fnAreaRow.veiled == (Try.f6.params.toList ++ Rows.fnAreaSpec.plain.varTypes Try.pinned.checked.prog ++ Try.f6.resultTypes.toList).any (Try.pinned.checked.prog.veiledRec ·))) = true := by kernel_rfl
set_option maxRecDepth 100000 in
theorem q32 : (Rows.fnAreaRow.veiledFits Try.pinned.checked.prog Try.f6.params.toList (Try.f6.params.toList ++ Rows.fnAreaSpec.plain.varTypes Try.pinned.checked.prog ++ Try.f6.resultTypes.toList)) = true := by kernel_rfl
set_option maxRecDepth 100000 in
theorem closed : joinedFacts Try.pinned.checked.prog 6 Try.f6 Rows.fnAreaSpec Rows.fnAreaRow = true := by
  unfold joinedFacts
  exact (band (band (band (band (band (band (band (band (band (band (band (band (band (band (band (band (band (band (band (band (band (band (band (band (band (band (band (band (band (band (band q1 q2) q3) q4) q5) q6) q7) q8) q9) q10) q11) q12) q13) q14) q15) q16) q17) q18) q19) q20) q21) q22) q23) q24) q25) q26) q27) q28) q29) q30) q31) q32)
set_option maxRecDepth 100000 in
theorem over : Rows.fnAreaRow.holds Try.pinned (OpenSpec.ofChange Rows.fnAreaSpec) :=
  OpenClaim.holds_of_wide 6 Try.f6 rfl rfl rfl rfl rfl rfl rfl ⟨rfl, rfl, rfl, rfl, rfl⟩ rfl rfl rfl rfl rfl (by kernel_rfl) Try.func6 closed
    (of_decide_eq_true (by kernel_rfl)) (by unfold Func.isWrapper; first | (rw [if_pos (by decide +kernel)]; kernel_rfl) | (rw [if_neg (by decide +kernel)]; exact ⟨rfl, rfl⟩))
    (fun os started H enc _ => lifted os started H enc)
end Go.Proofs.Ytkncdncpgjpemaa.fnArea
namespace Go.Proofs.Ytkncdncpgjpemaa
theorem fnArea_holds : Rows.FnAreaSaid := fnArea.over
#print axioms fnArea_holds
end Go.Proofs.Ytkncdncpgjpemaa
