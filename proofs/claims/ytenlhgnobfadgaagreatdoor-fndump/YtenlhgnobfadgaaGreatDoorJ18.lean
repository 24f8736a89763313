/- Texts of stores, joined: Bi, Bc. -/
import Derived.Test.YtenlhgnobfadgaaGreatDoorText
import Derived.Shelf.Strings.BuilderK
set_option maxRecDepth 100000
set_option maxHeartbeats 4000000
set_option linter.unusedSimpArgs false
set_option linter.unusedVariables false
namespace Go.Proofs.YtenlhgnobfadgaaGreatDoor
open Go.RowKit Go.Shelf
def nlT : ByteArray := ⟨#[10]⟩
def dmT (rs : List Rw) (t : Int) (ids : List Int) : Nat → ByteArray
 | 0 => ⟨#[]⟩
 | i + 1 => dmT rs t ids i ++ ia (ids.getD i 0) ++ spc ++ txv (raK (rat rs (ids.getD i 0) t)) (raP (rat rs (ids.getD i 0) t)) ++ nlT
theorem idsb_id {now : Int} {rs : List Rw} {t id : Int} (h : id ∈ idsb now rs t) : 1 ≤ id ∧ id ≤ 999999999 := by
 unfold idsb at h
 split at h
 ·rename_i hr
  have h2 : id ∈ idsT rs t := (List.mergeSort_perm (idsT rs t) _).mem_iff.1 h
  unfold idsT at h2
  obtain ⟨r, h3, rfl⟩ := List.mem_map.1 h2
  have h4 := (List.mem_filter.1 h3).1
  unfold rowsb at hr
  simp only [Bool.and_eq_true, List.all_eq_true] at hr
  have h5 := hr.2.1 r h4
  unfold rowb rwb idb at h5
  simp only [Bool.and_eq_true, decide_eq_true_eq] at h5
  omega
 ·simp at h
theorem ia_sizeA {n : Int} (h0 : -9223372036854775808 ≤ n) (h1 : n ≤ 9223372036854775807) : (ia n).size ≤ 21 := by
 have := Lib.itoa_length_le n h0 h1
 simpa [ia, ByteArray.size] using this
theorem txv_size (k : Int) (ps : List (Int × Int)) : (txv k ps).size ≤ 2645 := by
 unfold txv
 split
 ·rename_i h
  obtain ⟨m, rfl, _, h6, ha⟩ := kind_nat h
  have := stx_size (k := (m : Int).toNat) (fun i hi => in_at ha i hi) ps.length (Nat.le_refl _)
  omega
 ·decide
theorem dmT_size {rs : List Rw} {t : Int} {ids : List Int} (h : ∀ id ∈ ids, 1 ≤ id ∧ id ≤ 999999999) : ∀ i, i ≤ ids.length → (dmT rs t ids i).size ≤ i * 2668
 | 0, _ => by show (ByteArray.mk #[]).size ≤ 0 * 2668; decide
 | i + 1, hi => by
  have ih := dmT_size (rs := rs) (t := t) h i (by omega)
  have hl : i < ids.length := by omega
  have hg : ids.getD i 0 ∈ ids := by
   rw [List.getD_eq_getElem?_getD, List.getElem?_eq_getElem hl]
   exact List.getElem_mem hl
  have a := ia_sizeA (n := ids.getD i 0) (by have := h _ hg; omega) (by have := h _ hg; omega)
  have b := txv_size (raK (rat rs (ids.getD i 0) t)) (raP (rat rs (ids.getD i 0) t))
  have c : spc.size = 1 := rfl
  have d : nlT.size = 1 := rfl
  simp only [dmT, ByteArray.size_append]
  omega
def ItoaA (w : World) : Prop := ∀ w', Below w.heap.size w w' → ∀ n : Int, -9223372036854775808 ≤ n → n ≤ 9223372036854775807 → Calls Tryz.prog 67 #[.int .i64 n] w' fun e w'' => e = .returned (.string (ia n)) ∧ Below w'.heap.size w' w''
theorem ItoaA.below {w w' : World} (h : ItoaA w) (hb : Below w.heap.size w w') : ItoaA w' := fun w'' h'' => h w'' (btrans hb h'')
theorem ItoaA.ok {w : World} (h : ItoaA w) : ItoaOk w := fun w' hb n hn => h w' hb n (by unfold In at hn; omega) (by unfold In at hn; omega)
theorem impl_decA (n : Int) (h0 : -9223372036854775808 ≤ n) (h1 : n ≤ 9223372036854775807) (w : World) (h : ItoaA w) : Calls Tryz.prog 31 #[.int .i64 n] w fun e w' => e = .returned (.string (ia n)) ∧ Below w.heap.size w w' := by
 have HI := hid (h w (Below.refl _ _) n h0 h1)
 clear h
 generalize ia n = s at *
 go_enter Tryz.func31, Tryz.ntmps31
 go_wp2_with fail
 refine HI.out.mono ?_
 rintro e w' ⟨rfl, hb⟩
 go_wp2_with fail
 go_ret
 exact ⟨rfl, hb⟩
theorem laysW : Go.Proofs.Lays.n166 Tryz.prog Tryz.lays156_ren := { Tryz.lays156 with }
theorem laysS : Go.Proofs.Lays.n169 Tryz.prog Tryz.lays156_ren := { Tryz.lays156 with }
abbrev Bu (B b : Nat) (l : List UInt8) (w : World) : Prop := Lib.IsBuilderF 62 5 B b (Lib.byteCells l) w
theorem write_s (B b : Nat) (l : List UInt8) (s : ByteArray) (w : World) (h : Bu B b l w) (hlen : l.length + s.size ≤ 140737488355328) (hBw : B ≤ w.heap.size) : Calls Tryz.prog 30 #[.pointer (some ⟨b, 0, none⟩), .string s] w fun e w' => e = .returned (.tuple #[.int .i64 s.size, .nilIface]) ∧ Bu B b (l ++ s.data.toList) w' ∧ Below B w w' ∧ Lib.OthersKept 5 (some b) w w' := by
 have hc := Any.Builder_WriteString_k laysW Tryz.Builder_Extra_156 B b (Lib.byteCells l) s w h (by rw [Lib.byteCells_length]; exact hlen) hBw
 refine hc.mono ?_
 rintro e w' ⟨h1, h2, h3, h4⟩
 refine ⟨h1, .inr ?_, h3, h4⟩
 have e1 : Lib.byteCells (l ++ s.data.toList) = Lib.byteCells l ++ Lib.strCells s := by simp [Lib.byteCells, Lib.strCells]
 rw [e1]
 exact h2
theorem string_s (B b : Nat) (l : List UInt8) (w : World) (h : Bu B b l w) (hBw : B ≤ w.heap.size) : Calls Tryz.prog 33 #[.pointer (some ⟨b, 0, none⟩)] w fun e w' => e = .returned (.string ⟨l.toArray⟩) ∧ Below B w w' := by
 have hc := Any.Builder_String_any_k laysS Tryz.Builder_Extra_156 B b l w h hBw
 refine hc.mono ?_
 rintro e w' ⟨h1, _, h3, _⟩
 exact ⟨h1, h3⟩
theorem Bu.below {B b : Nat} {l : List UInt8} {w w' : World} (h : Bu B b l w) (H : Below w.heap.size w w') : Bu B b l w' := by
 have one : ∀ p, Lib.BuilderAtF 62 5 B b p (Lib.byteCells l) w → Lib.BuilderAtF 62 5 B b p (Lib.byteCells l) w' := by
  intro p hp
  obtain ⟨h1, v, h2, h3, h4⟩ := hp
  refine ⟨h1, v, keepheap2 H h2, ⟨h3.1, ?_⟩, h4⟩
  rcases h3.2 with q | ⟨g, cap, cur, fz, q1, q2, q3, q4⟩
  ·exact .inl q
  ·exact .inr ⟨g, cap, cur, fz, q1, q2, keepheap2 H q3, q4⟩
 rcases h with h | h
 ·exact .inl (one _ h)
 ·exact .inr (one _ h)
theorem Bu.lt {B b : Nat} {l : List UInt8} {w : World} (h : Bu B b l w) : b < w.heap.size := by
 rcases h with h | h
 ·exact h.lt
 ·exact h.lt
def DW (w : World) (g : Nat) (ys : List El) (l : List UInt8) (wr : World) : Prop :=
 Bu w.heap.size (w.heap.size + 1) l wr ∧ (∃ cur fr, wr.heap[g]? = some (.cells cur 65 fr)) ∧ ElsAt wr g 0 ys ∧ Below w.heap.size w wr
theorem ElsAt.blkD {w w' : World} {b off : Nat} {xs : List El} (h : ElsAt w b off xs) (e : w'.heap[b]? = w.heap[b]?) : ElsAt w' b off xs := fun j hj => by
 have hc : ∀ k, w'.cell? ⟨b, k, none⟩ = w.cell? ⟨b, k, none⟩ := fun k => by simp only [World.cell?, e]
 rw [hc, hc, hc, hc, hc]
 exact h j hj
theorem DW.below {w : World} {g : Nat} {ys : List El} {l : List UInt8} {wr w' : World} (h : DW w g ys l wr) (H : Below wr.heap.size wr w') : DW w g ys l w' := by
 obtain ⟨h1, ⟨cur, fr, h2⟩, h3, h4⟩ := h
 exact ⟨h1.below H, ⟨cur, fr, keepheap2 H h2⟩, h3.blkD (H.block g (lt_of_block h2)), btrans h4 H⟩
theorem DW.write {w : World} {g : Nat} {ys : List El} {l l' : List UInt8} {wr w' : World} (h : DW w g ys l wr) (hg : g ≠ w.heap.size + 1) (h1 : Bu w.heap.size (w.heap.size + 1) l' w') (h2 : Below w.heap.size wr w') (h3 : Lib.OthersKept 5 (some (w.heap.size + 1)) wr w') : DW w g ys l' w' := by
 obtain ⟨_, ⟨cur, fr, k2⟩, k3, k4⟩ := h
 have e := h3 g _ k2 (by simp; exact hg) (fun c fz q => by injection q with _ q2; exact absurd q2 (by decide))
 exact ⟨h1, ⟨cur, fr, e⟩, k3.blkD (by rw [e, k2]), k4.trans h2⟩
theorem row_kept {w : World} {b k : Nat} {wr w' : World} {cs : Array Value} {fr : Nat × Nat} (h3 : Lib.OthersKept 5 (some b) wr w') (hk : wr.heap[k]? = some (.cells cs 65 fr)) (hne : k ≠ b) : w'.heap[k]? = some (.cells cs 65 fr) :=
 h3 k _ hk (by simp; exact hne) (fun c fz q => by injection q with _ q2; exact absurd q2 (by decide))
theorem dmT_next (rs : List Rw) (t : Int) (ids : List Int) (i : Nat) : (dmT rs t ids (i + 1)).data.toList = (dmT rs t ids i).data.toList ++ (ia (ids.getD i 0)).data.toList ++ spc.data.toList ++ (txv (raK (rat rs (ids.getD i 0) t)) (raP (rat rs (ids.getD i 0) t))).data.toList ++ nlT.data.toList := by
 simp only [dmT, ba_list]
theorem impl_Dump {N : Nat → Prop} (now : Int) (a : Option Addr) (cap : Nat) (rs : List Rw) (t : Int) (w : World) (hm : rs.length ≤ 1099511627776) (h : Rws N w a rs) (hit : ItoaA w) (hkw : KW w) : Calls Tryz.prog 12 #[.agg #[.int .i64 now, .slice a rs.length cap], .int .i64 t] w fun e w' => e = .returned (.string (dmT rs t (idsb now rs t) (idsb now rs t).length)) ∧ Below w.heap.size w w' := by
 have HTA := hid (fun (W : World) (hb : Below w.heap.size w W) => impl_thereAt now a cap rs t w W hm h hb)
 have HIL := hid (idsb_len now rs t)
 have HID := hid (fun (id : Int) (h : id ∈ idsb now rs t) => idsb_id h)
 have HIT := hid hit
 have HKW := hid hkw
 clear h hit hkw
 generalize idsb now rs t = ids at *
 generalize rs.length = n0 at *
 obtain ⟨res, hres⟩ : ∃ res, res = dmT rs t ids ids.length := ⟨_, rfl⟩
 rw [← hres]
 have HRES := hid hres
 clear hres
 go_enter Tryz.func12, Tryz.ntmps12
 go_upto_region 2 with fail
 have hBx : Below w.heap.size w ((w.alloc (.cells #[.int .i64 now, .slice a n0 cap] 32)).alloc (.cells #[.pointer none, .slice none 0 0] 62)) := balloc (balloc (Below.refl _ _) _) _
 have g0 := old_alloc (o' := .cells #[.pointer none, .slice none 0 0] 62) (new_alloc w w.heap.size (.cells #[.int .i64 now, .slice a n0 cap] 32) rfl)
 have g1 := new_alloc (w.alloc (.cells #[.int .i64 now, .slice a n0 cap] 32)) (w.heap.size + 1) (.cells #[.pointer none, .slice none 0 0] 62) (by simp)
 have hs0 : ((w.alloc (.cells #[.int .i64 now, .slice a n0 cap] 32)).alloc (.cells #[.pointer none, .slice none 0 0] 62)).heap.size = w.heap.size + 2 := by simp
 generalize (w.alloc (.cells #[.int .i64 now, .slice a n0 cap] 32)).alloc (.cells #[.pointer none, .slice none 0 0] 62) = W0 at *
 have HB0 : Hid (Bu w.heap.size (w.heap.size + 1) [] W0) := hid (.inl ⟨by omega, .slice none 0 0, g1, ⟨by simp [Lib.byteCells], .inl ⟨rfl, rfl⟩⟩, by simp [Value.ownBlock]⟩)
 obtain ⟨d0, d1, _, _⟩ := cell2r g0
 clear g0 g1
 go_wp2_with fail
 refine (HTA.out _ hBx).mono ?_
 rintro e W ⟨g, a', cap', ys, rfl, hcap, hids, ha', hgW, hgs, hE, hEL, hBW, hkd⟩
 have HBW := hid (HB0.out.below hBW)
 have HB1 := hid (btrans hBx hBW)
 have HKD := hid hkd
 have HE := hid hE
 have HEL := hid hEL
 have HIDS := hid hids
 have HA := hid ha'
 have hg1 : g ≠ w.heap.size + 1 := by omega
 clear hids ha' hE hEL hBW d0 d1 hBx HTA HB0 hkd hs0
 obtain ⟨n, hn⟩ : ∃ n, n = ys.length := ⟨_, rfl⟩
 have HN := hid hn.symm
 rw [← hn] at HA hcap HKD ⊢
 clear hn
 have hlen : n = ids.length := by have := congrArg List.length HIDS.out; rw [List.length_map, HN.out] at this; exact this
 have hnm : n ≤ 300 := by rw [hlen]; exact HIL.out
 have HLEN := hid hlen
 clear hlen
 have HDS := hid (fun i (hi : i ≤ ids.length) => dmT_size (rs := rs) (t := t) HID.out i hi)
 go_wp2_with fail
 go_loopw [12] (fun ti wr => ∃ i : Nat, ti = .int .i64 i ∧ i ≤ n ∧ Hid (Bu w.heap.size (w.heap.size + 1) (dmT rs t ids i).data.toList wr) ∧ Hid (0 < n → ∃ cur fr, wr.heap[g]? = some (.cells cur 65 fr)) ∧ Hid (0 < n → ElsAt wr g 0 ys) ∧ Hid (Below w.heap.size w wr)) (fun ti _ => n - (intOf ti).toNat)
 case atStart => exact ⟨0, rfl, Nat.zero_le _, HBW, HKD, hid (fun _ => HE.out), HB1⟩
 case round =>
  clear HBW HKD HE HB1
  obtain ⟨i, rfl, hi, HBU, HKD, HE, HB⟩ := hrel
  by_cases hlt : i < n
  ·have c1 : (i : Int) < (n : Int) := by omega
   have hiy : i < ys.length := by rw [HN.out]; exact hlt
   have hii : i < ids.length := by rw [← HLEN.out]; exact hlt
   have ea := HA.out (by omega)
   subst ea
   have HD : Hid (DW w g ys (dmT rs t ids i).data.toList wr) := hid ⟨HBU.out, HKD.out (by omega), HE.out (by omega), HB.out⟩
   obtain ⟨y0, y1, y2, y3, y4⟩ := HD.out.2.2.1 i hiy
   obtain ⟨e1, e2, e3, e4, e5, e6⟩ := HEL.out ys[i] (List.getElem_mem hiy)
   have eid : ys[i].1 = ids.getD i 0 := by have := HIDS.out; subst this; simp [hiy]
   have hidm : ids.getD i 0 ∈ ids := by
    rw [List.getD_eq_getElem?_getD, List.getElem?_eq_getElem hii]
    exact List.getElem_mem hii
   have hid1 := HID.out _ hidm
   rw [eid] at e1 e2 e3 e4 e5 e6 y0
   simp only [Nat.zero_add] at y0 y1 y2 y3 y4
   rw [e2] at y4
   rw [e1] at y3
   have HNX := hid (dmT_next rs t ids i)
   have hds : (dmT rs t ids i).data.toList.length ≤ i * 2668 := Nat.le_trans (Nat.le_of_eq Array.length_toList) (HDS.out i (by omega))
   have HTX := hid (fun (W : World) (hb : Below w.heap.size w W) => impl_ShapeText (raK (rat rs (ids.getD i 0) t)) ys[i].2.2.2.2.1 ys[i].2.2.2.2.2.2 (raP (rat rs (ids.getD i 0) t)) W e4 e3 (e5.below hb) (HIT.out.below hb).ok (HKW.out.below hb))
   have HDC := hid (fun (W : World) (hb : Below w.heap.size w W) => impl_decA (ids.getD i 0) (by omega) (by omega) W (HIT.out.below hb))
   have hia := ia_sizeA (n := ids.getD i 0) (by omega) (by omega)
   have htx := txv_size (raK (rat rs (ids.getD i 0) t)) (raP (rat rs (ids.getD i 0) t))
   unfold shv at HTX
   clear e1 e2 e3 e4 e5 e6 eid hidm hid1 HBU HKD HE HB
   generalize txv (raK (rat rs (ids.getD i 0) t)) (raP (rat rs (ids.getD i 0) t)) = tx at *
   generalize (raP (rat rs (ids.getD i 0) t)).length = np at *
   generalize raK (rat rs (ids.getD i 0) t) = kd at *
   generalize ia (ids.getD i 0) = ix at *
   generalize ids.getD i 0 = id1 at *
   generalize ys[i].2.1 = fr at *
   generalize ys[i].2.2.1 = te at *
   generalize ys[i].2.2.2.2.1 = a1 at *
   generalize ys[i].2.2.2.2.2.2 = cp at *
   generalize (dmT rs t ids i).data.toList = l0 at *
   go_upto_region 5 with fail
   have hal : Below wr.heap.size wr (wr.alloc (.cells #[.int .i64 id1, .int .i64 fr, .int .i64 te, .int .i64 kd, .slice a1 np cp] 65)) := balloc (Below.refl _ _) _
   have gx := new_alloc wr wr.heap.size (.cells #[.int .i64 id1, .int .i64 fr, .int .i64 te, .int .i64 kd, .slice a1 np cp] 65) rfl
   have hxb : wr.heap.size ≠ w.heap.size + 1 := by have := HD.out.1.lt; omega
   replace HD := hid (HD.out.below hal)
   clear hal y0 y1 y2 y3 y4
   generalize wr.alloc (.cells #[.int .i64 id1, .int .i64 fr, .int .i64 te, .int .i64 kd, .slice a1 np cp] 65) = Z at *
   generalize wr.heap.size = xb at *
   obtain ⟨⟨x0, x1, x2, x3, x4⟩, _⟩ := cell5g gx
   go_wp2_with fail
   refine (HDC.out _ HD.out.2.2.2).mono ?_
   rintro e z1 ⟨rfl, hz⟩
   replace HD := hid (HD.out.below hz)
   replace gx := keepheap2 hz gx
   clear hz x0 x1 x2 x3 x4
   have hBs := HD.out.2.2.2.size
   go_wp2_with fail
   refine (write_s w.heap.size (w.heap.size + 1) l0 ix _ HD.out.1 (by omega) hBs).mono ?_
   rintro e z2 ⟨rfl, hb2, hw2, ho2⟩
   replace HD := hid (HD.out.write hg1 hb2 hw2 ho2)
   replace gx := row_kept (w := w) ho2 gx hxb
   clear hb2 hw2 ho2 hBs
   have hBs := HD.out.2.2.2.size
   go_wp2_with fail
   refine (write_s w.heap.size (w.heap.size + 1) _ spc _ HD.out.1 (by simp; have : spc.size = 1 := rfl; have : spc.data.size = 1 := rfl; have : nlT.size = 1 := rfl; have : nlT.data.size = 1 := rfl; have : ix.data.size = ix.size := rfl; have : tx.data.size = tx.size := rfl; omega) hBs).mono ?_
   rintro e z3 ⟨rfl, hb2, hw2, ho2⟩
   replace HD := hid (HD.out.write hg1 hb2 hw2 ho2)
   replace gx := row_kept (w := w) ho2 gx hxb
   clear hb2 hw2 ho2 hBs
   obtain ⟨⟨x0, x1, x2, x3, x4⟩, _⟩ := cell5g gx
   go_wp2_with fail
   refine (HTX.out _ HD.out.2.2.2).mono ?_
   rintro e z4 ⟨rfl, hz⟩
   replace HD := hid (HD.out.below hz)
   clear hz x0 x1 x2 x3 x4 gx
   have hBs := HD.out.2.2.2.size
   go_wp2_with fail
   refine (write_s w.heap.size (w.heap.size + 1) _ tx _ HD.out.1 (by simp; have : spc.size = 1 := rfl; have : spc.data.size = 1 := rfl; have : nlT.size = 1 := rfl; have : nlT.data.size = 1 := rfl; have : ix.data.size = ix.size := rfl; have : tx.data.size = tx.size := rfl; omega) hBs).mono ?_
   rintro e z5 ⟨rfl, hb2, hw2, ho2⟩
   replace HD := hid (HD.out.write hg1 hb2 hw2 ho2)
   clear hb2 hw2 ho2 hBs
   have hBs := HD.out.2.2.2.size
   go_wp2_with fail
   refine (write_s w.heap.size (w.heap.size + 1) _ nlT _ HD.out.1 (by simp; have : spc.size = 1 := rfl; have : spc.data.size = 1 := rfl; have : nlT.size = 1 := rfl; have : nlT.data.size = 1 := rfl; have : ix.data.size = ix.size := rfl; have : tx.data.size = tx.size := rfl; omega) hBs).mono ?_
   rintro e z6 ⟨rfl, hb2, hw2, ho2⟩
   replace HD := hid (HD.out.write hg1 hb2 hw2 ho2)
   clear hb2 hw2 ho2 hBs
   rw [← HNX.out] at HD
   go_wp2_with fail
   go_roundw
   case rel => exact ⟨i + 1, by go_num, by omega, hid HD.out.1, hid (fun _ => HD.out.2.1), hid (fun _ => HD.out.2.2.1), hid HD.out.2.2.2⟩
   case measure => simp [intOf]; omega
  ·have c1 : (n : Int) ≤ (i : Int) := by omega
   have hin : i = ids.length := by have := HLEN.out; omega
   have HF : Hid ((⟨(dmT rs t ids i).data.toList.toArray⟩ : ByteArray) = res) := hid (by rw [HRES.out, hin])
   clear hin
   have hBs := HB.out.size
   go_wp2_with fail
   refine (string_s w.heap.size (w.heap.size + 1) _ _ HBU.out hBs).mono ?_
   rintro e z ⟨rfl, hz⟩
   rw [HF.out]
   go_wp2_with fail
   go_ret
   exact ⟨rfl, HB.out.trans hz⟩
end Go.Proofs.YtenlhgnobfadgaaGreatDoor
namespace Go.Proofs.YtenlhgnobfadgaaGreatDoor
open Go.RowKit
def RBc (w : World) (rk : Int) (rp : List (Int × Int)) (rb : Bool) (e : Ending) (w' : World) : Prop :=
 ∃ gq cq, e = .returned (.tuple #[.agg #[.int .i64 rk, .slice (some ⟨gq, 0, none⟩) rp.length cq], .bool rb]) ∧ rp.length ≤ cq ∧ w.heap.size ≤ gq ∧ gq < w'.heap.size ∧ Pts w' (some ⟨gq, 0, none⟩) rp ∧ Below w.heap.size w w'
theorem spec_rowB {N : Nat → Prop} (now : Int) (a : Option Addr) (cap : Nat) (rs : List Rw) (id t : Int) (w : World) (hm : rs.length ≤ 1099511627776) (h : Rws N w a rs) (hid2 : id ∈ idsb now rs t) : Calls Tryz.prog 42 #[.agg #[.int .i64 now, .slice a rs.length cap], .int .i64 id, .int .i64 t] w fun e w' => RBc w (raK (rat rs id t)) (raP (rat rs id t)) (rat rs id t).isSome e w' := by
 obtain ⟨hr, hs⟩ := idsb_row hid2
 refine (spec_row now a cap rs id t w hm h (fun m hm => (shok_aok (rowsb_sh hr hm)).2.1)).mono ?_
 rintro e w' ⟨a', cap', rfl, hc, ho, hn, hb⟩
 rcases ho with ⟨_, q⟩ | ⟨b, rfl, ho⟩
 ·have := (shok_aok hs).2.1
  rw [q] at this
  simp at this
 ·exact ⟨b, cap', rfl, hc, hn b 0 rfl, ho.1, ho.pts, hb⟩
def RQ (W : World) (rk : Int) (rp : List (Int × Int)) (tv : Value) (wx : World) : Prop :=
 ∃ ba gq cq, tv = .pointer (some ⟨ba, 0, none⟩) ∧ W.heap.size ≤ ba ∧ wx.heap[ba]? = some (.cells #[.int .i64 rk, .slice (some ⟨gq, 0, none⟩) rp.length cq] 48 (0, 0)) ∧ rp.length ≤ cq ∧ Pts wx (some ⟨gq, 0, none⟩) rp ∧ Below W.heap.size W wx ∧ W.heap.size ≤ gq ∧ gq < wx.heap.size ∧ ba ≠ gq
theorem rq_mk {W Z : World} {rk : Int} {rp : List (Int × Int)} {xb gq cq : Nat} (gX : Z.heap[xb]? = some (.cells #[.int .i64 0, .slice none 0 0] 48 (0, 0))) (hcq : rp.length ≤ cq) (hp : Pts Z (some ⟨gq, 0, none⟩) rp) (hne : xb ≠ gq) (hxb : W.heap.size ≤ xb) (hD : Below W.heap.size W Z) (hlo : W.heap.size ≤ gq) (hhi : gq < Z.heap.size) : RQ W rk rp (.pointer (some ⟨xb, 0, none⟩)) ((Z.setCell ⟨xb, 0, none⟩ (.int .i64 rk)).setCell ⟨xb, 1, none⟩ (.slice (some ⟨gq, 0, none⟩) rp.length cq)) := by
 refine ⟨xb, gq, cq, rfl, hxb, set2r gX _ _, hcq, ?_, bset (bset hD (q := xb) (k := 0) hxb _) (q := xb) (k := 1) hxb _, hlo, by simpa using hhi, hne⟩
 rcases hp with h | ⟨b, off, ea, hb, hp⟩
 ·exact .inl h
 ·cases ea
  refine .inr ⟨gq, 0, rfl, by simpa using hb, fun k hk => ?_⟩
  rw [World.cell?_setCell_far _ _ _ _ (by dsimp only; omega), World.cell?_setCell_far _ _ _ _ (by dsimp only; omega), World.cell?_setCell_far _ _ _ _ (by dsimp only; omega), World.cell?_setCell_far _ _ _ _ (by dsimp only; omega)]
  exact hp k hk
theorem IAt.blk {w w' : World} {b off : Nat} {zs : List Int} (h : IAt w b off zs) (e : w'.heap[b]? = w.heap[b]?) : IAt w' b off zs := fun k hk => by
 have hc : ∀ k, w'.cell? ⟨b, k, none⟩ = w.cell? ⟨b, k, none⟩ := fun k => by simp only [World.cell?, e]
 rw [hc]
 exact h k hk
theorem ids_blk {w : World} {a1 : Option Addr} {ids : List Int} (h : OwnI w a1 ids) (d : Nat) (hd : d < w.heap.size) : ∃ gi, (0 < ids.length → a1 = some ⟨gi, 0, none⟩) ∧ gi < w.heap.size ∧ IAt w gi 0 ids := by
 rcases h with ⟨rfl, rfl⟩ | ⟨b, rfl, hb, hi, _⟩
 ·exact ⟨d, fun h => absurd h (by simp), hd, fun k hk => absurd hk (by simp)⟩
 ·exact ⟨b, fun _ => rfl, hb, hi⟩
end Go.Proofs.YtenlhgnobfadgaaGreatDoor
