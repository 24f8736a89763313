/- Texts of stores, joined: Ca. -/
import Derived.Test.YtfjmbbjcghopgaaGreatDoorJ30
import Derived.Test.YtfjmbbjcghopgaaGreatDoorJ31
import Derived.Test.YtfjmbbjcghopgaaGreatDoorJ18
import Derived.Test.YtfjmbbjcghopgaaGreatDoorJ16
import Derived.Deep.RegionHeld3
import Derived.Lib.AppendZeros
namespace Go.Proofs.YtfjmbbjcghopgaaGreatDoor
open Go.RowKit
set_option linter.unusedSimpArgs false
set_option linter.unusedVariables false
/-- A shape that is none. -/
def zsh (kd : Int) (np : Nat) : Bool := decide (kd = 0) && decide (np = 0)
/-- A change that is right. -/
def cgb (x : Ch) : Bool := idb x.1 && (if x.2.1 = true then zsh x.2.2.1 x.2.2.2.length else shok x.2.2.1 x.2.2.2)
/-- Changes that are right. -/
def cgs (xs : List Ch) : Bool := xs.all cgb && decide (xs.map (fun x => x.1)).Nodup
def rids (xs : List Ch) : List Int := (xs.filter cgb).map (fun x => x.1)
theorem rids_len (xs : List Ch) : (rids xs).length ≤ xs.length := by
  unfold rids; rw [List.length_map]; exact List.length_filter_le _ _
theorem rids_next {xs : List Ch} {i : Nat} (h : i < xs.length) : rids (xs.take (i + 1)) = rids (xs.take i) ++ (if cgb xs[i] = true then [xs[i].1] else []) := by
  have e : xs.take (i + 1) = xs.take i ++ [xs[i]] := by rw [List.take_add_one, List.getElem?_eq_getElem h]; rfl
  unfold rids
  rw [e, List.filter_append, List.map_append]
  congr 1
  by_cases q : cgb xs[i] = true <;> simp [q]
theorem rids_cgs (xs : List Ch) : (Go.Lib.compact (srt (rids xs))).length = xs.length ↔ cgs xs = true := by
  have h1 := compact_le (srt (rids xs))
  rw [srt_len] at h1
  have h2 := rids_len xs
  unfold cgs
  rw [Bool.and_eq_true, decide_eq_true_eq, List.all_eq_true]
  constructor
  · intro h
    have h3 : (xs.filter cgb).length = xs.length := by unfold rids at h1 h2; rw [List.length_map] at h1 h2; unfold rids at h; omega
    have h4 := List.length_filter_eq_length_iff.1 h3
    have h5 : rids xs = xs.map (fun x => x.1) := by unfold rids; rw [List.filter_eq_self.2 h4]
    refine ⟨h4, ?_⟩
    rw [← h5]
    exact (compact_srt (rids xs)).1 (by omega)
  · rintro ⟨h4, hn⟩
    have h5 : rids xs = xs.map (fun x => x.1) := by unfold rids; rw [List.filter_eq_self.2 h4]
    rw [← h5] at hn
    rw [(compact_srt (rids xs)).2 hn, h5, List.length_map]
set_option maxHeartbeats 1000000 in
theorem impl_zsh (kd : Int) (a : Option Addr) (np cap : Nat) (w : World) : Calls Tryz.prog 104 #[.agg #[.int .i64 kd, .slice a np cap]] w fun e w' => e = .returned (.bool (zsh kd np)) ∧ Below w.heap.size w w' := by
  unfold zsh
  by_cases h : kd = 0
  · subst h
    by_cases h2 : np = 0
    · subst h2
      go_enter Tryz.func104, Tryz.ntmps104
      go_wp2_with fail
      go_ret
      exact ⟨by simp, balloc (Below.refl _ _) _⟩
    · have h3 : ¬ ((np : Int) = 0) := by omega
      go_enter Tryz.func104, Tryz.ntmps104
      go_wp2_with fail
      go_ret
      exact ⟨by simp [h2], balloc (Below.refl _ _) _⟩
  · go_enter Tryz.func104, Tryz.ntmps104
    go_wp2_with fail
    go_ret
    exact ⟨by simp [h], balloc (Below.refl _ _) _⟩
set_option maxRecDepth 100000 in
set_option maxHeartbeats 2000000 in
theorem impl_cgb (x : Ch) (a' : Option Addr) (cap' : Nat) (w : World) (hm : x.2.2.2.length ≤ 1099511627776) (hc : x.2.2.2.length ≤ cap') (h : Pts w a' x.2.2.2) : Calls Tryz.prog 89 #[chv x a' cap'] w fun e w' => e = .returned (.bool (cgb x)) ∧ Below w.heap.size w w' := by
  obtain ⟨id2, gn, kd, ps⟩ := x
  unfold chv
  simp only at *
  have HD := hid (show cgb (id2, gn, kd, ps) = (idb id2 && (if gn = true then zsh kd ps.length else shok kd ps)) from rfl)
  have HS := hid (fun (W : World) (hb : Below w.heap.size w W) => impl_ShapeOk kd a' cap' ps W hm hc (h.below hb))
  unfold shv at HS
  clear h
  generalize cgb (id2, gn, kd, ps) = cb at *
  generalize shok kd ps = sk at *
  generalize ps.length = np at *
  have hB : Below w.heap.size w (w.alloc (.cells #[.int .i64 id2, .bool gn, .int .i64 kd, .slice a' np cap'] 56)) := balloc (Below.refl _ _) _
  have g0 := new_alloc w w.heap.size (.cells #[.int .i64 id2, .bool gn, .int .i64 kd, .slice a' np cap'] 56) rfl
  go_enter Tryz.func89, Tryz.ntmps89
  go_upto_region 1 with fail
  generalize w.alloc (.cells #[.int .i64 id2, .bool gn, .int .i64 kd, .slice a' np cap'] 56) = W at *
  obtain ⟨⟨d0, d1, d2, d3⟩, _⟩ := cellk4 g0
  cases gn
  · go_wp2_with fail
    refine (impl_id id2 _).mono ?_
    rintro e z ⟨rfl, hz⟩
    replace hz := hz.symm
    subst hz
    cases hib : idb id2
    · have hq : cb = false := by rw [HD.out, hib]; rfl
      subst hq
      clear hib
      go_wp2_with fail
      go_ret
      exact ⟨rfl, hB⟩
    · have hq : cb = sk := by rw [HD.out, hib]; simp
      clear hib HD
      subst hq
      go_wp2_with fail
      refine (HS.out _ hB).mono ?_
      rintro e y ⟨rfl, hy⟩
      replace hB := btrans hB hy
      clear hy
      go_wp2_with fail
      go_ret
      exact ⟨rfl, hB⟩
  · go_wp2_with fail
    refine (impl_id id2 _).mono ?_
    rintro e z ⟨rfl, hz⟩
    replace hz := hz.symm
    subst hz
    cases hib : idb id2
    · have hq : cb = false := by rw [HD.out, hib]; rfl
      subst hq
      clear hib
      go_wp2_with fail
      go_ret
      exact ⟨rfl, hB⟩
    · have hq : cb = zsh kd np := by rw [HD.out, hib]; simp
      clear hib HD
      subst hq
      go_wp2_with fail
      refine (impl_zsh kd a' np cap' _).mono ?_
      rintro e y ⟨rfl, hy⟩
      replace hB := btrans hB hy
      clear hy
      go_wp2_with fail
      go_ret
      exact ⟨rfl, hB⟩
set_option maxRecDepth 100000 in
set_option maxHeartbeats 2000000 in
theorem cg_1 (x : Ch) (a' : Option Addr) (cap' : Nat) (w : World) (hm : x.2.2.2.length ≤ 1099511627776) (hc : x.2.2.2.length ≤ cap') (h : Pts w a' x.2.2.2) : Calls Tryz.prog 88 #[chv x a' cap'] w fun e w' => e = .returned (.tuple #[.int .i64 x.1, .bool (cgb x)]) ∧ Below w.heap.size w w' := by
  have HC := hid (fun (W : World) (hb : Below w.heap.size w W) => impl_cgb x a' cap' W hm hc (h.below hb))
  clear h
  obtain ⟨id2, gn, kd, ps⟩ := x
  unfold chv at *
  simp only at *
  generalize cgb (id2, gn, kd, ps) = cb at *
  generalize ps.length = np at *
  have hB : Below w.heap.size w (w.alloc (.cells #[.int .i64 id2, .bool gn, .int .i64 kd, .slice a' np cap'] 56)) := balloc (Below.refl _ _) _
  have g0 := new_alloc w w.heap.size (.cells #[.int .i64 id2, .bool gn, .int .i64 kd, .slice a' np cap'] 56) rfl
  go_enter Tryz.func88, Tryz.ntmps88
  go_upto_region 1 with fail
  generalize w.alloc (.cells #[.int .i64 id2, .bool gn, .int .i64 kd, .slice a' np cap'] 56) = W at *
  obtain ⟨⟨d0, d1, d2, d3⟩, _⟩ := cellk4 g0
  have HB := hid hB
  go_region_held3 (fun w' => w'.cell? ⟨w.heap.size, 0, none⟩ = some (.int .i64 id2) ∧ w'.cell? ⟨w.heap.size, 1, none⟩ = some (.bool gn) ∧ w'.cell? ⟨w.heap.size, 2, none⟩ = some (.int .i64 kd) ∧ w'.cell? ⟨w.heap.size, 3, none⟩ = some (.slice a' np cap')) ((go_split_ands; (repeat' apply And.intro) <;> (repeat (first | with_reducible assumption | with_reducible refine keepdrew ?_ | with_reducible refine keepcell (by with_reducible assumption) ?_ | with_reducible refine keepalloc ?_ _))))
    (first
      | (go_at_call 89; refine (HC.out _ (bdrew HB.out)).mono ?_; rintro e y ⟨rfl, hy⟩))
  go_wp2_with fail
  exact bodyPost_ret (v := .tuple #[.int .i64 id2, .bool cb]) (by simp [results, Tryz.results88, go_sem]) rfl ⟨rfl, by (repeat (first | with_reducible exact Below.refl _ _ | with_reducible assumption | (with_reducible refine btrans ?_ (by with_reducible assumption)) | with_reducible refine bdrew ?_ | with_reducible refine balloc ?_ _))⟩
set_option maxRecDepth 100000 in
set_option maxHeartbeats 4000000 in
theorem kept_cg {N : Nat → Prop} (a : Option Addr) (cap : Nat) (cs : List Ch) (w : World) (hm : cs.length ≤ 1099511627776) (h : Chs N 1099511627776 w a cs) : Calls Tryz.prog 87 #[.slice a cs.length cap, .func (.func 88) #[] #[]] w fun e w' => ∃ v, e = .returned v ∧ IRow w.heap.size w' v (rids cs) ∧ Below w.heap.size w w' := by
  obtain ⟨i0, hi0, hz0, hz1, hz2⟩ := info_parts Tryz.infoI
  have HR := hid h
  clear h
  have hmk := make_ints cs.length hm
  obtain ⟨n, hn⟩ : ∃ n, n = cs.length := ⟨_, rfl⟩
  have HN := hid hn.symm
  rw [← hn] at hm hmk ⊢
  clear hn
  have hB0 : Below w.heap.size w (w.alloc (.cells (madeCells #[.int .i64 0] n) 3)) := balloc (Below.refl _ _) _
  have HI : Hid (IRow w.heap.size (w.alloc (.cells (madeCells #[.int .i64 0] n) 3)) (.slice (some ⟨w.heap.size, 0, none⟩) 0 n) []) := hid (by
    have := World.ownsRow_made (base := w.heap.size) (e := 3) (size := 1) w (madeCells #[.int .i64 0] n) n (Nat.le_refl _) (by unfold maxLen; omega) (by rw [size_madeCells, Nat.mul_one])
    exact ⟨w.heap.size, n, rfl, by simp, Nat.zero_le _, by simpa [fli] using this⟩)
  go_enter Tryz.func87, Tryz.ntmps87
  go_upto_region 2 with fail
  generalize w.alloc (.cells (madeCells #[.int .i64 0] n) 3) = W0 at *
  clear hmk
  go_wp2_with fail
  go_loopw [5, 15] (fun tv ti wr => ∃ i : Nat, ti = .int .i64 i ∧ i ≤ n ∧ Hid (IRow w.heap.size wr tv (rids (cs.take i))) ∧ Hid (Below w.heap.size w wr)) (fun _ ti _ => n - (intOf ti).toNat)
  case atStart => exact ⟨0, rfl, Nat.zero_le _, HI, hid hB0⟩
  case round =>
    clear HI hB0
    obtain ⟨i, rfl, hi, HV, HBW⟩ := hrel
    by_cases hlt : i < n
    · have d1 : (i : Int) < (n : Int) := by omega
      have hir : i < cs.length := by rw [HN.out]; exact hlt
      obtain ⟨b, o, rfl, hbs, a', cap', k0, k1, k2, k3, k4, k5, k6, _⟩ := (HR.out.below HBW.out).at i hir
      have hbx : Below wr.heap.size wr (wr.alloc (.cells #[.int .i64 cs[i].1, .bool cs[i].2.1, .int .i64 cs[i].2.2.1, .slice a' cs[i].2.2.2.length cap'] 56)) := balloc (Below.refl _ _) _
      have HX := hid (rids_next hir)
      have hil : (rids (cs.take i)).length ≤ i := by have := rids_len (cs.take i); simp at this; omega
      have HT := hid (fun (W : World) (hb : Below wr.heap.size wr W) => cg_1 cs[i] a' cap' W k5 k4 (k6.below hb))
      unfold chv at HT
      clear k4 k5 k6
      generalize cgb cs[i] = cb at *
      generalize cs[i].1 = id2 at *
      generalize cs[i].2.1 = gn at *
      generalize cs[i].2.2.1 = kd at *
      generalize cs[i].2.2.2.length = np at *
      generalize rids (cs.take i) = zs at *
      obtain ⟨g, c, rfl, hgl, hgc, hown⟩ := HV.out
      have HO := hid hown
      clear hown HV
      go_upto_region 5 with fail
      have gx := new_alloc wr wr.heap.size (.cells #[.int .i64 id2, .bool gn, .int .i64 kd, .slice a' np cap'] 56) rfl
      have HI1 := hid ((irow_of HO.out rfl).below hbx)
      have HB1 := hid (btrans HBW.out hbx)
      have HT1 := hid (HT.out _ hbx)
      clear k0 k1 k2 k3 hbx HT
      generalize wr.alloc (.cells #[.int .i64 id2, .bool gn, .int .i64 kd, .slice a' np cap'] 56) = W1 at *
      generalize wr.heap.size = X at *
      obtain ⟨⟨x0, x1, x2, x3⟩, _⟩ := cellk4 gx
      clear gx
      go_wp2_with fail
      refine HT1.out.mono ?_
      rintro e z ⟨rfl, hz⟩
      have HBz := hid (btrans HB1.out hz)
      have HIz := hid (HI1.out.below hz)
      clear hz x0 x1 x2 x3 HT1 HI1 HB1
      cases cb
      · have HV2 : Hid (IRow w.heap.size z (.slice (some ⟨g, 0, none⟩) zs.length c) (rids (cs.take (i + 1)))) := hid (by rw [HX.out]; simpa using HIz.out)
        go_wp2_with fail
        go_roundw
        case rel => exact ⟨i + 1, by go_num, by omega, HV2, HBz⟩
        case measure => simp [intOf]; omega
      · have HX2 : Hid (rids (cs.take (i + 1)) = zs ++ [id2]) := hid (by rw [HX.out]; simp)
        obtain ⟨g', c', e', hgl', hgc', hown'⟩ := HIz.out
        cases e'
        have hzw := HBz.out.size
        clear HX HIz
        go_wp2_with (at_builtin; refine wpList_append_lies _ rfl (.tmp 26) (.tmp 28) 134 rfl w.heap.size 3 i0 _ 1 8 Tryz.underlying134 hi0 hz0 hz1 hz2 rfl (by decide) _ _ _ rfl (hown'.alloc _) ⟨z.heap.size, 0, none⟩ 1 1 [.int .i64 id2] rfl rfl (World.news_of_block (cs := #[.int .i64 id2]) (t := 3) (fr := (0, 0)) (heap_alloc_new z _)) (by simp [Value.oneCell']) (by omega) (by unfold maxLen; omega) (by omega) (by simp; omega) (z.heap.size + 1) (by simp) ?_; intro gg cp w2 hown2 hgrow hat hlt2)
        go_roundw
        case rel =>
          refine ⟨i + 1, by go_num, by omega, hid ?_, hid ?_⟩
          · rw [HX2.out]
            exact irow_of (by simpa [fli] using hown2) (by simp)
          · exact Below.grown (balloc HBz.out _) hgrow (by simp; omega) (fun k e => (hown'.lt k e).1)
        case measure => simp [intOf]; omega
    · have d1 : (n : Int) ≤ (i : Int) := by omega
      have hin : i = cs.length := by have := HN.out; omega
      have HF : Hid (IRow w.heap.size wr u5 (rids cs)) := hid (by have := HV.out; rw [hin, List.take_length] at this; exact this)
      clear hin HV
      go_wp2_with fail
      go_ret
      exact ⟨_, rfl, HF.out, HBW.out⟩
set_option maxRecDepth 100000 in
set_option maxHeartbeats 4000000 in
theorem impl_cgs {N : Nat → Prop} (a : Option Addr) (cap : Nat) (cs : List Ch) (w : World) (hm : cs.length ≤ 1099511627776) (h : Chs N 1099511627776 w a cs) : Calls Tryz.prog 70 #[.slice a cs.length cap] w fun e w' => e = .returned (.bool (cgs cs)) ∧ Below w.heap.size w w' := by
  have HK := hid (kept_cg a cap cs w hm h)
  have HCS := hid (rids_cgs cs)
  have hTl : (rids cs).length ≤ 1099511627776 := Nat.le_trans (rids_len cs) hm
  clear h
  generalize cgs cs = sk at *
  generalize rids cs = T at *
  generalize cs.length = m at *
  go_enter Tryz.func70, Tryz.ntmps70
  go_wp2_with fail
  refine HK.out.mono ?_
  rintro e y ⟨v, rfl, hv, hy⟩
  obtain ⟨g, c, rfl, hgl, hgc, hown⟩ := hv
  have hgB : w.heap.size ≤ g := (hown.lt g rfl).1
  have HS := hid (sort_ids w.heap.size g c T y hTl hgl hown)
  have hB := hy
  clear hy hown HK
  go_wp2_with fail
  refine HS.out.mono ?_
  rintro e z ⟨rfl, hoz, hgz⟩
  have hB2 := bgrown hB hgz hgB
  have hsl : (srt T).length = T.length := srt_len T
  have HC := hid (compact_c g c (srt T) z (by omega) (by omega) hoz)
  rw [hsl] at HC
  clear HS hoz hgz hsl
  generalize (Go.Lib.compact (srt T)).length = cl at *
  generalize T.length = tl at *
  go_wp2_with fail
  refine HC.out.mono ?_
  rintro e x ⟨rfl, hgx⟩
  have hB3 := bgrown hB2 hgx hgB
  clear hgx HC
  cases sk
  · have hcl : ¬ ((cl : Int) = (m : Int)) := fun q => by have := HCS.out.1 (by omega); cases this
    go_wp2_with fail
    go_ret
    exact ⟨by first | rfl | simp [hcl], hB3⟩
  · have hcl := HCS.out.2 rfl
    subst hcl
    go_wp2_with fail
    go_ret
    exact ⟨by first | rfl | simp, hB3⟩
end Go.Proofs.YtfjmbbjcghopgaaGreatDoor
