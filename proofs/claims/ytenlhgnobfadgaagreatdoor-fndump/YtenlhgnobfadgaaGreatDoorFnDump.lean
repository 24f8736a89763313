/- For every code, of what it draws: the landed Dump writes what the specification writes, byte for byte; Load of any text answers as the specification, change by change, and the same line; a dump of more than a hundred lines is refused at its line 101; else its lines, applied to an empty store, give a store that dumps alike, with as many lines as there were features; the words of the kinds, the tables and sentinels of the library and its errorType hold what their text lays. -/
import Derived.Test.YtenlhgnobfadgaaGreatDoorCards
import Derived.Test.YtenlhgnobfadgaaGreatDoorTie
import Derived.Test.YtenlhgnobfadgaaGreatDoorDo
import Derived.Test.YtenlhgnobfadgaaGreatDoorShelf5
import Derived.WalkKit
import Derived.Deep.DeepCutAuto
import Derived.ProofKit
import Derived.OpenShut
import Derived.ShutString
import Derived.ChangeOld
import Derived.Below
import Derived.Carry
import Derived.OpenVars
import Derived.Lib.SmallJoins
import Derived.Deep.SlicePairs
import Derived.Deep.DeepHandedRow
import Derived.Lib.LaidTab
import Derived.Deep.DeepWitnessRowRef
import Derived.Shelf.Strconv.ErrVarAll
import GoSem.PinnedTables
import Derived.LaidLaws
import Derived.LaidHandle
import Derived.LaidSub
import Derived.Lib.ConvBytes
import Derived.Lib.AtoiErrMem
import Derived.Stop.LaidErr
set_option linter.unusedSimpArgs false
set_option linter.unusedVariables false
namespace Go.Proofs.YtenlhgnobfadgaaGreatDoor.fnDump
open Go.ChangeShapes Go.WideShapes Go.ChangeAt Go.RowKit Go.Joins
theorem own : ownKnob Tryz.prog.godebug = none := by kernel_rfl
theorem laidOut : laidOutB Tryz.prog = true := by kernel_rfl
theorem below_more (w : World) (q : Nat) (os : Array Obj) : Below w.heap.size w (Sort.grow (w.drewN q) os) :=
 ⟨rfl, rfl, rfl, by simp [Sort.grow], fun i hi => by
  show ((w.drewN q).heap ++ os)[i]? = _
  rw [Array.getElem?_append_left (by show i < w.heap.size; omega)]
  rfl⟩
theorem var_below {w w' : World} {n : String} {g : Nat} {x : Array Value} (hg : Tryz.prog.globalNamed n = some g) (h : w.var? Tryz.prog n = some x) (hb : Below w.heap.size w w') : w'.var? Tryz.prog n = some x := by
 unfold World.var? at h ⊢
 simp only [hg, Option.bind_some] at h ⊢
 have hlt : g < w.heap.size := by
  rcases Nat.lt_or_ge g w.heap.size with h' | h'
  ·exact h'
  ·rw [Array.getElem?_eq_none h'] at h; simp at h
 rw [hb.block g hlt]
 exact h
theorem star : "*" ++ "errors.errorString" = "*errors.errorString" := by decide
theorem rowE (u : TypeId) (h : Tryz.prog.typeName? 3 u = some "*errors.errorString") : u = 256 :=
 typeName_ptr_named (nm := "errors.errorString") (by rw [star]; kernel_rfl) (by kernel_rfl) (by decide) u (by rw [star]; exact h)
theorem clone_all : CloneAll := fun x w1 hx => Any.stringslite_Clone Tryz.laysM316 x w1 hx
def l8 : List (String × DataW Unit) := [("math/bits.deBruijn32tab", Rows.laid_math_bits_deBruijn32tab), ("math/bits.deBruijn64tab", Rows.laid_math_bits_deBruijn64tab), ("internal/strconv.uint64pow10", Rows.laid_internal_strconv_uint64pow10), ("unicode/utf8.acceptRanges", Rows.laid_unicode_utf8_acceptRanges), ("strconv.ErrRange", Rows.laid_strconv_ErrRange), ("strconv.ErrSyntax", Rows.laid_strconv_ErrSyntax), ("loop.example/g00229/impl.kindWords", Rows.laid_loop_example_g00229_impl_kindWords), ("unicode/utf8.first", Rows.laid_unicode_utf8_first)]
theorem l8_eq : (Rows.fnDumpRow.laid.filter fun x => x.2.handleName?.isNone) = l8 := rfl
theorem data_of {W : World} (h : laidMetH Tryz.prog Rows.fnDumpRow.laid W) : laidMet Tryz.prog l8 W := (laidMetH_iff.1 h).1
theorem et : Tryz.prog.globalNamed "errors.errorType" = some 2 := by kernel_rfl
theorem rt : (Tryz.prog.cutTypes.find? (·.1 == "internal/reflectlite.rtype")).map (·.2) = some 235 := by kernel_rfl
theorem oneRow : ((List.range 312).filter fun t => Tryz.prog.rowNamed t [101, 114, 114, 111, 114]) = [67] := by kernel_rfl
theorem tsize : Tryz.prog.types.size = 312 := by kernel_rfl
theorem handle_of_laid {W : World} (h : laidMetH Tryz.prog Rows.fnDumpRow.laid W) : W.cell? ⟨2, 0, none⟩ = some (.iface 235 (.agg #[.pointer (some ⟨10, 67, none⟩)])) := by
 have h' : handlesMet Tryz.prog [("errors.errorType", Rows.laid_errors_errorType)] W := (laidMetH_iff.1 h).2
 obtain ⟨name, u, ty, e1, e2, e3, e4, e5⟩ := h' _ (List.mem_singleton.2 rfl)
 have en : name = [101, 114, 114, 111, 114] := (Option.some.inj e1).symm
 subst en
 obtain rfl := Option.some.inj (rt.symm.trans e2)
 have hm : ty ∈ (List.range 312).filter fun t => Tryz.prog.rowNamed t [101, 114, 114, 111, 114] := List.mem_filter.2 ⟨List.mem_range.2 (by rw [← tsize]; exact e3), e4⟩
 rw [oneRow] at hm
 obtain rfl := List.mem_singleton.1 hm
 have hh : typeHandle Tryz.prog 67 = .pointer (some ⟨10, 67, none⟩) := by kernel_rfl
 rw [hh] at e5
 simpa using World.var?_cell et e5 0
theorem kw_of {W : World} {name : String} {rest : List (String × DataW Unit)} (hg : Tryz.prog.globalNamed name = some 0) (hty : (Tryz.prog.globals[0]?).map (·.type) = some 98)
  (h : laidMet Tryz.prog ((name, Rows.laid_loop_example_g00229_impl_kindWords) :: rest) W) : KWr W := by
 obtain ⟨ps, ⟨g', t', cs, fuel, p, q, hg', ht', hvar, hd, _, _⟩, _⟩ := h
 obtain rfl := Option.some.inj (hg.symm.trans hg')
 obtain rfl := Option.some.inj (hty.symm.trans ht')
 obtain ⟨xs, m1, rfl, hx, hlen, hn, hel⟩ := DataW.trod_array Tryz.underlying98 hd
 have c9 : Tryz.prog.cellsOf 9 = 1 := by kernel_rfl
 simp only [Prod.mk.injEq] at hx
 have hx1 := hx.1
 unfold Rows.laid_loop_example_g00229_impl_kindWords at hx1
 simp only [DataW.agg.injEq] at hx1
 intro k hk
 have e := hel k (by omega)
 rw [c9] at e
 have hkx : k < xs.length := by omega
 rw [List.getElem?_eq_getElem hkx] at e
 obtain ⟨s, h1, h2, _⟩ := DataW.trod_string Tryz.underlying9 e
 have hcell := World.var?_cell hg hvar k
 have hck : cs[k]? = some (.string s) := by
  have := congrArg (·[0]?) h1
  simpa [List.getElem?_take, List.getElem?_drop] using this
 rw [hcell, hck]
 have hk2 : (xs.map (·.1))[k]? = some (.lit (.string s.data.toList)) := by
  rw [List.getElem?_map, List.getElem?_eq_getElem hkx, h2]; rfl
 rw [← hx1] at hk2
 have fin : ∀ l : List UInt8, s.data.toList = l → s = ⟨l.toArray⟩ := by
  intro l hl
  obtain ⟨⟨d⟩⟩ := s
  simp at hl
  rw [hl]
 rcases (show k = 0 ∨ k = 1 ∨ k = 2 ∨ k = 3 by omega) with hh | hh | hh | hh <;> subst hh <;> simp at hk2 <;> rw [fin _ hk2.symm] <;> rfl
theorem libs_of (W : World) (hl2 : laidMet Tryz.prog l8 W) (hsh : W.ShapedOpen Tryz.prog) : LibsR W := by
 obtain ⟨a1, s1, hv1, _⟩ := laid_sentinel (g := 3) (ti := 67) (tp := 256) (laidMet.tail (laidMet.tail (laidMet.tail (laidMet.tail (laidMet.tail hl2))))) (by kernel_rfl) (by kernel_rfl) Tryz.underlying67 rowE Tryz.underlying256 Tryz.underlying258 rfl rfl Tryz.underlying9 (by kernel_rfl) (by kernel_rfl)
 obtain ⟨a2, s2, hv2, _⟩ := laid_sentinel (g := 4) (ti := 67) (tp := 256) (laidMet.tail (laidMet.tail (laidMet.tail (laidMet.tail hl2)))) (by kernel_rfl) (by kernel_rfl) Tryz.underlying67 rowE Tryz.underlying256 Tryz.underlying258 rfl rfl Tryz.underlying9 (by kernel_rfl) (by kernel_rfl)
 have ht := Lib.tabIs_of_head (zs := Lib.pow10Tab) (rest := _) (g := 5) (t := 251) (by kernel_rfl) (by kernel_rfl) Tryz.underlying251 (by kernel_rfl) (by kernel_rfl) (by kernel_rfl) (laidMet.tail (laidMet.tail hl2))
 obtain ⟨m, hm⟩ := Tryz.laysM146.s1_3 W hsh
 have hlt := World.block_lt_of_cell? W _ hm
 refine ⟨fun s w' hs hb => ⟨?_, ?_, ?_⟩, ?_, clone_all⟩
 ·intro v hv
  refine (Any.strconv_Atoi_ok Tryz.laysC172 s (by omega) v hv w').mono ?_
  rintro e w2 ⟨he, hw⟩
  refine ⟨he, ?_⟩
  rcases hw with rfl | ⟨t, rfl⟩
  ·exact Below.refl _ _
  ·exact Lib.bytesWorld_below w' _ t
 ·intro hno
  rcases hc : Lib.atoiAll s.data.toList with v | _ | _
  ·exact absurd hc (hno v)
  ·refine (Any.strconv_Atoi_syntax_var Tryz.laysC172 s (by omega) hc _ _ w' (var_below (g := 3) (by kernel_rfl) hv1 hb)).mono ?_
   rintro e w2 ⟨N, he, _, _, hb⟩
   exact ⟨⟨0, N, he⟩, hb⟩
  ·refine (Any.strconv_Atoi_range_var Tryz.laysC172 s (by omega) hc _ _ w' (var_below (g := 4) (by kernel_rfl) hv2 hb)).mono ?_
   rintro e w2 ⟨N, he, _, _, hb⟩
   exact ⟨⟨_, N, he⟩, hb⟩
 ·have hm' := (hb.cell hlt).trans hm
  unfold SplitAt
  refine (Any.strings_Split { Tryz.laysM146 with } Tryz.laysM146.i9 s ⟨#[32]⟩ m w' (by omega) hm' (by decide)).mono ?_
  rintro e w2 ⟨rfl, rfl⟩
  have hall := split_all s
  have hlen := Lib.splitB_all sep (by decide) 0 _ s rfl
  rw [hall] at hlen
  have hall' : Lib.splitB ⟨#[32]⟩ 0 (Lib.countB s ⟨#[32]⟩) s = rest s s.size 0 0 := hall
  have hlen' : (rest s s.size 0 0).length = Lib.countB s ⟨#[32]⟩ + 1 := hlen
  rw [hall', hlen']
  exact ⟨rfl, rfl⟩
 ·intro v w1 h0 h1 hb
  refine (Any.strconv_Itoa Tryz.laysM171 v h0 h1 w1 (var_below (g := 5) (by kernel_rfl) ht hb)).mono ?_
  rintro e w2 ⟨he, k, os, rfl⟩
  exact ⟨he, below_more w1 k os⟩
theorem cut_of (W : World) (hsh : W.ShapedOpen Tryz.prog) : CutAll W := by
 obtain ⟨m, hm⟩ := Tryz.laysM146.s1_3 W hsh
 have hlt := World.block_lt_of_cell? W _ hm
 intro s c w' hs hb
 have hm' := (hb.cell hlt).trans hm
 refine (Any.strings_Cut Tryz.lays145 s ⟨#[c]⟩ m w' (by omega) hm').mono ?_
 rintro e w2 ⟨he, n, rfl⟩
 exact ⟨he, below_drewN _ _ _⟩
theorem walk (a0 : Option Addr) (len0 cap0 : Nat) (z0 : List Int) (w : World) (w0 : IsRow .u8 w a0 len0 cap0 z0) (hLb : LibsR w) (hKw : KWr w) (hCu : CutAll w) (hL : w.cell? ⟨2, 0, none⟩ = some (.iface 235 (.agg #[.pointer (some ⟨10, 67, none⟩)]))) :
  Calls Tryz.prog 4 #[.slice a0 len0 cap0] w fun e w' => e = .returned (.bool true) ∧ Below w.heap.size w w' := by
 exact dump_w a0 len0 cap0 z0 w w0 hLb hKw hCu hL
theorem vars_len {H : Type} {enc : TypeId × Value → H} {P : Program} {w : World} {sp : Nat → Bool} : ∀ {ns : List String} {gs : List (DataW H)} {ps : List MemPlace}, DataW.TrodVars enc P w sp ns gs ps → gs.length = ns.length
 | [], [], _, _ => rfl
 | [], _ :: _, _, h => by simp [DataW.TrodVars] at h
 | _ :: _, [], _, h => by simp [DataW.TrodVars] at h
 | _ :: ns, _ :: ds, _, h => by
  obtain ⟨_, _, _, _, _, _, _, _, _, _, hs, _⟩ := h
  simp [vars_len hs]
set_option maxRecDepth 100000 in
theorem contract (H : Type) (enc : TypeId × Value → H) (W : World) (base : Nat) (args : Array Value) (ds gs : List (DataW H)) (before : List MemPlace)
  (hval0 : ∀ (j : Nat) t v, Tryz.f4.params[j]? = some t → args[j]? = some v → Value.okWide Tryz.prog W .any base t v)
  (hW : DataW.Whole enc Tryz.prog Tryz.f4.params.toList Rows.fnDumpSpec.vars false W args.toList ds gs before) (hL : laidMetH Tryz.prog Rows.fnDumpRow.laid W) (hsh : W.ShapedOpen Tryz.prog) :
  Calls Tryz.prog 4 args W fun e W' => ∃ v, e = .returned v ∧ Rows.fnDumpSpec.post enc Tryz.prog Tryz.f4 false true false false W args v W' := by
 have hval : ∀ (j : Nat) t v, Tryz.f4.params[j]? = some t → args[j]? = some v → Value.okWide Tryz.prog W .any base t v := hval0
 have hW' := hW
 obtain ⟨p, q, hA0, hV, rfl, hfz, hnd⟩ := hW
 have hA : DataW.TrodAll enc Tryz.prog W 0 (fun _ => true) true Tryz.f4.params.toList args.toList ds p := hA0
 rw [Tryz.params4] at hA hval
 obtain ⟨v0, vs0, d0, ds0, p0, q0, hargs, rfl, rfl, h0, r0⟩ := trodAll_cons hA
 obtain ⟨rfl, rfl, rfl⟩ := trodAll_nil r0
 obtain rfl : args = #[v0] := by cases args; simp_all
 obtain ⟨_, _, _, _, g1, _, eg, _⟩ := trodVars_one hV
 subst eg
 have k0 := h0
 have lt0 : ∀ x ∈ p0, x.block < W.heap.size := by obtain ⟨m, hm⟩ := k0; exact DataW.trod_lt m _ _ _ hm
 obtain ⟨a0, len0, cap0, rfl⟩ := okWide_slice Tryz.underlying28 (hval 0 28 v0 rfl rfl)
 obtain ⟨z0, w0⟩ : ∃ zs, IsRow .u8 W a0 len0 cap0 zs := by
  obtain ⟨fuel, hf⟩ := h0
  rcases open_ints Tryz.underlying28 Tryz.underlying5 (by kernel_rfl) hf with ⟨hcs, _⟩ | ⟨x, l, c, zs, hcs, _, hl, hm, hz, _, hcell, hwz⟩
  ·simp [Value.cells] at hcs
   obtain ⟨rfl, rfl, rfl⟩ := hcs
   exact ⟨[], .inl ⟨rfl, rfl, rfl, rfl⟩⟩
  ·simp [Value.cells] at hcs
   obtain ⟨rfl, rfl, rfl⟩ := hcs
   exact ⟨zs, .inr ⟨_, rfl, hl, hm, by simpa using hz, hcell, hwz⟩⟩
 clear hA0 hval0
 refine (walk a0 len0 cap0 z0 W w0 (libs_of W (data_of hL) hsh) (kw_of (rest := _) (by kernel_rfl) (by kernel_rfl) (laidMet.tail (laidMet.tail (laidMet.tail (laidMet.tail (laidMet.tail (laidMet.tail (data_of hL)))))))) (cut_of W hsh) (handle_of_laid hL)).mono fun e W' ⟨he, bel⟩ => ?_
 subst he
 exact ⟨_, rfl, _, _, _, [], _, _, hW', trodAll_mk1 (shut_bool Tryz.underlying4 _), (trodAll_cons_mk (Below.trod laidOut (by kernel_rfl) (of_decide_eq_true (by kernel_rfl)) k0 bel lt0) trodAll_mk0), Below.trodVars laidOut bel (by kernel_rfl) hV, bel.frame _, fun h => by cases h⟩
def tabs (low : Nat) (h : Array Obj) : Array Obj := h
 |>.modify 6 (fun | .cells _ t frozen => .cells #[.int .u8 0, .int .u8 1, .int .u8 28, .int .u8 2, .int .u8 29, .int .u8 14, .int .u8 24, .int .u8 3, .int .u8 30, .int .u8 22, .int .u8 20, .int .u8 15, .int .u8 25, .int .u8 17, .int .u8 4, .int .u8 8, .int .u8 31, .int .u8 27, .int .u8 13, .int .u8 23, .int .u8 21, .int .u8 19, .int .u8 16, .int .u8 7, .int .u8 26, .int .u8 12, .int .u8 18, .int .u8 6, .int .u8 11, .int .u8 5, .int .u8 10, .int .u8 9] t frozen | o => o)
 |>.modify 7 (fun | .cells _ t frozen => .cells #[.int .u8 0, .int .u8 1, .int .u8 56, .int .u8 2, .int .u8 57, .int .u8 49, .int .u8 28, .int .u8 3, .int .u8 61, .int .u8 58, .int .u8 42, .int .u8 50, .int .u8 38, .int .u8 29, .int .u8 17, .int .u8 4, .int .u8 62, .int .u8 47, .int .u8 59, .int .u8 36, .int .u8 45, .int .u8 43, .int .u8 51, .int .u8 22, .int .u8 53, .int .u8 39, .int .u8 33, .int .u8 30, .int .u8 24, .int .u8 18, .int .u8 12, .int .u8 5, .int .u8 63, .int .u8 55, .int .u8 48, .int .u8 27, .int .u8 60, .int .u8 41, .int .u8 37, .int .u8 16, .int .u8 46, .int .u8 35, .int .u8 44, .int .u8 21, .int .u8 52, .int .u8 32, .int .u8 23, .int .u8 11, .int .u8 54, .int .u8 26, .int .u8 40, .int .u8 15, .int .u8 34, .int .u8 20, .int .u8 31, .int .u8 10, .int .u8 25, .int .u8 14, .int .u8 19, .int .u8 9, .int .u8 13, .int .u8 8, .int .u8 7, .int .u8 6] t frozen | o => o)
 |>.modify 5 (fun | .cells _ t frozen => .cells #[.int .u64 1, .int .u64 10, .int .u64 100, .int .u64 1000, .int .u64 10000, .int .u64 100000, .int .u64 1000000, .int .u64 10000000, .int .u64 100000000, .int .u64 1000000000, .int .u64 10000000000, .int .u64 100000000000, .int .u64 1000000000000, .int .u64 10000000000000, .int .u64 100000000000000, .int .u64 1000000000000000, .int .u64 10000000000000000, .int .u64 100000000000000000, .int .u64 1000000000000000000, .int .u64 10000000000000000000] t frozen | o => o)
 |>.modify 9 (fun | .cells _ t frozen => .cells #[.int .u8 128, .int .u8 191, .int .u8 160, .int .u8 191, .int .u8 128, .int .u8 159, .int .u8 144, .int .u8 191, .int .u8 128, .int .u8 143, .int .u8 0, .int .u8 0, .int .u8 0, .int .u8 0, .int .u8 0, .int .u8 0, .int .u8 0, .int .u8 0, .int .u8 0, .int .u8 0, .int .u8 0, .int .u8 0, .int .u8 0, .int .u8 0, .int .u8 0, .int .u8 0, .int .u8 0, .int .u8 0, .int .u8 0, .int .u8 0, .int .u8 0, .int .u8 0] t frozen | o => o)
 |>.modify 2 (fun | .cells _ t frozen => .cells #[.iface 235 (.agg #[.pointer (some ⟨10, 67, none⟩)])] t frozen | o => o)
 |>.modify 4 (fun | .cells _ t frozen => .cells #[.iface 256 (.pointer (some ⟨low + 1, 0, none⟩))] t frozen | o => o)
 |>.modify 3 (fun | .cells _ t frozen => .cells #[.iface 256 (.pointer (some ⟨low, 0, none⟩))] t frozen | o => o)
 |>.modify 0 (fun | .cells _ t frozen => .cells #[.string ⟨#[80, 79, 73, 78, 84]⟩, .string ⟨#[76, 73, 78, 69]⟩, .string ⟨#[82, 69, 67, 84]⟩, .string ⟨#[80, 79, 76, 89]⟩] t frozen | o => o)
 |>.modify 8 (fun | .cells _ t frozen => .cells (Pinned.utf8FirstZ.map (fun (z : Nat) => Value.int .u8 (z : Int))).toArray t frozen | o => o)
theorem laid_met (os : Os) : laidMetH Tryz.prog Rows.fnDumpRow.laid (({ World.holding Tryz.prog os ⟨#[.cells #[.string ⟨#[105, 110, 118, 97, 108, 105, 100, 32, 115, 121, 110, 116, 97, 120]⟩] 258, .cells #[.string ⟨#[118, 97, 108, 117, 101, 32, 111, 117, 116, 32, 111, 102, 32, 114, 97, 110, 103, 101]⟩] 258], #[], []⟩ with heap := tabs (World.holding Tryz.prog default ⟨#[], #[], []⟩).heap.size (World.holding Tryz.prog os ⟨#[.cells #[.string ⟨#[105, 110, 118, 97, 108, 105, 100, 32, 115, 121, 110, 116, 97, 120]⟩] 258, .cells #[.string ⟨#[118, 97, 108, 117, 101, 32, 111, 117, 116, 32, 111, 102, 32, 114, 97, 110, 103, 101]⟩] 258], #[], []⟩).heap } : World).forCall (fun _ _ => 0) ⟨#[], #[.slice none 0 0], []⟩).memory :=
 laidMetH_of_parts (show laidMet Tryz.prog l8 _ from laidMet_of_run' 8 (by kernel_rfl) (by kernel_rfl)) (by kernel_rfl)
theorem reads (os : Os) {H : Type} (enc : TypeId × Value → H) : ∃ x, DataW.whole enc Tryz.prog (({ World.holding Tryz.prog os ⟨#[.cells #[.string ⟨#[105, 110, 118, 97, 108, 105, 100, 32, 115, 121, 110, 116, 97, 120]⟩] 258, .cells #[.string ⟨#[118, 97, 108, 117, 101, 32, 111, 117, 116, 32, 111, 102, 32, 114, 97, 110, 103, 101]⟩] 258], #[], []⟩ with heap := tabs (World.holding Tryz.prog default ⟨#[], #[], []⟩).heap.size (World.holding Tryz.prog os ⟨#[.cells #[.string ⟨#[105, 110, 118, 97, 108, 105, 100, 32, 115, 121, 110, 116, 97, 120]⟩] 258, .cells #[.string ⟨#[118, 97, 108, 117, 101, 32, 111, 117, 116, 32, 111, 102, 32, 114, 97, 110, 103, 101]⟩] 258], #[], []⟩).heap } : World).forCall (fun _ _ => 0) ⟨#[], #[.slice none 0 0], []⟩).memory Tryz.f4.params.toList Rows.fnDumpSpec.vars false (#[.slice none 0 0] : Array Value).toList 8 = some x :=
 Option.isSome_iff_exists.1 (by kernel_rfl)
set_option maxRecDepth 100000 in
theorem lifted (os : Os) (started : os.Started) (H : Type) (enc : TypeId × Value → H) (F : Stop.Interp) :
  ReturnsInHanded {} Tryz.checked os 4 .any ((OpenSpec.ofChange Rows.fnDumpSpec).preRow enc Tryz.prog Tryz.f4 Rows.fnDumpRow.domain false Rows.fnDumpRow.laid) (((OpenSpec.ofChange Rows.fnDumpSpec).at F).post enc Tryz.prog Tryz.f4 false true false false) := by
 obtain ⟨x, hx⟩ := reads os enc
 refine returnsInHanded_of_row (C := Tryz.checked) (s := OpenSpec.ofChange Rows.fnDumpSpec) own started (by kernel_rfl) Tryz.func4
  (witness_row_atRef (enc := enc) (C := Tryz.checked) false ({ World.holding Tryz.prog os ⟨#[.cells #[.string ⟨#[105, 110, 118, 97, 108, 105, 100, 32, 115, 121, 110, 116, 97, 120]⟩] 258, .cells #[.string ⟨#[118, 97, 108, 117, 101, 32, 111, 117, 116, 32, 111, 102, 32, 114, 97, 110, 103, 101]⟩] 258], #[], []⟩ with heap := tabs (World.holding Tryz.prog default ⟨#[], #[], []⟩).heap.size (World.holding Tryz.prog os ⟨#[.cells #[.string ⟨#[105, 110, 118, 97, 108, 105, 100, 32, 115, 121, 110, 116, 97, 120]⟩] 258, .cells #[.string ⟨#[118, 97, 108, 117, 101, 32, 111, 117, 116, 32, 111, 102, 32, 114, 97, 110, 103, 101]⟩] 258], #[], []⟩).heap }) #[.slice none 0 0] rfl (by kernel_rfl) (by kernel_rfl) (by kernel_rfl)
   (OpenSpec.preRow_of_cond 8 hx (by rfl) (fun k hk => by cases hk) (by kernel_rfl) (laid_met os))) ?_
 intro W base args ds gs before hval hW _ _ _ hL hsh _
 exact contract H enc W base args ds gs before hval hW hL hsh
theorem said : Rows.FnDumpSaid :=
 OpenClaim.holds_of_cond 4 Tryz.f4 rfl rfl rfl rfl rfl rfl rfl ⟨rfl, rfl, rfl, rfl, rfl⟩ rfl rfl rfl rfl rfl (by kernel_rfl) Tryz.func4 (by kernel_rfl)
  (of_decide_eq_true (by kernel_rfl)) (by unfold Func.isWrapper; first | (rw [if_pos (by decide +kernel)]; kernel_rfl) | (rw [if_neg (by decide +kernel)]; exact ⟨rfl, rfl⟩))
  (fun os started H enc _ F => by rw [OpenClaim.pre_eq_preRow]; exact lifted os started H enc F)
theorem plain (f : FuncId) (fn : Func) (hf : Tryz.pinned.checked.prog.funcNamed Rows.fnDumpRow.func = some f) (hfn : Tryz.pinned.checked.prog.funcs[f]? = some fn) :
  true = Tryz.pinned.checked.prog.looks [] ∧ ∀ (j : Nat) t, fn.params[j]? = some t → Tryz.pinned.checked.prog.wantsStandIn t = false := by
 obtain rfl : f = 4 := Option.some.inj ((show Tryz.prog.funcNamed Rows.fnDumpRow.func = some 4 by kernel_rfl).symm.trans hf) |>.symm
 obtain rfl : fn = Tryz.f4 := (Option.some.inj (Tryz.func4.symm.trans hfn)).symm
 refine ⟨by kernel_rfl, fun j t ht => ?_⟩
 rw [Tryz.params4] at ht
 have hm : t ∈ ([28] : List Nat) := by simpa using Array.mem_of_getElem? ht
 exact (show ∀ t ∈ ([28] : List Nat), Tryz.prog.wantsStandIn t = false from of_decide_eq_true (by kernel_rfl)) t hm
end Go.Proofs.YtenlhgnobfadgaaGreatDoor.fnDump
namespace Go.Proofs.YtenlhgnobfadgaaGreatDoor
theorem fnDump_holds : Rows.FnDumpCardSaid :=
 Claim7.holds_tied_plain_at .later [] _ _ _ _ fnDump.said (fun _ h => by cases h) (by kernel_rfl) (fun _ h => by cases h) fnDump_row_tie rfl ⟨rfl, rfl⟩ (by kernel_rfl) rfl fnDump.plain (by kernel_rfl)
#print axioms fnDump_holds
end Go.Proofs.YtenlhgnobfadgaaGreatDoor
