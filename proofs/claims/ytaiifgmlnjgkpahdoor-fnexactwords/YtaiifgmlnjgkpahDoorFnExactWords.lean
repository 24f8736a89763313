/- For every text the landed Words answers as the specification's Words, in new memory that nothing else writes, the tables of the library laid as its text lays them (texts of more than 2^20 bytes are passed by, as the law does). -/
import Derived.Test.YtaiifgmlnjgkpahDoorCards
import Derived.Test.YtaiifgmlnjgkpahDoorTie
import Derived.Test.YtaiifgmlnjgkpahDoorWords3
import Derived.Test.YtaiifgmlnjgkpahDoorShelf2
import GoSem.PinnedTables
import Derived.WalkKit
import Derived.ProofKit
import Derived.OpenShut
import Derived.ShutString
import Derived.Deep.DeepHandedRow
import Derived.Deep.DeepWitnessRowRef
import Derived.Lib.LaidTab
import Derived.Stop.LaidErr
namespace Go.Proofs.YtaiifgmlnjgkpahDoor.fnExactWords
open Go.ChangeShapes Go.WideShapes Go.ChangeAt Go.RowKit
open Go.ChangeMaps (open_string shut_string)
theorem own : ownKnob Tryd.prog.godebug = none := by kernel_rfl
theorem split_at (s : ByteArray) (hs : s.size ≤ 1048576) (W : World) (hsh : W.ShapedOpen Tryd.prog) : ∀ w', Below W.heap.size W w' → SplitAt s w' := by
  intro w' hb
  obtain ⟨m, hm⟩ := Tryd.laysM146.s1_3 W hsh
  have hlt := World.block_lt_of_cell? W _ hm
  have hm' := (hb.cell hlt).trans hm
  unfold SplitAt
  refine (Any.strings_Split { Tryd.laysM146 with } Tryd.laysM146.i9 s ⟨#[32]⟩ m w' (by omega) hm' (by decide)).mono ?_
  rintro e w2 ⟨rfl, rfl⟩
  have hall := split_all s
  have hlen := Lib.splitB_all sep (by decide) 0 _ s rfl
  rw [hall] at hlen
  have hall' : Lib.splitB ⟨#[32]⟩ 0 (Lib.countB s ⟨#[32]⟩) s = rest s s.size 0 0 := hall
  have hlen' : (rest s s.size 0 0).length = Lib.countB s ⟨#[32]⟩ + 1 := hlen
  rw [hall', hlen']
  exact ⟨rfl, rfl⟩
theorem clone_all : CloneAll := fun x w1 hx => Any.stringslite_Clone Tryd.laysM316 x w1 hx
theorem contract (H : Type) (enc : TypeId × Value → H) (W : World) (base : Nat) (args : Array Value) (ds gs : List (DataW H)) (before : List MemPlace)
    (hval : ∀ (j : Nat) t v, Tryd.f4.params[j]? = some t → args[j]? = some v → Value.okWide Tryd.prog W .any base t v)
    (hW : DataW.Whole enc Tryd.prog Tryd.f4.params.toList Rows.fnExactWordsSpec.vars false W args.toList ds gs before) (hsh : W.ShapedOpen Tryd.prog) :
    Calls Tryd.prog 4 args W fun e W' => ∃ v, e = .returned v ∧ Rows.fnExactWordsSpec.post enc Tryd.prog Tryd.f4 false true false false W args v W' := by
  have hW' := hW
  obtain ⟨p, q, hA0, hV, rfl, hfz, hnd⟩ := hW
  have hA : DataW.TrodAll enc Tryd.prog W 0 (fun _ => true) true Tryd.f4.params.toList args.toList ds p := hA0
  rw [Tryd.params4] at hA hval
  obtain ⟨v0, vs0, d0, ds0, p0, q0, hargs, rfl, rfl, h0, r0⟩ := trodAll_cons hA
  obtain ⟨rfl, rfl, rfl⟩ := trodAll_nil r0
  obtain rfl : args = #[v0] := by cases args; simp_all
  obtain ⟨rfl, rfl⟩ := trodVars_none hV
  obtain ⟨s, rfl, rfl, rfl, hs⟩ := open_string Tryd.underlying9 (hval 0 9 v0 rfl rfl) h0
  clear hA0
  have walk : Calls Tryd.prog 4 #[.string s] W fun e w' => e = .returned (.bool true) ∧ Below W.heap.size W w' := by
    by_cases hbig : s.size ≤ 1048576
    · exact words_small s hbig W (split_at s hbig W hsh) clone_all
    · exact words_big s hs (by omega) W
  refine walk.mono fun e W' ⟨he, hb⟩ => ?_
  subst he
  exact ⟨_, rfl, _, _, _, [], _, [], hW', trodAll_cons_mk (shut_bool Tryd.underlying4 _) trodAll_mk0, trodAll_cons_mk (shut_string Tryd.underlying9 hs) trodAll_mk0, rfl, hb.frame _, fun h => by cases h⟩

/-- The tables and the sentinels as their initialisers lay them, for the witness. -/
def tabs (h : Array Obj) : Array Obj := h
  |>.modify 4 (fun | .cells _ t frozen => .cells (Pinned.utf8FirstZ.map (fun (z : Nat) => Value.int .u8 (z : Int))).toArray t frozen | o => o)
  |>.modify 5 (fun | .cells _ t frozen => .cells #[.int .u8 128, .int .u8 191, .int .u8 160, .int .u8 191, .int .u8 128, .int .u8 159, .int .u8 144, .int .u8 191, .int .u8 128, .int .u8 143, .int .u8 0, .int .u8 0, .int .u8 0, .int .u8 0, .int .u8 0, .int .u8 0, .int .u8 0, .int .u8 0, .int .u8 0, .int .u8 0, .int .u8 0, .int .u8 0, .int .u8 0, .int .u8 0, .int .u8 0, .int .u8 0, .int .u8 0, .int .u8 0, .int .u8 0, .int .u8 0, .int .u8 0, .int .u8 0] t frozen | o => o)

theorem laid_met (os : Os) : laidMet Tryd.prog Rows.fnExactWordsRow.laid (({ World.holding Tryd.prog os ⟨#[], #[], []⟩ with heap := tabs (World.holding Tryd.prog os ⟨#[], #[], []⟩).heap } : World).forCall (fun _ _ => 0) ⟨#[], #[.string ⟨#[]⟩], []⟩).memory :=
  laidMet_of_run' 8 (by kernel_rfl) (by kernel_rfl)
theorem reads (os : Os) {H : Type} (enc : TypeId × Value → H) : ∃ places, DataW.whole enc Tryd.prog (({ World.holding Tryd.prog os ⟨#[], #[], []⟩ with heap := tabs (World.holding Tryd.prog os ⟨#[], #[], []⟩).heap } : World).forCall (fun _ _ => 0) ⟨#[], #[.string ⟨#[]⟩], []⟩).memory Tryd.f4.params.toList Rows.fnExactWordsSpec.vars false (#[.string ⟨#[]⟩] : Array Value).toList 8 = some ([.lit (.string [])], [], places) :=
  ⟨[], by kernel_rfl⟩
set_option maxRecDepth 100000 in
theorem lifted (os : Os) (started : os.Started) (H : Type) (enc : TypeId × Value → H) (F : Stop.Interp) :
    ReturnsInHanded {} Tryd.checked os 4 .any ((OpenSpec.ofChange Rows.fnExactWordsSpec).preRow enc Tryd.prog Tryd.f4 Rows.fnExactWordsRow.domain false Rows.fnExactWordsRow.laid) (((OpenSpec.ofChange Rows.fnExactWordsSpec).at F).post enc Tryd.prog Tryd.f4 false true false false) := by
  obtain ⟨places, hx⟩ := reads os enc
  refine returnsInHanded_of_row (C := Tryd.checked) (s := OpenSpec.ofChange Rows.fnExactWordsSpec) own started (by kernel_rfl) Tryd.func4
    (witness_row_at (enc := enc) (C := Tryd.checked) false ({ World.holding Tryd.prog os ⟨#[], #[], []⟩ with heap := tabs (World.holding Tryd.prog os ⟨#[], #[], []⟩).heap }) #[.string ⟨#[]⟩] rfl (by kernel_rfl) (by kernel_rfl) (by kernel_rfl)
      (OpenSpec.preRow_of_cond 8 hx (by kernel_rfl) (fun k hk => by cases hk) (by kernel_rfl) (laid_met os))) ?_
  intro W base args ds gs before hval hW _ _ _ _ hsh _
  exact contract H enc W base args ds gs before hval hW hsh
theorem said : Rows.FnExactWordsSaid :=
  OpenClaim.holds_of_cond 4 Tryd.f4 rfl rfl rfl rfl rfl rfl rfl ⟨rfl, rfl, rfl, rfl, rfl⟩ rfl rfl rfl rfl rfl (by kernel_rfl) Tryd.func4 (by kernel_rfl)
    (of_decide_eq_true (by kernel_rfl)) (by unfold Func.isWrapper; first | (rw [if_pos (by decide +kernel)]; kernel_rfl) | (rw [if_neg (by decide +kernel)]; exact ⟨rfl, rfl⟩))
    (fun os started H enc _ F => by rw [OpenClaim.pre_eq_preRow]; exact lifted os started H enc F)
theorem plain (f : FuncId) (fn : Func) (hf : Tryd.pinned.checked.prog.funcNamed Rows.fnExactWordsRow.func = some f) (hfn : Tryd.pinned.checked.prog.funcs[f]? = some fn) :
    true = Tryd.pinned.checked.prog.looks [] ∧ ∀ (j : Nat) t, fn.params[j]? = some t → Tryd.pinned.checked.prog.wantsStandIn t = false := by
  obtain rfl : f = 4 := Option.some.inj ((show Tryd.prog.funcNamed Rows.fnExactWordsRow.func = some 4 by kernel_rfl).symm.trans hf) |>.symm
  obtain rfl : fn = Tryd.f4 := (Option.some.inj (Tryd.func4.symm.trans hfn)).symm
  refine ⟨by kernel_rfl, fun j t ht => ?_⟩
  rw [Tryd.params4] at ht
  have hm : t ∈ ([9] : List Nat) := by simpa using Array.mem_of_getElem? ht
  exact (show ∀ t ∈ ([9] : List Nat), Tryd.prog.wantsStandIn t = false from of_decide_eq_true (by kernel_rfl)) t hm
end Go.Proofs.YtaiifgmlnjgkpahDoor.fnExactWords
namespace Go.Proofs.YtaiifgmlnjgkpahDoor
theorem fnExactWords_holds : Rows.FnExactWordsCardSaid :=
  Claim7.holds_tied_plain_at .later [] _ _ _ _ fnExactWords.said (fun _ h => by cases h) (by kernel_rfl) (fun _ h => by cases h) fnExactWords_row_tie rfl ⟨rfl, rfl⟩ (by kernel_rfl) rfl fnExactWords.plain (by kernel_rfl)
#print axioms fnExactWords_holds
end Go.Proofs.YtaiifgmlnjgkpahDoor
