/- Texts of stores, joined: As, As2, Sum, GetM, Rd, Catch, GetSp, Right, RsM. -/
import Derived.WalkKit
import Derived.LaidEql
import Derived.Stop.Asserts
import Derived.RowKitTokens
import Derived.Below
import Derived.Test.YtenlhgnobfadgaaGreatDoorJ19
import Derived.Handy
import Derived.Laws.BitsAllLaws
import Derived.Laws.BytesArg
import Derived.Lib.Strings
import Derived.Lib.RabinKarpLaws
import Derived.Deep.RegionWith
import Derived.WalkLawsBesides
import Derived.Tactics
import Derived.Tactics2
import Derived.Defers
import Derived.Recover
import Derived.Test.YtenlhgnobfadgaaGreatDoorJ20
set_option maxHeartbeats 4000000
set_option linter.unusedSimpArgs false
set_option linter.unusedVariables false
namespace Go.Proofs.YtenlhgnobfadgaaGreatDoor
open Go.RowKit Go.Extern.Stop Go.Stop Go.Extern
theorem as_valueOfP (t : Addr) (w : World) : (ReflectliteValue.unpack (.iface 169 (.pointer (some t)))).run Tryz.prog w
  = .ok (.agg #[.pointer (some ⟨10, 169, none⟩), .pointer (some ⟨w.heap.size, 0, none⟩), .int .u64 150]) (w.alloc (.cells #[.pointer (some t)] 169)) := by kernel_rfl
theorem as_typeP (a : Addr) (w : World) : (ReflectliteValue.methodAny (ReflectliteValue.valueError "reflectlite.Value.Type" 0) (fun t _ _ _ => ReflectliteType.toType t) #[.agg #[.pointer (some ⟨10, 169, none⟩), .pointer (some a), .int .u64 150]]).run Tryz.prog w
  = .ok (.iface 235 (.agg #[.pointer (some ⟨10, 169, none⟩)])) w := by kernel_rfl
theorem as_methodKind (n : Nat) (h : Value) (w : World) : (Go.method (n + 4) 235 (.agg #[h]) "Kind").run Tryz.prog w = .ok (232, h) w := by kernel_rfl
theorem as_kindP (w : World) : ((ReflectliteType.abiMethod fun t => (fun a : Nat => Value.int IntKind.u8 (a : Int)) <$> Rtype.kind t) #[.pointer (some ⟨10, 169, none⟩)]).run Tryz.prog w = .ok (.int .u8 22) w := by kernel_rfl
theorem as_kindS (w : World) : ((ReflectliteType.abiMethod fun t => (fun a : Nat => Value.int IntKind.u8 (a : Int)) <$> Rtype.kind t) #[.pointer (some ⟨10, 167, none⟩)]).run Tryz.prog w = .ok (.int .u8 25) w := by kernel_rfl
theorem as_rlm (z : Sem Value) (f : TypeId → Addr → Nat → Nat → Sem Value) (v : Value) :
  ReflectliteValue.method z f #[v] = (do match ← ReflectliteValue.parts v with | none => z | some (t, a, fl) => f t a fl (fl % 32)) := rfl
theorem as_partsP (a : Addr) (w : World) : (ReflectliteValue.parts (.agg #[.pointer (some ⟨10, 169, none⟩), .pointer (some a), .int .u64 150])).run Tryz.prog w = .ok (some (169, a, 150)) w := by kernel_rfl
theorem as_isNilP (a p : Addr) (W : World) (ha : W.cell? a = some (.pointer (some p))) :
  (ReflectliteValue.method (ReflectliteValue.valueError "reflectlite.Value.IsNil" 0) ReflectliteValue.isNil #[.agg #[.pointer (some ⟨10, 169, none⟩), .pointer (some a), .int .u64 150]]).run Tryz.prog W = .ok (.bool false) W := by
 rw [as_rlm]
 simp only [Sem.run_bind, as_partsP, Result.andThen]
 simp [ReflectliteValue.isNil, loadVar, isAgg, underlying, Tryz.underlying169, ha, Result.andThen]
theorem as_methodElem (n : Nat) (h : Value) (w : World) : (Go.method (n + 4) 235 (.agg #[h]) "Elem").run Tryz.prog w = .ok (279, .agg #[h]) w := by kernel_rfl
theorem as_methodImplements (n : Nat) (h : Value) (w : World) : (Go.method (n + 4) 235 (.agg #[h]) "Implements").run Tryz.prog w = .ok (280, .agg #[h]) w := by kernel_rfl
theorem as_methodAssignableTo (n : Nat) (h : Value) (w : World) : (Go.method (n + 4) 235 (.agg #[h]) "AssignableTo").run Tryz.prog w = .ok (277, .agg #[h]) w := by kernel_rfl
theorem as_elemP (w : World) : (ReflectliteType.method ReflectliteType.elem #[.agg #[.pointer (some ⟨10, 169, none⟩)]]).run Tryz.prog w = .ok (.iface 235 (.agg #[.pointer (some ⟨10, 167, none⟩)])) w := by kernel_rfl
theorem as_implementsS (w : World) : (ReflectliteType.relation "Implements" ReflectliteType.implements_ #[.agg #[.pointer (some ⟨10, 167, none⟩)], .iface 235 (.agg #[.pointer (some ⟨10, 67, none⟩)])]).run Tryz.prog w = .ok (.bool true) w := by kernel_rfl
theorem as_typeOfS (v : Value) (w : World) : (ReflectliteType.typeOf #[.iface 167 v]).run Tryz.prog w = .ok (.iface 235 (.agg #[.pointer (some ⟨10, 167, none⟩)])) w := by kernel_rfl
theorem as_assignableS (w : World) : (ReflectliteType.relation "AssignableTo" ReflectliteType.assignableTo #[.agg #[.pointer (some ⟨10, 167, none⟩)], .iface 235 (.agg #[.pointer (some ⟨10, 167, none⟩)])]).run Tryz.prog w = .ok (.bool true) w := by kernel_rfl
theorem as_valueOfS (t : ByteArray) (w : World) : (ReflectliteValue.unpack (.iface 167 (.agg #[.string t]))).run Tryz.prog w
  = .ok (.agg #[.pointer (some ⟨10, 167, none⟩), .pointer (some ⟨w.heap.size, 0, none⟩), .int .u64 153]) (w.alloc (.cells #[.string t] 167)) := by kernel_rfl
theorem as_elemOfP (w : World) : (Rtype.elem? 169).run Tryz.prog w = .ok (some 167) w := by kernel_rfl
theorem as_mkS (p : Addr) (w : World) : (ReflectliteValue.mk 167 p ReflectliteValue.flagAddr).run Tryz.prog w = .ok (.agg #[.pointer (some ⟨10, 167, none⟩), .pointer (some p), .int .u64 409]) w := by kernel_rfl
theorem as_elemVP (a p : Addr) (W : World) (ha : W.cell? a = some (.pointer (some p))) :
  (ReflectliteValue.method (ReflectliteValue.valueError "reflectlite.Value.Elem" 0) ReflectliteValue.elem #[.agg #[.pointer (some ⟨10, 169, none⟩), .pointer (some a), .int .u64 150]]).run Tryz.prog W
   = .ok (.agg #[.pointer (some ⟨10, 167, none⟩), .pointer (some p), .int .u64 409]) W := by
 rw [as_rlm]
 simp only [Sem.run_bind, as_partsP, Result.andThen]
 simp [ReflectliteValue.elem, loadVar, isAgg, underlying, Tryz.underlying169, ha, Result.andThen, as_elemOfP, as_mkS]
theorem as_rls (v x : Value) : ReflectliteValue.set #[v, x] = (do
  let (some (dst, a, fl), some (src, b, _)) := (← ReflectliteValue.parts v, ← ReflectliteValue.parts x)
   | unsupported (.noEntry "extern/(internal/reflectlite.Value).Set.zeroValue")
  if fl / ReflectliteValue.flagAddr % 2 == 0 then unsupported (.noEntry "extern/(internal/reflectlite.Value).Set.unaddressable")
  let val ← loadVar src b
  if ← Rtype.directlyAssignable dst src then storeVar dst a val
  else if ← Rtype.implements dst src then
   if (← Rtype.kind src) == 20 then
    match val with
    | .nilIface => unsupported (.noEntry "extern/reflectlite: a nil value of one interface type handed on as a value of another")
    | _ => storeVar dst a val
   else storeVar dst a (.iface src val)
  else panicString ("reflectlite.Set: value of type " ++ (← Rtype.spelt src) ++ " is not assignable to type " ++ (← Rtype.spelt dst))
  pure (.tuple #[])) := rfl
theorem as_partsSa (a : Addr) (w : World) : (ReflectliteValue.parts (.agg #[.pointer (some ⟨10, 167, none⟩), .pointer (some a), .int .u64 409])).run Tryz.prog w = .ok (some (167, a, 409)) w := by kernel_rfl
theorem as_partsS (a : Addr) (w : World) : (ReflectliteValue.parts (.agg #[.pointer (some ⟨10, 167, none⟩), .pointer (some a), .int .u64 153])).run Tryz.prog w = .ok (some (167, a, 153)) w := by kernel_rfl
theorem as_directS (w : World) : (Rtype.directlyAssignable 167 167).run Tryz.prog w = .ok true w := by kernel_rfl
theorem as_setS (ta b : Nat) (t : ByteArray) (old : Value) (W : World) (hb : W.cell? ⟨b, 0, none⟩ = some (.string t)) (ht : W.cell? ⟨ta, 0, none⟩ = some old) (hf : W.frozen? ⟨ta, 0, none⟩ = false) :
  (ReflectliteValue.set #[.agg #[.pointer (some ⟨10, 167, none⟩), .pointer (some ⟨ta, 0, none⟩), .int .u64 409], .agg #[.pointer (some ⟨10, 167, none⟩), .pointer (some ⟨b, 0, none⟩), .int .u64 153]]).run Tryz.prog W
   = .ok (.tuple #[]) (W.setCell ⟨ta, 0, none⟩ (.string t)) := by
 rw [as_rls]
 simp only [Sem.run_bind, as_partsSa, as_partsS, Result.andThen]
 simp [ReflectliteValue.flagAddr, loadVar, isAgg, underlying, Tryz.underlying167, hb, Result.andThen, as_directS, loadCells, loadCellsFrom, storeVar, Value.cells, storeCells, Addr.add]
 rw [run_store Tryz.prog W ⟨ta, 0, none⟩ _ _ (by rfl)]
 simp [ht, hf]
theorem as_hit (t : ByteArray) (tb : Nat) (old : Value) (w : World) (hg : w.cell? ⟨2, 0, none⟩ = some (.iface 235 (.agg #[.pointer (some ⟨10, 67, none⟩)]))) (ht0 : w.cell? ⟨tb, 0, none⟩ = some old) (hf0 : w.frozen? ⟨tb, 0, none⟩ = false) :
  Calls Tryz.prog 136 #[.iface 167 (.agg #[.string t]), .iface 169 (.pointer (some ⟨tb, 0, none⟩))] w fun ev w' => ev = .returned (.bool true) ∧ w' = ((((w.alloc (.cells #[.pointer (some ⟨tb, 0, none⟩)] 169)).alloc (.cells #[.pointer (some ⟨10, 169, none⟩), .pointer (some ⟨w.heap.size, 0, none⟩), .int .u64 150] 205)).alloc (.cells #[.pointer (some ⟨10, 169, none⟩), .pointer (some ⟨w.heap.size, 0, none⟩), .int .u64 150] 205)).alloc (.cells #[.string t] 167)).setCell ⟨tb, 0, none⟩ (.string t) := by
 have x1 := @run_callFunc_extern Tryz.prog 174 _ (fun args => ReflectliteValue.unpack (args.getD 0 (.tuple #[]))) Tryz.func174 (by kernel_rfl) (by kernel_rfl) (by kernel_rfl) (by kernel_rfl)
 have x2 := @run_callFunc_extern Tryz.prog 175 _ (ReflectliteValue.methodAny (ReflectliteValue.valueError "reflectlite.Value.Type" 0) (fun t _ _ _ => ReflectliteType.toType t)) Tryz.func175 (by kernel_rfl) (by kernel_rfl) (by kernel_rfl) (by kernel_rfl)
 have x3 := @run_callFunc_extern Tryz.prog 176 _ (ReflectliteValue.method (ReflectliteValue.valueError "reflectlite.Value.IsNil" 0) ReflectliteValue.isNil) Tryz.func176 (by kernel_rfl) (by kernel_rfl) (by kernel_rfl) (by kernel_rfl)
 have x4 := @run_callFunc_extern Tryz.prog 232 _ (ReflectliteType.abiMethod fun t => do pure (.int .u8 (← Rtype.kind t))) Tryz.func232 (by kernel_rfl) (by kernel_rfl) (by kernel_rfl) (by kernel_rfl)
 have x5 := @run_callFunc_extern Tryz.prog 279 _ (ReflectliteType.method ReflectliteType.elem) Tryz.func279 (by kernel_rfl) (by kernel_rfl) (by kernel_rfl) (by kernel_rfl)
 have x6 := @run_callFunc_extern Tryz.prog 280 _ (ReflectliteType.relation "Implements" ReflectliteType.implements_) Tryz.func280 (by kernel_rfl) (by kernel_rfl) (by kernel_rfl) (by kernel_rfl)
 have x7 := @run_callFunc_extern Tryz.prog 196 _ ReflectliteType.typeOf Tryz.func196 (by kernel_rfl) (by kernel_rfl) (by kernel_rfl) (by kernel_rfl)
 have x8 := @run_callFunc_extern Tryz.prog 277 _ (ReflectliteType.relation "AssignableTo" ReflectliteType.assignableTo) Tryz.func277 (by kernel_rfl) (by kernel_rfl) (by kernel_rfl) (by kernel_rfl)
 have x9 := @run_callFunc_extern Tryz.prog 197 _ (ReflectliteValue.method (ReflectliteValue.valueError "reflectlite.Value.Elem" 0) ReflectliteValue.elem) Tryz.func197 (by kernel_rfl) (by kernel_rfl) (by kernel_rfl) (by kernel_rfl)
 have x10 := @run_callFunc_extern Tryz.prog 198 _ ReflectliteValue.set Tryz.func198 (by kernel_rfl) (by kernel_rfl) (by kernel_rfl) (by kernel_rfl)
 have tO := as_typeOfS
 have mA := as_methodAssignableTo
 have a25 := as_assignableS
 have v25 := as_valueOfS
 have f6 := as_valueOfP
 have f7 := as_typeP
 have mK := as_methodKind
 have mE := as_methodElem
 have mI := as_methodImplements
 have k27 := as_kindP
 have k25 := as_kindS
 have e27 := as_elemP
 have i25 := as_implementsS
 have n8 := as_isNilP ⟨w.heap.size, 0, none⟩ ⟨tb, 0, none⟩ ((w.alloc (.cells #[.pointer (some ⟨tb, 0, none⟩)] 169)).alloc (.cells #[.pointer (some ⟨10, 169, none⟩), .pointer (some ⟨w.heap.size, 0, none⟩), .int .u64 150] 205)) (by simp)
 have hlt : 2 < w.heap.size := World.block_lt_of_cell? w ⟨2, 0, none⟩ hg
 have hg2 : ((w.alloc (.cells #[.pointer (some ⟨tb, 0, none⟩)] 169)).alloc (.cells #[.pointer (some ⟨10, 169, none⟩), .pointer (some ⟨w.heap.size, 0, none⟩), .int .u64 150] 205)).cell? ⟨2, 0, none⟩ = some (.iface 235 (.agg #[.pointer (some ⟨10, 67, none⟩)])) := by
  rw [World.cell?_alloc_lt _ _ ⟨2, 0, none⟩ (by simp <;> omega), World.cell?_alloc_lt _ _ ⟨2, 0, none⟩ hlt]; exact hg
 have htl : tb < w.heap.size := World.block_lt_of_cell? w ⟨tb, 0, none⟩ ht0
 have el := as_elemVP ⟨w.heap.size, 0, none⟩ ⟨tb, 0, none⟩ (((w.alloc (.cells #[.pointer (some ⟨tb, 0, none⟩)] 169)).alloc (.cells #[.pointer (some ⟨10, 169, none⟩), .pointer (some ⟨w.heap.size, 0, none⟩), .int .u64 150] 205)).alloc (.cells #[.pointer (some ⟨10, 169, none⟩), .pointer (some ⟨w.heap.size, 0, none⟩), .int .u64 150] 205)) (by rw [World.cell?_alloc_lt _ _ ⟨w.heap.size, 0, none⟩ (by simp <;> omega)]; simp)
 have st := as_setS tb (w.heap.size + 1 + 1 + 1) t old ((((w.alloc (.cells #[.pointer (some ⟨tb, 0, none⟩)] 169)).alloc (.cells #[.pointer (some ⟨10, 169, none⟩), .pointer (some ⟨w.heap.size, 0, none⟩), .int .u64 150] 205)).alloc (.cells #[.pointer (some ⟨10, 169, none⟩), .pointer (some ⟨w.heap.size, 0, none⟩), .int .u64 150] 205)).alloc (.cells #[.string t] 167))
  (by rw [World.cell?_alloc_at _ _ _ _ (by simp)]; rfl)
  (by rw [World.cell?_alloc_lt _ _ ⟨tb, 0, none⟩ (by simp <;> omega), World.cell?_alloc_lt _ _ ⟨tb, 0, none⟩ (by simp <;> omega), World.cell?_alloc_lt _ _ ⟨tb, 0, none⟩ (by simp <;> omega), World.cell?_alloc_lt _ _ ⟨tb, 0, none⟩ htl]; exact ht0)
  (by rw [World.frozen?_alloc_old _ _ ⟨tb, 0, none⟩ (by simp <;> omega), World.frozen?_alloc_old _ _ ⟨tb, 0, none⟩ (by simp <;> omega), World.frozen?_alloc_old _ _ ⟨tb, 0, none⟩ (by simp <;> omega), World.frozen?_alloc_old _ _ ⟨tb, 0, none⟩ (Nat.ne_of_lt htl)]; exact hf0)
 go_enter Tryz.func136, Tryz.ntmps136
 go_wp2
 refine wp_loop_rounds 1 ?_
 rw [rounds_succ]
 go_wp2
 go_ret
 exact ⟨rfl, rfl⟩
end Go.Proofs.YtenlhgnobfadgaaGreatDoor
namespace Go.Proofs.YtenlhgnobfadgaaGreatDoor
open Go.RowKit
theorem by8_lt (s : ByteArray) (k : Nat) : by8 s k ≤ 255 := by
 unfold by8; split
 ·have := (s[k]).toNat_lt; omega
 ·omega
def cs (s : ByteArray) : Nat → Nat × Nat
 | 0 => (1, 0)
 | k + 1 => (((cs s k).1 + by8 s k) % 65521, ((cs s k).2 + ((cs s k).1 + by8 s k) % 65521) % 65521)
def sum (s : ByteArray) : Nat := 65536 * (cs s s.size).2 + (cs s s.size).1
end Go.Proofs.YtenlhgnobfadgaaGreatDoor
namespace Go.Proofs.YtenlhgnobfadgaaGreatDoor
def val : List Nat → Nat
 | [] => 0
 | d :: t => d % 128 + 128 * val t
def acc (s : ByteArray) (i : Nat) : Nat → Nat
 | 0 => 0
 | j + 1 => acc s i j + by8 s (i + j) % 128 * 128 ^ j
def gn (s : ByteArray) (i : Nat) : Nat → Nat → Option (Nat × Nat)
 | 0, _ => none
 | f + 1, j => if i + j < s.size then (if by8 s (i + j) < 128 then (if (by8 s (i + j) = 0 ∧ 0 < j) ∨ 4000000000 < acc s i (j + 1) then none else some (acc s i (j + 1), i + j + 1)) else gn s i f (j + 1)) else none
end Go.Proofs.YtenlhgnobfadgaaGreatDoor
namespace Go.Proofs.YtenlhgnobfadgaaGreatDoor
open Go.RowKit
def Refused (e : Ending) : Prop := ∃ t, e = .panicked [{ v := .iface 167 (.agg #[.string t]), recovered := false }]
end Go.Proofs.YtenlhgnobfadgaaGreatDoor
namespace Go.Proofs.YtenlhgnobfadgaaGreatDoor
open Go.RowKit Go.Extern.Stop Go.Stop Go.Extern
theorem ta_err (v : Value) (w : World) : (Instr.typeAssert (.iface 167 v) 20 67 true).run Tryz.prog w = .ok (.tuple #[.iface 167 v, .bool true]) w := by kernel_rfl
theorem ta_nil (w : World) : (Instr.typeAssert .nilIface 20 67 true).run Tryz.prog w = .ok (.tuple #[.nilIface, .bool false]) w := by kernel_rfl
theorem catch_panicking (t : ByteArray) (older : List PanicEntry) (w : World) (hg : w.cell? ⟨2, 0, none⟩ = some (.iface 235 (.agg #[.pointer (some ⟨10, 67, none⟩)]))) :
  CallsD Tryz.prog 135 #[] (.panicking ({ v := .iface 167 (.agg #[.string t]), recovered := false } :: older)) w fun e u' w' =>
   e = .returned (.tuple #[]) ∧ u' = .panicking ({ v := .iface 167 (.agg #[.string t]), recovered := true } :: older) ∧ Below w.heap.size w w' := by
 have hta := ta_err (.agg #[.string t])
 refine callsD_of_wpS Tryz.func135 rfl fun c₀ cs hu => ?_
 apply wpS_seq
 apply wpS_region
 simp [wpOpsS, go_sem, recoverD, hu, Tryz.ntmps135, Exit.thenS, hta]
 refine wpS_of_wp ?_
 refine (show Code.wp Tryz.prog _ _ { tmps := #[(.iface 167 (.agg #[.string t])), .bool true, undef, .tuple #[(.iface 167 (.agg #[.string t])), .bool true], (.iface 167 (.agg #[.string t])), .tuple #[(.iface 167 (.agg #[.string t])), .bool true], (.iface 167 (.agg #[.string t])), .bool true, undef, undef, undef, undef, undef, undef], defers := [] } w from ?_)
 have hgA : (w.alloc (.cells #[.string ⟨#[]⟩] 167)).cell? ⟨2, 0, none⟩ = some (.iface 235 (.agg #[.pointer (some ⟨10, 67, none⟩)])) := by
  rw [World.cell?_alloc_lt _ _ ⟨2, 0, none⟩ (World.block_lt_of_cell? w ⟨2, 0, none⟩ hg)]; exact hg
 have htA : (w.alloc (.cells #[.string ⟨#[]⟩] 167)).cell? ⟨w.heap.size, 0, none⟩ = some (.string ⟨#[]⟩) := by simp
 have hfA : (w.alloc (.cells #[.string ⟨#[]⟩] 167)).frozen? ⟨w.heap.size, 0, none⟩ = false := by simp
 go_wp2_with (go_at_call 136; refine (as_hit t _ _ _ hgA htA hfA).mono ?_; rintro e w' ⟨rfl, rfl⟩)
 have hb : Below w.heap.size w (((((w.alloc (.cells #[.string t] 167)).alloc (.cells #[.pointer (some ⟨w.heap.size, 0, none⟩)] 169)).alloc (.cells #[.pointer (some ⟨10, 169, none⟩), .pointer (some ⟨w.heap.size + 1, 0, none⟩), .int .u64 150] 205)).alloc (.cells #[.pointer (some ⟨10, 169, none⟩), .pointer (some ⟨w.heap.size + 1, 0, none⟩), .int .u64 150] 205)).alloc (.cells #[.string t] 167)) := balloc (balloc (balloc (balloc (balloc (Below.refl _ _) _) _) _) _) _
 simp [bodyPostS, results, Tryz.results135, hb]
theorem catch_idle (w : World) :
  CallsD Tryz.prog 135 #[] .returning w fun e u' w' => e = .returned (.tuple #[]) ∧ u' = .returning ∧ w' = w := by
 have hta := ta_nil
 refine callsD_of_wpS Tryz.func135 rfl fun c₀ cs hu => ?_
 apply wpS_seq
 apply wpS_region
 simp [wpOpsS, go_sem, recoverD, hu, Tryz.ntmps135, Exit.thenS, hta]
 refine wpS_of_wp ?_
 go_simp
 go_wp2_with fail
 cases c₀
 simp_all [bodyPostS, results, Tryz.results135]
theorem whole_ok_r (cb : Array Value) (w : World) (R : World → Prop) (h : Calls Tryz.prog 98 cb w fun e w' => e = .returned (.tuple #[]) ∧ R w') : Calls Tryz.prog 97 #[.func (.func 98) #[] cb] w fun e w' => e = .returned (.bool true) ∧ R w' := by
 have hmf : ∀ (fn : Fn) (first cap : Array Value) (w : World), (Instr.makeFunc fn first cap).run Tryz.prog w = .ok (.func fn first cap) w := fun _ _ _ _ => rfl
 have H := hid h
 clear h
 go_enter_defers Tryz.func97, Tryz.ntmps97
 go_wp2_with fail
 refine H.out.mono ?_
 rintro e w1 ⟨rfl, hR⟩
 go_wp2_with fail
 refine leaves_cons (f := 135) (args := #[]) (by simp) (by simp [go_sem]) ?_
 refine (catch_idle _).mono ?_
 rintro e u' w'' ⟨rfl, rfl, rfl⟩
 simp [Leaves, settle, results, Tryz.results97, go_sem, hR]
theorem whole_no_r (cb : Array Value) (w : World) (R : World → Prop) (h : Calls Tryz.prog 98 cb w fun e w' => Refused e ∧ R w') (hR : ∀ w', R w' → w'.cell? ⟨2, 0, none⟩ = some (.iface 235 (.agg #[.pointer (some ⟨10, 67, none⟩)]))) : Calls Tryz.prog 97 #[.func (.func 98) #[] cb] w fun e w' => e = .returned (.bool false) ∧ ∃ w1, R w1 ∧ Below w1.heap.size w1 w' := by
 have hmf : ∀ (fn : Fn) (first cap : Array Value) (w : World), (Instr.makeFunc fn first cap).run Tryz.prog w = .ok (.func fn first cap) w := fun _ _ _ _ => rfl
 have H := hid h
 clear h
 go_enter_defers Tryz.func97, Tryz.ntmps97
 go_wp2_with fail
 refine H.out.mono ?_
 rintro e w1 ⟨⟨t, rfl⟩, h1⟩
 go_wp2_with fail
 refine leaves_cons (f := 135) (args := #[]) (by simp) (by simp [go_sem]) ?_
 refine (catch_panicking t [] _ (hR _ h1)).mono ?_
 rintro e u' w'' ⟨rfl, rfl, hb⟩
 simp [Leaves, settle, results, Tryz.results97, go_sem]
 exact ⟨_, h1, hb⟩
end Go.Proofs.YtenlhgnobfadgaaGreatDoor
namespace Go.Proofs.YtenlhgnobfadgaaGreatDoor
open Go.RowKit
theorem ptrow_nilg (w : World) (B : Nat) : PtRow w B (.slice none 0 0) [] := ⟨by simp [flat2], .inl ⟨rfl, rfl⟩⟩
theorem PtRow.bel {w w' : World} {B : Nat} {v : Value} {l : List (Int × Int)} (h : PtRow w B v l) (hb : Below w.heap.size w w') : PtRow w' B v l :=
 World.ownsRow.kept (row := none) h ⟨hb.os, hb.tape, hb.output, hb.size, fun k hk _ => hb.block k hk⟩ (Classical.em _)
theorem PtRow.set {w : World} {B q k : Nat} {v u : Value} {l : List (Int × Int)} (h : PtRow w B v l) (hq : q < B) : PtRow (w.setCell ⟨q, k, none⟩ u) B v l :=
 World.ownsRow.kept h (grown_set w q k u) (Or.inr (fun e => by have := (World.ownsRow.lt h q e).1; omega))
theorem PtRow.ownG {w : World} {B : Nat} {v : Value} {ps : List (Int × Int)} (h : PtRow w B v ps) (h0 : 0 < ps.length) : ∃ g cap, v = .slice (some ⟨g, 0, none⟩) ps.length cap ∧ B ≤ g ∧ ps.length ≤ cap ∧ PtsOwn w g ps := by
 have h' := h
 rcases h.2 with ⟨rfl, hn⟩ | ⟨g, cap, cur, rfl, hb, hg, hc, _⟩
 ·omega
 ·have hat : PtsAt w g 0 ps := by
   intro k hk
   obtain ⟨f0, f1⟩ := flat2_at ps k hk
   have hcs := World.ownsRow.cells h' rfl
   have q0 := hcs _ _ f0
   have q1 := hcs _ _ f1
   rw [Addr.add_mid] at q0 q1
   exact ⟨q0, by rw [Nat.add_assoc]; exact q1⟩
  refine ⟨g, cap, rfl, hb, hc, (Array.getElem?_eq_some_iff.1 hg).1, hat, ?_⟩
  intro j hj
  simp only [Nat.zero_add]
  refine ⟨?_, World.ownsRow.frozenAt h' j⟩
  obtain ⟨q0, q1⟩ := hat (j / 2) (by omega)
  simp only [Nat.zero_add] at q0 q1
  rcases Nat.mod_two_eq_zero_or_one j with e | e
  ·rw [show j / 2 * 2 = j by omega] at q0; rw [q0]; rfl
  ·rw [show j / 2 * 2 + 1 = j by omega] at q1; rw [q1]; rfl
theorem shok_posg {k : Int} {ps : List (Int × Int)} (h : shok k ps = true) : 0 < ps.length := by
 cases ps with
 | nil => exact absurd h (by unfold shok; simp [lineb, rectb, ringOk])
 | cons a b => simp
theorem right_no (w : World) (k : Int) (a : Option Addr) (cap : Nat) (ps : List (Int × Int)) (hm : ps.length ≤ 1099511627776) (hc : ps.length ≤ cap) (h : Pts w a ps) (hk : shok k ps = false) : Calls Tryz.prog 140 #[.int .i64 k, .slice a ps.length cap] w fun e w' => Refused e ∧ Below w.heap.size w w' := by
 have O1 := hid (fun w' (hw : Pts w' a ps) => impl_ShapeOk k a cap ps w' hm hc hw)
 rw [hk] at O1
 have HP := hid h
 clear h hk
 generalize ps.length = n at *
 go_enter Tryz.func140, Tryz.ntmps140
 go_wp2_with fail
 have hB : Below w.heap.size w ((w.alloc (.cells #[.int .i64 0, .slice none 0 0] 48)).alloc (.cells #[.int .i64 k, .slice a n cap] 48)) := balloc (balloc (Below.refl _ _) _) _
 have hP := HP.out.below hB
 generalize ((w.alloc (.cells #[.int .i64 0, .slice none 0 0] 48)).alloc (.cells #[.int .i64 k, .slice a n cap] 48)) = W at *
 refine (O1.out _ hP).mono ?_
 rintro e W1 ⟨rfl, hcl⟩
 go_wp2_with fail
 exact ⟨rfl, ⟨_, rfl⟩, btrans hB hcl⟩
theorem right_ok (w : World) (k : Int) (a : Option Addr) (cap : Nat) (ps : List (Int × Int)) (hm : ps.length ≤ 1099511627776) (hc : ps.length ≤ cap) (h : Pts w a ps) (hk : shok k ps = true) : Calls Tryz.prog 140 #[.int .i64 k, .slice a ps.length cap] w fun e w' => e = .returned (shv k a ps.length cap) ∧ Below w.heap.size w w' := by
 have O1 := hid (fun w' (hw : Pts w' a ps) => impl_ShapeOk k a cap ps w' hm hc hw)
 rw [hk] at O1
 have HP := hid h
 clear h hk
 generalize ps.length = n at *
 go_enter Tryz.func140, Tryz.ntmps140
 go_wp2_with fail
 have g5 := new_alloc (w.alloc (.cells #[.int .i64 0, .slice none 0 0] 48)) (w.heap.size + 1) (.cells #[.int .i64 k, .slice a n cap] 48) (by simp)
 have g4 := old_alloc (o' := .cells #[.int .i64 k, .slice a n cap] 48) (new_alloc w w.heap.size (.cells #[.int .i64 0, .slice none 0 0] 48) rfl)
 have hB : Below w.heap.size w ((w.alloc (.cells #[.int .i64 0, .slice none 0 0] 48)).alloc (.cells #[.int .i64 k, .slice a n cap] 48)) := balloc (balloc (Below.refl _ _) _) _
 have hP := HP.out.below hB
 generalize ((w.alloc (.cells #[.int .i64 0, .slice none 0 0] 48)).alloc (.cells #[.int .i64 k, .slice a n cap] 48)) = W at *
 refine (O1.out _ hP).mono ?_
 rintro e W1 ⟨rfl, hcl⟩
 replace g4 := keepheap hcl g4
 replace g5 := keepheap hcl g5
 replace hB := btrans hB hcl
 clear hcl
 obtain ⟨x0, x1, _, _⟩ := cell2g g5
 obtain ⟨y0, y1, y2, y3⟩ := cell2g g4
 go_wp2_with fail
 have gF := (set2 g4 (.int .i64 k) (.slice a n cap)).1
 have bF := bset (bset hB (q := w.heap.size) (k := 0) (by omega) (.int .i64 k)) (q := w.heap.size) (k := 1) (by omega) (.slice a n cap)
 generalize (W1.setCell ⟨w.heap.size, 0, none⟩ (.int .i64 k)).setCell ⟨w.heap.size, 1, none⟩ (.slice a n cap) = wf at *
 obtain ⟨z0, z1, _, _⟩ := cell2g gF
 exact bodyPost_ret (v := .agg #[(.int .i64 k), (.slice a n cap)]) (by simp [results, Tryz.results140, go_sem, z0, z1]) rfl ⟨rfl, bF⟩
noncomputable def ri (x : ByteArray) : Option Int := open Classical in if h : ∃ a : Int, -999999999 ≤ a ∧ a ≤ 999999999 ∧ x.data.toList = Lib.itoa a then some (Classical.choose h) else none
theorem ri_true {x : ByteArray} {a : Int} (h : Ans x.data.toList a true) : ri x = some a := by
 have hx : ∃ a : Int, -999999999 ≤ a ∧ a ≤ 999999999 ∧ x.data.toList = Lib.itoa a := by
  rcases h with ⟨_, h1, h2, h3⟩ | ⟨h, _⟩
  ·exact ⟨a, h2, h3, h1⟩
  ·cases h
 have hc := Classical.choose_spec hx
 have e := (Ans.same (b := true) (.inl ⟨rfl, hc.2.2, hc.1, hc.2.1⟩) h).1
 unfold ri
 rw [dif_pos hx, e]
theorem ri_false {x : ByteArray} {a : Int} (h : Ans x.data.toList a false) : ri x = none ∧ a = 0 := by
 rcases h with ⟨h, _⟩ | ⟨_, h0, h⟩
 ·cases h
 ·refine ⟨?_, h0⟩
  unfold ri
  rw [dif_neg]
  rintro ⟨v, h1, h2, h3⟩
  exact h v h1 h2 h3
noncomputable def riN (x : ByteArray) : Int := (ri x).getD 0
noncomputable def riB (x : ByteArray) : Bool := (ri x).isSome
theorem ri_ans {x : ByteArray} {a : Int} {b : Bool} (h : Ans x.data.toList a b) : a = riN x ∧ b = riB x := by
 cases b
 ·obtain ⟨h1, h2⟩ := ri_false h
  unfold riN riB; rw [h1]; exact ⟨h2, rfl⟩
 ·have h1 := ri_true h
  unfold riN riB; rw [h1]; exact ⟨rfl, rfl⟩
theorem spec_ri (x : ByteArray) (hx : x.size ≤ 1048576) (w : World) : Calls Tryz.prog 19 #[.string x] w fun e w' => e = .returned (.tuple #[.int .i64 (riN x), .bool (riB x)]) ∧ w' = w :=
 (spec_read x hx w).mono fun e w' ⟨⟨a, b, he, ha⟩, hw⟩ => ⟨by obtain ⟨rfl, rfl⟩ := ri_ans ha; exact he, hw⟩
def LibsR (w : World) : Prop := (∀ (s : ByteArray) (w' : World), s.size ≤ 1048576 → Below w.heap.size w w' → AtoiOk s w' ∧ AtoiNo s w' ∧ SplitAt s w') ∧ ItoaAll w ∧ CloneAll
theorem LibsR.below {w w' : World} (h : LibsR w) (hb : Below w.heap.size w w') : LibsR w' :=
 ⟨fun s v hs hv => h.1 s v hs (btrans hb hv), fun n v h0 h1 hv => h.2.1 n v h0 h1 (btrans hb hv), h.2.2⟩
theorem impl_ri (x : ByteArray) (hx : x.size ≤ 1048576) (w : World) (h : LibsR w) : Calls Tryz.prog 58 #[.string x] w fun e w' => e = .returned (.tuple #[.int .i64 (riN x), .bool (riB x)]) ∧ Below w.heap.size w w' :=
 (impl_read x w (h.1 x w hx (Below.refl _ _)).1 (h.1 x w hx (Below.refl _ _)).2.1 h.2.1).mono fun e w' ⟨⟨a, b, he, ha⟩, hw⟩ => ⟨by obtain ⟨rfl, rfl⟩ := ri_ans ha; exact he, hw⟩
def kwr : Nat → ByteArray
 | 0 => ⟨#[80, 79, 73, 78, 84]⟩
 | 1 => ⟨#[76, 73, 78, 69]⟩
 | 2 => ⟨#[82, 69, 67, 84]⟩
 | _ => ⟨#[80, 79, 76, 89]⟩
def kdr (x : ByteArray) : Option Nat := if x = kwr 0 then some 0 else if x = kwr 1 then some 1 else if x = kwr 2 then some 2 else if x = kwr 3 then some 3 else none
theorem kdr_at (x : ByteArray) (m : Nat) (hm : m ≤ 3) : x = kwr m ↔ kdr x = some m := by
 have h01 : kwr 0 ≠ kwr 1 := by decide
 have h02 : kwr 0 ≠ kwr 2 := by decide
 have h03 : kwr 0 ≠ kwr 3 := by decide
 have h12 : kwr 1 ≠ kwr 2 := by decide
 have h13 : kwr 1 ≠ kwr 3 := by decide
 have h23 : kwr 2 ≠ kwr 3 := by decide
 unfold kdr
 constructor
 ·intro h
  obtain rfl | rfl | rfl | rfl : m = 0 ∨ m = 1 ∨ m = 2 ∨ m = 3 := by omega
  ·rw [if_pos h]
  ·subst h; rw [if_neg h01.symm, if_pos rfl]
  ·subst h; rw [if_neg h02.symm, if_neg h12.symm, if_pos rfl]
  ·subst h; rw [if_neg h03.symm, if_neg h13.symm, if_neg h23.symm, if_pos rfl]
 ·intro h
  split at h
  ·injection h with h; subst h; assumption
  split at h
  ·injection h with h; subst h; assumption
  split at h
  ·injection h with h; subst h; assumption
  split at h
  ·injection h with h; subst h; assumption
  ·cases h
theorem kdr_le {x : ByteArray} {m : Nat} (h : kdr x = some m) : m ≤ 3 := by
 unfold kdr at h
 split at h
 ·injection h with h; omega
 split at h
 ·injection h with h; omega
 split at h
 ·injection h with h; omega
 split at h
 ·injection h with h; omega
 ·cases h
noncomputable def rdp : List ByteArray → Option (List (Int × Int))
 | [] => some []
 | [_] => none
 | x :: y :: r => match ri x, ri y with | some a, some b => (rdp r).map ((a, b) :: ·) | _, _ => none
theorem rdp_step {x y : ByteArray} {r : List ByteArray} (hx : riB x = true) (hy : riB y = true) : rdp (x :: y :: r) = (rdp r).map ((riN x, riN y) :: ·) := by
 unfold riB at hx hy
 unfold riN
 cases h1 : ri x with
 | none => rw [h1] at hx; cases hx
 | some a =>
  cases h2 : ri y with
  | none => rw [h2] at hy; cases hy
  | some b => simp [rdp, h1, h2]
theorem rdp_no {x y : ByteArray} {r : List ByteArray} (h : riB x = false ∨ riB y = false) : rdp (x :: y :: r) = none := by
 unfold riB at h
 cases h1 : ri x with
 | none => simp [rdp, h1]
 | some a =>
  cases h2 : ri y with
  | none => simp [rdp, h1, h2]
  | some b => rw [h1, h2] at h; simp at h
theorem rdp_len : ∀ (n : Nat) (ws : List ByteArray) (l : List (Int × Int)), ws.length ≤ n → rdp ws = some l → ws.length = 2 * l.length
 | _, [], l, _, h => by simp [rdp] at h; subst h; rfl
 | _, [_], l, _, h => by simp [rdp] at h
 | 0, x :: y :: r, l, hn, h => by simp at hn
 | n + 1, x :: y :: r, l, hn, h => by
  cases hb : riB x with
  | false => rw [rdp_no (.inl hb)] at h; cases h
  | true =>
   cases hb2 : riB y with
   | false => rw [rdp_no (.inr hb2)] at h; cases h
   | true =>
    rw [rdp_step hb hb2] at h
    cases h3 : rdp r with
    | none => rw [h3] at h; cases h
    | some l2 =>
     rw [h3] at h
     simp only [Option.map_some, Option.some.injEq] at h
     have := rdp_len n r l2 (by simp at hn; omega) h3
     subst h
     simp; omega
noncomputable def rso (ws : List ByteArray) : Option (Int × List (Int × Int)) :=
 match kdr (ws.getD 0 ⟨#[]⟩) with
 | none => none
 | some k => match rdp (ws.drop 1) with
  | none => none
  | some l => if shok (k : Int) l = true then some ((k : Int), l) else none
def roK (o : Option (Int × List (Int × Int))) : Int := match o with | none => 0 | some r => r.1
def roP (o : Option (Int × List (Int × Int))) : List (Int × Int) := match o with | none => [] | some r => r.2
theorem kind_natr {k : Int} {ps : List (Int × Int)} (hs : shok k ps = true) : 0 ≤ k ∧ 0 < ps.length ∧ ps.length ≤ 60 := by
 have h0 := shok_posg hs
 unfold shok at hs
 split at hs
 ·simp only [Bool.and_eq_true, decide_eq_true_eq] at hs; exact ⟨by omega, h0, by omega⟩
 split at hs
 ·simp only [Bool.and_eq_true, lineb, decide_eq_true_eq] at hs; exact ⟨by omega, h0, by omega⟩
 split at hs
 ·simp only [Bool.and_eq_true, rectb, decide_eq_true_eq] at hs; exact ⟨by omega, h0, by omega⟩
 split at hs
 ·simp only [ringOk, Bool.and_eq_true, decide_eq_true_eq] at hs
  exact ⟨by omega, h0, by omega⟩
 ·cases hs
theorem rso_len (ws : List ByteArray) : (roP (rso ws)).length ≤ 60 := by
 unfold rso
 split
 ·simp [roP]
 ·split
  ·simp [roP]
  ·split
   ·rename_i h; exact (kind_natr h).2.2
   ·simp [roP]
def RSA (w : World) (o : Option (Int × List (Int × Int))) (e : Ending) (w' : World) : Prop :=
 ∃ a' cap', e = .returned (.tuple #[.agg #[.int .i64 (roK o), .slice a' (roP o).length cap'], .bool o.isSome]) ∧ (roP o).length ≤ cap' ∧ OwnP w' a' (roP o) ∧ (∀ b off, a' = some ⟨b, off, none⟩ → w.heap.size ≤ b) ∧ Below w.heap.size w w'
theorem rsa_no {w w' : World} {o : Option (Int × List (Int × Int))} (h : o = none) (hb : Below w.heap.size w w') : RSA w o (.returned (.tuple #[.agg #[.int .i64 0, .slice none 0 0], .bool false])) w' := by
 subst h
 exact ⟨none, 0, rfl, Nat.le_refl _, .inl ⟨rfl, rfl⟩, fun _ _ h => (by cases h), hb⟩
theorem rsa_own {w w' : World} {o : Option (Int × List (Int × Int))} {k : Int} {l : List (Int × Int)} {b cap : Nat} (h : o = some (k, l)) (hc : l.length ≤ cap) (hb : Below w.heap.size w w') (hg : w.heap.size ≤ b) (hp : PtsOwn w' b l) : RSA w o (.returned (.tuple #[.agg #[.int .i64 k, .slice (some ⟨b, 0, none⟩) l.length cap], .bool true])) w' := by
 subst h
 exact ⟨some ⟨b, 0, none⟩, cap, rfl, hc, .inr ⟨b, rfl, hp⟩, fun b' off h => by injection h with h; injection h with h1; omega, hb⟩
def KWr (w : World) : Prop := ∀ k : Nat, k ≤ 3 → w.cell? ⟨0, k, none⟩ = some (.string (kwr k))
theorem KWr.below {w w' : World} (h : KWr w) (hb : Below w.heap.size w w') : KWr w' := fun k hk => keepcell hb (h k hk)
theorem names_r (w : World) : Calls Tryz.prog 55 #[] w fun e w' => e = .returned (.slice (some ⟨w.heap.size, 0, none⟩) 4 4) ∧ w' = w.alloc (.cells #[.string (kwr 0), .string (kwr 1), .string (kwr 2), .string (kwr 3)] 9) := by
 go_enter Tryz.func55, Tryz.ntmps55
 go_wp2_with fail
 go_ret
 exact ⟨rfl, rfl⟩
theorem num_ok (x : ByteArray) (hx : x.size ≤ 1048576) (w : World) (h : LibsR w) (hb : riB x = true) : Calls Tryz.prog 139 #[.string x] w fun e w' => e = .returned (.int .i64 (riN x)) ∧ Below w.heap.size w w' := by
 have H := hid (impl_ri x hx w h)
 rw [hb] at H
 clear h hb
 go_enter Tryz.func139, Tryz.ntmps139
 go_wp2_with fail
 refine H.out.mono ?_
 rintro e w1 ⟨rfl, hb⟩
 go_wp2_with fail
 go_ret
 exact ⟨rfl, hb⟩
theorem num_no (x : ByteArray) (hx : x.size ≤ 1048576) (w : World) (h : LibsR w) (hb : riB x = false) : Calls Tryz.prog 139 #[.string x] w fun e w' => Refused e ∧ Below w.heap.size w w' := by
 have H := hid (impl_ri x hx w h)
 rw [hb] at H
 clear h hb
 go_enter Tryz.func139, Tryz.ntmps139
 go_wp2_with fail
 refine H.out.mono ?_
 rintro e w1 ⟨rfl, hb⟩
 go_wp2_with fail
 exact ⟨rfl, ⟨_, rfl⟩, hb⟩
theorem str_eq (a b : ByteArray) : (a.toList == b.toList) = decide (a = b) := by
 by_cases h : a = b
 ·subst h; simp
 ·simp only [h, decide_false]
  rw [beq_eq_false_iff_ne]
  intro e
  apply h
  rw [ByteArray.toList_eq, ByteArray.toList_eq] at e
  cases a; cases b
  simp only at e ⊢
  congr
  exact Array.toList_inj.1 e
end Go.Proofs.YtenlhgnobfadgaaGreatDoor
