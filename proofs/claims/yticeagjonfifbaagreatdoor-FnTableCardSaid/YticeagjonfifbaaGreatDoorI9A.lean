/-
  errors.As at a fault as an error, the target being a variable of that type (after the guide's worked example ToyasAs).
-/
import Derived.Test.YticeagjonfifbaaGreatDoorProg
import Derived.Test.YticeagjonfifbaaGreatDoorPk15
import Derived.WalkKit
import Derived.LaidEql
import Derived.Stop.Asserts
import Derived.RowKitTokens
namespace Go.Proofs.YticeagjonfifbaaGreatDoor
open Go.RowKit Go.Extern.Stop Go.Stop Go.Extern

set_option maxRecDepth 100000 in
theorem as_nil9 (t : Value) (w : World) :
    Calls Tryz.prog 90 #[.nilIface, t] w fun e w' => e = .returned (.bool false) ∧ w' = w := by
  go_enter Tryz.func90, Tryz.ntmps90
  go_wp2_with fail
  go_ret
  exact ⟨rfl, rfl⟩

theorem valueOfP9 (t : Addr) (w : World) : (ReflectliteValue.unpack (.iface 105 (.pointer (some t)))).run Tryz.prog w
    = .ok (.agg #[.pointer (some ⟨9, 105, none⟩), .pointer (some ⟨w.heap.size, 0, none⟩), .int .u64 150]) (w.alloc (.cells #[.pointer (some t)] 105)) := by kernel_rfl
theorem typeP9 (a : Addr) (w : World) : (ReflectliteValue.methodAny (ReflectliteValue.valueError "reflectlite.Value.Type" 0) (fun t _ _ _ => ReflectliteType.toType t) #[.agg #[.pointer (some ⟨9, 105, none⟩), .pointer (some a), .int .u64 150]]).run Tryz.prog w
    = .ok (.iface 153 (.agg #[.pointer (some ⟨9, 105, none⟩)])) w := by kernel_rfl
theorem methodKind9 (h : Value) (w : World) : (Go.method 338 153 (.agg #[h]) "Kind").run Tryz.prog w = .ok (205, h) w := by kernel_rfl
theorem kindP9 (w : World) : ((ReflectliteType.abiMethod fun t => (fun a : Nat => Value.int IntKind.u8 (a : Int)) <$> Rtype.kind t) #[.pointer (some ⟨9, 105, none⟩)]).run Tryz.prog w = .ok (.int .u8 22) w := by kernel_rfl
theorem kindE9 (w : World) : ((ReflectliteType.abiMethod fun t => (fun a : Nat => Value.int IntKind.u8 (a : Int)) <$> Rtype.kind t) #[.pointer (some ⟨9, 99, none⟩)]).run Tryz.prog w = .ok (.int .u8 25) w := by kernel_rfl
theorem partsP9 (a : Addr) (w : World) : (ReflectliteValue.parts (.agg #[.pointer (some ⟨9, 105, none⟩), .pointer (some a), .int .u64 150])).run Tryz.prog w = .ok (some (105, a, 150)) w := by kernel_rfl
theorem isNilP9 (a p : Addr) (W : World) (ha : W.cell? a = some (.pointer (some p))) :
    (ReflectliteValue.method (ReflectliteValue.valueError "reflectlite.Value.IsNil" 0) ReflectliteValue.isNil #[.agg #[.pointer (some ⟨9, 105, none⟩), .pointer (some a), .int .u64 150]]).run Tryz.prog W = .ok (.bool false) W := by
  change Sem.run Tryz.prog (Bind.bind (ReflectliteValue.parts (.agg #[.pointer (some ⟨9, 105, none⟩), .pointer (some a), .int .u64 150])) _) W = _
  rw [Sem.run_bind, partsP9]
  simp only [Result.andThen]
  simp [ReflectliteValue.isNil, loadVar, isAgg, underlying, Tryz.underlying105, ha, Result.andThen]
theorem methodElem9 (h : Value) (w : World) : (Go.method 338 153 (.agg #[h]) "Elem").run Tryz.prog w = .ok (216, .agg #[h]) w := by kernel_rfl
theorem methodImplements9 (h : Value) (w : World) : (Go.method 338 153 (.agg #[h]) "Implements").run Tryz.prog w = .ok (217, .agg #[h]) w := by kernel_rfl
theorem methodAssignableTo9 (h : Value) (w : World) : (Go.method 338 153 (.agg #[h]) "AssignableTo").run Tryz.prog w = .ok (214, .agg #[h]) w := by kernel_rfl
theorem elemP9 (w : World) : (ReflectliteType.method ReflectliteType.elem #[.agg #[.pointer (some ⟨9, 105, none⟩)]]).run Tryz.prog w = .ok (.iface 153 (.agg #[.pointer (some ⟨9, 99, none⟩)])) w := by kernel_rfl
theorem implementsE9 (w : World) : (ReflectliteType.relation "Implements" ReflectliteType.implements_ #[.agg #[.pointer (some ⟨9, 99, none⟩)], .iface 153 (.agg #[.pointer (some ⟨9, 53, none⟩)])]).run Tryz.prog w = .ok (.bool true) w := by kernel_rfl
theorem typeOfE9 (v : Value) (w : World) : (ReflectliteType.typeOf #[.iface 99 v]).run Tryz.prog w = .ok (.iface 153 (.agg #[.pointer (some ⟨9, 99, none⟩)])) w := by kernel_rfl
theorem assignableE9 (w : World) : (ReflectliteType.relation "AssignableTo" ReflectliteType.assignableTo #[.agg #[.pointer (some ⟨9, 99, none⟩)], .iface 153 (.agg #[.pointer (some ⟨9, 99, none⟩)])]).run Tryz.prog w = .ok (.bool true) w := by kernel_rfl
theorem valueOfE9 (c a k : Int) (w : World) : (ReflectliteValue.unpack (.iface 99 (.agg #[.int .i64 c, .int .i64 a, .int .i64 k]))).run Tryz.prog w
    = .ok (.agg #[.pointer (some ⟨9, 99, none⟩), .pointer (some ⟨w.heap.size, 0, none⟩), .int .u64 153]) (w.alloc (.cells #[.int .i64 c, .int .i64 a, .int .i64 k] 99)) := by kernel_rfl
theorem elemOfP9 (w : World) : (Rtype.elem? 105).run Tryz.prog w = .ok (some 99) w := by kernel_rfl
theorem mkE9 (p : Addr) (w : World) : (ReflectliteValue.mk 99 p ReflectliteValue.flagAddr).run Tryz.prog w = .ok (.agg #[.pointer (some ⟨9, 99, none⟩), .pointer (some p), .int .u64 409]) w := by kernel_rfl
theorem elemVP9 (a p : Addr) (W : World) (ha : W.cell? a = some (.pointer (some p))) :
    (ReflectliteValue.method (ReflectliteValue.valueError "reflectlite.Value.Elem" 0) ReflectliteValue.elem #[.agg #[.pointer (some ⟨9, 105, none⟩), .pointer (some a), .int .u64 150]]).run Tryz.prog W
      = .ok (.agg #[.pointer (some ⟨9, 99, none⟩), .pointer (some p), .int .u64 409]) W := by
  change Sem.run Tryz.prog (Bind.bind (ReflectliteValue.parts (.agg #[.pointer (some ⟨9, 105, none⟩), .pointer (some a), .int .u64 150])) _) W = _
  rw [Sem.run_bind, partsP9]
  simp only [Result.andThen]
  simp [ReflectliteValue.elem, loadVar, isAgg, underlying, Tryz.underlying105, ha, Result.andThen, elemOfP9, mkE9]
theorem partsEA9 (a : Addr) (w : World) : (ReflectliteValue.parts (.agg #[.pointer (some ⟨9, 99, none⟩), .pointer (some a), .int .u64 409])).run Tryz.prog w = .ok (some (99, a, 409)) w := by kernel_rfl
theorem partsE9 (a : Addr) (w : World) : (ReflectliteValue.parts (.agg #[.pointer (some ⟨9, 99, none⟩), .pointer (some a), .int .u64 153])).run Tryz.prog w = .ok (some (99, a, 153)) w := by kernel_rfl
theorem directE9 (w : World) : (Rtype.directlyAssignable 99 99).run Tryz.prog w = .ok true w := by kernel_rfl
theorem sizeE9 (w : World) : (sizeOf 99).run Tryz.prog w = .ok 3 w := by kernel_rfl
set_option maxRecDepth 100000 in
set_option maxHeartbeats 1000000 in
theorem setE9 (ta b : Nat) (c a k : Int) (x0 x1 x2 : Value) (W : World) (hb : W.heap[b]? = some (.cells #[.int .i64 c, .int .i64 a, .int .i64 k] 99 (0, 0))) (ht : W.heap[ta]? = some (.cells #[x0, x1, x2] 99 (0, 0))) :
    (ReflectliteValue.set #[.agg #[.pointer (some ⟨9, 99, none⟩), .pointer (some ⟨ta, 0, none⟩), .int .u64 409], .agg #[.pointer (some ⟨9, 99, none⟩), .pointer (some ⟨b, 0, none⟩), .int .u64 153]]).run Tryz.prog W
      = .ok (.tuple #[]) (((W.setCell ⟨ta, 0, none⟩ (.int .i64 c)).setCell ⟨ta, 1, none⟩ (.int .i64 a)).setCell ⟨ta, 2, none⟩ (.int .i64 k)) := by
  have b0 := cell_blk hb 0
  have b1 := cell_blk hb 1
  have b2 := cell_blk hb 2
  have t0 := cell_blk ht 0
  have t1 := cell_blk ht 1
  have t2 := cell_blk ht 2
  have f0 := free_blk ht 0
  have f1 := free_blk ht 1
  have f2 := free_blk ht 2
  have lt := blk_lt ht
  change Sem.run Tryz.prog (Bind.bind (ReflectliteValue.parts (.agg #[.pointer (some ⟨9, 99, none⟩), .pointer (some ⟨ta, 0, none⟩), .int .u64 409])) _) W = _
  rw [Sem.run_bind, partsEA9]
  change Sem.run Tryz.prog (Bind.bind (ReflectliteValue.parts (.agg #[.pointer (some ⟨9, 99, none⟩), .pointer (some ⟨b, 0, none⟩), .int .u64 153])) _) W = _
  rw [Sem.run_bind, partsE9]
  simp only [Result.andThen]
  simp [ReflectliteValue.flagAddr, Result.andThen, directE9]
  go_simp
set_option maxRecDepth 100000 in
set_option maxHeartbeats 4000000 in
/-- errors.As AT A FAULT: the target holds it. -/
theorem as_hit9 (c a k : Int) (t : Nat) (x0 x1 x2 : Value) (w : World) (hg : w.cell? ⟨0, 0, none⟩ = some (.iface 153 (.agg #[.pointer (some ⟨9, 53, none⟩)]))) (ht : w.heap[t]? = some (.cells #[x0, x1, x2] 99 (0, 0))) :
    Calls Tryz.prog 90 #[.iface 99 (.agg #[.int .i64 c, .int .i64 a, .int .i64 k]), .iface 105 (.pointer (some ⟨t, 0, none⟩))] w fun e w' => e = .returned (.bool true) ∧ w'.heap[t]? = some (.cells #[.int .i64 c, .int .i64 a, .int .i64 k] 99 (0, 0)) ∧ Below t w w' := by
  have c1 := @run_callFunc_extern Tryz.prog 115 _ (fun args => ReflectliteValue.unpack (args.getD 0 (.tuple #[]))) Tryz.func115 (by kernel_rfl) (by kernel_rfl) (by kernel_rfl) (by kernel_rfl)
  have c2 := @run_callFunc_extern Tryz.prog 116 _ (ReflectliteValue.methodAny (ReflectliteValue.valueError "reflectlite.Value.Type" 0) (fun t _ _ _ => ReflectliteType.toType t)) Tryz.func116 (by kernel_rfl) (by kernel_rfl) (by kernel_rfl) (by kernel_rfl)
  have c3 := @run_callFunc_extern Tryz.prog 117 _ (ReflectliteValue.method (ReflectliteValue.valueError "reflectlite.Value.IsNil" 0) ReflectliteValue.isNil) Tryz.func117 (by kernel_rfl) (by kernel_rfl) (by kernel_rfl) (by kernel_rfl)
  have c4 := @run_callFunc_extern Tryz.prog 205 _ (ReflectliteType.abiMethod fun t => do pure (.int .u8 (← Rtype.kind t))) Tryz.func205 (by kernel_rfl) (by kernel_rfl) (by kernel_rfl) (by kernel_rfl)
  have c5 := @run_callFunc_extern Tryz.prog 216 _ (ReflectliteType.method ReflectliteType.elem) Tryz.func216 (by kernel_rfl) (by kernel_rfl) (by kernel_rfl) (by kernel_rfl)
  have c6 := @run_callFunc_extern Tryz.prog 217 _ (ReflectliteType.relation "Implements" ReflectliteType.implements_) Tryz.func217 (by kernel_rfl) (by kernel_rfl) (by kernel_rfl) (by kernel_rfl)
  have c7 := @run_callFunc_extern Tryz.prog 133 _ ReflectliteType.typeOf Tryz.func133 (by kernel_rfl) (by kernel_rfl) (by kernel_rfl) (by kernel_rfl)
  have c8 := @run_callFunc_extern Tryz.prog 214 _ (ReflectliteType.relation "AssignableTo" ReflectliteType.assignableTo) Tryz.func214 (by kernel_rfl) (by kernel_rfl) (by kernel_rfl) (by kernel_rfl)
  have c9 := @run_callFunc_extern Tryz.prog 134 _ (ReflectliteValue.method (ReflectliteValue.valueError "reflectlite.Value.Elem" 0) ReflectliteValue.elem) Tryz.func134 (by kernel_rfl) (by kernel_rfl) (by kernel_rfl) (by kernel_rfl)
  have c10 := @run_callFunc_extern Tryz.prog 135 _ ReflectliteValue.set Tryz.func135 (by kernel_rfl) (by kernel_rfl) (by kernel_rfl) (by kernel_rfl)
  have p1 := valueOfP9
  have p2 := typeP9
  have p3 := methodKind9
  have p4 := kindP9
  have p5 := kindE9
  have p6 := methodElem9
  have p7 := elemP9
  have p8 := methodImplements9
  have p9 := implementsE9
  have p10 := typeOfE9
  have p11 := methodAssignableTo9
  have p12 := assignableE9
  have p13 := valueOfE9 c a k
  have hgl := World.block_lt_of_cell? w _ hg
  have htl := blk_lt ht
  have q1 := alloc_blk w #[.pointer (some ⟨t, 0, none⟩)] 105
  have n1 := isNilP9 ⟨w.heap.size, 0, none⟩ ⟨t, 0, none⟩ ((w.alloc (.cells #[.pointer (some ⟨t, 0, none⟩)] 105)).alloc (.cells #[.pointer (some ⟨9, 105, none⟩), .pointer (some ⟨w.heap.size, 0, none⟩), .int .u64 150] 129)) (cell_blk (blk_al q1 (.cells #[.pointer (some ⟨9, 105, none⟩), .pointer (some ⟨w.heap.size, 0, none⟩), .int .u64 150] 129)) 0)
  have n2 := elemVP9 ⟨w.heap.size, 0, none⟩ ⟨t, 0, none⟩ (((w.alloc (.cells #[.pointer (some ⟨t, 0, none⟩)] 105)).alloc (.cells #[.pointer (some ⟨9, 105, none⟩), .pointer (some ⟨w.heap.size, 0, none⟩), .int .u64 150] 129)).alloc (.cells #[.pointer (some ⟨9, 105, none⟩), .pointer (some ⟨w.heap.size, 0, none⟩), .int .u64 150] 129)) (cell_blk (blk_al (blk_al q1 (.cells #[.pointer (some ⟨9, 105, none⟩), .pointer (some ⟨w.heap.size, 0, none⟩), .int .u64 150] 129)) (.cells #[.pointer (some ⟨9, 105, none⟩), .pointer (some ⟨w.heap.size, 0, none⟩), .int .u64 150] 129)) 0)
  have hB2 := bt (bl_al w (.cells #[.pointer (some ⟨t, 0, none⟩)] 105)) (bl_al _ (.cells #[.pointer (some ⟨9, 105, none⟩), .pointer (some ⟨w.heap.size, 0, none⟩), .int .u64 150] 129))
  have hB4 := bt (bt hB2 (bl_al _ (.cells #[.pointer (some ⟨9, 105, none⟩), .pointer (some ⟨w.heap.size, 0, none⟩), .int .u64 150] 129))) (bl_al _ (.cells #[.int .i64 c, .int .i64 a, .int .i64 k] 99))
  have hg2 := (hB2.cell hgl).trans hg
  have ht4 := blk_next ht hB4
  have hb4 := alloc_blk (((w.alloc (.cells #[.pointer (some ⟨t, 0, none⟩)] 105)).alloc (.cells #[.pointer (some ⟨9, 105, none⟩), .pointer (some ⟨w.heap.size, 0, none⟩), .int .u64 150] 129)).alloc (.cells #[.pointer (some ⟨9, 105, none⟩), .pointer (some ⟨w.heap.size, 0, none⟩), .int .u64 150] 129)) #[.int .i64 c, .int .i64 a, .int .i64 k] 99
  have hsz : (((w.alloc (.cells #[.pointer (some ⟨t, 0, none⟩)] 105)).alloc (.cells #[.pointer (some ⟨9, 105, none⟩), .pointer (some ⟨w.heap.size, 0, none⟩), .int .u64 150] 129)).alloc (.cells #[.pointer (some ⟨9, 105, none⟩), .pointer (some ⟨w.heap.size, 0, none⟩), .int .u64 150] 129)).heap.size = w.heap.size + 1 + 1 + 1 := by simp
  rw [hsz] at hb4
  have n3 := setE9 t (w.heap.size + 1 + 1 + 1) c a k x0 x1 x2 ((((w.alloc (.cells #[.pointer (some ⟨t, 0, none⟩)] 105)).alloc (.cells #[.pointer (some ⟨9, 105, none⟩), .pointer (some ⟨w.heap.size, 0, none⟩), .int .u64 150] 129)).alloc (.cells #[.pointer (some ⟨9, 105, none⟩), .pointer (some ⟨w.heap.size, 0, none⟩), .int .u64 150] 129)).alloc (.cells #[.int .i64 c, .int .i64 a, .int .i64 k] 99)) hb4 ht4
  have HE4 := Lib.hid ht4
  have HBB := Lib.hid hB4
  clear q1 hB2 hB4 ht4 hb4 hsz
  go_enter Tryz.func90, Tryz.ntmps90
  go_wp2
  refine wp_loop_rounds 1 ?_
  rw [rounds_succ]
  go_wp2
  go_ret
  refine ⟨rfl, ?_, (((HBB.out.mono (Nat.le_of_lt htl)).setCell (Nat.le_refl _) _).setCell (Nat.le_refl _) _).setCell (Nat.le_refl _) _⟩
  have s0 := heap_setCell_same _ t 0 _ _ (.int .i64 c) HE4.out
  have s1 := heap_setCell_same _ t 1 _ _ (.int .i64 a) s0
  have s2 := heap_setCell_same _ t 2 _ _ (.int .i64 k) s1
  simpa using s2
end Go.Proofs.YticeagjonfifbaaGreatDoor
