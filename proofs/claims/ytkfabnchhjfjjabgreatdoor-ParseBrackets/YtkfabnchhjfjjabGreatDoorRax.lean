/-
  errors.as at an Errno: an Errno itself; behind one Failure, behind two; and none.
-/
import Derived.Test.YtkfabnchhjfjjabGreatDoorAs2
namespace Go.Proofs.YtkfabnchhjfjjabGreatDoor
open Go.RowKit Go.Extern.Stop Go.Stop Go.Extern
set_option maxRecDepth 100000 in
set_option maxHeartbeats 4000000 in
theorem asE1 (n : Int) (t a : Addr) (old : Value) (w : World) (ha : w.cell? a = some (.pointer (some t))) (ht0 : w.cell? t = some old) (hf0 : w.frozen? t = false) :
    Calls Tryz.prog 64 #[.iface 25 (.int .i64 n), .iface 96 (.pointer (some t)), .agg #[.pointer (some ⟨3, 96, none⟩), .pointer (some a), .int .u64 150], .iface 146 (.agg #[.pointer (some ⟨3, 25, none⟩)])] w fun ev w' => ev = .returned (.bool true) ∧ ∃ V, Below w.heap.size w V ∧ w' = V.setCell t (.int .i64 n) := by
  have h50 := @run_callFunc_extern Tryz.prog 80 _ ReflectliteType.typeOf Tryz.func80 (by kernel_rfl) (by kernel_rfl) (by kernel_rfl) (by kernel_rfl)
  have h93 := @run_callFunc_extern Tryz.prog 61 _ (fun args => ReflectliteValue.unpack (args.getD 0 (.tuple #[]))) Tryz.func61 (by kernel_rfl) (by kernel_rfl) (by kernel_rfl) (by kernel_rfl)
  have h118 := @run_callFunc_extern Tryz.prog 81 _ (ReflectliteValue.method (ReflectliteValue.valueError "reflectlite.Value.Elem" 0) ReflectliteValue.elem) Tryz.func81 (by kernel_rfl) (by kernel_rfl) (by kernel_rfl) (by kernel_rfl)
  have h119 := @run_callFunc_extern Tryz.prog 82 _ ReflectliteValue.set Tryz.func82 (by kernel_rfl) (by kernel_rfl) (by kernel_rfl) (by kernel_rfl)
  have h221 := @run_callFunc_extern Tryz.prog 151 _ (ReflectliteType.relation "AssignableTo" ReflectliteType.assignableTo) Tryz.func151 (by kernel_rfl) (by kernel_rfl) (by kernel_rfl) (by kernel_rfl)
  have mA := mtAsg
  have tO := tOf48
  have a48 := asg48_48
  have v48 := vOf48
  have b1 := below_new w (.cells #[.pointer (some ⟨3, 96, none⟩), .pointer (some a), .int .u64 150] 125)
  have s1 := size_alloc w (.cells #[.pointer (some ⟨3, 96, none⟩), .pointer (some a), .int .u64 150] 125)
  have b2 := below_new (w.alloc (.cells #[.pointer (some ⟨3, 96, none⟩), .pointer (some a), .int .u64 150] 125)) (.cells #[.int .i64 n] 25)
  have n2 := heap_new (w.alloc (.cells #[.pointer (some ⟨3, 96, none⟩), .pointer (some a), .int .u64 150] 125)) (.cells #[.int .i64 n] 25)
  have HBB : Hid (Below w.heap.size w ((w.alloc (.cells #[.pointer (some ⟨3, 96, none⟩), .pointer (some a), .int .u64 150] 125)).alloc (.cells #[.int .i64 n] 25))) := below2 b1 b2
  have el := elv161 a t (w.alloc (.cells #[.pointer (some ⟨3, 96, none⟩), .pointer (some a), .int .u64 150] 125)) (by rw [World.cell?_alloc_lt _ _ a (World.block_lt_of_cell? w a ha)]; exact ha)
  have st := set48 t ⟨w.heap.size + 1, 0, none⟩ n old ((w.alloc (.cells #[.pointer (some ⟨3, 96, none⟩), .pointer (some a), .int .u64 150] 125)).alloc (.cells #[.int .i64 n] 25)) (by rw [s1] at n2; exact cell_of n2 0)
    (by rw [World.cell?_alloc_lt _ _ t (by rw [s1]; exact Nat.lt_succ_of_lt (World.block_lt_of_cell? w t ht0)), World.cell?_alloc_lt _ _ t (World.block_lt_of_cell? w t ht0)]; exact ht0)
    (by rw [World.frozen?_alloc_old _ _ t (by rw [s1]; have := World.block_lt_of_cell? w t ht0; omega), World.frozen?_alloc_old _ _ t (Nat.ne_of_lt (World.block_lt_of_cell? w t ht0))]; exact hf0)
  clear b1 s1 b2 n2
  go_enter Tryz.func64, Tryz.ntmps64
  go_wp2
  refine wp_loop_rounds 1 ?_
  rw [rounds_succ]
  go_wp2
  go_ret
  exact ⟨rfl, _, HBB.out, rfl⟩
set_option maxRecDepth 100000 in
set_option maxHeartbeats 4000000 in
theorem asE2 (F : Nat) (call : ByteArray) (at' : Int) (n : Int) (t a : Addr) (old : Value) (w : World) (ha : w.cell? a = some (.pointer (some t))) (ht0 : w.cell? t = some old) (hf0 : w.frozen? t = false) (hF : w.heap[F]? = some (.cells #[.string call, .int .i64 at', .iface 25 (.int .i64 n)] 77 (0, 0))) :
    Calls Tryz.prog 64 #[.iface 75 (.pointer (some ⟨F, 0, none⟩)), .iface 96 (.pointer (some t)), .agg #[.pointer (some ⟨3, 96, none⟩), .pointer (some a), .int .u64 150], .iface 146 (.agg #[.pointer (some ⟨3, 25, none⟩)])] w fun ev w' => ev = .returned (.bool true) ∧ ∃ V, Below w.heap.size w V ∧ w' = V.setCell t (.int .i64 n) := by
  have h50 := @run_callFunc_extern Tryz.prog 80 _ ReflectliteType.typeOf Tryz.func80 (by kernel_rfl) (by kernel_rfl) (by kernel_rfl) (by kernel_rfl)
  have h93 := @run_callFunc_extern Tryz.prog 61 _ (fun args => ReflectliteValue.unpack (args.getD 0 (.tuple #[]))) Tryz.func61 (by kernel_rfl) (by kernel_rfl) (by kernel_rfl) (by kernel_rfl)
  have h118 := @run_callFunc_extern Tryz.prog 81 _ (ReflectliteValue.method (ReflectliteValue.valueError "reflectlite.Value.Elem" 0) ReflectliteValue.elem) Tryz.func81 (by kernel_rfl) (by kernel_rfl) (by kernel_rfl) (by kernel_rfl)
  have h119 := @run_callFunc_extern Tryz.prog 82 _ ReflectliteValue.set Tryz.func82 (by kernel_rfl) (by kernel_rfl) (by kernel_rfl) (by kernel_rfl)
  have h221 := @run_callFunc_extern Tryz.prog 151 _ (ReflectliteType.relation "AssignableTo" ReflectliteType.assignableTo) Tryz.func151 (by kernel_rfl) (by kernel_rfl) (by kernel_rfl) (by kernel_rfl)
  have mA := mtAsg
  have mU := mtUn
  have tO7 := tOf74
  have a74 := asg74_48
  have n74 := no74_As
  have i74 := is74_Un
  have b1 := below_new w (.cells #[.pointer (some ⟨3, 96, none⟩), .pointer (some a), .int .u64 150] 125)
  have c1 : (w.alloc (.cells #[.pointer (some ⟨3, 96, none⟩), .pointer (some a), .int .u64 150] 125)).cell? ⟨F, 2, none⟩ = some _ := cell_of ((b1.block _ (Array.getElem?_eq_some_iff.1 hF).1).trans hF) 2
  have tO := tOf48
  have a48 := asg48_48
  have v48 := vOf48
  have s1 := size_alloc w (.cells #[.pointer (some ⟨3, 96, none⟩), .pointer (some a), .int .u64 150] 125)
  have b2 := below_new (w.alloc (.cells #[.pointer (some ⟨3, 96, none⟩), .pointer (some a), .int .u64 150] 125)) (.cells #[.int .i64 n] 25)
  have n2 := heap_new (w.alloc (.cells #[.pointer (some ⟨3, 96, none⟩), .pointer (some a), .int .u64 150] 125)) (.cells #[.int .i64 n] 25)
  have HBB : Hid (Below w.heap.size w ((w.alloc (.cells #[.pointer (some ⟨3, 96, none⟩), .pointer (some a), .int .u64 150] 125)).alloc (.cells #[.int .i64 n] 25))) := below2 b1 b2
  have el := elv161 a t (w.alloc (.cells #[.pointer (some ⟨3, 96, none⟩), .pointer (some a), .int .u64 150] 125)) (by rw [World.cell?_alloc_lt _ _ a (World.block_lt_of_cell? w a ha)]; exact ha)
  have st := set48 t ⟨w.heap.size + 1, 0, none⟩ n old ((w.alloc (.cells #[.pointer (some ⟨3, 96, none⟩), .pointer (some a), .int .u64 150] 125)).alloc (.cells #[.int .i64 n] 25)) (by rw [s1] at n2; exact cell_of n2 0)
    (by rw [World.cell?_alloc_lt _ _ t (by rw [s1]; exact Nat.lt_succ_of_lt (World.block_lt_of_cell? w t ht0)), World.cell?_alloc_lt _ _ t (World.block_lt_of_cell? w t ht0)]; exact ht0)
    (by rw [World.frozen?_alloc_old _ _ t (by rw [s1]; have := World.block_lt_of_cell? w t ht0; omega), World.frozen?_alloc_old _ _ t (Nat.ne_of_lt (World.block_lt_of_cell? w t ht0))]; exact hf0)
  clear b1 s1 b2 n2 hF
  go_enter Tryz.func64, Tryz.ntmps64
  go_wp2
  refine wp_loop_rounds 2 ?_
  rw [rounds_succ]
  go_wp2
  rw [rounds_succ]
  go_wp2
  go_ret
  exact ⟨rfl, _, HBB.out, rfl⟩
set_option maxRecDepth 100000 in
set_option maxHeartbeats 4000000 in
theorem asE3 (F : Nat) (call : ByteArray) (at' : Int) (G : Nat) (call2 : ByteArray) (at2 : Int) (n : Int) (t a : Addr) (old : Value) (w : World) (ha : w.cell? a = some (.pointer (some t))) (ht0 : w.cell? t = some old) (hf0 : w.frozen? t = false) (hF : w.heap[F]? = some (.cells #[.string call, .int .i64 at', .iface 75 (.pointer (some ⟨G, 0, none⟩))] 77 (0, 0))) (hG : w.heap[G]? = some (.cells #[.string call2, .int .i64 at2, .iface 25 (.int .i64 n)] 77 (0, 0))) :
    Calls Tryz.prog 64 #[.iface 75 (.pointer (some ⟨F, 0, none⟩)), .iface 96 (.pointer (some t)), .agg #[.pointer (some ⟨3, 96, none⟩), .pointer (some a), .int .u64 150], .iface 146 (.agg #[.pointer (some ⟨3, 25, none⟩)])] w fun ev w' => ev = .returned (.bool true) ∧ ∃ V, Below w.heap.size w V ∧ w' = V.setCell t (.int .i64 n) := by
  have h50 := @run_callFunc_extern Tryz.prog 80 _ ReflectliteType.typeOf Tryz.func80 (by kernel_rfl) (by kernel_rfl) (by kernel_rfl) (by kernel_rfl)
  have h93 := @run_callFunc_extern Tryz.prog 61 _ (fun args => ReflectliteValue.unpack (args.getD 0 (.tuple #[]))) Tryz.func61 (by kernel_rfl) (by kernel_rfl) (by kernel_rfl) (by kernel_rfl)
  have h118 := @run_callFunc_extern Tryz.prog 81 _ (ReflectliteValue.method (ReflectliteValue.valueError "reflectlite.Value.Elem" 0) ReflectliteValue.elem) Tryz.func81 (by kernel_rfl) (by kernel_rfl) (by kernel_rfl) (by kernel_rfl)
  have h119 := @run_callFunc_extern Tryz.prog 82 _ ReflectliteValue.set Tryz.func82 (by kernel_rfl) (by kernel_rfl) (by kernel_rfl) (by kernel_rfl)
  have h221 := @run_callFunc_extern Tryz.prog 151 _ (ReflectliteType.relation "AssignableTo" ReflectliteType.assignableTo) Tryz.func151 (by kernel_rfl) (by kernel_rfl) (by kernel_rfl) (by kernel_rfl)
  have mA := mtAsg
  have mU := mtUn
  have tO7 := tOf74
  have a74 := asg74_48
  have n74 := no74_As
  have i74 := is74_Un
  have b1 := below_new w (.cells #[.pointer (some ⟨3, 96, none⟩), .pointer (some a), .int .u64 150] 125)
  have c1 : (w.alloc (.cells #[.pointer (some ⟨3, 96, none⟩), .pointer (some a), .int .u64 150] 125)).cell? ⟨F, 2, none⟩ = some _ := cell_of ((b1.block _ (Array.getElem?_eq_some_iff.1 hF).1).trans hF) 2
  have c2 : (w.alloc (.cells #[.pointer (some ⟨3, 96, none⟩), .pointer (some a), .int .u64 150] 125)).cell? ⟨G, 2, none⟩ = some _ := cell_of ((b1.block _ (Array.getElem?_eq_some_iff.1 hG).1).trans hG) 2
  have tO := tOf48
  have a48 := asg48_48
  have v48 := vOf48
  have s1 := size_alloc w (.cells #[.pointer (some ⟨3, 96, none⟩), .pointer (some a), .int .u64 150] 125)
  have b2 := below_new (w.alloc (.cells #[.pointer (some ⟨3, 96, none⟩), .pointer (some a), .int .u64 150] 125)) (.cells #[.int .i64 n] 25)
  have n2 := heap_new (w.alloc (.cells #[.pointer (some ⟨3, 96, none⟩), .pointer (some a), .int .u64 150] 125)) (.cells #[.int .i64 n] 25)
  have HBB : Hid (Below w.heap.size w ((w.alloc (.cells #[.pointer (some ⟨3, 96, none⟩), .pointer (some a), .int .u64 150] 125)).alloc (.cells #[.int .i64 n] 25))) := below2 b1 b2
  have el := elv161 a t (w.alloc (.cells #[.pointer (some ⟨3, 96, none⟩), .pointer (some a), .int .u64 150] 125)) (by rw [World.cell?_alloc_lt _ _ a (World.block_lt_of_cell? w a ha)]; exact ha)
  have st := set48 t ⟨w.heap.size + 1, 0, none⟩ n old ((w.alloc (.cells #[.pointer (some ⟨3, 96, none⟩), .pointer (some a), .int .u64 150] 125)).alloc (.cells #[.int .i64 n] 25)) (by rw [s1] at n2; exact cell_of n2 0)
    (by rw [World.cell?_alloc_lt _ _ t (by rw [s1]; exact Nat.lt_succ_of_lt (World.block_lt_of_cell? w t ht0)), World.cell?_alloc_lt _ _ t (World.block_lt_of_cell? w t ht0)]; exact ht0)
    (by rw [World.frozen?_alloc_old _ _ t (by rw [s1]; have := World.block_lt_of_cell? w t ht0; omega), World.frozen?_alloc_old _ _ t (Nat.ne_of_lt (World.block_lt_of_cell? w t ht0))]; exact hf0)
  clear b1 s1 b2 n2 hF hG
  go_enter Tryz.func64, Tryz.ntmps64
  go_wp2
  refine wp_loop_rounds 3 ?_
  rw [rounds_succ]
  go_wp2
  rw [rounds_succ]
  go_wp2
  rw [rounds_succ]
  go_wp2
  go_ret
  exact ⟨rfl, _, HBB.out, rfl⟩
set_option maxRecDepth 100000 in
set_option maxHeartbeats 4000000 in
theorem asN1 (F : Nat) (call : ByteArray) (at' : Int)  (t a : Addr) (w : World) (hF : w.heap[F]? = some (.cells #[.string call, .int .i64 at', .nilIface] 77 (0, 0))) :
    Calls Tryz.prog 64 #[.iface 75 (.pointer (some ⟨F, 0, none⟩)), .iface 96 (.pointer (some t)), .agg #[.pointer (some ⟨3, 96, none⟩), .pointer (some a), .int .u64 150], .iface 146 (.agg #[.pointer (some ⟨3, 25, none⟩)])] w fun ev w' => ev = .returned (.bool false) ∧ Below w.heap.size w w' := by
  have h50 := @run_callFunc_extern Tryz.prog 80 _ ReflectliteType.typeOf Tryz.func80 (by kernel_rfl) (by kernel_rfl) (by kernel_rfl) (by kernel_rfl)
  have h93 := @run_callFunc_extern Tryz.prog 61 _ (fun args => ReflectliteValue.unpack (args.getD 0 (.tuple #[]))) Tryz.func61 (by kernel_rfl) (by kernel_rfl) (by kernel_rfl) (by kernel_rfl)
  have h118 := @run_callFunc_extern Tryz.prog 81 _ (ReflectliteValue.method (ReflectliteValue.valueError "reflectlite.Value.Elem" 0) ReflectliteValue.elem) Tryz.func81 (by kernel_rfl) (by kernel_rfl) (by kernel_rfl) (by kernel_rfl)
  have h119 := @run_callFunc_extern Tryz.prog 82 _ ReflectliteValue.set Tryz.func82 (by kernel_rfl) (by kernel_rfl) (by kernel_rfl) (by kernel_rfl)
  have h221 := @run_callFunc_extern Tryz.prog 151 _ (ReflectliteType.relation "AssignableTo" ReflectliteType.assignableTo) Tryz.func151 (by kernel_rfl) (by kernel_rfl) (by kernel_rfl) (by kernel_rfl)
  have mA := mtAsg
  have mU := mtUn
  have tO7 := tOf74
  have a74 := asg74_48
  have n74 := no74_As
  have i74 := is74_Un
  have b1 := below_new w (.cells #[.pointer (some ⟨3, 96, none⟩), .pointer (some a), .int .u64 150] 125)
  have c1 : (w.alloc (.cells #[.pointer (some ⟨3, 96, none⟩), .pointer (some a), .int .u64 150] 125)).cell? ⟨F, 2, none⟩ = some _ := cell_of ((b1.block _ (Array.getElem?_eq_some_iff.1 hF).1).trans hF) 2
  have HB1 : Hid (Below w.heap.size w (w.alloc (.cells #[.pointer (some ⟨3, 96, none⟩), .pointer (some a), .int .u64 150] 125))) := b1
  clear b1 hF
  go_enter Tryz.func64, Tryz.ntmps64
  go_wp2
  refine wp_loop_rounds 1 ?_
  rw [rounds_succ]
  go_wp2
  go_ret
  exact ⟨rfl, HB1.out⟩
end Go.Proofs.YtkfabnchhjfjjabGreatDoor
