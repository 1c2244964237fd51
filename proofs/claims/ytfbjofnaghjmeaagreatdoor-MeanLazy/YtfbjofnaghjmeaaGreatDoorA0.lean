import Derived.OrdersHeld
import Derived.Below
import Derived.Test.YtfbjofnaghjmeaaGreatDoorRows
namespace Go.Proofs.YtfbjofnaghjmeaaGreatDoor
open Go
scoped notation "zK" => (by kernel_rfl)
scoped notation:max w:max "§" => Array.size (World.heap w)
scoped notation "zP" x:max => Value.pointer (some (Addr.mk x 0 none))
scoped notation "zU" x:max => Value.int IntKind.u8 x
scoped notation "zI" x:max => Value.int IntKind.i64 x
scoped notation "zG" => Tryz.prog
scoped notation:max "zNo" => #[Value.int IntKind.u8 0, Value.int IntKind.u8 0, Value.int IntKind.u8 0, Value.int IntKind.i64 0, Value.int IntKind.u8 0, Value.string (ByteArray.mk #[]), Value.slice none 0 0, Value.int IntKind.i64 0]
scoped notation "Z0" => ByteArray.mk #[115,117,98,109,105,116]
scoped notation "Z1" => ByteArray.mk #[97,109,101,110,100]
scoped notation "Z2" => ByteArray.mk #[99,97,110,99,101,108]
scoped notation "Z3" => ByteArray.mk #[103,111,116,111]
scoped notation "Z4" => ByteArray.mk #[104,97,108,116]
scoped notation "Z5" => ByteArray.mk #[115,101,116]
scoped notation "Z6" => ByteArray.mk #[67,104,101,99,107]
scoped notation "Z7" => ByteArray.mk #[38,38]
scoped notation "Z8" => ByteArray.mk #[44]
scoped notation "Z9" => ByteArray.mk #[59]
scoped notation "Za" => ByteArray.mk #[115,108,111,116]
scoped notation "Zb" => ByteArray.mk #[114,101,103]
scoped notation "Zc" => ByteArray.mk #[115,116,97,116,101]
scoped notation "Zd" => ByteArray.mk #[119,104,101,110]
scoped notation "Ze" => ByteArray.mk #[125]
scoped notation "Zf" => ByteArray.mk #[79,102]
scoped notation "Zg" => ByteArray.mk #[123]
scoped notation "Zh" => ByteArray.mk #[61]
scoped notation "Zi" => ByteArray.mk #[45]
scoped notation "Zj" => ByteArray.mk #[98,117,121]
scoped notation "Zk" => ByteArray.mk #[124,124]
scoped notation "Zl" => ByteArray.mk #[104,97,115]
scoped notation "Zm" => ByteArray.mk #[105,110,116]
scoped notation "Zn" => ByteArray.mk #[112,114,105,99,101]
scoped notation "Zo" => ByteArray.mk #[113,116,121]
scoped notation "Zp" => ByteArray.mk #[116,105,109,101]
scoped notation "Zq" => ByteArray.mk #[98,111,111,108]
scoped notation "Zr" => ByteArray.mk #[102,111,107]
scoped notation "Zs" => ByteArray.mk #[105,111,99]
scoped notation "Zt" => ByteArray.mk #[108,105,109,105,116]
scoped notation "Zu" => ByteArray.mk #[112,111,115,116]
scoped notation "Zv" => ByteArray.mk #[115,105,100,101]
scoped notation "Zw" => ByteArray.mk #[115,116,114,97,116,101,103,121]
scoped notation "Zx" => ByteArray.mk #[109,97,114,107,101,116]
scoped notation "Zy" => ByteArray.mk #[123,125,40,41,44,59,63,58,61,33,60,62,43,45,42,47,37]
scoped notation:max a:max "¢" b:max => Addr.mk a b none
scoped notation "zJ" x:max => (Iff.mp Array.getElem?_eq_some_iff x)
scoped notation "zC" x:max y:max => some (Obj.cells x y (0,0))
scoped notation:max "yQ" => Value.string (ByteArray.mk #[])
scoped notation "yB" => ByteArray
scoped notation "yW" => World
scoped notation "yD" x:max y:max => Go.RowKit.Below (Array.size (World.heap x)) x y
scoped notation "zW" a:max b:max c:max d:max e:max f:max g:max h:max i:max j:max => #[Value.int IntKind.u8 a,Value.int IntKind.u8 b,Value.int IntKind.u8 c,Value.int IntKind.i64 d,Value.int IntKind.u8 e,Value.string f,Value.slice g (List.length h) i,Value.int IntKind.i64 j]
scoped notation:max "zd" => #[Value.int IntKind.u8 0,Value.int IntKind.u8 0,Value.int IntKind.u8 0,Value.int IntKind.i64 0,Value.int IntKind.u8 0,Value.string (ByteArray.mk #[]),Value.slice none 0 0,Value.int IntKind.i64 0]
scoped notation:max "ze" => #[Value.string (ByteArray.mk #[]),Value.int IntKind.u8 0,Value.int IntKind.u8 0,Value.int IntKind.u8 0,Value.int IntKind.u8 0,Value.int IntKind.i64 0,Value.int IntKind.u8 0,Value.string (ByteArray.mk #[]),Value.slice none 0 0,Value.int IntKind.i64 0,Value.int IntKind.i64 0]
scoped notation:max "zg" => #[Value.bool false,Value.bool false,Value.bool false,Value.bool false,Value.bool false,Value.bool false]
scoped notation:max "zh" => #[Value.int IntKind.u8 0,Value.int IntKind.u8 0,Value.int IntKind.u8 0,Value.int IntKind.i64 0,Value.int IntKind.u8 0,Value.string (ByteArray.mk #[]),Value.slice none 0 0,Value.int IntKind.i64 0,Value.slice none 0 0,Value.int IntKind.i64 0]
scoped notation:max "zi" => #[Value.int IntKind.i64 0,Value.int IntKind.i64 0,Value.bool false]
scoped notation:max "zj" => #[Value.bool false,Value.bool true,Value.bool false,Value.bool false,Value.bool false,Value.bool false]
scoped notation:max "zk" => #[Value.string (ByteArray.mk #[]),Value.slice none 0 0,Value.slice none 0 0,Value.slice none 0 0]
scoped notation:max "zl" => #[Value.int IntKind.u8 3,Value.int IntKind.u8 3,Value.int IntKind.u8 3,Value.int IntKind.u8 2,Value.int IntKind.u8 4,Value.int IntKind.u8 2]
scoped notation:max "zm" => #[Value.string (ByteArray.mk #[]),Value.slice none 0 0,Value.int IntKind.i64 0]
scoped notation:max "zn" => #[Value.map none,Value.map none,Value.map none]
scoped notation:max "zp" => #[Value.bool false,Value.bool true,Value.bool false,Value.bool false,Value.bool false,Value.bool true]
scoped notation:max "zq" => #[Value.bool false,Value.bool true,Value.bool false,Value.bool true,Value.bool true,Value.bool false]
scoped notation:max "zr" => #[Value.int IntKind.u8 0,Value.int IntKind.u8 0,Value.int IntKind.u8 0,Value.int IntKind.i64 0,Value.int IntKind.u8 0,Value.string (ByteArray.mk #[]),Value.slice none 0 0,Value.int IntKind.i64 0,Value.int IntKind.u8 0]
scoped notation:max "zt" => [Z0,Z1,Z2,Z5,Z3,Z4]
scoped notation:max "zu" => #[Value.int IntKind.i64 0,Value.int IntKind.i64 0,Value.int IntKind.i64 0,Value.int IntKind.i64 0,Value.int IntKind.i64 0,Value.int IntKind.i64 0,Value.slice none 0 0,Value.map none]
scoped notation:max "zv" => #[Value.int IntKind.u8 0,Value.string (ByteArray.mk #[]),Value.int IntKind.u8 0,Value.int IntKind.i64 0,Value.int IntKind.i64 0]
scoped notation:max "zw" => #[Value.int IntKind.i64 0,Value.slice none 0 0]
scoped notation:max "zx" => #[Value.string (ByteArray.mk #[]),Value.int IntKind.i64 0]
scoped notation:max "zy" => [Zm,Zo,Zn,Zp,Zq,Zv]
scoped notation:max "zF" l:max => (List.cons (Value.int IntKind.u8 0) (List.cons (Value.int IntKind.u8 0) (List.cons (Value.int IntKind.u8 0) (List.cons (Value.int IntKind.i64 0) (List.cons (Value.int IntKind.u8 0) (List.cons yQ (List.cons (Value.slice none 0 0) (List.cons (Value.int IntKind.i64 0) l))))))))
scoped notation:max "zE" x:max => List.toArray (List.cons (Value.int IntKind.u8 x) (List.cons (Value.int IntKind.u8 0) (List.cons yQ (zF (zF (zF (zF (List.cons (Value.int IntKind.i64 0) List.nil))))))))
scoped notation "zTa" k:max => wpAnyH_take (i := k) (v := ?_) rfl zK zK zK (fun _ _ _ h => h) (Or.inl (And.intro (by rfl) ?_)) (by assumption) ?_
scoped notation "zTb" k:max x:max => wpAnyH_take (i := k) (v := ?_) rfl zK zK zK (fun c a w h => Go.RowKit.Hid.out x c _ _ a w h) (Or.inl (And.intro (by rfl) ?_)) (by assumption) ?_
scoped notation "zTc" k:max => wpAnyH_take (i := k) (v := ?_) rfl zK zK zK (fun _ _ _ h => h) (Or.inr (And.intro (by rfl) ?_)) (by assumption) ?_
scoped notation:50 "zQ" w:max a:max v:max => World.cell? w a = some v
scoped notation:50 "zS" w:max a:max => World.frozen? w a = false
scoped notation:max "zY" => (by omega)
scoped notation "zA" w:max x:max t:max => World.alloc w (Obj.cells x t)
scoped notation "jV" => Exists.intro _ rfl
scoped notation "jX" => 9223372036854775807
scoped notation "zO" => Value.slice none 0 0
def zHP (q : Exit → Act → World → Prop) : Prop := Go.RowKit.Hid (∀ p (d : Nat) v a w, q (Exit.panic p) (Act.put a (some d) v) w → q (Exit.panic p) a w)
end Go.Proofs.YtfbjofnaghjmeaaGreatDoor
