import Derived.Test.YtoogodlnnijikaaGreatDoorRows
namespace Go.Proofs.YtoogodlnnijikaaGreatDoor
open Go
scoped notation "zK" => (by kernel_rfl)
scoped notation:max w:max "§" => Array.size (World.heap w)
scoped notation "zP" x:max => Value.pointer (some (Addr.mk x 0 none))
scoped notation "zU" x:max => Value.int IntKind.u8 x
scoped notation "zI" x:max => Value.int IntKind.i64 x
scoped notation "zG" => Tryz.prog
scoped notation:max "zNo" => #[Value.int IntKind.u8 0, Value.int IntKind.u8 0, Value.int IntKind.u8 0, Value.int IntKind.i64 0, Value.int IntKind.u8 0, Value.string (ByteArray.mk #[]), Value.slice none 0 0, Value.int IntKind.i64 0]
scoped notation "Z0" => ByteArray.mk #[67,104,101,99,107]
scoped notation "Z4" => ByteArray.mk #[44]
scoped notation "Z5" => ByteArray.mk #[59]
scoped notation "Z6" => ByteArray.mk #[115,108,111,116]
scoped notation "Z7" => ByteArray.mk #[114,101,103]
scoped notation "Z8" => ByteArray.mk #[115,116,97,116,101]
scoped notation "Z9" => ByteArray.mk #[119,104,101,110]
scoped notation "Za" => ByteArray.mk #[125]
scoped notation "Zb" => ByteArray.mk #[79,102]
scoped notation "Zc" => ByteArray.mk #[38,38]
scoped notation "Zd" => ByteArray.mk #[124,124]
scoped notation "Ze" => ByteArray.mk #[123]
scoped notation "Zf" => ByteArray.mk #[63]
scoped notation "Zg" => ByteArray.mk #[45]
scoped notation "Zh" => ByteArray.mk #[116,114,117,101]
scoped notation "Zi" => ByteArray.mk #[97,109,101,110,100]
scoped notation "Zj" => ByteArray.mk #[98,111,111,108]
scoped notation "Zk" => ByteArray.mk #[99,97,110,99,101,108]
scoped notation "Zl" => ByteArray.mk #[103,111,116,111]
scoped notation "Zm" => ByteArray.mk #[104,97,108,116]
scoped notation "Zn" => ByteArray.mk #[105,110,116]
scoped notation "Zo" => ByteArray.mk #[112,114,105,99,101]
scoped notation "Zp" => ByteArray.mk #[113,116,121]
scoped notation "Zq" => ByteArray.mk #[115,101,116]
scoped notation "Zr" => ByteArray.mk #[115,105,100,101]
scoped notation "Zs" => ByteArray.mk #[115,117,98,109,105,116]
scoped notation "Zt" => ByteArray.mk #[116,105,109,101]
scoped notation "Zu" => ByteArray.mk #[115,116,114,97,116,101,103,121]
scoped notation "Zv" => ByteArray.mk #[123,125,40,41,44,59,63,58,61,33,60,62,43,45,42,47,37]
end Go.Proofs.YtoogodlnnijikaaGreatDoor
