import Derived.Test.YteedmmljahgpjaaGreatDoorRows
namespace Go.Proofs.YteedmmljahgpjaaGreatDoor
open Go
scoped notation "zK" => (by kernel_rfl)
scoped notation:max w:max "§" => Array.size (World.heap w)
scoped notation "zP" x:max => Value.pointer (some (Addr.mk x 0 none))
scoped notation "zU" x:max => Value.int IntKind.u8 x
scoped notation "zI" x:max => Value.int IntKind.i64 x
scoped notation "zG" => Tryz.prog
scoped notation "Z4" => ByteArray.mk #[123,125,40,41,44,59,63,58,61,33,60,62,43,45,42,47,37]
end Go.Proofs.YteedmmljahgpjaaGreatDoor
