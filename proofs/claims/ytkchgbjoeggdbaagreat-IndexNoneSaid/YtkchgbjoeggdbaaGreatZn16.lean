import Derived.Test.YtkchgbjoeggdbaaGreatZn1
import Derived.Test.YtkchgbjoeggdbaaGreatProg
import Derived.Shelf.Lay
import Derived.Shelf.Sort.Plain
import Derived.Shelf.Slices.In.SortNone
import Derived.Lib.SortBridge
namespace Go.Proofs
open Go.Shelf
shelf_lay Lays.n189 Nm 189 at Tryz as Tryz.laysSort
end Go.Proofs
namespace Go.Proofs.YtkchgbjoeggdbaaGreat
open Go.Proofs.Tryz
open Go.Shelf Go.Sort
theorem Gp(blk off cap:Nat)(zs:List Int)(w:World)(hH:Holds (.int .i64) w blk off zs.toArray)(hblk:blk<w.heap.size)(hsz:zs.length<4611686018427387904):Calls prog 67 #[.slice (some ⟨blk,off,none⟩) zs.length cap] w fun e a=>e=.returned (.tuple #[])/\∃n os,a=grow (putRow (.int .i64) (Sort.ahead w n) blk off (zs.mergeSort fun x y=>decide (x<=y)).toArray) os:=
 Any.slices_Sort_int Tryz.laysSort blk off cap zs w hH hblk hsz
