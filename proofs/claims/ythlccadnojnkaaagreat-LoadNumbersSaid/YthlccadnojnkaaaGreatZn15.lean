import Derived.Test.YthlccadnojnkaaaGreatZn1
import Derived.Test.YthlccadnojnkaaaGreatProg
import Derived.Shelf.Lay
import Derived.Shelf.Sort.Plain
import Derived.Shelf.Slices.In.SortNone
import Derived.Lib.SortBridge
namespace Go.Proofs.Tryz
open Go.Shelf
theorem lZq{α:Type}{a b:α}{o:Option α}(h:o=some a)(e:a=b):o=some b:=h.trans (congrArg some e)
def laysSort_ren:Ren:=⟨fun|189=>147|125=>175|257=>174|128=>202|129=>203|294=>193|295=>194|296=>195|297=>196|298=>197|299=>198|216=>199|300=>200|301=>201|328=>210|329=>211|330=>212|331=>213|332=>214|215=>204|343=>222|n=>n,fun|28=>45|3=>3|46=>198|0=>0|51=>233|53=>235|4=>4|183=>227|182=>226|131=>129|5=>5|9=>9|218=>239|222=>221|228=>245|229=>246|n=>n,fun|n=>n⟩
theorem laysSort:Lays.n189 prog laysSort_ren:=⟨by kernel_rfl,lZq func175 (by kernel_rfl),lZq func202 (by kernel_rfl),lZq func203 (by kernel_rfl),lZq func147 (by kernel_rfl),lZq func204 (by kernel_rfl),lZq func199 (by kernel_rfl),lZq func174 (by kernel_rfl),lZq func193 (by kernel_rfl),lZq func194 (by kernel_rfl),lZq func195 (by kernel_rfl),lZq func196 (by kernel_rfl),lZq func197 (by kernel_rfl),lZq func198 (by kernel_rfl),lZq func200 (by kernel_rfl),lZq func201 (by kernel_rfl),lZq func210 (by kernel_rfl),lZq func211 (by kernel_rfl),lZq func212 (by kernel_rfl),lZq func213 (by kernel_rfl),lZq func214 (by kernel_rfl),lZq func222 (by kernel_rfl),underlying0,isAgg0,sizeOf0,zeroValue0,underlying3,isAgg3,sizeOf3,zeroValue3,underlying4,isAgg4,sizeOf4,zeroValue4,underlying5,isAgg5,sizeOf5,zeroValue5,underlying9,isAgg9,sizeOf9,zeroValue9,underlying45,isAgg45,sizeOf45,zeroValue45,underlying198,isAgg198,sizeOf198,zeroValue198,underlying233,isAgg233,sizeOf233,zeroValue233,underlying235,isAgg235,sizeOf235,zeroValue235,underlying129,isAgg129,sizeOf129,zeroValue129,underlying226,isAgg226,sizeOf226,zeroValue226,underlying227,isAgg227,sizeOf227,zeroValue227,underlying239,isAgg239,sizeOf239,zeroValue239,underlying221,isAgg221,sizeOf221,zeroValue221,underlying245,isAgg245,sizeOf245,zeroValue245,underlying246,isAgg246,sizeOf246,zeroValue246⟩
end Go.Proofs.Tryz
namespace Go.Proofs.YthlccadnojnkaaaGreat
open Go.Proofs.Tryz
open Go.Shelf Go.Sort
theorem GU(blk off cap:Nat)(zs:List Int)(w:World)(hH:Holds (.int .i64) w blk off zs.toArray)(hblk:blk<w.heap.size)(hsz:zs.length<4611686018427387904):Calls prog 147 #[.slice (some ⟨blk,off,none⟩) zs.length cap] w fun e a=>e=.returned (.tuple #[])/\∃n os,a=grow (putRow (.int .i64) (Sort.ahead w n) blk off (zs.mergeSort fun x y=>decide (x<=y)).toArray) os:=
 Any.slices_Sort_int Tryz.laysSort blk off cap zs w hH hblk hsz
