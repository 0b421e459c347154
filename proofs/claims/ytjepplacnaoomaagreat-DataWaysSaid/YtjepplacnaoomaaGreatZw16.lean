import Derived.Test.YtjepplacnaoomaaGreatProg
import Derived.Shelf.Lay
import Derived.Ground.NamesProg
import Derived.Shelf.Sort.Plain
import Derived.Shelf.Slices.In.SortNone
import Derived.Lib.SortBridge
namespace Go.Proofs.Tryz
open Go.Shelf
theorem lZq{α:Type}{a b:α}{o:Option α}(h:o=some a)(e:a=b):o=some b:=h.trans (congrArg some e)
def laysSort_ren:Ren:=⟨fun|189=>143|125=>163|257=>162|128=>185|129=>186|294=>176|295=>177|296=>178|297=>179|298=>180|299=>181|216=>182|300=>183|301=>184|328=>190|329=>191|330=>192|331=>193|332=>194|215=>145|343=>202|n=>n,fun|28=>40|3=>3|46=>187|0=>0|51=>216|53=>218|4=>4|183=>210|182=>209|131=>47|5=>5|9=>9|218=>221|222=>204|228=>227|229=>228|n=>n,fun|n=>n⟩
theorem laysSort:Lays.n189 prog laysSort_ren:=⟨by kernel_rfl,lZq func163 (by kernel_rfl),lZq func185 (by kernel_rfl),lZq func186 (by kernel_rfl),lZq func143 (by kernel_rfl),lZq func145 (by kernel_rfl),lZq func182 (by kernel_rfl),lZq func162 (by kernel_rfl),lZq func176 (by kernel_rfl),lZq func177 (by kernel_rfl),lZq func178 (by kernel_rfl),lZq func179 (by kernel_rfl),lZq func180 (by kernel_rfl),lZq func181 (by kernel_rfl),lZq func183 (by kernel_rfl),lZq func184 (by kernel_rfl),lZq func190 (by kernel_rfl),lZq func191 (by kernel_rfl),lZq func192 (by kernel_rfl),lZq func193 (by kernel_rfl),lZq func194 (by kernel_rfl),lZq func202 (by kernel_rfl),underlying0,isAgg0,sizeOf0,zeroValue0,underlying3,isAgg3,sizeOf3,zeroValue3,underlying4,isAgg4,sizeOf4,zeroValue4,underlying5,isAgg5,sizeOf5,zeroValue5,underlying9,isAgg9,sizeOf9,zeroValue9,underlying40,isAgg40,sizeOf40,zeroValue40,underlying187,isAgg187,sizeOf187,zeroValue187,underlying216,isAgg216,sizeOf216,zeroValue216,underlying218,isAgg218,sizeOf218,zeroValue218,underlying47,isAgg47,sizeOf47,zeroValue47,underlying209,isAgg209,sizeOf209,zeroValue209,underlying210,isAgg210,sizeOf210,zeroValue210,underlying221,isAgg221,sizeOf221,zeroValue221,underlying204,isAgg204,sizeOf204,zeroValue204,underlying227,isAgg227,sizeOf227,zeroValue227,underlying228,isAgg228,sizeOf228,zeroValue228⟩
end Go.Proofs.Tryz
namespace Go.Proofs.YtjepplacnaoomaaGreat
open Go.Shelf Go.Sort
theorem sort_run (blk off cap:Nat) (zs:List Int) (w:World) (hH:Holds (Value.int .i64) w blk off zs.toArray) (hblk:blk<w.heap.size) (hsz:zs.length<4611686018427387904) :
  Calls Tryz.prog 143 #[.slice (some ⟨blk,off,none⟩) zs.length cap] w fun e w'=>e=.returned (.tuple #[])/\∃ n os,w'=grow (putRow (Value.int .i64) (Sort.ahead w n) blk off (zs.mergeSort fun x y=>decide (x<=y)).toArray) os :=
 Any.slices_Sort_int Tryz.laysSort blk off cap zs w hH hblk hsz
