import Derived.Test.YtgbkmjnnlkgpnaaGreatProg
import Derived.Shelf.Lay
import Derived.Ground.NamesProg
import Derived.Shelf.Sort.Plain
import Derived.Shelf.Slices.In.SortNone
import Derived.Lib.SortBridge
namespace Go.Proofs.Tryz
open Go.Shelf
theorem lZq{α:Type}{a b:α}{o:Option α}(h:o=some a)(e:a=b):o=some b:=h.trans (congrArg some e)
def laysSort_ren:Ren:=⟨fun|189=>135|125=>165|257=>164|128=>192|129=>193|294=>183|295=>184|296=>185|297=>186|298=>187|299=>188|216=>189|300=>190|301=>191|328=>200|329=>201|330=>202|331=>203|332=>204|215=>194|343=>212|n=>n,fun|28=>30|3=>3|46=>201|0=>0|51=>222|53=>224|4=>4|183=>216|182=>215|131=>118|5=>5|9=>9|218=>228|222=>210|228=>234|229=>235|n=>n,fun|n=>n⟩
theorem laysSort:Lays.n189 prog laysSort_ren:=⟨by kernel_rfl,lZq func165 (by kernel_rfl),lZq func192 (by kernel_rfl),lZq func193 (by kernel_rfl),lZq func135 (by kernel_rfl),lZq func194 (by kernel_rfl),lZq func189 (by kernel_rfl),lZq func164 (by kernel_rfl),lZq func183 (by kernel_rfl),lZq func184 (by kernel_rfl),lZq func185 (by kernel_rfl),lZq func186 (by kernel_rfl),lZq func187 (by kernel_rfl),lZq func188 (by kernel_rfl),lZq func190 (by kernel_rfl),lZq func191 (by kernel_rfl),lZq func200 (by kernel_rfl),lZq func201 (by kernel_rfl),lZq func202 (by kernel_rfl),lZq func203 (by kernel_rfl),lZq func204 (by kernel_rfl),lZq func212 (by kernel_rfl),underlying0,isAgg0,sizeOf0,zeroValue0,underlying3,isAgg3,sizeOf3,zeroValue3,underlying4,isAgg4,sizeOf4,zeroValue4,underlying5,isAgg5,sizeOf5,zeroValue5,underlying9,isAgg9,sizeOf9,zeroValue9,underlying30,isAgg30,sizeOf30,zeroValue30,underlying201,isAgg201,sizeOf201,zeroValue201,underlying222,isAgg222,sizeOf222,zeroValue222,underlying224,isAgg224,sizeOf224,zeroValue224,underlying118,isAgg118,sizeOf118,zeroValue118,underlying215,isAgg215,sizeOf215,zeroValue215,underlying216,isAgg216,sizeOf216,zeroValue216,underlying228,isAgg228,sizeOf228,zeroValue228,underlying210,isAgg210,sizeOf210,zeroValue210,underlying234,isAgg234,sizeOf234,zeroValue234,underlying235,isAgg235,sizeOf235,zeroValue235⟩
end Go.Proofs.Tryz
namespace Go.Proofs.YtgbkmjnnlkgpnaaGreat
open Go.Shelf Go.Sort
theorem sort_run (blk off cap:Nat) (zs:List Int) (w:World) (hH:Holds (Value.int .i64) w blk off zs.toArray) (hblk:blk<w.heap.size) (hsz:zs.length<4611686018427387904) :
  Calls Tryz.prog 135 #[.slice (some ⟨blk,off,none⟩) zs.length cap] w fun e w'=>e=.returned (.tuple #[])/\∃ n os,w'=grow (putRow (Value.int .i64) (Sort.ahead w n) blk off (zs.mergeSort fun x y=>decide (x<=y)).toArray) os :=
 Any.slices_Sort_int Tryz.laysSort blk off cap zs w hH hblk hsz
