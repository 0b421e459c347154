/- slices.Sort at []int. -/
import Derived.Test.YtpdidlnbeahanaaProg
import Derived.Shelf.Lay
import Derived.Ground.NamesProg
import Derived.Shelf.Sort.Plain
import Derived.Shelf.Slices.In.SortNone
import Derived.Lib.SortBridge
namespace Go.Proofs.Try
open Go.Shelf
theorem lZq{α:Type}{a b:α}{o:Option α}(h:o=some a)(e:a=b):o=some b:=h.trans (congrArg some e)
def laysSort_ren:Ren:=⟨fun|189=>31|125=>42|257=>41|128=>54|129=>55|294=>45|295=>46|296=>47|297=>48|298=>49|299=>50|216=>51|300=>52|301=>53|328=>56|329=>57|330=>58|331=>59|332=>60|215=>61|343=>62|n=>n,fun|28=>22|3=>3|46=>62|0=>0|51=>74|53=>76|4=>4|183=>67|182=>66|131=>71|5=>5|9=>9|218=>77|222=>81|228=>83|229=>84|n=>n,fun|n=>n⟩
theorem laysSort:Lays.n189 prog laysSort_ren:=⟨by kernel_rfl,lZq func42 (by kernel_rfl),lZq func54 (by kernel_rfl),lZq func55 (by kernel_rfl),lZq func31 (by kernel_rfl),lZq func61 (by kernel_rfl),lZq func51 (by kernel_rfl),lZq func41 (by kernel_rfl),lZq func45 (by kernel_rfl),lZq func46 (by kernel_rfl),lZq func47 (by kernel_rfl),lZq func48 (by kernel_rfl),lZq func49 (by kernel_rfl),lZq func50 (by kernel_rfl),lZq func52 (by kernel_rfl),lZq func53 (by kernel_rfl),lZq func56 (by kernel_rfl),lZq func57 (by kernel_rfl),lZq func58 (by kernel_rfl),lZq func59 (by kernel_rfl),lZq func60 (by kernel_rfl),lZq func62 (by kernel_rfl),underlying0,isAgg0,sizeOf0,zeroValue0,underlying3,isAgg3,sizeOf3,zeroValue3,underlying4,isAgg4,sizeOf4,zeroValue4,underlying5,isAgg5,sizeOf5,zeroValue5,underlying9,isAgg9,sizeOf9,zeroValue9,underlying22,isAgg22,sizeOf22,zeroValue22,underlying62,isAgg62,sizeOf62,zeroValue62,underlying74,isAgg74,sizeOf74,zeroValue74,underlying76,isAgg76,sizeOf76,zeroValue76,underlying71,isAgg71,sizeOf71,zeroValue71,underlying66,isAgg66,sizeOf66,zeroValue66,underlying67,isAgg67,sizeOf67,zeroValue67,underlying77,isAgg77,sizeOf77,zeroValue77,underlying81,isAgg81,sizeOf81,zeroValue81,underlying83,isAgg83,sizeOf83,zeroValue83,underlying84,isAgg84,sizeOf84,zeroValue84⟩
end Go.Proofs.Try
namespace Go.Proofs.Ytpdidlnbeahanaa
open Go.Shelf Go.Sort
theorem sort_run (blk off cap : Nat) (zs : List Int) (w : World) (hH : Holds (Value.int .i64) w blk off zs.toArray) (hblk : blk < w.heap.size) (hsz : zs.length < 4611686018427387904) :
    Calls Try.prog 31 #[.slice (some ⟨blk, off, none⟩) zs.length cap] w fun e w' => e = .returned (.tuple #[]) ∧ ∃ n os, w' = grow (putRow (Value.int .i64) (Sort.ahead w n) blk off (zs.mergeSort fun x y => decide (x ≤ y)).toArray) os :=
  Any.slices_Sort_int Try.laysSort blk off cap zs w hH hblk hsz
end Go.Proofs.Ytpdidlnbeahanaa
