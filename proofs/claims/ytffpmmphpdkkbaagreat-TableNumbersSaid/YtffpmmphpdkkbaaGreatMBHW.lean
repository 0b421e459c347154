/- Without, Eq. slices.Sort at []int. Rows of numbers; slices.Sort of one's own. -/
import Derived.Test.YtffpmmphpdkkbaaGreatMBHN
import Derived.Test.YtffpmmphpdkkbaaGreatProg
import Derived.Shelf.Lay
import Derived.Ground.NamesProg
import Derived.Shelf.Sort.Plain
import Derived.Shelf.Slices.In.SortNone
import Derived.Lib.SortBridge
import Derived.Sort.OwnSortedInts
namespace Go.Proofs.YtffpmmphpdkkbaaGreat
open Go Go.RowKit Go.Proofs

theorem box3' (W : World) (va vb : Value) : ∃ W3 : World, ((W.alloc (.cells #[va] 70)).alloc (.cells #[vb] 70)).alloc (.cells #[.slice none 0 0] 70) = W3 ∧ Below W.heap.size W W3 ∧
    W3.heap[W.heap.size]? = some (.cells #[va] 70) ∧ W3.heap[W.heap.size + 1]? = some (.cells #[vb] 70) ∧ W3.heap[W.heap.size + 1 + 1]? = some (.cells #[.slice none 0 0] 70) := by
  refine ⟨_, rfl, ((below_alloc W _).alloc (by simp) _).alloc (by simp; omega) _, ?_, ?_, ?_⟩
  · exact (Below.heap_alloc _ _ _ (by simp; omega)).trans ((Below.heap_alloc _ _ _ (by simp)).trans (heap_alloc_new W _))
  · have := heap_alloc_new (W.alloc (.cells #[va] 70)) (.cells #[vb] 70)
    rw [World.size_alloc] at this
    exact (Below.heap_alloc _ _ _ (by simp)).trans this
  · have := heap_alloc_new ((W.alloc (.cells #[va] 70)).alloc (.cells #[vb] 70)) (.cells #[.slice none 0 0] 70)
    rw [World.size_alloc, World.size_alloc] at this
    exact this
def outP (P Q : Int → Bool) (x : Int) : Bool := P x && !Q x
theorem out_is {l : List R2} {P Q : Int → Bool} (h : Is l (fun x => P x && notP Q 65536 x)) (hb : ∀ x, P x = true → 0 ≤ x ∧ x < 65536) : Is l (outP P Q) := fun x => by
  rw [h x]
  unfold outP notP
  simp only [Bool.and_eq_true, decide_eq_true_eq]
  constructor
  · rintro ⟨a, b, c⟩; exact ⟨a, c⟩
  · rintro ⟨a, c⟩; have := hb x a; exact ⟨a, by omega, c⟩
theorem Is.bd {l : List R2} {P : Int → Bool} (h : Is l P) (hl : Nrm l) : ∀ x, P x = true → 0 ≤ x ∧ x < 65536 := fun x hx => mem_bd hl ((h x).2 hx)

/-! ### Eq -/
theorem neq56 (w : World) (f t c f' t' c' : Int) : (binOp .neq 112 (Value.agg #[Value.int .i64 (f), Value.int .i64 (t), Value.int .i64 (c)]) (Value.agg #[Value.int .i64 (f'), Value.int .i64 (t'), Value.int .i64 (c')])).run Tryz.prog w = .ok (.bool (!(f == f' && (t == t' && c == c')))) w := by
  have hp : Tryz.prog.stoodInHeld 112 = false := by kernel_rfl
  have hf : Tryz.prog.underlying 112 = some (.struct (Tryz.prog.fieldsOf 112)) := by kernel_rfl
  have u3 := Tryz.underlying3
  rw [run_neq_struct, run_equalIn_agg w 9999 112 _ _ hf hp]
  simp [go_sem, Tryz.underlying112, Op.eqFields, u3]
  by_cases h : f = f' <;> by_cases h1 : t = t' <;> by_cases h2 : c = c' <;> simp [h, h1, h2]
end Go.Proofs.YtffpmmphpdkkbaaGreat
namespace Go.Proofs.Tryz
open Go.Shelf
theorem lZq{α:Type}{a b:α}{o:Option α}(h:o=some a)(e:a=b):o=some b:=h.trans (congrArg some e)
def laysSort_ren:Ren:=⟨fun|189=>84|125=>94|257=>93|128=>111|129=>112|294=>102|295=>103|296=>104|297=>105|298=>106|299=>107|216=>108|300=>109|301=>110|328=>120|329=>121|330=>122|331=>123|332=>124|215=>125|343=>130|n=>n,fun|28=>35|3=>3|46=>141|0=>0|51=>158|53=>160|4=>4|183=>152|182=>151|131=>94|5=>5|9=>9|218=>168|222=>165|228=>175|229=>176|n=>n,fun|n=>n⟩
theorem laysSort:Lays.n189 prog laysSort_ren:=⟨by kernel_rfl,lZq func94 (by kernel_rfl),lZq func111 (by kernel_rfl),lZq func112 (by kernel_rfl),lZq func84 (by kernel_rfl),lZq func125 (by kernel_rfl),lZq func108 (by kernel_rfl),lZq func93 (by kernel_rfl),lZq func102 (by kernel_rfl),lZq func103 (by kernel_rfl),lZq func104 (by kernel_rfl),lZq func105 (by kernel_rfl),lZq func106 (by kernel_rfl),lZq func107 (by kernel_rfl),lZq func109 (by kernel_rfl),lZq func110 (by kernel_rfl),lZq func120 (by kernel_rfl),lZq func121 (by kernel_rfl),lZq func122 (by kernel_rfl),lZq func123 (by kernel_rfl),lZq func124 (by kernel_rfl),lZq func130 (by kernel_rfl),underlying0,isAgg0,sizeOf0,zeroValue0,underlying3,isAgg3,sizeOf3,zeroValue3,underlying4,isAgg4,sizeOf4,zeroValue4,underlying5,isAgg5,sizeOf5,zeroValue5,underlying9,isAgg9,sizeOf9,zeroValue9,underlying35,isAgg35,sizeOf35,zeroValue35,underlying141,isAgg141,sizeOf141,zeroValue141,underlying158,isAgg158,sizeOf158,zeroValue158,underlying160,isAgg160,sizeOf160,zeroValue160,underlying94,isAgg94,sizeOf94,zeroValue94,underlying151,isAgg151,sizeOf151,zeroValue151,underlying152,isAgg152,sizeOf152,zeroValue152,underlying168,isAgg168,sizeOf168,zeroValue168,underlying165,isAgg165,sizeOf165,zeroValue165,underlying175,isAgg175,sizeOf175,zeroValue175,underlying176,isAgg176,sizeOf176,zeroValue176⟩
end Go.Proofs.Tryz
namespace Go.Proofs.YtffpmmphpdkkbaaGreat
open Go.Shelf Go.Sort
theorem sort_run (blk off cap : Nat) (zs : List Int) (w : World) (hH : Holds (Value.int .i64) w blk off zs.toArray) (hblk : blk < w.heap.size) (hsz : zs.length < 4611686018427387904) :
    Calls Tryz.prog 84 #[.slice (some ⟨blk, off, none⟩) zs.length cap] w fun e w' => e = .returned (.tuple #[]) ∧ ∃ n os, w' = grow (putRow (Value.int .i64) (Sort.ahead w n) blk off (zs.mergeSort fun x y => decide (x ≤ y)).toArray) os :=
  Any.slices_Sort_int Tryz.laysSort blk off cap zs w hH hblk hsz
end Go.Proofs.YtffpmmphpdkkbaaGreat
namespace Go.Proofs.YtffpmmphpdkkbaaGreat
open Go Go.RowKit Go.Proofs

abbrev iv (x : Int) : Value := Value.int .i64 x
/-- Numbers that lie somewhere, to be read. -/
def Rd (W : World) (p : Option Addr) (xs : List Int) : Prop := ∀ j (_ : j < xs.length), ∃ b off, p = some ⟨b, off, none⟩ ∧ b < W.heap.size ∧ W.cell? ⟨b, off + j, none⟩ = some (Value.int .i64 (xs[j]))
theorem Rd.later {W W' : World} {p : Option Addr} {xs : List Int} (h : Rd W p xs) (hb : Below W.heap.size W W') : Rd W' p xs := fun j hj => by
  obtain ⟨b, off, h1, h2, h3⟩ := h j hj
  exact ⟨b, off, h1, Nat.lt_of_lt_of_le h2 hb.size, (hb.cell (p := ⟨b, off + j, none⟩) h2).trans h3⟩
theorem Rd.nil (W : World) (p : Option Addr) : Rd W p [] := fun j hj => absurd hj (Nat.not_lt_zero j)
/-- A row of one's own, of numbers. -/
abbrev Ro (W : World) (base : Nat) (v : Value) (xs : List Int) : Prop := HRow W base 3 1 v xs.length (xs.map iv)
theorem Ro.rd {W : World} {base cap : Nat} {p : Option Addr} {xs : List Int} (h : Ro W base (.slice p xs.length cap) xs) : Rd W p xs := fun j hj => by
  obtain ⟨g, cap', e, _, _⟩ := HRow.slice h (by omega)
  cases e
  refine ⟨g, 0, rfl, (HRow.lt h g rfl).2, ?_⟩
  rw [Nat.zero_add]
  exact HRow.cell h (by rw [List.getElem?_map, List.getElem?_eq_getElem hj]; rfl)
theorem info3 : (Tryz.prog.info? 3).map (fun i => (i.zero, i.size, i.bytes)) = some (some (.int .i64 0), 1, 8) := by kernel_rfl
/-- append of one number. -/
theorem app_int (ty : TypeId) (hty : Tryz.prog.underlying ty = some (.slice 3)) (y : World) (base : Nat) {v : Value} {n : Nat} {xs : List Int} (hn : xs.length = n) (hr : Ro y base v xs) (hm : n + 1 ≤ 1000000) (hb : base ≤ y.heap.size) (k : Int) :
    ∃ g cap w', (Builtin.append_ #[ty, ty] ty #[v, .slice (some ⟨y.heap.size, 0, none⟩) 1 1]).run Tryz.prog (y.alloc (.cells #[(Value.int .i64 (k))] 3)) = .ok (.slice (some ⟨g, 0, none⟩) (n + 1) cap) w' ∧
      Ro w' base (.slice (some ⟨g, 0, none⟩) (n + 1) cap) (xs ++ [k]) ∧ y.grownBy w' v.ownBlock ∧ (v.ownBlock = some g ∨ y.heap.size ≤ g) := by
  subst hn
  obtain ⟨i0, hi0, hz0, hz1, hz2⟩ := info_parts info3
  have hh := heap_alloc_new y (.cells #[(Value.int .i64 (k))] 3)
  obtain ⟨g, cap, w', h1, h2, h3, h4⟩ := run_append_has (P := Tryz.prog) (y.alloc (.cells #[(Value.int .i64 (k))] 3)) base ty ty 3 i0 _ 1 8 hty hi0 hz0 hz1 hz2 rfl (by decide) (HRow.later hr (below_alloc y _)) ⟨y.heap.size, 0, none⟩ 1 1 [(Value.int .i64 (k))] rfl
    (by exact World.news_of_block hh) (by simp [Value.oneCell']) (by decide) (by unfold maxLen; omega) (by omega) (by rw [World.size_alloc]; omega)
  exact ⟨g, cap, w', h1, by unfold Ro; rw [List.map_append, List.length_append]; exact h2, ⟨h3.os, h3.tape, h3.output, Nat.le_trans (by simp) h3.size, fun q hq hne => (h3.block q (by simp; omega) hne).trans ((below_alloc y _).block q hq)⟩, h4.imp id (fun h => by rw [World.size_alloc] at h; omega)⟩
/-- Of what lies below n nothing turned, where a row of blocks from n on did. -/
theorem below_row {n base : Nat} {A B : World} {nv : Value} {e : TypeId} {sz m : Nat} {xs : List Value} (hr : HRow A base e sz nv m xs) (hg : A.grownBy B nv.ownBlock) (hn : n ≤ base) (hs : n ≤ A.heap.size) : Below n A B :=
  ⟨hg.os, hg.tape, hg.output, hg.size, fun q hq => hg.block q (by omega) (fun e => by have := (hr.lt q e.symm).1; omega)⟩

def sorted (xs : List Int) : List Int := xs.mergeSort fun x y => decide (x ≤ y)
theorem sorted_len (xs : List Int) : (sorted xs).length = xs.length := List.length_mergeSort _
theorem sorted_mem (xs : List Int) (x : Int) : x ∈ sorted xs ↔ x ∈ xs := List.mem_mergeSort
theorem sorted_srt (xs : List Int) : (sorted xs).Pairwise (· ≤ ·) :=
  (List.pairwise_mergeSort (le := fun x y : Int => decide (x ≤ y)) (fun a b c h1 h2 => by
    have h1 : a ≤ b := of_decide_eq_true h1
    have h2 : b ≤ c := of_decide_eq_true h2
    exact decide_eq_true (by omega)) (fun a b => by
    rcases Int.le_total a b with h | h
    · simp [h]
    · simp [h]) xs).imp (fun h => of_decide_eq_true h)

theorem sort_any {W : World} {base : Nat} {v : Value} {xs : List Int} (h : Ro W base v xs) (hl : xs.length ≤ 1000000) : Calls Tryz.prog 84 #[v] W fun e w' => e = .returned (.tuple #[]) ∧ Ro w' base v (sorted xs) ∧ W.grownBy w' v.ownBlock := by
  rcases List.eq_nil_or_concat xs with rfl | ⟨k, r, e⟩
  · obtain ⟨p, cap, rfl, _, _⟩ := HRow.isslice h
    refine (Any.slices_Sort_int_none Tryz.laysSort p cap W).mono ?_
    rintro e w' ⟨rfl, rfl⟩
    have e : sorted [] = [] := List.eq_nil_of_length_eq_zero (by rw [sorted_len]; rfl)
    exact ⟨rfl, by rw [e]; exact h, ⟨rfl, rfl, rfl, Nat.le_refl _, fun _ _ _ => rfl⟩⟩
  · have hpos : 0 < xs.length := by rw [e, List.length_concat]; omega
    obtain ⟨g, cap, rfl, hc, hcm⟩ := HRow.slice h hpos
    obtain ⟨cur, hb, hg, _, _, hcs, htake⟩ := HRow.form h
    rw [Nat.mul_one] at htake
    refine (sort_run g 0 cap xs W (holds_of_blockI hg htake) (lt_of_heap hg) (by omega)).mono ?_
    rintro e w' ⟨rfl, n, os, rfl⟩
    refine ⟨rfl, ⟨by simp, .inr ⟨g, cap, _, ?_, hb, heap_sortedI _ hg, by rw [sorted_len]; exact hc, hcm, by simpa [Sort.putCells] using hcs, ?_⟩⟩, grownBy_sortedI _⟩
    · rw [sorted_len]
    · rw [Nat.mul_one]
      exact take_putCellsI cur (sorted xs) (by rw [sorted_len]; omega)
end Go.Proofs.YtffpmmphpdkkbaaGreat
