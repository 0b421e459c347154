/- namedCols. -/
import Derived.Test.YtcgceigcegddlaaCC
import Derived.Test.YtcgceigcegddlaaPar
namespace Go.Proofs.Ytcgceigcegddlaa
open Go Go.RowKit Go.Proofs

theorem valName_any (x : ByteArray) (w : World) (hs : x.size ≤ maxLen) : Calls Try.prog 81 #[.string x] w fun e w' => e = .returned (.bool (named x)) ∧ w = w' := name_any x w hs
theorem valName_is {x : ByteArray} {b : Bool} (h : named x = b) (w : World) (hs : x.size ≤ maxLen) : Calls Try.prog 81 #[.string x] w fun e w' => e = .returned (.bool b) ∧ w = w' := h ▸ name_any x w hs
theorem has_is {l : List C} {v : Value} {x : ByteArray} {W : World} {b : Bool} (h : RdC W v l) (hb : hasC l x = b) : Calls Try.prog 82 #[v, .string x] W fun e w' => e = .returned (.bool b) ∧ Below W.heap.size W w' := hb ▸ has_any h
/-- What the loops over columns keep: their variable, the columns, all that was there. -/
def KeepC (B : Nat) (W0 : World) (S : Nat) (c : C) (v : Value) (l : List C) (w : World) : Prop :=
  w.heap[S]? = some (.cells #[.string c.nm, .int .i64 c.kd, .bool c.mu, .string c.tgt] 33) ∧ RdC w v l ∧ Below B W0 w ∧ B ≤ S
theorem KeepC.on {B : Nat} {W0 : World} {S : Nat} {c : C} {v : Value} {l : List C} {w w' : World} (h : KeepC B W0 S c v l w) (hb : Below w.heap.size w w') : KeepC B W0 S c v l w' :=
  ⟨(hb.block _ (lt_of_heap h.1)).trans h.1, h.2.1.later hb, h.2.2.1.trans (hb.mono (Nat.le_trans h.2.2.2 (Nat.le_of_lt (lt_of_heap h.1)))), h.2.2.2⟩
theorem KeepC.cell {B : Nat} {W0 : World} {S : Nat} {c : C} {v : Value} {l : List C} {w : World} (h : KeepC B W0 S c v l w) : S < w.heap.size ∧ w.cell? ⟨S, 0, none⟩ = some (.string c.nm) ∧ w.cell? ⟨S, 1, none⟩ = some (.int .i64 c.kd) ∧ w.cell? ⟨S, 2, none⟩ = some (.bool c.mu) ∧ w.cell? ⟨S, 3, none⟩ = some (.string c.tgt) :=
  ⟨lt_of_heap h.1, nd_cell h.1 0, nd_cell h.1 1, nd_cell h.1 2, nd_cell h.1 3⟩
theorem KeepC.new {B : Nat} {W0 : World} {c : C} {v : Value} {l : List C} {w : World} (hl : RdC w v l) (hb : Below B W0 w) (hB : B ≤ w.heap.size) : KeepC B W0 w.heap.size c v l (w.alloc (.cells #[.string c.nm, .int .i64 c.kd, .bool c.mu, .string c.tgt] 33)) :=
  ⟨heap_alloc_new w _, hl.later (below_alloc w _), hb.alloc hB _, hB⟩

theorem colGood_at {l : List C} {j : Nat} (hj : j < l.length) : colGood l j = (named l[j].nm && !hasC (l.take j) l[j].nm) := by
  unfold colGood; rw [List.getElem?_eq_getElem hj]
set_option maxRecDepth 100000 in
set_option maxHeartbeats 1000000 in
theorem namedCols_any {l : List C} {v : Value} {W : World} (h : RdC W v l) (hs : SmC l) : Calls Try.prog 58 #[v] W fun e w' => e = .returned (.bool (colsGood l)) ∧ Below W.heap.size W w' := by
  obtain ⟨p, cap, rfl, hc, hm⟩ := h.slice
  obtain ⟨n, hn⟩ : ∃ n, l.length = n := ⟨_, rfl⟩
  unfold maxLen at hm
  rw [hn] at hc ⊢
  rw [hn] at h
  have HR := Lib.hid h
  have HN := Lib.hid (And.intro hn hs)
  clear h hn hs
  go_enter Try.func58, Try.ntmps58
  go_wp2_with fail
  go_loopg [3, 7] (n + 1) (fun gh _ jv w => ∃ (j : Nat), jv = .int .i64 (j : Int) ∧ j ≤ n ∧ n + 1 ≤ j + gh ∧ (∀ i, i < j → colGood l i = true) ∧ Below W.heap.size W w)
  case atStart => exact ⟨0, rfl, Nat.zero_le _, by omega, fun i hi => by omega, Below.refl _ _⟩
  case round =>
    obtain ⟨j, rfl, hj, hg, hno, hB⟩ := hrel
    have HI := Lib.hid (And.intro hno hB)
    clear hno
    by_cases hlt : j < n
    · have hjl : j < l.length := by rw [HN.out.1]; exact hlt
      obtain ⟨b, off, rfl, hb, c0, c1, c2, c3⟩ := RdC.col (HR.out.later hB) hjl
      obtain ⟨c, hcj⟩ : ∃ c, l[j] = c := ⟨_, rfl⟩
      rw [hcj] at c0 c1 c2 c3
      have hG := colGood_at hjl
      rw [hcj] at hG
      have hsz : c.nm.size ≤ maxLen := HN.out.2 c (by rw [← hcj]; exact List.getElem_mem _)
      have HG := Lib.hid (And.intro hG hsz)
      have HK := Lib.hid (KeepC.new (c := c) (HR.out.later hB) hB hB.size)
      clear hcj hB hG hsz
      have hjc : (j : Int) ≤ (cap : Int) := by omega
      have hjn : cap ≠ j := by omega
      go_upto_region 4 with fail
      obtain ⟨S, hS⟩ : ∃ S, wr.heap.size = S := ⟨_, rfl⟩
      obtain ⟨w1, hw1⟩ : ∃ w1, wr.alloc (.cells #[.string c.nm, .int .i64 c.kd, .bool c.mu, .string c.tgt] 33) = w1 := ⟨_, rfl⟩
      rw [hw1, hS] at HK
      rw [hw1, hS]
      clear hw1 hS
      have htk : ∀ w, RdC w (.slice (some ⟨b, off, none⟩) n cap) l → RdC w (.slice (some ⟨b, off, none⟩) j cap) (l.take j) := fun w h => RdC.take (n := n) h (by omega)
      cases hnm : named c.nm
      · refine Par.wp_region_par 12 [(Value.pointer (some ⟨S, 0, none⟩)), (Value.string (c.nm)), .bool false, .bool true, .bool true, undef, undef, undef, undef, undef, undef, .bool true] (KeepC W.heap.size W S c (.slice (some ⟨b, off, none⟩) n cap) l) ?A1 ?hm1 ?hB1 ?hA1 (HK.out.on (below_drewN w1 1)) ?hop1 ?hT1
        case hm1 => kernel_rfl
        case hB1 => kernel_rfl
        case hA1 =>
          simp only [Par.putA, Par.dstAt, Act.put, List.getElem?_toArray, List.getElem?_cons_zero, List.getElem?_cons_succ, Option.bind_some, List.setIfInBounds_toArray, List.set_cons_zero, List.set_cons_succ, List.getD_cons_zero, List.getD_cons_succ]
          rfl
        case hop1 =>
          simp only [List.take_succ_cons, List.take_zero, Par.GiveAll, and_true]
          refine ⟨fun w' hR => ?_, fun w' hR => ?_, fun w' hR => ?_, fun w' hR => ?_, fun w' hR => ?_, fun w' hR => ?_, fun w' hR => ?_, fun w' hR => ?_, fun w' hR => ?_, fun w' hR => ?_, fun w' hR => ?_, fun w' hR => ?_⟩
          · have HR := Lib.hid hR
            clear hR
            simp only [Par.Gives]
            go_simp
            all_goals exact HR.out
          · have HR := Lib.hid hR
            have k := hR.cell.2.1
            clear hR
            simp only [Par.Gives]
            go_simp
            all_goals exact HR.out
          · have HR := Lib.hid hR
            clear hR
            simp only [Par.Gives]
            go_simp
            exact (valName_is hnm w' HG.out.2).mono (fun e w'' ⟨he, hb⟩ => ⟨he, hb ▸ HR.out⟩)
          · have HR := Lib.hid hR
            clear hR
            simp only [Par.Gives]
            go_simp
            all_goals exact HR.out
          · have HR := Lib.hid hR
            clear hR
            simp only [Par.Gives]
            go_simp
            all_goals exact HR.out
          · have HR := Lib.hid hR
            clear hR
            simp only [Par.Gives]
            go_simp
            all_goals exact HR.out
          · have HR := Lib.hid hR
            clear hR
            simp only [Par.Gives]
            go_simp
            all_goals exact HR.out
          · have HR := Lib.hid hR
            clear hR
            simp only [Par.Gives]
            go_simp
            all_goals exact HR.out
          · have HR := Lib.hid hR
            clear hR
            simp only [Par.Gives]
            go_simp
            all_goals exact HR.out
          · have HR := Lib.hid hR
            clear hR
            simp only [Par.Gives]
            go_simp
            all_goals exact HR.out
          · have HR := Lib.hid hR
            clear hR
            simp only [Par.Gives]
            go_simp
            all_goals exact HR.out
          · have HR := Lib.hid hR
            clear hR
            simp only [Par.Gives]
            go_simp
            all_goals exact HR.out
        case hT1 =>
          intro w' hR
          simp only [List.drop_succ_cons, List.drop_nil]
          go_wp2_with fail
          go_ret
          exact ⟨ret_bool (range_no j hjl (by rw [HG.out.1, hnm]; rfl)).symm, hR.2.2.1⟩
      · cases hhs : hasC (l.take j) c.nm
        · refine Par.wp_region_par 12 [(Value.pointer (some ⟨S, 0, none⟩)), (Value.string (c.nm)), .bool true, .bool false, .bool false, .slice (some ⟨b, off, none⟩) n cap,  (Value.int .i64 ((j : Int))), .slice (some ⟨b, off, none⟩) j cap, (Value.pointer (some ⟨S, 0, none⟩)), (Value.string (c.nm)), .bool false, .bool false] (KeepC W.heap.size W S c (.slice (some ⟨b, off, none⟩) n cap) l) ?A2 ?hm2 ?hB2 ?hA2 (HK.out.on (below_drewN w1 1)) ?hop2 ?hT2
          case hm2 => kernel_rfl
          case hB2 => kernel_rfl
          case hA2 =>
            simp only [Par.putA, Par.dstAt, Act.put, List.getElem?_toArray, List.getElem?_cons_zero, List.getElem?_cons_succ, Option.bind_some, List.setIfInBounds_toArray, List.set_cons_zero, List.set_cons_succ, List.getD_cons_zero, List.getD_cons_succ]
            rfl
          case hop2 =>
            simp only [List.take_succ_cons, List.take_zero, Par.GiveAll, and_true]
            refine ⟨fun w' hR => ?_, fun w' hR => ?_, fun w' hR => ?_, fun w' hR => ?_, fun w' hR => ?_, fun w' hR => ?_, fun w' hR => ?_, fun w' hR => ?_, fun w' hR => ?_, fun w' hR => ?_, fun w' hR => ?_, fun w' hR => ?_⟩
            · have HR := Lib.hid hR
              clear hR
              simp only [Par.Gives]
              go_simp
              all_goals exact HR.out
            · have HR := Lib.hid hR
              have k := hR.cell.2.1
              clear hR
              simp only [Par.Gives]
              go_simp
              all_goals exact HR.out
            · have HR := Lib.hid hR
              clear hR
              simp only [Par.Gives]
              go_simp
              exact (valName_is hnm w' HG.out.2).mono (fun e w'' ⟨he, hb⟩ => ⟨he, hb ▸ HR.out⟩)
            · have HR := Lib.hid hR
              clear hR
              simp only [Par.Gives]
              go_simp
              all_goals exact HR.out
            · have HR := Lib.hid hR
              clear hR
              simp only [Par.Gives]
              go_simp
              all_goals exact HR.out
            · have HR := Lib.hid hR
              clear hR
              simp only [Par.Gives]
              go_simp
              all_goals exact HR.out
            · have HR := Lib.hid hR
              clear hR
              simp only [Par.Gives]
              go_simp
              all_goals exact HR.out
            · have HR := Lib.hid hR
              clear hR
              simp only [Par.Gives]
              go_simp
              all_goals exact HR.out
            · have HR := Lib.hid hR
              clear hR
              simp only [Par.Gives]
              go_simp
              all_goals exact HR.out
            · have HR := Lib.hid hR
              have k := hR.cell.2.1
              clear hR
              simp only [Par.Gives]
              go_simp
              all_goals exact HR.out
            · have HR := Lib.hid hR
              clear hR
              simp only [Par.Gives]
              go_simp
              exact (has_is (htk _ HR.out.2.1) hhs).mono (fun e w'' ⟨he, hb⟩ => ⟨he, HR.out.on hb⟩)
            · have HR := Lib.hid hR
              clear hR
              simp only [Par.Gives]
              go_simp
              all_goals exact HR.out
          case hT2 =>
            intro w' hR
            simp only [List.drop_succ_cons, List.drop_nil]
            go_wp2_with fail
            go_roundg (n - j)
            case measure => omega
            case rel => exact ⟨j + 1, by go_num, by omega, by omega, fun i hi => by rcases (by omega : i < j ∨ i = j) with h | rfl; exact HI.out.1 i h; rw [HG.out.1, hnm, hhs]; rfl, hR.2.2.1⟩
        · refine Par.wp_region_par 12 [(Value.pointer (some ⟨S, 0, none⟩)), (Value.string (c.nm)), .bool true, .bool false, .bool false, .slice (some ⟨b, off, none⟩) n cap,  (Value.int .i64 ((j : Int))), .slice (some ⟨b, off, none⟩) j cap, (Value.pointer (some ⟨S, 0, none⟩)), (Value.string (c.nm)), .bool true, .bool true] (KeepC W.heap.size W S c (.slice (some ⟨b, off, none⟩) n cap) l) ?A3 ?hm3 ?hB3 ?hA3 (HK.out.on (below_drewN w1 1)) ?hop3 ?hT3
          case hm3 => kernel_rfl
          case hB3 => kernel_rfl
          case hA3 =>
            simp only [Par.putA, Par.dstAt, Act.put, List.getElem?_toArray, List.getElem?_cons_zero, List.getElem?_cons_succ, Option.bind_some, List.setIfInBounds_toArray, List.set_cons_zero, List.set_cons_succ, List.getD_cons_zero, List.getD_cons_succ]
            rfl
          case hop3 =>
            simp only [List.take_succ_cons, List.take_zero, Par.GiveAll, and_true]
            refine ⟨fun w' hR => ?_, fun w' hR => ?_, fun w' hR => ?_, fun w' hR => ?_, fun w' hR => ?_, fun w' hR => ?_, fun w' hR => ?_, fun w' hR => ?_, fun w' hR => ?_, fun w' hR => ?_, fun w' hR => ?_, fun w' hR => ?_⟩
            · have HR := Lib.hid hR
              clear hR
              simp only [Par.Gives]
              go_simp
              all_goals exact HR.out
            · have HR := Lib.hid hR
              have k := hR.cell.2.1
              clear hR
              simp only [Par.Gives]
              go_simp
              all_goals exact HR.out
            · have HR := Lib.hid hR
              clear hR
              simp only [Par.Gives]
              go_simp
              exact (valName_is hnm w' HG.out.2).mono (fun e w'' ⟨he, hb⟩ => ⟨he, hb ▸ HR.out⟩)
            · have HR := Lib.hid hR
              clear hR
              simp only [Par.Gives]
              go_simp
              all_goals exact HR.out
            · have HR := Lib.hid hR
              clear hR
              simp only [Par.Gives]
              go_simp
              all_goals exact HR.out
            · have HR := Lib.hid hR
              clear hR
              simp only [Par.Gives]
              go_simp
              all_goals exact HR.out
            · have HR := Lib.hid hR
              clear hR
              simp only [Par.Gives]
              go_simp
              all_goals exact HR.out
            · have HR := Lib.hid hR
              clear hR
              simp only [Par.Gives]
              go_simp
              all_goals exact HR.out
            · have HR := Lib.hid hR
              clear hR
              simp only [Par.Gives]
              go_simp
              all_goals exact HR.out
            · have HR := Lib.hid hR
              have k := hR.cell.2.1
              clear hR
              simp only [Par.Gives]
              go_simp
              all_goals exact HR.out
            · have HR := Lib.hid hR
              clear hR
              simp only [Par.Gives]
              go_simp
              exact (has_is (htk _ HR.out.2.1) hhs).mono (fun e w'' ⟨he, hb⟩ => ⟨he, HR.out.on hb⟩)
            · have HR := Lib.hid hR
              clear hR
              simp only [Par.Gives]
              go_simp
              all_goals exact HR.out
          case hT3 =>
            intro w' hR
            simp only [List.drop_succ_cons, List.drop_nil]
            go_wp2_with fail
            go_ret
            exact ⟨ret_bool (range_no j hjl (by rw [HG.out.1, hnm, hhs]; rfl)).symm, hR.2.2.1⟩
    · go_wp2_with fail
      go_ret
      exact ⟨ret_bool (range_yes (fun i hi => HI.out.1 i (by have := HN.out.1; omega))).symm, HI.out.2⟩
end Go.Proofs.Ytcgceigcegddlaa
