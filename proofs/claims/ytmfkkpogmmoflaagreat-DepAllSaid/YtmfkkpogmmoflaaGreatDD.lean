/- namedCols. namedKey, namedLeft, namedDeps, typed, fits. namedDeps, fits. -/
import Derived.Test.YtmfkkpogmmoflaaGreatCC
import Derived.Test.YtmfkkpogmmoflaaGreatPar
namespace Go.Proofs.YtmfkkpogmmoflaaGreat
open Go Go.RowKit Go.Proofs

theorem valName_any (x : ByteArray) (w : World) (hs : x.size ≤ maxLen) : Calls Tryz.prog 83 #[.string x] w fun e w' => e = .returned (.bool (named x)) ∧ w = w' := name_any x w hs
theorem valName_is {x : ByteArray} {b : Bool} (h : named x = b) (w : World) (hs : x.size ≤ maxLen) : Calls Tryz.prog 83 #[.string x] w fun e w' => e = .returned (.bool b) ∧ w = w' := h ▸ name_any x w hs
theorem has_is {l : List C} {v : Value} {x : ByteArray} {W : World} {b : Bool} (h : RdC W v l) (hb : hasC l x = b) : Calls Tryz.prog 84 #[v, .string x] W fun e w' => e = .returned (.bool b) ∧ Below W.heap.size W w' := hb ▸ has_any h
/-- What the loops over columns keep: their variable, the columns, all that was there. -/
def KeepC (B : Nat) (W0 : World) (S : Nat) (c : C) (v : Value) (l : List C) (w : World) : Prop :=
  w.heap[S]? = some (.cells #[.string c.nm, .int .i64 c.kd, .bool c.mu, .string c.tgt] 54) ∧ RdC w v l ∧ Below B W0 w ∧ B ≤ S
theorem KeepC.on {B : Nat} {W0 : World} {S : Nat} {c : C} {v : Value} {l : List C} {w w' : World} (h : KeepC B W0 S c v l w) (hb : Below w.heap.size w w') : KeepC B W0 S c v l w' :=
  ⟨(hb.block _ (lt_of_heap h.1)).trans h.1, h.2.1.later hb, h.2.2.1.trans (hb.mono (Nat.le_trans h.2.2.2 (Nat.le_of_lt (lt_of_heap h.1)))), h.2.2.2⟩
theorem KeepC.cell {B : Nat} {W0 : World} {S : Nat} {c : C} {v : Value} {l : List C} {w : World} (h : KeepC B W0 S c v l w) : S < w.heap.size ∧ w.cell? ⟨S, 0, none⟩ = some (.string c.nm) ∧ w.cell? ⟨S, 1, none⟩ = some (.int .i64 c.kd) ∧ w.cell? ⟨S, 2, none⟩ = some (.bool c.mu) ∧ w.cell? ⟨S, 3, none⟩ = some (.string c.tgt) :=
  ⟨lt_of_heap h.1, nd_cell h.1 0, nd_cell h.1 1, nd_cell h.1 2, nd_cell h.1 3⟩
theorem KeepC.new {B : Nat} {W0 : World} {c : C} {v : Value} {l : List C} {w : World} (hl : RdC w v l) (hb : Below B W0 w) (hB : B ≤ w.heap.size) : KeepC B W0 w.heap.size c v l (w.alloc (.cells #[.string c.nm, .int .i64 c.kd, .bool c.mu, .string c.tgt] 54)) :=
  ⟨heap_alloc_new w _, hl.later (below_alloc w _), hb.alloc hB _, hB⟩

theorem colGood_at {l : List C} {j : Nat} (hj : j < l.length) : colGood l j = (named l[j].nm && !hasC (l.take j) l[j].nm) := by
  unfold colGood; rw [List.getElem?_eq_getElem hj]
set_option maxRecDepth 100000 in
set_option maxHeartbeats 1000000 in
theorem namedCols_any {l : List C} {v : Value} {W : World} (h : RdC W v l) (hs : SmC l) : Calls Tryz.prog 58 #[v] W fun e w' => e = .returned (.bool (colsGood l)) ∧ Below W.heap.size W w' := by
  obtain ⟨p, cap, rfl, hc, hm⟩ := h.slice
  obtain ⟨n, hn⟩ : ∃ n, l.length = n := ⟨_, rfl⟩
  unfold maxLen at hm
  rw [hn] at hc ⊢
  rw [hn] at h
  have HR := Lib.hid h
  have HN := Lib.hid (And.intro hn hs)
  clear h hn hs
  go_enter Tryz.func58, Tryz.ntmps58
  go_wp2_with fail
  go_loopg [3, 7] (n + 1) (fun gh _ jv w => ∃ (j : Nat), jv = .int .i64 (j : Int) ∧ j ≤ n ∧ n + 1 ≤ j + gh ∧ (∀ i, i < j → colGood l i = true) ∧ Below W.heap.size W w)
  case atStart => exact ⟨0, rfl, Nat.zero_le _, by omega, fun i hi => by omega, Below.refl _ _⟩
  case round =>
    obtain ⟨j, rfl, hj, hg, hno, hB⟩ := hrel
    have HI := Lib.hid (And.intro hno hB)
    clear hno
    by_cases hlt : j < n
    · have hjl : j < l.length := by rw [HN.out.1]; exact hlt
      obtain ⟨b, off, rfl, hb, c0, c1, c2, c3⟩ := RdC.col (HR.out.later hB) hjl
      obtain ⟨c, hcj⟩ : ∃ c, l[j] = c := ⟨_, rfl⟩
      rw [hcj] at c0 c1 c2 c3
      have hG := colGood_at hjl
      rw [hcj] at hG
      have hsz : c.nm.size ≤ maxLen := HN.out.2 c (by rw [← hcj]; exact List.getElem_mem _)
      have HG := Lib.hid (And.intro hG hsz)
      have HK := Lib.hid (KeepC.new (c := c) (HR.out.later hB) hB hB.size)
      clear hcj hB hG hsz
      have hjc : (j : Int) ≤ (cap : Int) := by omega
      have hjn : cap ≠ j := by omega
      go_upto_region 4 with fail
      obtain ⟨S, hS⟩ : ∃ S, wr.heap.size = S := ⟨_, rfl⟩
      obtain ⟨w1, hw1⟩ : ∃ w1, wr.alloc (.cells #[.string c.nm, .int .i64 c.kd, .bool c.mu, .string c.tgt] 54) = w1 := ⟨_, rfl⟩
      rw [hw1, hS] at HK
      rw [hw1, hS]
      clear hw1 hS
      have htk : ∀ w, RdC w (.slice (some ⟨b, off, none⟩) n cap) l → RdC w (.slice (some ⟨b, off, none⟩) j cap) (l.take j) := fun w h => RdC.take (n := n) h (by omega)
      cases hnm : named c.nm
      · refine Par.wp_region_par 12 [(Value.pointer (some ⟨S, 0, none⟩)), (Value.string (c.nm)), .bool false, .bool true, .bool true, undef, undef, undef, undef, undef, undef, .bool true] (KeepC W.heap.size W S c (.slice (some ⟨b, off, none⟩) n cap) l) ?A1 ?hm1 ?hB1 ?hA1 (HK.out.on (below_drewN w1 1)) ?hop1 ?hT1
        case hm1 => kernel_rfl
        case hB1 => kernel_rfl
        case hA1 =>
          simp only [Par.putA, Par.dstAt, Act.put, List.getElem?_toArray, List.getElem?_cons_zero, List.getElem?_cons_succ, Option.bind_some, List.setIfInBounds_toArray, List.set_cons_zero, List.set_cons_succ, List.getD_cons_zero, List.getD_cons_succ]
          rfl
        case hop1 =>
          simp only [List.take_succ_cons, List.take_zero, Par.GiveAll, and_true]
          refine ⟨fun w' hR => ?_, fun w' hR => ?_, fun w' hR => ?_, fun w' hR => ?_, fun w' hR => ?_, fun w' hR => ?_, fun w' hR => ?_, fun w' hR => ?_, fun w' hR => ?_, fun w' hR => ?_, fun w' hR => ?_, fun w' hR => ?_⟩
          · have HR := Lib.hid hR
            clear hR
            simp only [Par.Gives]
            go_simp
            all_goals exact HR.out
          · have HR := Lib.hid hR
            have k := hR.cell.2.1
            clear hR
            simp only [Par.Gives]
            go_simp
            all_goals exact HR.out
          · have HR := Lib.hid hR
            clear hR
            simp only [Par.Gives]
            go_simp
            exact (valName_is hnm w' HG.out.2).mono (fun e w'' ⟨he, hb⟩ => ⟨he, hb ▸ HR.out⟩)
          · have HR := Lib.hid hR
            clear hR
            simp only [Par.Gives]
            go_simp
            all_goals exact HR.out
          · have HR := Lib.hid hR
            clear hR
            simp only [Par.Gives]
            go_simp
            all_goals exact HR.out
          · have HR := Lib.hid hR
            clear hR
            simp only [Par.Gives]
            go_simp
            all_goals exact HR.out
          · have HR := Lib.hid hR
            clear hR
            simp only [Par.Gives]
            go_simp
            all_goals exact HR.out
          · have HR := Lib.hid hR
            clear hR
            simp only [Par.Gives]
            go_simp
            all_goals exact HR.out
          · have HR := Lib.hid hR
            clear hR
            simp only [Par.Gives]
            go_simp
            all_goals exact HR.out
          · have HR := Lib.hid hR
            clear hR
            simp only [Par.Gives]
            go_simp
            all_goals exact HR.out
          · have HR := Lib.hid hR
            clear hR
            simp only [Par.Gives]
            go_simp
            all_goals exact HR.out
          · have HR := Lib.hid hR
            clear hR
            simp only [Par.Gives]
            go_simp
            all_goals exact HR.out
        case hT1 =>
          intro w' hR
          simp only [List.drop_succ_cons, List.drop_nil]
          go_wp2_with fail
          go_ret
          exact ⟨ret_bool (range_no j hjl (by rw [HG.out.1, hnm]; rfl)).symm, hR.2.2.1⟩
      · cases hhs : hasC (l.take j) c.nm
        · refine Par.wp_region_par 12 [(Value.pointer (some ⟨S, 0, none⟩)), (Value.string (c.nm)), .bool true, .bool false, .bool false, .slice (some ⟨b, off, none⟩) n cap,  (Value.int .i64 ((j : Int))), .slice (some ⟨b, off, none⟩) j cap, (Value.pointer (some ⟨S, 0, none⟩)), (Value.string (c.nm)), .bool false, .bool false] (KeepC W.heap.size W S c (.slice (some ⟨b, off, none⟩) n cap) l) ?A2 ?hm2 ?hB2 ?hA2 (HK.out.on (below_drewN w1 1)) ?hop2 ?hT2
          case hm2 => kernel_rfl
          case hB2 => kernel_rfl
          case hA2 =>
            simp only [Par.putA, Par.dstAt, Act.put, List.getElem?_toArray, List.getElem?_cons_zero, List.getElem?_cons_succ, Option.bind_some, List.setIfInBounds_toArray, List.set_cons_zero, List.set_cons_succ, List.getD_cons_zero, List.getD_cons_succ]
            rfl
          case hop2 =>
            simp only [List.take_succ_cons, List.take_zero, Par.GiveAll, and_true]
            refine ⟨fun w' hR => ?_, fun w' hR => ?_, fun w' hR => ?_, fun w' hR => ?_, fun w' hR => ?_, fun w' hR => ?_, fun w' hR => ?_, fun w' hR => ?_, fun w' hR => ?_, fun w' hR => ?_, fun w' hR => ?_, fun w' hR => ?_⟩
            · have HR := Lib.hid hR
              clear hR
              simp only [Par.Gives]
              go_simp
              all_goals exact HR.out
            · have HR := Lib.hid hR
              have k := hR.cell.2.1
              clear hR
              simp only [Par.Gives]
              go_simp
              all_goals exact HR.out
            · have HR := Lib.hid hR
              clear hR
              simp only [Par.Gives]
              go_simp
              exact (valName_is hnm w' HG.out.2).mono (fun e w'' ⟨he, hb⟩ => ⟨he, hb ▸ HR.out⟩)
            · have HR := Lib.hid hR
              clear hR
              simp only [Par.Gives]
              go_simp
              all_goals exact HR.out
            · have HR := Lib.hid hR
              clear hR
              simp only [Par.Gives]
              go_simp
              all_goals exact HR.out
            · have HR := Lib.hid hR
              clear hR
              simp only [Par.Gives]
              go_simp
              all_goals exact HR.out
            · have HR := Lib.hid hR
              clear hR
              simp only [Par.Gives]
              go_simp
              all_goals exact HR.out
            · have HR := Lib.hid hR
              clear hR
              simp only [Par.Gives]
              go_simp
              all_goals exact HR.out
            · have HR := Lib.hid hR
              clear hR
              simp only [Par.Gives]
              go_simp
              all_goals exact HR.out
            · have HR := Lib.hid hR
              have k := hR.cell.2.1
              clear hR
              simp only [Par.Gives]
              go_simp
              all_goals exact HR.out
            · have HR := Lib.hid hR
              clear hR
              simp only [Par.Gives]
              go_simp
              exact (has_is (htk _ HR.out.2.1) hhs).mono (fun e w'' ⟨he, hb⟩ => ⟨he, HR.out.on hb⟩)
            · have HR := Lib.hid hR
              clear hR
              simp only [Par.Gives]
              go_simp
              all_goals exact HR.out
          case hT2 =>
            intro w' hR
            simp only [List.drop_succ_cons, List.drop_nil]
            go_wp2_with fail
            go_roundg (n - j)
            case measure => omega
            case rel => exact ⟨j + 1, by go_num, by omega, by omega, fun i hi => by rcases (by omega : i < j ∨ i = j) with h | rfl; exact HI.out.1 i h; rw [HG.out.1, hnm, hhs]; rfl, hR.2.2.1⟩
        · refine Par.wp_region_par 12 [(Value.pointer (some ⟨S, 0, none⟩)), (Value.string (c.nm)), .bool true, .bool false, .bool false, .slice (some ⟨b, off, none⟩) n cap,  (Value.int .i64 ((j : Int))), .slice (some ⟨b, off, none⟩) j cap, (Value.pointer (some ⟨S, 0, none⟩)), (Value.string (c.nm)), .bool true, .bool true] (KeepC W.heap.size W S c (.slice (some ⟨b, off, none⟩) n cap) l) ?A3 ?hm3 ?hB3 ?hA3 (HK.out.on (below_drewN w1 1)) ?hop3 ?hT3
          case hm3 => kernel_rfl
          case hB3 => kernel_rfl
          case hA3 =>
            simp only [Par.putA, Par.dstAt, Act.put, List.getElem?_toArray, List.getElem?_cons_zero, List.getElem?_cons_succ, Option.bind_some, List.setIfInBounds_toArray, List.set_cons_zero, List.set_cons_succ, List.getD_cons_zero, List.getD_cons_succ]
            rfl
          case hop3 =>
            simp only [List.take_succ_cons, List.take_zero, Par.GiveAll, and_true]
            refine ⟨fun w' hR => ?_, fun w' hR => ?_, fun w' hR => ?_, fun w' hR => ?_, fun w' hR => ?_, fun w' hR => ?_, fun w' hR => ?_, fun w' hR => ?_, fun w' hR => ?_, fun w' hR => ?_, fun w' hR => ?_, fun w' hR => ?_⟩
            · have HR := Lib.hid hR
              clear hR
              simp only [Par.Gives]
              go_simp
              all_goals exact HR.out
            · have HR := Lib.hid hR
              have k := hR.cell.2.1
              clear hR
              simp only [Par.Gives]
              go_simp
              all_goals exact HR.out
            · have HR := Lib.hid hR
              clear hR
              simp only [Par.Gives]
              go_simp
              exact (valName_is hnm w' HG.out.2).mono (fun e w'' ⟨he, hb⟩ => ⟨he, hb ▸ HR.out⟩)
            · have HR := Lib.hid hR
              clear hR
              simp only [Par.Gives]
              go_simp
              all_goals exact HR.out
            · have HR := Lib.hid hR
              clear hR
              simp only [Par.Gives]
              go_simp
              all_goals exact HR.out
            · have HR := Lib.hid hR
              clear hR
              simp only [Par.Gives]
              go_simp
              all_goals exact HR.out
            · have HR := Lib.hid hR
              clear hR
              simp only [Par.Gives]
              go_simp
              all_goals exact HR.out
            · have HR := Lib.hid hR
              clear hR
              simp only [Par.Gives]
              go_simp
              all_goals exact HR.out
            · have HR := Lib.hid hR
              clear hR
              simp only [Par.Gives]
              go_simp
              all_goals exact HR.out
            · have HR := Lib.hid hR
              have k := hR.cell.2.1
              clear hR
              simp only [Par.Gives]
              go_simp
              all_goals exact HR.out
            · have HR := Lib.hid hR
              clear hR
              simp only [Par.Gives]
              go_simp
              exact (has_is (htk _ HR.out.2.1) hhs).mono (fun e w'' ⟨he, hb⟩ => ⟨he, HR.out.on hb⟩)
            · have HR := Lib.hid hR
              clear hR
              simp only [Par.Gives]
              go_simp
              all_goals exact HR.out
          case hT3 =>
            intro w' hR
            simp only [List.drop_succ_cons, List.drop_nil]
            go_wp2_with fail
            go_ret
            exact ⟨ret_bool (range_no j hjl (by rw [HG.out.1, hnm, hhs]; rfl)).symm, hR.2.2.1⟩
    · go_wp2_with fail
      go_ret
      exact ⟨ret_bool (range_yes (fun i hi => HI.out.1 i (by have := HN.out.1; omega))).symm, HI.out.2⟩
end Go.Proofs.YtmfkkpogmmoflaaGreat
namespace Go.Proofs.YtmfkkpogmmoflaaGreat
open Go Go.RowKit Go.Proofs

theorem eqS_e0 (x : ByteArray) : x.toList.isEmpty = eqS x e0 := by
  rw [ByteArray.toList_eq]
  unfold eqS
  cases x.data.toList <;> rfl
def tabV (t : T) (cv dv : Value) : Value := .agg #[.string t.nm, cv, .string t.key, dv]
/-- A boxed table. -/
abbrev boxT (nm : ByteArray) (cv : Value) (key : ByteArray) (dv : Value) : Obj := .cells #[.string nm, cv, .string key, dv] 46

set_option maxRecDepth 100000 in
set_option maxHeartbeats 1000000 in
theorem namedKey_any {t : T} {cv dv : Value} {W : World} (h : RdT W cv dv t) : Calls Tryz.prog 59 #[.agg #[.string t.nm, cv, .string t.key, dv]] W fun e w' => e = .returned (.bool (keyGood t)) ∧ Below W.heap.size W w' := by
  have hB := below_alloc W (boxT t.nm cv t.key dv)
  have hc := fun (b : Bool) (hb : hasC t.cols t.key = b) => has_is (h.1.later hB) hb
  obtain ⟨p, cap, rfl, _, _⟩ := h.1.slice
  generalize t.cols.length = n at *
  cases hk : eqS t.key e0
  · have he : t.key.toList.isEmpty = false := by rw [eqS_e0]; exact hk
    cases hh : hasC t.cols t.key
    · have HG : Hid (keyGood t = false) := Lib.hid (by unfold keyGood; rw [hk, hh]; rfl)
      have hc := hc _ hh
      clear h hk hh
      go_enter Tryz.func59, Tryz.ntmps59
      go_wp2_with (go_at_call 84; (with_reducible refine hc.mono ?_); rintro e w1 ⟨rfl, hb⟩)
      go_ret
      exact ⟨ret_bool HG.out.symm, below_on hB hb⟩
    · have HG : Hid (keyGood t = true) := Lib.hid (by unfold keyGood; rw [hk, hh]; rfl)
      have hc := hc _ hh
      clear h hk hh
      go_enter Tryz.func59, Tryz.ntmps59
      go_wp2_with (go_at_call 84; (with_reducible refine hc.mono ?_); rintro e w1 ⟨rfl, hb⟩)
      go_ret
      exact ⟨ret_bool HG.out.symm, below_on hB hb⟩
  · have he : t.key.toList.isEmpty = true := by rw [eqS_e0]; exact hk
    have HG : Hid (keyGood t = true) := Lib.hid (by unfold keyGood; rw [hk]; rfl)
    clear h hk
    go_enter Tryz.func59, Tryz.ntmps59
    go_wp2_with fail
    go_ret
    exact ⟨ret_bool HG.out.symm, hB⟩

theorem leftAt_at {l : List C} {left : List ByteArray} {j : Nat} (hj : j < left.length) : leftAt l left j = (hasC l left[j] && !hasS (left.take j) left[j]) := by
  unfold leftAt; rw [List.getElem?_eq_getElem hj]
theorem contains_is {l : List ByteArray} {v : Value} {x : ByteArray} {W : World} {b : Bool} (h : RdS W v l) (hb : hasS l x = b) : Calls Tryz.prog 86 #[v, .string x] W fun e w' => e = .returned (.bool b) ∧ w' = W := hb ▸ contains_any h

set_option maxRecDepth 100000 in
set_option maxHeartbeats 1000000 in
theorem namedLeft_any {l : List C} {left : List ByteArray} {cv lv : Value} {W : World} (h : RdC W cv l) (hs : RdS W lv left) : Calls Tryz.prog 85 #[cv, lv] W fun e w' => e = .returned (.bool (leftGood l left)) ∧ Below W.heap.size W w' := by
  obtain ⟨pc, cc, rfl, hc, hm⟩ := h.slice
  obtain ⟨p, cap, rfl, hc2, hm2⟩ := hs.slice
  obtain ⟨n, hn⟩ : ∃ n, left.length = n := ⟨_, rfl⟩
  obtain ⟨nc, hnc⟩ : ∃ n, l.length = n := ⟨_, rfl⟩
  unfold maxLen at hm2
  rw [hn] at hc2 hs ⊢
  rw [hnc] at h ⊢
  have HR := Lib.hid (And.intro h hs)
  have HN := Lib.hid hn
  clear h hs hn hnc hc hm
  by_cases h0 : n = 0
  · subst h0
    go_enter Tryz.func85, Tryz.ntmps85
    go_wp2_with fail
    go_ret
    exact ⟨ret_bool (by unfold leftGood; rw [HN.out]; rfl), Below.refl _ _⟩
  by_cases h3 : 3 < n
  · have hz : ((n : Int) == 0) = false := beq_eq_false_iff_ne.2 (by omega)
    go_enter Tryz.func85, Tryz.ntmps85
    go_wp2_with fail
    go_ret
    exact ⟨ret_bool (by unfold leftGood; rw [HN.out, decide_eq_false (show ¬ n ≤ 3 by omega)]; simp), Below.refl _ _⟩
  have hz : ((n : Int) == 0) = false := beq_eq_false_iff_ne.2 (by omega)
  have HL : Hid (leftGood l left = (List.range n).all (leftAt l left)) := Lib.hid (by unfold leftGood; rw [HN.out, decide_eq_true (show n ≤ 3 by omega), decide_eq_true (show 1 ≤ n by omega)]; rfl)
  go_enter Tryz.func85, Tryz.ntmps85
  go_wp2_with fail
  clear hz
  go_loopg [5, 6, 17] (n + 1) (fun gh _ _ jv w => ∃ (j : Nat), jv = .int .i64 (j : Int) ∧ j ≤ n ∧ n + 1 ≤ j + gh ∧ (∀ i, i < j → leftAt l left i = true) ∧ Below W.heap.size W w)
  case atStart => exact ⟨0, rfl, Nat.zero_le _, by omega, fun i hi => by omega, Below.refl _ _⟩
  case round =>
    obtain ⟨j, rfl, hj, hg, hno, hB⟩ := hrel
    have HI := Lib.hid (And.intro hno hB)
    clear hno
    by_cases hlt : j < n
    · have hjl : j < left.length := by rw [HN.out]; exact hlt
      have hsr := HR.out.2.later hB
      obtain ⟨b, off, rfl, hb, c0⟩ := RdS.word hsr hjl
      have hst : RdS wr (.slice (some ⟨b, off, none⟩) j cap) (left.take j) := RdS.take hsr (by omega)
      have hcr := HR.out.1.later hB
      obtain ⟨c, hcj⟩ : ∃ c, left[j] = c := ⟨_, rfl⟩
      have hG := leftAt_at (l := l) hjl
      rw [hcj] at c0 hG
      have hjc : (j : Int) ≤ (cap : Int) := by omega
      have hjn : cap ≠ j := by omega
      clear hcj hB
      cases hh : hasC l c
      · have HG : Hid (leftAt l left j = false) := Lib.hid (by rw [hG, hh]; rfl)
        have hca := has_is hcr hh
        clear hG hh hcr hsr hst
        go_wp2_with (go_at_call 84; (with_reducible refine hca.mono ?_); rintro e w1 ⟨rfl, hb1⟩)
        go_ret
        exact ⟨ret_bool (by rw [HL.out]; exact (range_no j hlt HG.out).symm), below_on HI.out.2 hb1⟩
      · cases hh2 : hasS (left.take j) c
        · have HG : Hid (leftAt l left j = true) := Lib.hid (by rw [hG, hh, hh2]; rfl)
          have hca := has_is hcr hh
          have hcb : ∀ {w : World}, Below wr.heap.size wr w → _ := fun {w} hb => contains_is (W := w) (hst.later hb) hh2
          clear hG hh hcr hsr hst hh2
          go_wp2_with (first
            | (go_at_call 84; (with_reducible refine hca.mono ?_); rintro e w1 ⟨rfl, hb1⟩)
            | (go_at_call 86; (with_reducible refine (hcb hb1).mono ?_); rintro e w1 ⟨rfl, rfl⟩))
          go_roundg (n - j)
          case measure => omega
          case rel => exact ⟨j + 1, by go_num, by omega, by omega, fun i hi => by rcases (by omega : i < j ∨ i = j) with h | rfl; exact HI.out.1 i h; exact HG.out, below_on HI.out.2 hb1⟩
        · have HG : Hid (leftAt l left j = false) := Lib.hid (by rw [hG, hh, hh2]; rfl)
          have hca := has_is hcr hh
          have hcb : ∀ {w : World}, Below wr.heap.size wr w → _ := fun {w} hb => contains_is (W := w) (hst.later hb) hh2
          clear hG hh hcr hsr hst hh2
          go_wp2_with (first
            | (go_at_call 84; (with_reducible refine hca.mono ?_); rintro e w1 ⟨rfl, hb1⟩)
            | (go_at_call 86; (with_reducible refine (hcb hb1).mono ?_); rintro e w1 ⟨rfl, rfl⟩))
          go_ret
          exact ⟨ret_bool (by rw [HL.out]; exact (range_no j hlt HG.out).symm), below_on HI.out.2 hb1⟩
    · go_wp2_with fail
      go_ret
      exact ⟨ret_bool (by rw [HL.out]; exact (range_yes (fun i hi => HI.out.1 i (by omega))).symm), HI.out.2⟩

theorem kindAt_at {l : List C} {j : Nat} (hj : j < l.length) : kindAt l j = decide (l[j].kd = 1 ∨ l[j].kd = 2) := by
  unfold kindAt; rw [List.getElem?_eq_getElem hj]
set_option maxRecDepth 100000 in
set_option maxHeartbeats 1000000 in
theorem typed_any {l : List C} {v : Value} {W : World} (h : RdC W v l) : Calls Tryz.prog 61 #[v] W fun e w' => e = .returned (.bool (kindsGood l)) ∧ Below W.heap.size W w' := by
  obtain ⟨p, cap, rfl, hc, hm⟩ := h.slice
  obtain ⟨n, hn⟩ : ∃ n, l.length = n := ⟨_, rfl⟩
  unfold maxLen at hm
  rw [hn] at hc ⊢
  rw [hn] at h
  have HR := Lib.hid h
  have HN := Lib.hid hn
  clear h hn
  go_enter Tryz.func61, Tryz.ntmps61
  go_wp2_with fail
  go_loopg [7] (n + 1) (fun gh jv w => ∃ (j : Nat), jv = .int .i64 (j : Int) ∧ j ≤ n ∧ n + 1 ≤ j + gh ∧ (∀ i, i < j → kindAt l i = true) ∧ Below W.heap.size W w)
  case atStart => exact ⟨0, rfl, Nat.zero_le _, by omega, fun i hi => by omega, Below.refl _ _⟩
  case round =>
    obtain ⟨j, rfl, hj, hg, hno, hB⟩ := hrel
    have HI := Lib.hid (And.intro hno hB)
    clear hno
    by_cases hlt : j < n
    · have hjl : j < l.length := by rw [HN.out]; exact hlt
      obtain ⟨b, off, rfl, hb, c0, c1, c2, c3⟩ := RdC.col (HR.out.later hB) hjl
      obtain ⟨c, hcj⟩ : ∃ c, l[j] = c := ⟨_, rfl⟩
      rw [hcj] at c0 c1 c2 c3
      have hG := kindAt_at hjl
      rw [hcj] at hG
      have HG := Lib.hid hG
      clear hcj hB hG
      by_cases h1 : c.kd = 1
      · have e1 : (c.kd != 1) = false := by simp [h1]
        have H1 := Lib.hid h1
        clear h1
        go_wp2_with fail
        go_roundg (n - j)
        case measure => omega
        case rel => exact ⟨j + 1, by go_num, by omega, by omega, fun i hi => by rcases (by omega : i < j ∨ i = j) with h | rfl; exact HI.out.1 i h; rw [HG.out, decide_eq_true (.inl H1.out)], HI.out.2.alloc HI.out.2.size _⟩
      · have e1 : (c.kd != 1) = true := by simp [h1]
        by_cases h2 : c.kd = 2
        · have e2 : (c.kd != 2) = false := by simp [h2]
          have H2 := Lib.hid h2
          clear h1 h2
          go_wp2_with fail
          go_roundg (n - j)
          case measure => omega
          case rel => exact ⟨j + 1, by go_num, by omega, by omega, fun i hi => by rcases (by omega : i < j ∨ i = j) with h | rfl; exact HI.out.1 i h; rw [HG.out, decide_eq_true (.inr H2.out)], HI.out.2.alloc HI.out.2.size _⟩
        · have e2 : (c.kd != 2) = true := by simp [h2]
          have H2 : Hid (¬ (c.kd = 1 ∨ c.kd = 2)) := Lib.hid (fun h => h.elim h1 h2)
          clear h1 h2
          go_wp2_with fail
          go_ret
          exact ⟨ret_bool (range_no j hjl (by rw [HG.out, decide_eq_false H2.out])).symm, HI.out.2.alloc HI.out.2.size _⟩
    · go_wp2_with fail
      go_ret
      exact ⟨ret_bool (range_yes (fun i hi => HI.out.1 i (by have := HN.out; omega))).symm, HI.out.2⟩
end Go.Proofs.YtmfkkpogmmoflaaGreat
namespace Go.Proofs.YtmfkkpogmmoflaaGreat
open Go Go.RowKit Go.Proofs

theorem heap_on {w w' : World} {b : Nat} {o : Obj} (hb : Below w.heap.size w w') (h : w.heap[b]? = some o) : w'.heap[b]? = some o := (hb.block _ (lt_of_heap h)).trans h
/-- A boxed table, and what was there. -/
structure KeepT (B : Nat) (W0 : World) (S0 : Nat) (t : T) (cv dv : Value) (w : World) : Prop where
  box : w.heap[S0]? = some (boxT t.nm cv t.key dv)
  tab : RdT w cv dv t
  below : Below B W0 w
  le : B ≤ S0
section
variable {B : Nat} {W0 : World} {S0 : Nat} {t : T} {cv dv : Value} {w w' : World}
theorem KeepT.size (h : KeepT B W0 S0 t cv dv w) : B ≤ w.heap.size := Nat.le_trans h.le (Nat.le_of_lt (lt_of_heap h.box))
theorem KeepT.on (h : KeepT B W0 S0 t cv dv w) (hb : Below w.heap.size w w') : KeepT B W0 S0 t cv dv w' :=
  ⟨heap_on hb h.box, h.tab.later hb, h.below.trans (hb.mono h.size), h.le⟩
theorem KeepT.cells (h : KeepT B W0 S0 t cv dv w) : S0 < w.heap.size ∧ w.cell? ⟨S0, 0, none⟩ = some (.string t.nm) ∧ w.cell? ⟨S0, 1, none⟩ = some cv ∧ w.cell? ⟨S0, 2, none⟩ = some (.string t.key) ∧ w.cell? ⟨S0, 3, none⟩ = some dv :=
  ⟨lt_of_heap h.box, nd_cell h.box 0, nd_cell h.box 1, nd_cell h.box 2, nd_cell h.box 3⟩
theorem KeepT.new (h : RdT w cv dv t) : KeepT w.heap.size w w.heap.size t cv dv (w.alloc (boxT t.nm cv t.key dv)) :=
  ⟨heap_alloc_new w _, h.later (below_alloc w _), below_alloc w _, Nat.le_refl _⟩
end
/-- Beside it, a dep. -/
structure KeepD (B : Nat) (W0 : World) (S0 S : Nat) (t : T) (cv dv : Value) (d : D) (lv : Value) (w : World) : Prop where
  tb : KeepT B W0 S0 t cv dv w
  dep : w.heap[S]? = some (.cells #[lv, .string d.right] 70)
  left : RdS w lv d.left
section
variable {B : Nat} {W0 : World} {S0 S : Nat} {t : T} {cv dv : Value} {d : D} {lv : Value} {w w' : World}
theorem KeepD.on (h : KeepD B W0 S0 S t cv dv d lv w) (hb : Below w.heap.size w w') : KeepD B W0 S0 S t cv dv d lv w' :=
  ⟨h.tb.on hb, heap_on hb h.dep, h.left.later hb⟩
theorem KeepD.cells (h : KeepD B W0 S0 S t cv dv d lv w) : S < w.heap.size ∧ w.cell? ⟨S, 0, none⟩ = some lv ∧ w.cell? ⟨S, 1, none⟩ = some (.string d.right) :=
  ⟨lt_of_heap h.dep, nd_cell h.dep 0, nd_cell h.dep 1⟩
theorem KeepD.new (h : KeepT B W0 S0 t cv dv w) (hl : RdS w lv d.left) : KeepD B W0 S0 w.heap.size t cv dv d lv (w.alloc (.cells #[lv, .string d.right] 70)) :=
  ⟨h.on (below_alloc w _), heap_alloc_new w _, hl.later (below_alloc w _)⟩
end
theorem namedLeft_is {l : List C} {left : List ByteArray} {cv lv : Value} {W : World} {b : Bool} (h : RdC W cv l) (hs : RdS W lv left) (hb : leftGood l left = b) : Calls Tryz.prog 85 #[cv, lv] W fun e w' => e = .returned (.bool b) ∧ Below W.heap.size W w' := hb ▸ namedLeft_any h hs
theorem depAt_at {l : List C} {ds : List D} {j : Nat} (hj : j < ds.length) : depAt l ds j = (leftGood l ds[j].left && (hasC l ds[j].right && !hasS ds[j].left ds[j].right)) := by
  unfold depAt; rw [List.getElem?_eq_getElem hj]; rfl

set_option maxRecDepth 100000 in
set_option maxHeartbeats 2000000 in
theorem namedDeps_any {t : T} {cv dv : Value} {W : World} (h : RdT W cv dv t) : Calls Tryz.prog 60 #[.agg #[.string t.nm, cv, .string t.key, dv]] W fun e w' => e = .returned (.bool (depsGood t.cols t.deps)) ∧ Below W.heap.size W w' := by
  have HK := Lib.hid (KeepT.new h)
  obtain ⟨pc, cc, hcv, _, _⟩ := h.1.slice
  obtain ⟨p, cap, hdv, hc, hm⟩ := h.2.slice
  obtain ⟨nc, hnc⟩ : ∃ n, t.cols.length = n := ⟨_, rfl⟩
  obtain ⟨n, hn⟩ : ∃ n, t.deps.length = n := ⟨_, rfl⟩
  obtain ⟨B, hB⟩ : ∃ B, W.heap.size = B := ⟨_, rfl⟩
  unfold maxLen at hm
  rw [hn] at hc hdv
  rw [hnc] at hcv
  subst hcv hdv
  have HN := Lib.hid hn
  rw [hB] at HK
  have hB2 := Lib.hid hB
  clear h hn hnc
  go_enter Tryz.func60, Tryz.ntmps60
  go_upto_region 1 with fail
  obtain ⟨w0, hw0⟩ : ∃ w0, W.alloc (boxT t.nm (.slice pc nc cc) t.key (.slice p n cap)) = w0 := ⟨_, rfl⟩
  rw [hw0] at HK ⊢
  clear hw0
  obtain ⟨hlt0, _, z1, _, z3⟩ := HK.out.cells
  go_wp2_with fail
  clear z1 z3 hlt0
  go_loopg [8] (n + 1) (fun gh jv w => ∃ (j : Nat), jv = .int .i64 (j : Int) ∧ j ≤ n ∧ n + 1 ≤ j + gh ∧ (∀ i, i < j → depAt t.cols t.deps i = true) ∧ KeepT B W B t (.slice pc nc cc) (.slice p n cap) w)
  case atStart => exact ⟨0, rfl, Nat.zero_le _, by omega, fun i hi => by omega, HK.out⟩
  case round =>
    obtain ⟨j, rfl, hj, hg, hno, hK⟩ := hrel
    have HI := Lib.hid (And.intro hno hK)
    clear hno
    by_cases hlt : j < n
    · have hjl : j < t.deps.length := by rw [HN.out]; exact hlt
      obtain ⟨b, off, lv, rfl, hb, c0, c1, hlv⟩ := RdD.dep hK.tab.2 hjl
      obtain ⟨d, hdj⟩ : ∃ d, t.deps[j] = d := ⟨_, rfl⟩
      have hG := depAt_at (l := t.cols) hjl
      rw [hdj] at c1 hlv hG
      obtain ⟨pl, cl, rfl, _, _⟩ := hlv.slice
      obtain ⟨nl, hnl⟩ : ∃ n, d.left.length = n := ⟨_, rfl⟩
      rw [hnl] at hlv c0
      have HD := Lib.hid (KeepD.new hK hlv)
      clear hdj hK hlv hnl
      go_upto_region 4 with fail
      obtain ⟨S, hS⟩ : ∃ S, wr.heap.size = S := ⟨_, rfl⟩
      obtain ⟨w1, hw1⟩ : ∃ w1, wr.alloc (.cells #[.slice pl nl cl, .string d.right] 70) = w1 := ⟨_, rfl⟩
      rw [hw1, hS] at HD ⊢
      clear hw1 hS c0 c1 hb
      obtain ⟨y0, y1, y2⟩ := HD.out.cells
      obtain ⟨hlt0, _, z1, _, _⟩ := HD.out.tb.cells
      cases hl : leftGood t.cols d.left
      · have HG : Hid (depAt t.cols t.deps j = false) := Lib.hid (by rw [hG, hl]; rfl)
        have hca := namedLeft_is HD.out.tb.tab.1 HD.out.left hl
        clear hG hl
        go_wp2_with (go_at_call 85; (with_reducible refine hca.mono ?_); rintro e w2 ⟨rfl, hb2⟩)
        go_ret
        exact ⟨ret_bool (range_no j hjl HG.out).symm, hB2.out ▸ (HD.out.on hb2).tb.below⟩
      · have hca := namedLeft_is HD.out.tb.tab.1 HD.out.left hl
        have hcb : ∀ {w : World}, KeepD B W B S t (.slice pc nc cc) (.slice (some ⟨b, off, none⟩) n cap) d (.slice pl nl cl) w → _ := fun {w} hK => has_any (x := d.right) (W := w) hK.tb.tab.1
        have hcc : ∀ {w : World}, KeepD B W B S t (.slice pc nc cc) (.slice (some ⟨b, off, none⟩) n cap) d (.slice pl nl cl) w → _ := fun {w} hK => contains_any (x := d.right) (W := w) hK.left
        cases hh : hasC t.cols d.right
        · have HG : Hid (depAt t.cols t.deps j = false) := Lib.hid (by rw [hG, hl, hh]; rfl)
          rw [hh] at hcb
          clear hG hl hh hcc
          go_wp2_with (first
            | (go_at_call 85; (with_reducible refine hca.mono ?_); rintro e w2 ⟨rfl, hb2⟩; have H2 := Lib.hid (HD.out.on hb2); obtain ⟨x0, x1, x2⟩ := H2.out.cells; obtain ⟨x3, _, x4, _, _⟩ := H2.out.tb.cells; clear hb2 hca)
            | (go_at_call 84; (with_reducible refine (hcb H2.out).mono ?_); rintro e w3 ⟨rfl, hb3⟩))
          go_ret
          exact ⟨ret_bool (range_no j hjl HG.out).symm, hB2.out ▸ (H2.out.on hb3).tb.below⟩
        · rw [hh] at hcb
          cases hh2 : hasS d.left d.right
          · have HG : Hid (depAt t.cols t.deps j = true) := Lib.hid (by rw [hG, hl, hh, hh2]; rfl)
            rw [hh2] at hcc
            clear hG hl hh hh2
            go_wp2_with (first
              | (go_at_call 85; (with_reducible refine hca.mono ?_); rintro e w2 ⟨rfl, hb2⟩; have H2 := Lib.hid (HD.out.on hb2); obtain ⟨x0, x1, x2⟩ := H2.out.cells; obtain ⟨x3, _, x4, _, _⟩ := H2.out.tb.cells; clear hb2 hca)
              | (go_at_call 84; (with_reducible refine (hcb H2.out).mono ?_); rintro e w3 ⟨rfl, hb3⟩; have H3 := Lib.hid (H2.out.on hb3); obtain ⟨q0, q1, q2⟩ := H3.out.cells; obtain ⟨q3, _, q4, _, _⟩ := H3.out.tb.cells; clear hb3 hcb)
              | (go_at_call 86; (with_reducible refine (hcc H3.out).mono ?_); rintro e w4 ⟨rfl, rfl⟩))
            go_roundg (n - j)
            case measure => omega
            case rel => exact ⟨j + 1, by go_num, by omega, by omega, fun i hi => by rcases (by omega : i < j ∨ i = j) with h | rfl; exact HI.out.1 i h; exact HG.out, H3.out.tb⟩
          · have HG : Hid (depAt t.cols t.deps j = false) := Lib.hid (by rw [hG, hl, hh, hh2]; rfl)
            rw [hh2] at hcc
            clear hG hl hh hh2
            go_wp2_with (first
              | (go_at_call 85; (with_reducible refine hca.mono ?_); rintro e w2 ⟨rfl, hb2⟩; have H2 := Lib.hid (HD.out.on hb2); obtain ⟨x0, x1, x2⟩ := H2.out.cells; obtain ⟨x3, _, x4, _, _⟩ := H2.out.tb.cells; clear hb2 hca)
              | (go_at_call 84; (with_reducible refine (hcb H2.out).mono ?_); rintro e w3 ⟨rfl, hb3⟩; have H3 := Lib.hid (H2.out.on hb3); obtain ⟨q0, q1, q2⟩ := H3.out.cells; obtain ⟨q3, _, q4, _, _⟩ := H3.out.tb.cells; clear hb3 hcb)
              | (go_at_call 86; (with_reducible refine (hcc H3.out).mono ?_); rintro e w4 ⟨rfl, rfl⟩))
            go_ret
            exact ⟨ret_bool (range_no j hjl HG.out).symm, hB2.out ▸ H3.out.tb.below⟩
    · go_wp2_with fail
      go_ret
      exact ⟨ret_bool (range_yes (fun i hi => HI.out.1 i (by have := HN.out; omega))).symm, hB2.out ▸ HI.out.2.below⟩

def fitsB (t : T) : Bool := decide (0 < t.cols.length) && (decide (t.cols.length ≤ 6) && decide (t.deps.length ≤ 3))
set_option maxRecDepth 100000 in
theorem fits_any {t : T} {cv dv : Value} {W : World} (h : RdT W cv dv t) : Calls Tryz.prog 56 #[.agg #[.string t.nm, cv, .string t.key, dv]] W fun e w' => e = .returned (.bool (fitsB t)) ∧ Below W.heap.size W w' := by
  obtain ⟨pc, cc, rfl, _, _⟩ := h.1.slice
  obtain ⟨p, cap, rfl, hc, hm⟩ := h.2.slice
  clear h hc hm
  obtain ⟨r, hr⟩ : ∃ r, fitsB t = r := ⟨_, rfl⟩
  rw [hr]
  unfold fitsB at hr
  generalize t.cols.length = m at *
  generalize t.deps.length = n at *
  have HR := Lib.hid hr
  clear hr
  by_cases h1 : 0 < m
  · by_cases h2 : m ≤ 6
    · by_cases h3 : n ≤ 3
      · go_enter Tryz.func56, Tryz.ntmps56
        go_wp2_with fail
        go_ret
        exact ⟨ret_bool (by rw [← HR.out]; simp [h1, h2, h3]; omega), below_alloc W _⟩
      · go_enter Tryz.func56, Tryz.ntmps56
        go_wp2_with fail
        go_ret
        exact ⟨ret_bool (by rw [← HR.out]; simp [h1, h2, h3]; omega), below_alloc W _⟩
    · go_enter Tryz.func56, Tryz.ntmps56
      go_wp2_with fail
      go_ret
      exact ⟨ret_bool (by rw [← HR.out]; simp [h1, h2]), below_alloc W _⟩
  · go_enter Tryz.func56, Tryz.ntmps56
    go_wp2_with fail
    go_ret
    exact ⟨ret_bool (by rw [← HR.out]; simp [h1]), below_alloc W _⟩
end Go.Proofs.YtmfkkpogmmoflaaGreat
