/- The reference's names. -/
import Derived.Test.YtmfkkpogmmoflaaGreatRA
namespace Go.Proofs.YtmfkkpogmmoflaaGreat
open Go Go.RowKit Go.Proofs

/-- A dep's left names, as the reference asks of them. -/
def leftRef (l : List C) (d : D) (k : Nat) : Bool := match d.left[k]? with | some x => hasC l x && (!eqS x d.right && !hasS (d.left.take k) x) | none => true
theorem leftRef_at {l : List C} {d : D} {k : Nat} (hk : k < d.left.length) : leftRef l d k = (hasC l d.left[k] && (!eqS d.left[k] d.right && !hasS (d.left.take k) d.left[k])) := by
  unfold leftRef; rw [List.getElem?_eq_getElem hk]
theorem depGood_ref (l : List C) (d : D) : depGood l d = ((decide (1 ≤ d.left.length) && decide (d.left.length ≤ 3)) && (hasC l d.right && (List.range d.left.length).all (leftRef l d))) := by
  unfold depGood leftGood
  rw [Bool.eq_iff_iff]
  simp only [Bool.and_eq_true, List.all_eq_true, List.mem_range, Bool.not_eq_true']
  constructor
  · rintro ⟨⟨h1, h2⟩, h3, h4⟩
    refine ⟨h1, h3, fun k hk => ?_⟩
    have := h2 k hk
    rw [leftAt_at hk] at this
    rw [leftRef_at hk]
    simp only [Bool.and_eq_true, Bool.not_eq_true'] at this ⊢
    refine ⟨this.1, ?_, this.2⟩
    unfold hasS at h4
    rw [List.any_eq_false] at h4
    have := h4 d.left[k] (List.getElem_mem _)
    rw [eqS_comm]
    simpa using this
  · rintro ⟨h1, h3, h2⟩
    refine ⟨⟨h1, fun k hk => ?_⟩, h3, ?_⟩
    · have := h2 k hk
      rw [leftRef_at hk] at this
      rw [leftAt_at hk]
      simp only [Bool.and_eq_true, Bool.not_eq_true'] at this ⊢
      exact ⟨this.1, this.2.2⟩
    · unfold hasS
      rw [List.any_eq_false]
      intro x hx
      obtain ⟨k, hk, rfl⟩ := List.getElem_of_mem hx
      have := h2 k hk
      rw [leftRef_at hk] at this
      simp only [Bool.and_eq_true, Bool.not_eq_true'] at this
      rw [eqS_comm, this.2.1]; decide
theorem hasS_take_succ (l : List ByteArray) (j : Nat) (h : j < l.length) (x : ByteArray) : hasS (l.take (j + 1)) x = (hasS (l.take j) x || eqS x l[j]) := by
  unfold hasS
  rw [List.take_succ_eq_append_getElem h, List.any_append, List.any_cons, List.any_nil, Bool.or_false]
theorem rname_is {x : ByteArray} {b : Bool} (h : named x = b) (w : World) (hs : x.size ≤ maxLen) : Calls Tryz.prog 65 #[.string x] w fun e w' => e = .returned (.bool b) ∧ Below w.heap.size w w' := h ▸ refName_any x w hs
theorem ixC_neg (l : List C) (x : ByteArray) : decide (ixC l x < 0) = !hasC l x := by
  rcases ixC_cases l x with ⟨h1, h2, _⟩ | ⟨j, _, h1, h2, _⟩
  · rw [h1, h2]; rfl
  · rw [h1, h2]; simp
theorem ixT_pos (l : List T) (x : ByteArray) : decide (0 ≤ ixT l x) = hasT l x := by
  rcases ixT_cases l x with ⟨h1, h2, _⟩ | ⟨j, _, h1, h2, _⟩
  · rw [h1, h2]; rfl
  · rw [h1, h2]; simp
theorem ixC_lt {l : List C} {x : ByteArray} {z : Int} (h : ixC l x = z) : -1 ≤ z := by
  rcases ixC_cases l x with ⟨h1, _⟩ | ⟨j, _, h1, _⟩
  · omega
  · omega

set_option maxRecDepth 100000 in
set_option maxHeartbeats 8000000 in
theorem rnames_any {t : T} {cv dv v : Value} {ts : List T} {W : World} (h : RdT W cv dv t) (hs : RdTs W v ts) (hsm : Sm t) : Calls Tryz.prog 40 #[v, .agg #[.string t.nm, cv, .string t.key, dv]] W fun e w' => e = .returned (.bool (namesGood ts t)) ∧ Below W.heap.size W w' := by
  have HK := Lib.hid (KeepT.new h)
  have hts := hs.later (below_alloc W (boxT t.nm cv t.key dv))
  obtain ⟨pc, cc, hcv, hc, hm⟩ := h.c.slice
  obtain ⟨p, cap, hdv, hc3, hm3⟩ := h.d.slice
  obtain ⟨n, hn⟩ : ∃ n, t.cols.length = n := ⟨_, rfl⟩
  obtain ⟨nd, hnd⟩ : ∃ n, t.deps.length = n := ⟨_, rfl⟩
  obtain ⟨B, hB⟩ : ∃ B, W.heap.size = B := ⟨_, rfl⟩
  unfold maxLen at hm hm3
  rw [hnd] at hdv hc3
  rw [hn] at hcv hc
  subst hcv hdv
  have HN := Lib.hid (And.intro hn hnd)
  rw [hB] at HK
  have hB2 := Lib.hid hB
  have SM := Lib.hid (And.intro hsm.1 hsm.2)
  obtain ⟨w0, hw0⟩ : ∃ w0, W.alloc (boxT t.nm (.slice pc n cc) t.key (.slice p nd cap)) = w0 := ⟨_, rfl⟩
  rw [hw0] at hts HK
  have HW := Lib.hid hw0
  have HTS := Lib.hid hts
  obtain ⟨hlt0, z0, z1, z2, z3⟩ := HK.out.cells
  have hpos := ixT_pos ts t.nm
  have hfnd := fun (w : World) (hb : Below w0.heap.size w0 w) => rfind_any (x := t.nm) (HTS.out.later hb)
  clear h hs hts hn hnd hB hw0 hsm
  cases hn1 : named t.nm
  · have HG : Hid (namesGood ts t = false) := Lib.hid (by unfold namesGood free; rw [hn1]; rfl)
    clear hpos hfnd
    go_enter Tryz.func40, Tryz.ntmps40
    go_upto_region 1 with fail
    rw [HW.out, hB2.out]
    go_wp2_with (go_at_call 65; (with_reducible refine (rname_is hn1 _ SM.out.1).mono ?_); rintro e w1 ⟨rfl, hb⟩)
    go_ret
    exact ⟨ret_bool HG.out.symm, hB2.out ▸ (HK.out.on hb).below⟩
  cases hn2 : hasT ts t.nm
  rotate_left
  · have HG : Hid (namesGood ts t = false) := Lib.hid (by unfold namesGood free; rw [hn1, hn2]; rfl)
    rw [hn2] at hpos
    generalize ixT ts t.nm = z at hpos hfnd
    have hz : 0 ≤ z := of_decide_eq_true hpos
    clear hpos hn2
    go_enter Tryz.func40, Tryz.ntmps40
    go_upto_region 1 with fail
    rw [HW.out, hB2.out]
    go_wp2_with (first
      | (go_at_call 65; (with_reducible refine (rname_is hn1 _ SM.out.1).mono ?_); rintro e w1 ⟨rfl, hb⟩; have K1 := Lib.hid (HK.out.on hb); obtain ⟨u0, u1, u2, u3, u4⟩ := K1.out.cells; have hf := hfnd _ hb; clear hfnd)
      | (go_at_call 24; (with_reducible refine hf.mono ?_); rintro e w2 ⟨rfl, rfl⟩))
    go_ret
    exact ⟨ret_bool HG.out.symm, hB2.out ▸ K1.out.below⟩
  have HL : Hid (namesGood ts t = (colsGood t.cols && (keyGood t && depsGood t.cols t.deps))) := Lib.hid (by unfold namesGood free; rw [hn1, hn2]; rfl)
  rw [hn2] at hpos
  generalize ixT ts t.nm = z at hpos hfnd
  have hz : ¬ 0 ≤ z := of_decide_eq_false hpos
  clear hpos hn2
  go_enter Tryz.func40, Tryz.ntmps40
  go_upto_region 1 with fail
  rw [HW.out, hB2.out]
  go_wp2_with (first
    | (go_at_call 65; (with_reducible refine (rname_is hn1 _ SM.out.1).mono ?_); rintro e w1 ⟨rfl, hb⟩; have K1 := Lib.hid (HK.out.on hb); obtain ⟨u0, u1, u2, u3, u4⟩ := K1.out.cells; have hf := hfnd _ hb; clear hfnd)
    | (go_at_call 24; (with_reducible refine hf.mono ?_); rintro e w2 ⟨rfl, rfl⟩))
  clear hn1 hz hf HTS z0 z1 z2 z3 hlt0 u0 u1 u2 u3 u4 HK
  go_loopg [5] (n + 1) (fun gh jv w => ∃ (j : Nat), jv = .int .i64 (j : Int) ∧ j ≤ n ∧ n + 1 ≤ j + gh ∧ (∀ i, i < j → colGood t.cols i = true) ∧ KeepT B W B t (.slice pc n cc) (.slice p nd cap) w)
  case atStart => exact ⟨0, rfl, Nat.zero_le _, by omega, fun i hi => by omega, K1.out⟩
  case round =>
    obtain ⟨j, rfl, hj, hg, hno, hK⟩ := hrel
    have HI := Lib.hid (And.intro hno hK)
    clear hno
    obtain ⟨u0, _, u2, u3, u4⟩ := hK.cells
    by_cases hlt : j < n
    · have hjl : j < t.cols.length := by rw [HN.out.1]; exact hlt
      obtain ⟨b, off, rfl, hbl, _⟩ := RdC.col hK.tab.c hjl
      have hG := colGood_ref hjl
      obtain ⟨c, hcj⟩ : ∃ c, t.cols[j] = c := ⟨_, rfl⟩
      have HC : Hid (∀ w, RdC w (.slice (some ⟨b, off, none⟩) n cc) t.cols → w.cell? ⟨b, off + j * 4, none⟩ = some (.string c.nm)) := Lib.hid (fun w hr => by rw [← hcj]; exact (RdC.colAt hr hjl).2.1)
      have hsz : c.nm.size ≤ maxLen := SM.out.2 c (by rw [← hcj]; exact List.getElem_mem _)
      rw [hcj] at hG
      have hji : (j : Int) < (n : Int) := by omega
      clear hK hcj hbl
      go_upto_region 6 with fail
      cases hnm : named c.nm
      · have HG : Hid (colGood t.cols j = false) := Lib.hid (by rw [hG, hnm]; rfl)
        clear hG
        refine Par.wp_region_par 20 [(Value.pointer (some ⟨B, 1, none⟩)), .slice (some ⟨b, off, none⟩) n cc, .int .i64 j, (Value.pointer (some ⟨b, off + j * 4, none⟩)), (Value.pointer (some ⟨b, off + j * 4, none⟩)), .string c.nm, .bool false, .bool true, .bool true, undef, undef, undef, undef, undef, undef, undef, undef, undef, undef, .bool true] (KeepT B W B t (.slice (some ⟨b, off, none⟩) n cc) (.slice p nd cap)) ?A1 ?hm1 ?hB1 ?hA1 (HI.out.2.on (below_drew wr)) ?hop1 ?hT1
        case hm1 => kernel_rfl
        case hB1 => kernel_rfl
        case hA1 =>
          simp only [Par.putA, Par.dstAt, Act.put, List.getElem?_toArray, List.getElem?_cons_zero, List.getElem?_cons_succ, Option.bind_some, List.setIfInBounds_toArray, List.set_cons_zero, List.set_cons_succ, List.getD_cons_zero, List.getD_cons_succ]
          rfl
        case hop1 =>
          simp only [List.take_succ_cons, List.take_zero, Par.GiveAll, and_true]
          refine ⟨fun w' hR => ?_, fun w' hR => ?_, fun w' hR => ?_, fun w' hR => ?_, fun w' hR => ?_, fun w' hR => ?_, fun w' hR => ?_, fun w' hR => ?_, fun w' hR => ?_, fun w' hR => ?_, fun w' hR => ?_, fun w' hR => ?_, fun w' hR => ?_, fun w' hR => ?_, fun w' hR => ?_, fun w' hR => ?_, fun w' hR => ?_, fun w' hR => ?_, fun w' hR => ?_, fun w' hR => ?_⟩
          · have HR := Lib.hid hR
            clear hR
            simp only [Par.Gives]
            go_simp
            all_goals exact HR.out
          · have HR := Lib.hid hR
            have k := hR.cells.2.2.1
            clear hR
            simp only [Par.Gives]
            go_simp
            all_goals exact HR.out
          · have HR := Lib.hid hR
            clear hR
            simp only [Par.Gives]
            go_simp
            all_goals exact HR.out
          · have HR := Lib.hid hR
            clear hR
            simp only [Par.Gives]
            go_simp
            all_goals exact HR.out
          · have HR := Lib.hid hR
            clear hR
            simp only [Par.Gives]
            go_simp
            all_goals exact HR.out
          · have HR := Lib.hid hR
            have k := HC.out w' hR.tab.c
            clear hR
            simp only [Par.Gives]
            go_simp
            all_goals exact HR.out
          · have HR := Lib.hid hR
            clear hR
            simp only [Par.Gives]
            go_simp
            exact (rname_is hnm w' hsz).mono (fun e w'' ⟨he, hb⟩ => ⟨he, HR.out.on hb⟩)
          · have HR := Lib.hid hR
            clear hR
            simp only [Par.Gives]
            go_simp
            all_goals exact HR.out
          · have HR := Lib.hid hR
            clear hR
            simp only [Par.Gives]
            go_simp
            all_goals exact HR.out
          · have HR := Lib.hid hR
            clear hR
            simp only [Par.Gives]
            go_simp
            all_goals exact HR.out
          · have HR := Lib.hid hR
            clear hR
            simp only [Par.Gives]
            go_simp
            all_goals exact HR.out
          · have HR := Lib.hid hR
            clear hR
            simp only [Par.Gives]
            go_simp
            all_goals exact HR.out
          · have HR := Lib.hid hR
            clear hR
            simp only [Par.Gives]
            go_simp
            all_goals exact HR.out
          · have HR := Lib.hid hR
            clear hR
            simp only [Par.Gives]
            go_simp
            all_goals exact HR.out
          · have HR := Lib.hid hR
            clear hR
            simp only [Par.Gives]
            go_simp
            all_goals exact HR.out
          · have HR := Lib.hid hR
            clear hR
            simp only [Par.Gives]
            go_simp
            all_goals exact HR.out
          · have HR := Lib.hid hR
            clear hR
            simp only [Par.Gives]
            go_simp
            all_goals exact HR.out
          · have HR := Lib.hid hR
            clear hR
            simp only [Par.Gives]
            go_simp
            all_goals exact HR.out
          · have HR := Lib.hid hR
            clear hR
            simp only [Par.Gives]
            go_simp
            all_goals exact HR.out
          · have HR := Lib.hid hR
            clear hR
            simp only [Par.Gives]
            go_simp
            all_goals exact HR.out
        case hT1 =>
          intro w' hR
          simp only [List.drop_succ_cons, List.drop_nil]
          go_wp2_with fail
          go_ret
          exact ⟨ret_bool (by rw [HL.out]; unfold colsGood; rw [range_no j hjl HG.out]; rfl), hB2.out ▸ hR.below⟩
      · have hcl := fun (w : World) (hr : RdT w (.slice (some ⟨b, off, none⟩) n cc) (.slice p nd cap) t) => rcolOf_any (x := c.nm) hr
        obtain ⟨z, hzz⟩ : ∃ z, ixC t.cols c.nm = z := ⟨_, rfl⟩
        rw [hzz] at hcl hG
        by_cases hzj : z = (j : Int)
        · have HG : Hid (colGood t.cols j = true) := Lib.hid (by rw [hG, hnm, decide_eq_true hzj]; rfl)
          subst hzj
          clear hG hzz
          refine Par.wp_region_par 20 [(Value.pointer (some ⟨B, 1, none⟩)), .slice (some ⟨b, off, none⟩) n cc, .int .i64 j, (Value.pointer (some ⟨b, off + j * 4, none⟩)), (Value.pointer (some ⟨b, off + j * 4, none⟩)), .string c.nm, .bool true, .bool false, .bool false, .agg #[.string t.nm, .slice (some ⟨b, off, none⟩) n cc, .string t.key, .slice p nd cap], (Value.pointer (some ⟨B, 1, none⟩)), .slice (some ⟨b, off, none⟩) n cc, .int .i64 j, (Value.pointer (some ⟨b, off + j * 4, none⟩)), (Value.pointer (some ⟨b, off + j * 4, none⟩)), .string c.nm, .int .i64 j, .int .i64 j, .bool false, .bool false] (KeepT B W B t (.slice (some ⟨b, off, none⟩) n cc) (.slice p nd cap)) ?A2 ?hm2 ?hB2 ?hA2 (HI.out.2.on (below_drew wr)) ?hop2 ?hT2
          case hm2 => kernel_rfl
          case hB2 => kernel_rfl
          case hA2 =>
            simp only [Par.putA, Par.dstAt, Act.put, List.getElem?_toArray, List.getElem?_cons_zero, List.getElem?_cons_succ, Option.bind_some, List.setIfInBounds_toArray, List.set_cons_zero, List.set_cons_succ, List.getD_cons_zero, List.getD_cons_succ]
            rfl
          case hop2 =>
            simp only [List.take_succ_cons, List.take_zero, Par.GiveAll, and_true]
            refine ⟨fun w' hR => ?_, fun w' hR => ?_, fun w' hR => ?_, fun w' hR => ?_, fun w' hR => ?_, fun w' hR => ?_, fun w' hR => ?_, fun w' hR => ?_, fun w' hR => ?_, fun w' hR => ?_, fun w' hR => ?_, fun w' hR => ?_, fun w' hR => ?_, fun w' hR => ?_, fun w' hR => ?_, fun w' hR => ?_, fun w' hR => ?_, fun w' hR => ?_, fun w' hR => ?_, fun w' hR => ?_⟩
            · have HR := Lib.hid hR
              clear hR
              simp only [Par.Gives]
              go_simp
              all_goals exact HR.out
            · have HR := Lib.hid hR
              have k := hR.cells.2.2.1
              clear hR
              simp only [Par.Gives]
              go_simp
              all_goals exact HR.out
            · have HR := Lib.hid hR
              clear hR
              simp only [Par.Gives]
              go_simp
              all_goals exact HR.out
            · have HR := Lib.hid hR
              clear hR
              simp only [Par.Gives]
              go_simp
              all_goals exact HR.out
            · have HR := Lib.hid hR
              clear hR
              simp only [Par.Gives]
              go_simp
              all_goals exact HR.out
            · have HR := Lib.hid hR
              have k := HC.out w' hR.tab.c
              clear hR
              simp only [Par.Gives]
              go_simp
              all_goals exact HR.out
            · have HR := Lib.hid hR
              clear hR
              simp only [Par.Gives]
              go_simp
              exact (rname_is hnm w' hsz).mono (fun e w'' ⟨he, hb⟩ => ⟨he, HR.out.on hb⟩)
            · have HR := Lib.hid hR
              clear hR
              simp only [Par.Gives]
              go_simp
              all_goals exact HR.out
            · have HR := Lib.hid hR
              clear hR
              simp only [Par.Gives]
              go_simp
              all_goals exact HR.out
            · have HR := Lib.hid hR
              have k0 := hR.cells.1
              have k1 := hR.cells.2.1
              have k2 := hR.cells.2.2.1
              have k3 := hR.cells.2.2.2.1
              have k4 := hR.cells.2.2.2.2
              clear hR
              simp only [Par.Gives]
              go_simp
              all_goals exact HR.out
            · have HR := Lib.hid hR
              clear hR
              simp only [Par.Gives]
              go_simp
              all_goals exact HR.out
            · have HR := Lib.hid hR
              have k := hR.cells.2.2.1
              clear hR
              simp only [Par.Gives]
              go_simp
              all_goals exact HR.out
            · have HR := Lib.hid hR
              clear hR
              simp only [Par.Gives]
              go_simp
              all_goals exact HR.out
            · have HR := Lib.hid hR
              clear hR
              simp only [Par.Gives]
              go_simp
              all_goals exact HR.out
            · have HR := Lib.hid hR
              clear hR
              simp only [Par.Gives]
              go_simp
              all_goals exact HR.out
            · have HR := Lib.hid hR
              have k := HC.out w' hR.tab.c
              clear hR
              simp only [Par.Gives]
              go_simp
              all_goals exact HR.out
            · have HR := Lib.hid hR
              clear hR
              simp only [Par.Gives]
              go_simp
              exact (hcl _ HR.out.tab).mono (fun e w'' ⟨he, hb⟩ => ⟨he, HR.out.on hb⟩)
            · have HR := Lib.hid hR
              clear hR
              simp only [Par.Gives]
              go_simp
              all_goals exact HR.out
            · have HR := Lib.hid hR
              clear hR
              simp only [Par.Gives]
              go_simp
              all_goals exact HR.out
            · have HR := Lib.hid hR
              clear hR
              simp only [Par.Gives]
              go_simp
              all_goals exact HR.out
          case hT2 =>
            intro w' hR
            simp only [List.drop_succ_cons, List.drop_nil]
            go_wp2_with fail
            go_roundg (n - j)
            case measure => omega
            case rel => exact ⟨j + 1, by go_num, by omega, by omega, fun i hi => by rcases (by omega : i < j ∨ i = j) with h | rfl; exact HI.out.1 i h; exact HG.out, hR⟩
        · have HG : Hid (colGood t.cols j = false) := Lib.hid (by rw [hG, hnm, decide_eq_false hzj]; rfl)
          have e1 : (z == (j : Int)) = false := beq_eq_false_iff_ne.2 hzj
          clear hG hzz
          refine Par.wp_region_par 20 [(Value.pointer (some ⟨B, 1, none⟩)), .slice (some ⟨b, off, none⟩) n cc, .int .i64 j, (Value.pointer (some ⟨b, off + j * 4, none⟩)), (Value.pointer (some ⟨b, off + j * 4, none⟩)), .string c.nm, .bool true, .bool false, .bool false, .agg #[.string t.nm, .slice (some ⟨b, off, none⟩) n cc, .string t.key, .slice p nd cap], (Value.pointer (some ⟨B, 1, none⟩)), .slice (some ⟨b, off, none⟩) n cc, .int .i64 j, (Value.pointer (some ⟨b, off + j * 4, none⟩)), (Value.pointer (some ⟨b, off + j * 4, none⟩)), .string c.nm, .int .i64 z, .int .i64 j, .bool true, .bool true] (KeepT B W B t (.slice (some ⟨b, off, none⟩) n cc) (.slice p nd cap)) ?A3 ?hm3 ?hB3 ?hA3 (HI.out.2.on (below_drew wr)) ?hop3 ?hT3
          case hm3 => kernel_rfl
          case hB3 => kernel_rfl
          case hA3 =>
            simp only [Par.putA, Par.dstAt, Act.put, List.getElem?_toArray, List.getElem?_cons_zero, List.getElem?_cons_succ, Option.bind_some, List.setIfInBounds_toArray, List.set_cons_zero, List.set_cons_succ, List.getD_cons_zero, List.getD_cons_succ]
            rfl
          case hop3 =>
            simp only [List.take_succ_cons, List.take_zero, Par.GiveAll, and_true]
            refine ⟨fun w' hR => ?_, fun w' hR => ?_, fun w' hR => ?_, fun w' hR => ?_, fun w' hR => ?_, fun w' hR => ?_, fun w' hR => ?_, fun w' hR => ?_, fun w' hR => ?_, fun w' hR => ?_, fun w' hR => ?_, fun w' hR => ?_, fun w' hR => ?_, fun w' hR => ?_, fun w' hR => ?_, fun w' hR => ?_, fun w' hR => ?_, fun w' hR => ?_, fun w' hR => ?_, fun w' hR => ?_⟩
            · have HR := Lib.hid hR
              clear hR
              simp only [Par.Gives]
              go_simp
              all_goals exact HR.out
            · have HR := Lib.hid hR
              have k := hR.cells.2.2.1
              clear hR
              simp only [Par.Gives]
              go_simp
              all_goals exact HR.out
            · have HR := Lib.hid hR
              clear hR
              simp only [Par.Gives]
              go_simp
              all_goals exact HR.out
            · have HR := Lib.hid hR
              clear hR
              simp only [Par.Gives]
              go_simp
              all_goals exact HR.out
            · have HR := Lib.hid hR
              clear hR
              simp only [Par.Gives]
              go_simp
              all_goals exact HR.out
            · have HR := Lib.hid hR
              have k := HC.out w' hR.tab.c
              clear hR
              simp only [Par.Gives]
              go_simp
              all_goals exact HR.out
            · have HR := Lib.hid hR
              clear hR
              simp only [Par.Gives]
              go_simp
              exact (rname_is hnm w' hsz).mono (fun e w'' ⟨he, hb⟩ => ⟨he, HR.out.on hb⟩)
            · have HR := Lib.hid hR
              clear hR
              simp only [Par.Gives]
              go_simp
              all_goals exact HR.out
            · have HR := Lib.hid hR
              clear hR
              simp only [Par.Gives]
              go_simp
              all_goals exact HR.out
            · have HR := Lib.hid hR
              have k0 := hR.cells.1
              have k1 := hR.cells.2.1
              have k2 := hR.cells.2.2.1
              have k3 := hR.cells.2.2.2.1
              have k4 := hR.cells.2.2.2.2
              clear hR
              simp only [Par.Gives]
              go_simp
              all_goals exact HR.out
            · have HR := Lib.hid hR
              clear hR
              simp only [Par.Gives]
              go_simp
              all_goals exact HR.out
            · have HR := Lib.hid hR
              have k := hR.cells.2.2.1
              clear hR
              simp only [Par.Gives]
              go_simp
              all_goals exact HR.out
            · have HR := Lib.hid hR
              clear hR
              simp only [Par.Gives]
              go_simp
              all_goals exact HR.out
            · have HR := Lib.hid hR
              clear hR
              simp only [Par.Gives]
              go_simp
              all_goals exact HR.out
            · have HR := Lib.hid hR
              clear hR
              simp only [Par.Gives]
              go_simp
              all_goals exact HR.out
            · have HR := Lib.hid hR
              have k := HC.out w' hR.tab.c
              clear hR
              simp only [Par.Gives]
              go_simp
              all_goals exact HR.out
            · have HR := Lib.hid hR
              clear hR
              simp only [Par.Gives]
              go_simp
              exact (hcl _ HR.out.tab).mono (fun e w'' ⟨he, hb⟩ => ⟨he, HR.out.on hb⟩)
            · have HR := Lib.hid hR
              clear hR
              simp only [Par.Gives]
              go_simp
              all_goals exact HR.out
            · have HR := Lib.hid hR
              clear hR
              simp only [Par.Gives]
              go_simp
              all_goals exact HR.out
            · have HR := Lib.hid hR
              clear hR
              simp only [Par.Gives]
              go_simp
              all_goals exact HR.out
          case hT3 =>
            intro w' hR
            simp only [List.drop_succ_cons, List.drop_nil]
            go_wp2_with fail
            go_ret
            exact ⟨ret_bool (by rw [HL.out]; unfold colsGood; rw [range_no j hjl HG.out]; rfl), hB2.out ▸ hR.below⟩
    · have HL2 : Hid (namesGood ts t = (keyGood t && depsGood t.cols t.deps)) := Lib.hid (by rw [HL.out]; unfold colsGood; rw [range_yes (fun i hi => HI.out.1 i (by have := HN.out.1; omega))]; rfl)
      go_upto_region 8 with fail
      go_cut [57] from 300 to 300 (fun gv wx => gv = .bool (!keyGood t) ∧ KeepT B W B t (.slice pc n cc) (.slice p nd cap) wx)
      case first =>
        cases hk : eqS t.key e0
        · have he : t.key.toList.isEmpty = false := by rw [eqS_e0]; exact hk
          have hcl := rcolOf_any (x := t.key) hK.tab
          have hng := ixC_neg t.cols t.key
          have HG : Hid (keyGood t = hasC t.cols t.key) := Lib.hid (by unfold keyGood; rw [hk]; rfl)
          generalize ixC t.cols t.key = z at hcl hng
          cases hh : hasC t.cols t.key
          · rw [hh] at hng HG
            have hz : z < 0 := of_decide_eq_true hng
            clear hK hk hng hh
            go_wp2_with (go_at_call 41; (with_reducible refine hcl.mono ?_); rintro e w2 ⟨rfl, hb⟩)
            go_meet
            exact ⟨by rw [HG.out]; rfl, HI.out.2.on hb⟩
          · rw [hh] at hng HG
            have hz : ¬ z < 0 := of_decide_eq_false hng
            clear hK hk hng hh
            go_wp2_with (go_at_call 41; (with_reducible refine hcl.mono ?_); rintro e w2 ⟨rfl, hb⟩)
            go_meet
            exact ⟨by rw [HG.out]; simp; omega, HI.out.2.on hb⟩
        · have he : t.key.toList.isEmpty = true := by rw [eqS_e0]; exact hk
          have HG : Hid (keyGood t = true) := Lib.hid (by unfold keyGood; rw [hk]; rfl)
          clear hK hk
          go_wp2_with fail
          go_meet
          exact ⟨by rw [HG.out]; rfl, HI.out.2⟩
      case rest =>
        obtain ⟨rfl, hK8⟩ := hcut
        have K8 := Lib.hid hK8
        clear hK8 hK u0 u2 u3 u4
        cases hkg : keyGood t
        · go_wp2_with fail
          go_ret
          exact ⟨ret_bool (by rw [HL2.out, hkg]; rfl), hB2.out ▸ K8.out.below⟩
        have HL3 : Hid (namesGood ts t = depsGood t.cols t.deps) := Lib.hid (by rw [HL2.out, hkg]; rfl)
        clear hkg
        go_wp2_with fail
        go_loopg [6] (nd + 1) (fun gh jv w => ∃ (j : Nat), jv = .int .i64 (j : Int) ∧ j ≤ nd ∧ nd + 1 ≤ j + gh ∧ (∀ i, i < j → depAt t.cols t.deps i = true) ∧ KeepT B W B t (.slice pc n cc) (.slice p nd cap) w)
        case atStart => exact ⟨0, rfl, Nat.zero_le _, by omega, fun i hi => by omega, K8.out⟩
        case round =>
          obtain ⟨j2, rfl, hj2, hg2, hno2, hK⟩ := hrel
          have HI2 := Lib.hid (And.intro hno2 hK)
          clear hno2
          obtain ⟨u0, _, u2, u3, u4⟩ := hK.cells
          by_cases hlt2 : j2 < nd
          · have hjl2 : j2 < t.deps.length := by rw [HN.out.2]; exact hlt2
            obtain ⟨b, off, lv, rfl, hb, c0, c1, hlv⟩ := RdD.dep hK.tab.d hjl2
            obtain ⟨d, hdj⟩ : ∃ d, t.deps[j2] = d := ⟨_, rfl⟩
            have hG : depAt t.cols t.deps j2 = ((decide (1 ≤ d.left.length) && decide (d.left.length ≤ 3)) && (hasC t.cols d.right && (List.range d.left.length).all (leftRef t.cols d))) := by
              unfold depAt; rw [List.getElem?_eq_getElem hjl2, hdj]; exact depGood_ref _ _
            rw [hdj] at c1 hlv
            obtain ⟨pl, cl, rfl, hcl1, hcl2⟩ := hlv.slice
            unfold maxLen at hcl2
            obtain ⟨nl, hnl⟩ : ∃ n, d.left.length = n := ⟨_, rfl⟩
            rw [hnl] at hlv c0 hG hcl1
            have HD := Lib.hid (KeepD.new hK hlv)
            have HNL := Lib.hid hnl
            clear hdj hK hlv hnl
            go_upto_region 14 with fail
            obtain ⟨S, hS⟩ : ∃ S, wr.heap.size = S := ⟨_, rfl⟩
            obtain ⟨w1, hw1⟩ : ∃ w1, wr.alloc (.cells #[.slice pl nl cl, .string d.right] 70) = w1 := ⟨_, rfl⟩
            rw [hw1, hS] at HD ⊢
            clear hw1 hS c0 c1 hb u0 u2 u3 u4
            obtain ⟨y0, y1, y2⟩ := HD.out.cells
            obtain ⟨u0, u1, u2, u3, u4⟩ := HD.out.tb.cells
            have hbad : depAt t.cols t.deps j2 = false → namesGood ts t = false := fun h => by rw [HL3.out]; exact range_no j2 hjl2 h
            have HBAD := Lib.hid hbad
            clear hbad
            by_cases h1 : nl < 1
            · have HG : Hid (depAt t.cols t.deps j2 = false) := Lib.hid (by rw [hG, decide_eq_false (show ¬ 1 ≤ nl by omega)]; rfl)
              clear hG
              go_wp2_with fail
              go_ret
              exact ⟨ret_bool (HBAD.out HG.out).symm, hB2.out ▸ HD.out.tb.below⟩
            by_cases h3 : 3 < nl
            · have HG : Hid (depAt t.cols t.deps j2 = false) := Lib.hid (by rw [hG, decide_eq_false (show ¬ nl ≤ 3 by omega), Bool.and_false]; rfl)
              clear hG
              go_wp2_with fail
              go_ret
              exact ⟨ret_bool (HBAD.out HG.out).symm, hB2.out ▸ HD.out.tb.below⟩
            rw [decide_eq_true (show 1 ≤ nl by omega), decide_eq_true (show nl ≤ 3 by omega), Bool.true_and, Bool.true_and] at hG
            have hcl := rcolOf_any (x := d.right) HD.out.tb.tab
            have hng := ixC_neg t.cols d.right
            generalize ixC t.cols d.right = z at hcl hng
            cases hh : hasC t.cols d.right
            · rw [hh] at hng hG
              have hz : z < 0 := of_decide_eq_true hng
              have HG : Hid (depAt t.cols t.deps j2 = false) := Lib.hid hG
              clear hng hh hG
              go_wp2_with (go_at_call 41; (with_reducible refine hcl.mono ?_); rintro e w2 ⟨rfl, hb⟩)
              go_ret
              exact ⟨ret_bool (HBAD.out HG.out).symm, hB2.out ▸ (HD.out.on hb).tb.below⟩
            rw [hh, Bool.true_and] at hG
            rw [hh] at hng
            have hz : ¬ z < 0 := of_decide_eq_false hng
            have HG := Lib.hid hG
            clear hng hh hG
            go_wp2_with (go_at_call 41; (with_reducible refine hcl.mono ?_); rintro e w2 ⟨rfl, hb⟩; have K2 := Lib.hid (HD.out.on hb); clear hb)
            clear hz hcl y0 y1 y2 u0 u1 u2 u3 u4
            go_loopg [8] (nl + 1) (fun gh kv w => ∃ (k : Nat), kv = .int .i64 (k : Int) ∧ k ≤ nl ∧ nl + 1 ≤ k + gh ∧ (∀ i, i < k → leftRef t.cols d i = true) ∧ KeepD B W B S t (.slice pc n cc) (.slice (some ⟨b, off, none⟩) nd cap) d (.slice pl nl cl) w)
            case atStart => exact ⟨0, rfl, Nat.zero_le _, by omega, fun i hi => by omega, K2.out⟩
            case round =>
              obtain ⟨k, rfl, hk, hg3, hno3, hK⟩ := hrel
              have HI3 := Lib.hid (And.intro hno3 hK)
              clear hno3
              obtain ⟨y0, y1, y2⟩ := hK.cells
              obtain ⟨u0, _, u2, u3, u4⟩ := hK.tb.cells
              by_cases hlt3 : k < nl
              · have hkl : k < d.left.length := by rw [HNL.out]; exact hlt3
                obtain ⟨bl, ol, rfl, hbl, _⟩ := RdS.word hK.left hkl
                have hR0 := leftRef_at (l := t.cols) hkl
                obtain ⟨x, hx⟩ : ∃ x, d.left[k] = x := ⟨_, rfl⟩
                have HX : Hid (∀ w, RdS w (.slice (some ⟨bl, ol, none⟩) nl cl) d.left → w.cell? ⟨bl, ol + k, none⟩ = some (.string x)) := Lib.hid (fun w hr => by rw [← hx]; exact (RdS.wordAt hr hkl).2)
                rw [hx] at hR0
                have hki : (k : Int) < (nl : Int) := by omega
                have hcl := fun (w : World) (hr : RdT w (.slice pc n cc) (.slice (some ⟨b, off, none⟩) nd cap) t) => rcolOf_any (x := x) hr
                have hng := ixC_neg t.cols x
                generalize ixC t.cols x = z at hcl hng
                have hbadk : leftRef t.cols d k = false → namesGood ts t = false := fun h => HBAD.out (by rw [HG.out]; exact range_no k hlt3 h)
                have HBK := Lib.hid hbadk
                clear hK hx hbadk
                go_upto_region 19 with fail
                clear y0 y1 y2 u0 u2 u3 u4
                cases hh : hasC t.cols x
                · rw [hh] at hng hR0
                  have hz : z < 0 := of_decide_eq_true hng
                  have HG3 : Hid (leftRef t.cols d k = false) := Lib.hid hR0
                  clear hng hR0 hh
                  refine Par.wp_region_par 18 [.agg #[.string t.nm, .slice pc n cc, .string t.key, .slice (some ⟨b, off, none⟩) nd cap], (Value.pointer (some ⟨S, 0, none⟩)), .slice (some ⟨bl, ol, none⟩) nl cl, .int .i64 k, (Value.pointer (some ⟨bl, ol + k, none⟩)), .string x, .int .i64 z, .bool true, .bool true, undef, undef, undef, undef, undef, undef, undef, undef, .bool true] (KeepD B W B S t (.slice pc n cc) (.slice (some ⟨b, off, none⟩) nd cap) d (.slice (some ⟨bl, ol, none⟩) nl cl)) ?A4 ?hm4 ?hB4 ?hA4 (HI3.out.2.on (below_drew wr)) ?hop4 ?hT4
                  case hm4 => kernel_rfl
                  case hB4 => kernel_rfl
                  case hA4 =>
                    simp only [Par.putA, Par.dstAt, Act.put, List.getElem?_toArray, List.getElem?_cons_zero, List.getElem?_cons_succ, Option.bind_some, List.setIfInBounds_toArray, List.set_cons_zero, List.set_cons_succ, List.getD_cons_zero, List.getD_cons_succ]
                    rfl
                  case hop4 =>
                    simp only [List.take_succ_cons, List.take_zero, Par.GiveAll, and_true]
                    refine ⟨fun w' hR => ?_, fun w' hR => ?_, fun w' hR => ?_, fun w' hR => ?_, fun w' hR => ?_, fun w' hR => ?_, fun w' hR => ?_, fun w' hR => ?_, fun w' hR => ?_, fun w' hR => ?_, fun w' hR => ?_, fun w' hR => ?_, fun w' hR => ?_, fun w' hR => ?_, fun w' hR => ?_, fun w' hR => ?_, fun w' hR => ?_, fun w' hR => ?_⟩
                    · have HR := Lib.hid hR
                      have k0 := hR.tb.cells.1
                      have k1 := hR.tb.cells.2.1
                      have k2 := hR.tb.cells.2.2.1
                      have k3 := hR.tb.cells.2.2.2.1
                      have k4 := hR.tb.cells.2.2.2.2
                      clear hR
                      simp only [Par.Gives]
                      go_simp
                      all_goals exact HR.out
                    · have HR := Lib.hid hR
                      clear hR
                      simp only [Par.Gives]
                      go_simp
                      all_goals exact HR.out
                    · have HR := Lib.hid hR
                      have k := hR.cells.2.1
                      clear hR
                      simp only [Par.Gives]
                      go_simp
                      all_goals exact HR.out
                    · have HR := Lib.hid hR
                      clear hR
                      simp only [Par.Gives]
                      go_simp
                      all_goals exact HR.out
                    · have HR := Lib.hid hR
                      clear hR
                      simp only [Par.Gives]
                      go_simp
                      all_goals exact HR.out
                    · have HR := Lib.hid hR
                      have k := HX.out w' hR.left
                      clear hR
                      simp only [Par.Gives]
                      go_simp
                      all_goals exact HR.out
                    · have HR := Lib.hid hR
                      clear hR
                      simp only [Par.Gives]
                      go_simp
                      exact (hcl _ HR.out.tb.tab).mono (fun e w'' ⟨he, hb⟩ => ⟨he, HR.out.on hb⟩)
                    · have HR := Lib.hid hR
                      clear hR
                      simp only [Par.Gives]
                      go_simp
                      all_goals exact HR.out
                    · have HR := Lib.hid hR
                      clear hR
                      simp only [Par.Gives]
                      go_simp
                      all_goals exact HR.out
                    · have HR := Lib.hid hR
                      clear hR
                      simp only [Par.Gives]
                      go_simp
                      all_goals exact HR.out
                    · have HR := Lib.hid hR
                      clear hR
                      simp only [Par.Gives]
                      go_simp
                      all_goals exact HR.out
                    · have HR := Lib.hid hR
                      clear hR
                      simp only [Par.Gives]
                      go_simp
                      all_goals exact HR.out
                    · have HR := Lib.hid hR
                      clear hR
                      simp only [Par.Gives]
                      go_simp
                      all_goals exact HR.out
                    · have HR := Lib.hid hR
                      clear hR
                      simp only [Par.Gives]
                      go_simp
                      all_goals exact HR.out
                    · have HR := Lib.hid hR
                      clear hR
                      simp only [Par.Gives]
                      go_simp
                      all_goals exact HR.out
                    · have HR := Lib.hid hR
                      clear hR
                      simp only [Par.Gives]
                      go_simp
                      all_goals exact HR.out
                    · have HR := Lib.hid hR
                      clear hR
                      simp only [Par.Gives]
                      go_simp
                      all_goals exact HR.out
                    · have HR := Lib.hid hR
                      clear hR
                      simp only [Par.Gives]
                      go_simp
                      all_goals exact HR.out
                  case hT4 =>
                    intro w' hR
                    simp only [List.drop_succ_cons, List.drop_nil]
                    go_wp2_with fail
                    go_ret
                    exact ⟨ret_bool (HBK.out HG3.out).symm, hB2.out ▸ hR.tb.below⟩
                · rw [hh, Bool.true_and] at hR0
                  rw [hh] at hng
                  have hz : ¬ z < 0 := of_decide_eq_false hng
                  clear hng hh
                  cases hr : eqS x d.right
                  rotate_left
                  · have e1 : (x.toList == d.right.toList) = true := by rw [eqS_toList]; exact hr
                    have HG3 : Hid (leftRef t.cols d k = false) := Lib.hid (by rw [hR0, hr]; rfl)
                    clear hR0 hr
                    refine Par.wp_region_par 18 [.agg #[.string t.nm, .slice pc n cc, .string t.key, .slice (some ⟨b, off, none⟩) nd cap], (Value.pointer (some ⟨S, 0, none⟩)), .slice (some ⟨bl, ol, none⟩) nl cl, .int .i64 k, (Value.pointer (some ⟨bl, ol + k, none⟩)), .string x, .int .i64 z, .bool false, .bool false, (Value.pointer (some ⟨S, 0, none⟩)), .slice (some ⟨bl, ol, none⟩) nl cl, .int .i64 k, (Value.pointer (some ⟨bl, ol + k, none⟩)), .string x, (Value.pointer (some ⟨S, 1, none⟩)), .string d.right, .bool true, .bool true] (KeepD B W B S t (.slice pc n cc) (.slice (some ⟨b, off, none⟩) nd cap) d (.slice (some ⟨bl, ol, none⟩) nl cl)) ?A5 ?hm5 ?hB5 ?hA5 (HI3.out.2.on (below_drew wr)) ?hop5 ?hT5
                    case hm5 => kernel_rfl
                    case hB5 => kernel_rfl
                    case hA5 =>
                      simp only [Par.putA, Par.dstAt, Act.put, List.getElem?_toArray, List.getElem?_cons_zero, List.getElem?_cons_succ, Option.bind_some, List.setIfInBounds_toArray, List.set_cons_zero, List.set_cons_succ, List.getD_cons_zero, List.getD_cons_succ]
                      rfl
                    case hop5 =>
                      simp only [List.take_succ_cons, List.take_zero, Par.GiveAll, and_true]
                      refine ⟨fun w' hR => ?_, fun w' hR => ?_, fun w' hR => ?_, fun w' hR => ?_, fun w' hR => ?_, fun w' hR => ?_, fun w' hR => ?_, fun w' hR => ?_, fun w' hR => ?_, fun w' hR => ?_, fun w' hR => ?_, fun w' hR => ?_, fun w' hR => ?_, fun w' hR => ?_, fun w' hR => ?_, fun w' hR => ?_, fun w' hR => ?_, fun w' hR => ?_⟩
                      · have HR := Lib.hid hR
                        have k0 := hR.tb.cells.1
                        have k1 := hR.tb.cells.2.1
                        have k2 := hR.tb.cells.2.2.1
                        have k3 := hR.tb.cells.2.2.2.1
                        have k4 := hR.tb.cells.2.2.2.2
                        clear hR
                        simp only [Par.Gives]
                        go_simp
                        all_goals exact HR.out
                      · have HR := Lib.hid hR
                        clear hR
                        simp only [Par.Gives]
                        go_simp
                        all_goals exact HR.out
                      · have HR := Lib.hid hR
                        have k := hR.cells.2.1
                        clear hR
                        simp only [Par.Gives]
                        go_simp
                        all_goals exact HR.out
                      · have HR := Lib.hid hR
                        clear hR
                        simp only [Par.Gives]
                        go_simp
                        all_goals exact HR.out
                      · have HR := Lib.hid hR
                        clear hR
                        simp only [Par.Gives]
                        go_simp
                        all_goals exact HR.out
                      · have HR := Lib.hid hR
                        have k := HX.out w' hR.left
                        clear hR
                        simp only [Par.Gives]
                        go_simp
                        all_goals exact HR.out
                      · have HR := Lib.hid hR
                        clear hR
                        simp only [Par.Gives]
                        go_simp
                        exact (hcl _ HR.out.tb.tab).mono (fun e w'' ⟨he, hb⟩ => ⟨he, HR.out.on hb⟩)
                      · have HR := Lib.hid hR
                        clear hR
                        simp only [Par.Gives]
                        go_simp
                        all_goals exact HR.out
                      · have HR := Lib.hid hR
                        clear hR
                        simp only [Par.Gives]
                        go_simp
                        all_goals exact HR.out
                      · have HR := Lib.hid hR
                        clear hR
                        simp only [Par.Gives]
                        go_simp
                        all_goals exact HR.out
                      · have HR := Lib.hid hR
                        have k := hR.cells.2.1
                        clear hR
                        simp only [Par.Gives]
                        go_simp
                        all_goals exact HR.out
                      · have HR := Lib.hid hR
                        clear hR
                        simp only [Par.Gives]
                        go_simp
                        all_goals exact HR.out
                      · have HR := Lib.hid hR
                        clear hR
                        simp only [Par.Gives]
                        go_simp
                        all_goals exact HR.out
                      · have HR := Lib.hid hR
                        have k := HX.out w' hR.left
                        clear hR
                        simp only [Par.Gives]
                        go_simp
                        all_goals exact HR.out
                      · have HR := Lib.hid hR
                        clear hR
                        simp only [Par.Gives]
                        go_simp
                        all_goals exact HR.out
                      · have HR := Lib.hid hR
                        have k := hR.cells.2.2
                        clear hR
                        simp only [Par.Gives]
                        go_simp
                        all_goals exact HR.out
                      · have HR := Lib.hid hR
                        clear hR
                        simp only [Par.Gives]
                        go_simp
                        all_goals exact HR.out
                      · have HR := Lib.hid hR
                        clear hR
                        simp only [Par.Gives]
                        go_simp
                        all_goals exact HR.out
                    case hT5 =>
                      intro w' hR
                      simp only [List.drop_succ_cons, List.drop_nil]
                      go_wp2_with fail
                      go_ret
                      exact ⟨ret_bool (HBK.out HG3.out).symm, hB2.out ▸ hR.tb.below⟩
                  have e1 : (x.toList == d.right.toList) = false := by rw [eqS_toList]; exact hr
                  have HG3 : Hid (leftRef t.cols d k = !hasS (d.left.take k) x) := Lib.hid (by rw [hR0, hr]; rfl)
                  clear hR0 hr
                  refine Par.wp_region_par 18 [.agg #[.string t.nm, .slice pc n cc, .string t.key, .slice (some ⟨b, off, none⟩) nd cap], (Value.pointer (some ⟨S, 0, none⟩)), .slice (some ⟨bl, ol, none⟩) nl cl, .int .i64 k, (Value.pointer (some ⟨bl, ol + k, none⟩)), .string x, .int .i64 z, .bool false, .bool false, (Value.pointer (some ⟨S, 0, none⟩)), .slice (some ⟨bl, ol, none⟩) nl cl, .int .i64 k, (Value.pointer (some ⟨bl, ol + k, none⟩)), .string x, (Value.pointer (some ⟨S, 1, none⟩)), .string d.right, .bool false, .bool false] (KeepD B W B S t (.slice pc n cc) (.slice (some ⟨b, off, none⟩) nd cap) d (.slice (some ⟨bl, ol, none⟩) nl cl)) ?A6 ?hm6 ?hB6 ?hA6 (HI3.out.2.on (below_drew wr)) ?hop6 ?hT6
                  case hm6 => kernel_rfl
                  case hB6 => kernel_rfl
                  case hA6 =>
                    simp only [Par.putA, Par.dstAt, Act.put, List.getElem?_toArray, List.getElem?_cons_zero, List.getElem?_cons_succ, Option.bind_some, List.setIfInBounds_toArray, List.set_cons_zero, List.set_cons_succ, List.getD_cons_zero, List.getD_cons_succ]
                    rfl
                  case hop6 =>
                    simp only [List.take_succ_cons, List.take_zero, Par.GiveAll, and_true]
                    refine ⟨fun w' hR => ?_, fun w' hR => ?_, fun w' hR => ?_, fun w' hR => ?_, fun w' hR => ?_, fun w' hR => ?_, fun w' hR => ?_, fun w' hR => ?_, fun w' hR => ?_, fun w' hR => ?_, fun w' hR => ?_, fun w' hR => ?_, fun w' hR => ?_, fun w' hR => ?_, fun w' hR => ?_, fun w' hR => ?_, fun w' hR => ?_, fun w' hR => ?_⟩
                    · have HR := Lib.hid hR
                      have k0 := hR.tb.cells.1
                      have k1 := hR.tb.cells.2.1
                      have k2 := hR.tb.cells.2.2.1
                      have k3 := hR.tb.cells.2.2.2.1
                      have k4 := hR.tb.cells.2.2.2.2
                      clear hR
                      simp only [Par.Gives]
                      go_simp
                      all_goals exact HR.out
                    · have HR := Lib.hid hR
                      clear hR
                      simp only [Par.Gives]
                      go_simp
                      all_goals exact HR.out
                    · have HR := Lib.hid hR
                      have k := hR.cells.2.1
                      clear hR
                      simp only [Par.Gives]
                      go_simp
                      all_goals exact HR.out
                    · have HR := Lib.hid hR
                      clear hR
                      simp only [Par.Gives]
                      go_simp
                      all_goals exact HR.out
                    · have HR := Lib.hid hR
                      clear hR
                      simp only [Par.Gives]
                      go_simp
                      all_goals exact HR.out
                    · have HR := Lib.hid hR
                      have k := HX.out w' hR.left
                      clear hR
                      simp only [Par.Gives]
                      go_simp
                      all_goals exact HR.out
                    · have HR := Lib.hid hR
                      clear hR
                      simp only [Par.Gives]
                      go_simp
                      exact (hcl _ HR.out.tb.tab).mono (fun e w'' ⟨he, hb⟩ => ⟨he, HR.out.on hb⟩)
                    · have HR := Lib.hid hR
                      clear hR
                      simp only [Par.Gives]
                      go_simp
                      all_goals exact HR.out
                    · have HR := Lib.hid hR
                      clear hR
                      simp only [Par.Gives]
                      go_simp
                      all_goals exact HR.out
                    · have HR := Lib.hid hR
                      clear hR
                      simp only [Par.Gives]
                      go_simp
                      all_goals exact HR.out
                    · have HR := Lib.hid hR
                      have k := hR.cells.2.1
                      clear hR
                      simp only [Par.Gives]
                      go_simp
                      all_goals exact HR.out
                    · have HR := Lib.hid hR
                      clear hR
                      simp only [Par.Gives]
                      go_simp
                      all_goals exact HR.out
                    · have HR := Lib.hid hR
                      clear hR
                      simp only [Par.Gives]
                      go_simp
                      all_goals exact HR.out
                    · have HR := Lib.hid hR
                      have k := HX.out w' hR.left
                      clear hR
                      simp only [Par.Gives]
                      go_simp
                      all_goals exact HR.out
                    · have HR := Lib.hid hR
                      clear hR
                      simp only [Par.Gives]
                      go_simp
                      all_goals exact HR.out
                    · have HR := Lib.hid hR
                      have k := hR.cells.2.2
                      clear hR
                      simp only [Par.Gives]
                      go_simp
                      all_goals exact HR.out
                    · have HR := Lib.hid hR
                      clear hR
                      simp only [Par.Gives]
                      go_simp
                      all_goals exact HR.out
                    · have HR := Lib.hid hR
                      clear hR
                      simp only [Par.Gives]
                      go_simp
                      all_goals exact HR.out
                  case hT6 =>
                    intro w' hR
                    simp only [List.drop_succ_cons, List.drop_nil]
                    have HR2 := Lib.hid hR
                    clear hR e1 hz hcl
                    go_wp2_with fail
                    go_loopg [9] (k + 1) (fun gh mv w => ∃ (m : Nat), mv = .int .i64 (m : Int) ∧ m ≤ k ∧ k + 1 ≤ m + gh ∧ hasS (d.left.take m) x = false ∧ KeepD B W B S t (.slice pc n cc) (.slice (some ⟨b, off, none⟩) nd cap) d (.slice (some ⟨bl, ol, none⟩) nl cl) w)
                    case atStart => exact ⟨0, rfl, Nat.zero_le _, by omega, rfl, HR2.out⟩
                    case round =>
                      obtain ⟨m, rfl, hm2, hg4, hno4, hK⟩ := hrel
                      by_cases hlt4 : m < k
                      · have hml : m < d.left.length := by rw [HNL.out]; omega
                        obtain ⟨y, hy⟩ : ∃ y, d.left[m] = y := ⟨_, rfl⟩
                        have HY : Hid (∀ w, RdS w (.slice (some ⟨bl, ol, none⟩) nl cl) d.left → w.cell? ⟨bl, ol + m, none⟩ = some (.string y)) := Lib.hid (fun w hr => by rw [← hy]; exact (RdS.wordAt hr hml).2)
                        have hstep := hasS_take_succ d.left m hml x
                        rw [hy, hno4, Bool.false_or] at hstep
                        have hmi : (m : Int) < (nl : Int) := by omega
                        have HK := Lib.hid hK
                        clear hK hy hno4
                        go_upto_region 24 with fail
                        cases he : eqS x y
                        · have e2 : (y.toList == x.toList) = false := by rw [eqS_toList, eqS_comm]; exact he
                          have HE : Hid (hasS (d.left.take (m + 1)) x = false) := Lib.hid (by rw [hstep]; exact he)
                          clear hstep he
                          refine Par.wp_region_par 11 [(Value.pointer (some ⟨S, 0, none⟩)), .slice (some ⟨bl, ol, none⟩) nl cl, .int .i64 m, (Value.pointer (some ⟨bl, ol + m, none⟩)), .string y, (Value.pointer (some ⟨S, 0, none⟩)), .slice (some ⟨bl, ol, none⟩) nl cl, .int .i64 k, (Value.pointer (some ⟨bl, ol + k, none⟩)), .string x, .bool false] (KeepD B W B S t (.slice pc n cc) (.slice (some ⟨b, off, none⟩) nd cap) d (.slice (some ⟨bl, ol, none⟩) nl cl)) ?A7 ?hm7 ?hB7 ?hA7 (HK.out.on (below_drew wr)) ?hop7 ?hT7
                          case hm7 => kernel_rfl
                          case hB7 => kernel_rfl
                          case hA7 =>
                            simp only [Par.putA, Par.dstAt, Act.put, List.getElem?_toArray, List.getElem?_cons_zero, List.getElem?_cons_succ, Option.bind_some, List.setIfInBounds_toArray, List.set_cons_zero, List.set_cons_succ, List.getD_cons_zero, List.getD_cons_succ]
                            rfl
                          case hop7 =>
                            simp only [List.take_succ_cons, List.take_zero, Par.GiveAll, and_true]
                            refine ⟨fun w' hR => ?_, fun w' hR => ?_, fun w' hR => ?_, fun w' hR => ?_, fun w' hR => ?_, fun w' hR => ?_, fun w' hR => ?_, fun w' hR => ?_, fun w' hR => ?_, fun w' hR => ?_, fun w' hR => ?_⟩
                            · have HR := Lib.hid hR
                              clear hR
                              simp only [Par.Gives]
                              go_simp
                              all_goals exact HR.out
                            · have HR := Lib.hid hR
                              have k := hR.cells.2.1
                              clear hR
                              simp only [Par.Gives]
                              go_simp
                              all_goals exact HR.out
                            · have HR := Lib.hid hR
                              clear hR
                              simp only [Par.Gives]
                              go_simp
                              all_goals exact HR.out
                            · have HR := Lib.hid hR
                              clear hR
                              simp only [Par.Gives]
                              go_simp
                              all_goals exact HR.out
                            · have HR := Lib.hid hR
                              have k := HY.out w' hR.left
                              clear hR
                              simp only [Par.Gives]
                              go_simp
                              all_goals exact HR.out
                            · have HR := Lib.hid hR
                              clear hR
                              simp only [Par.Gives]
                              go_simp
                              all_goals exact HR.out
                            · have HR := Lib.hid hR
                              have k := hR.cells.2.1
                              clear hR
                              simp only [Par.Gives]
                              go_simp
                              all_goals exact HR.out
                            · have HR := Lib.hid hR
                              clear hR
                              simp only [Par.Gives]
                              go_simp
                              all_goals exact HR.out
                            · have HR := Lib.hid hR
                              clear hR
                              simp only [Par.Gives]
                              go_simp
                              all_goals exact HR.out
                            · have HR := Lib.hid hR
                              have k := HX.out w' hR.left
                              clear hR
                              simp only [Par.Gives]
                              go_simp
                              all_goals exact HR.out
                            · have HR := Lib.hid hR
                              clear hR
                              simp only [Par.Gives]
                              go_simp
                              all_goals exact HR.out
                          case hT7 =>
                            intro w' hR
                            simp only [List.drop_succ_cons, List.drop_nil]
                            go_wp2_with fail
                            go_roundg (k - m)
                            case measure => omega
                            case rel => exact ⟨m + 1, by go_num, by omega, by omega, HE.out, hR⟩
                        · have e2 : (y.toList == x.toList) = true := by rw [eqS_toList, eqS_comm]; exact he
                          have HE : Hid (hasS (d.left.take k) x = true) := Lib.hid (by
                            unfold hasS
                            rw [List.any_eq_true]
                            rw [he] at hstep
                            unfold hasS at hstep
                            rw [List.any_eq_true] at hstep
                            obtain ⟨q, hq, hq2⟩ := hstep
                            exact ⟨q, (List.take_subset_take_left d.left (by omega)) hq, hq2⟩)
                          clear hstep he
                          refine Par.wp_region_par 11 [(Value.pointer (some ⟨S, 0, none⟩)), .slice (some ⟨bl, ol, none⟩) nl cl, .int .i64 m, (Value.pointer (some ⟨bl, ol + m, none⟩)), .string y, (Value.pointer (some ⟨S, 0, none⟩)), .slice (some ⟨bl, ol, none⟩) nl cl, .int .i64 k, (Value.pointer (some ⟨bl, ol + k, none⟩)), .string x, .bool true] (KeepD B W B S t (.slice pc n cc) (.slice (some ⟨b, off, none⟩) nd cap) d (.slice (some ⟨bl, ol, none⟩) nl cl)) ?A8 ?hm8 ?hB8 ?hA8 (HK.out.on (below_drew wr)) ?hop8 ?hT8
                          case hm8 => kernel_rfl
                          case hB8 => kernel_rfl
                          case hA8 =>
                            simp only [Par.putA, Par.dstAt, Act.put, List.getElem?_toArray, List.getElem?_cons_zero, List.getElem?_cons_succ, Option.bind_some, List.setIfInBounds_toArray, List.set_cons_zero, List.set_cons_succ, List.getD_cons_zero, List.getD_cons_succ]
                            rfl
                          case hop8 =>
                            simp only [List.take_succ_cons, List.take_zero, Par.GiveAll, and_true]
                            refine ⟨fun w' hR => ?_, fun w' hR => ?_, fun w' hR => ?_, fun w' hR => ?_, fun w' hR => ?_, fun w' hR => ?_, fun w' hR => ?_, fun w' hR => ?_, fun w' hR => ?_, fun w' hR => ?_, fun w' hR => ?_⟩
                            · have HR := Lib.hid hR
                              clear hR
                              simp only [Par.Gives]
                              go_simp
                              all_goals exact HR.out
                            · have HR := Lib.hid hR
                              have k := hR.cells.2.1
                              clear hR
                              simp only [Par.Gives]
                              go_simp
                              all_goals exact HR.out
                            · have HR := Lib.hid hR
                              clear hR
                              simp only [Par.Gives]
                              go_simp
                              all_goals exact HR.out
                            · have HR := Lib.hid hR
                              clear hR
                              simp only [Par.Gives]
                              go_simp
                              all_goals exact HR.out
                            · have HR := Lib.hid hR
                              have k := HY.out w' hR.left
                              clear hR
                              simp only [Par.Gives]
                              go_simp
                              all_goals exact HR.out
                            · have HR := Lib.hid hR
                              clear hR
                              simp only [Par.Gives]
                              go_simp
                              all_goals exact HR.out
                            · have HR := Lib.hid hR
                              have k := hR.cells.2.1
                              clear hR
                              simp only [Par.Gives]
                              go_simp
                              all_goals exact HR.out
                            · have HR := Lib.hid hR
                              clear hR
                              simp only [Par.Gives]
                              go_simp
                              all_goals exact HR.out
                            · have HR := Lib.hid hR
                              clear hR
                              simp only [Par.Gives]
                              go_simp
                              all_goals exact HR.out
                            · have HR := Lib.hid hR
                              have k := HX.out w' hR.left
                              clear hR
                              simp only [Par.Gives]
                              go_simp
                              all_goals exact HR.out
                            · have HR := Lib.hid hR
                              clear hR
                              simp only [Par.Gives]
                              go_simp
                              all_goals exact HR.out
                          case hT8 =>
                            intro w' hR
                            simp only [List.drop_succ_cons, List.drop_nil]
                            go_wp2_with fail
                            go_ret
                            exact ⟨ret_bool (HBK.out (by rw [HG3.out, HE.out]; rfl)).symm, hB2.out ▸ hR.tb.below⟩
                      · obtain rfl : m = k := by omega
                        go_wp2_with fail
                        go_roundg (nl - m)
                        case measure => omega
                        case rel => exact ⟨m + 1, by go_num, by omega, by omega, fun i hi => by rcases (by omega : i < m ∨ i = m) with h | rfl; exact HI3.out.1 i h; rw [HG3.out, hno4]; rfl, hK⟩
              · obtain rfl : k = nl := by omega
                go_wp2_with fail
                go_roundg (nd - j2)
                case measure => omega
                case rel => exact ⟨j2 + 1, by go_num, by omega, by omega, fun i hi => by rcases (by omega : i < j2 ∨ i = j2) with h | rfl; exact HI2.out.1 i h; rw [HG.out]; exact range_yes HI3.out.1, hK.tb⟩
          · go_wp2_with fail
            go_ret
            exact ⟨ret_bool (by rw [HL3.out]; exact (range_yes (fun i hi => HI2.out.1 i (by have := HN.out.2; omega))).symm), hB2.out ▸ HI2.out.2.below⟩
end Go.Proofs.YtmfkkpogmmoflaaGreat
