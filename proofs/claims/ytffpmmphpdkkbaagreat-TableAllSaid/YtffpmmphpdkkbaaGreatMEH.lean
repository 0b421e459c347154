/- TableAll. -/
import Derived.Test.YtffpmmphpdkkbaaGreatMEF
import Derived.Test.YtffpmmphpdkkbaaGreatMEC
import Derived.Test.YtffpmmphpdkkbaaGreatMDV
namespace Go.Proofs.YtffpmmphpdkkbaaGreat
open Go Go.RowKit Go.Proofs Co Co.S
structure OpX where
  kind : Int
  id : Int
  col : ByteArray
  vals : List T3
/-- What came in. -/
def OpsR (W : World) (p : Option Addr) (N : Nat) : Prop := ∀ j, j < N → ∃ (u : OpX) (b off : Nat) (vv : Value), p = some ⟨b, off, none⟩ ∧ b < W.heap.size ∧ W.cell? ⟨b, off + j * 4, none⟩ = some (.int .i64 u.kind) ∧ W.cell? ⟨b, off + j * 4 + 1, none⟩ = some (.int .i64 u.id) ∧ W.cell? ⟨b, off + j * 4 + 2, none⟩ = some (.string u.col) ∧ W.cell? ⟨b, off + j * 4 + 3, none⟩ = some vv ∧
  InV (fun q => q < W.heap.size) W vv u.vals ∧ F64 u.id ∧ u.col.size ≤ maxLen ∧ ∀ x ∈ u.vals, x.2.2.size ≤ maxLen
theorem cutR_sz (xs : List T3) : ∀ x ∈ cutR xs, x.2.2.size ≤ maxLen := fun x hx => by
  unfold cutR at hx
  have hx := List.mem_of_mem_take hx
  obtain ⟨y, _, rfl⟩ := List.mem_map.1 hx
  have := cutB_le 20 y.2.2
  show (cutB 20 y.2.2).size ≤ maxLen
  unfold maxLen
  omega
theorem hix_shop : ∀ c (hc : c < tShop.cols.length), ixC tShop.cols tShop.cols[c].nm = (c : Int) := fun c hc => by
  have hc : c < 4 := hc
  match c, hc with
  | 0, _ => rfl
  | 1, _ => rfl
  | 2, _ => rfl
  | 3, _ => rfl
section
variable {W w w' : World} {K : Nat → Prop} {tb n : Nat} {A : List R1} {b : Nat} {ob o : Nat} {C : List R1} {db : Nat}
theorem q_same1 (h : QS W w K tb n A b n A ob o C db o C) (hn : n ≤ 1000) (ask : Int) (hask : F64 ask) (col : ByteArray) : Calls Tryz.prog 20 #[(Value.pointer (some ⟨tb, 0, none⟩)), (Value.pointer (some ⟨b, 0, none⟩)), .int .i64 ask, .string col] w fun e w' => e = .returned (.bool true) ∧ Below w.heap.size w w' := by
  have hf := h.facts
  obtain ⟨⟨L1, L2, L3, L4, t1, ⟨i, t2⟩, t3, ⟨j, t4⟩, f1, f2⟩, kl, bl⟩ := h
  exact tsame_any t1 t2 few_shop (by rw [sh4]; decide) (by omega) hix_shop ask hask col
theorem q_same2 (h : QS W w K tb n A b n A ob o C db o C) (ho : o ≤ 1000) (ask : Int) (hask : F64 ask) (col : ByteArray) : Calls Tryz.prog 20 #[(Value.pointer (some ⟨ob, 0, none⟩)), (Value.pointer (some ⟨db, 0, none⟩)), .int .i64 ask, .string col] w fun e w' => e = .returned (.bool true) ∧ Below w.heap.size w w' := by
  obtain ⟨⟨L1, L2, L3, L4, t1, ⟨i, t2⟩, t3, ⟨j, t4⟩, f1, f2⟩, kl, bl⟩ := h
  have hC : C.length ≤ 1000 := by
    obtain ⟨k, _, h2⟩ := t3
    have := h2.few; omega
  exact tsame_any t3 t4 few_shop (by rw [sh4]; decide) hC hix_shop ask hask col
end
theorem mk34 (w : World) : (Instr.makeSlice 34 (.int .i64 1) (.int .i64 1)).run Tryz.prog w = .ok (.slice (some ⟨w.heap.size, 0, none⟩) 1 1) (w.alloc (.cells #[.slice none 0 0] 88)) := by kernel_rfl
theorem mk35 (w : World) : (Instr.makeSlice 35 (.int .i64 1) (.int .i64 1)).run Tryz.prog w = .ok (.slice (some ⟨w.heap.size, 0, none⟩) 1 1) (w.alloc (.cells #[.int .i64 0] 3)) := by kernel_rfl
set_option maxRecDepth 100000 in
set_option maxHeartbeats 16000000 in
theorem all_law (p : Option Addr) (N c : Nat) (ask : Int) (col : ByteArray) (W : World) (hP : OpsR W p N) (hN : N ≤ maxLen) (hask : F64 ask) (hcol : col.size ≤ maxLen) : Calls Tryz.prog 3 #[.slice p N c, .int .i64 ask, .string col] W fun e w' => e = .returned (.bool true) ∧ Below W.heap.size W w' := by
  have hbeg := begun_any W
  have hNi : (N : Int) ≤ 9223372036854775807 := by unfold maxLen at hN; omega
  have HP := Lib.hid hP
  have HA := Lib.hid (And.intro hask hcol)
  clear hN hP hask
  go_enter Tryz.func3, Tryz.ntmps3
  go_upto_region 5 with (first
    | (go_at_call 7; (with_reducible refine hbeg.mono ?_); rintro e w1 ⟨rfl, hb1⟩; have hshop := shop_any w1; have B1 := Lib.hid hb1; clear hbeg hb1)
    | (go_at_call 9; (with_reducible refine hshop.mono ?_); rintro e w2 ⟨cv, dv, rfl, hT, hb2⟩; have hnew := st_new hT (below_on B1.out hb2); clear hshop hT hb2)
    | (go_at_call 8; (with_reducible refine hnew.mono ?_); rintro e w3 ⟨tb, rfl, S3⟩; have S3 := Lib.hid S3; clear hnew B1))
  refine Par.wp_region_par4 5 (NJ w3 tShop tShop.nm tShop.key tShop.cols.length tShop.deps.length) ?A5 ?hm5 ?hB5 ?hA5 ?hJ5 ?hop5 ?hT5
  case hm5 => kernel_rfl
  case hB5 => kernel_rfl
  case hA5 =>
    intro vs
    simp only [Par.putA, Par.dstAt, Act.put, List.getElem?_toArray, List.getElem?_cons_zero, List.getElem?_cons_succ, Option.bind_some, List.setIfInBounds_toArray, List.set_cons_zero, List.set_cons_succ]
    rfl
  case hJ5 =>
    intro vs
    exact ⟨below_drew w3, fun h => (by cases h), fun h => (by cases h), fun h => (by cases h), fun h => (by cases h)⟩
  case hop5 =>
    simp only [List.take_succ_cons, List.take_zero, Par.GiveAllK, and_true]
    refine ⟨fun l vs w hJ hl hd hcl => ?_, fun l vs w hJ hl hd hcl => ?_, fun l vs w hJ hl hd hcl => ?_, fun l vs w hJ hl hd hcl => ?_, fun l vs w hJ hl hd hcl => ?_⟩
    · have HJ := Lib.hid hJ
      have h1 : l 1 = false := by cases h : l 1 with | false => rfl | true => exact absurd (hcl 1 0 (by kernel_rfl) h) (by simp [hl])
      have h4 : l 4 = false := by cases h : l 4 with | false => rfl | true => exact absurd (hcl 4 1 (by kernel_rfl) h) (by simp [h1])
      have hc := shop_any w
      clear hJ hd hcl
      simp only [Par.GivesW]
      go_simp
      refine hc.mono ?_
      rintro e y ⟨cv, dv, rfl, hT, hb⟩
      obtain ⟨pc, kc, rfl, _, _⟩ := hT.1.slice
      obtain ⟨pd, kd, rfl, _, _⟩ := hT.2.slice
      exact ⟨_, rfl, HJ.out.s0 h1 h4 hb hT⟩
    · have HJ := Lib.hid hJ
      have h4 : l 4 = false := by cases h : l 4 with | false => rfl | true => exact absurd (hcl 4 1 (by kernel_rfl) h) (by simp [hl])
      have h0 := hd 0 (by kernel_rfl)
      obtain ⟨p, c, q, d, e0, _, _⟩ := hJ.f0 h0
      clear hJ hd hcl
      simp only [Par.GivesW, e0]
      go_simp
      exact HJ.out.s1 h0 h4 e0
    · have HJ := Lib.hid hJ
      have h4 : l 4 = false := by cases h : l 4 with | false => rfl | true => exact absurd (hcl 4 2 (by kernel_rfl) h) (by simp [hl])
      clear hJ hd hcl
      simp only [Par.GivesW]
      have hmk := mk34 w
      go_simp
      exact HJ.out.s2 h4
    · have HJ := Lib.hid hJ
      have h4 : l 4 = false := by cases h : l 4 with | false => rfl | true => exact absurd (hcl 4 3 (by kernel_rfl) h) (by simp [hl])
      clear hJ hd hcl
      simp only [Par.GivesW]
      have hmk := mk35 w
      go_simp
      exact HJ.out.s3 h4
    · have HJ := Lib.hid hJ
      obtain ⟨p, c, q, d, _, _, h1⟩ := hJ.f0 (hcl 1 0 (by kernel_rfl) (hd 1 (by kernel_rfl)))
      obtain ⟨g1, e1, _⟩ := h1 (hd 1 (by kernel_rfl))
      obtain ⟨g2, e2, _⟩ := hJ.f2 (hd 2 (by kernel_rfl))
      obtain ⟨g3, e3, _⟩ := hJ.f3 (hd 3 (by kernel_rfl))
      have HJ := Lib.hid hJ.s4
      rw [e1, e2, e3] at HJ
      clear hJ hd hcl h1
      simp only [Par.GivesW, e1, e2, e3]
      go_simp
      exact HJ.out
  case hT5 =>
    intro l vs w4 hl hJ
    simp only [List.drop_succ_cons, List.drop_zero]
    obtain ⟨pc, kc, pd, kd, e0, hrd, h1⟩ := hJ.f0 (hl 0 (by decide))
    obtain ⟨g1, e1, r1⟩ := h1 (hl 1 (by decide))
    obtain ⟨g2, e2, r2⟩ := hJ.f2 (hl 2 (by decide))
    obtain ⟨g3, e3, r3⟩ := hJ.f3 (hl 3 (by decide))
    have e4 := hJ.f4 (hl 4 (by decide))
    rw [e1, e2, e3] at e4
    have hbl := hJ.bl
    simp only [e4]
    generalize vs 0 = s0
    generalize vs 1 = s1
    generalize vs 2 = s2
    generalize vs 3 = s3
    clear hJ hl e0 e1 e2 e3 e4 h1
    go_upto_region 6 with fail
    have hx := heap_alloc_new w4 (.cells #[.slice (some ⟨g1, 0, none⟩) 1 1, .slice (some ⟨g2, 0, none⟩) 1 1, .slice (some ⟨g3, 0, none⟩) 1 1] 37)
    have hb4 := below_alloc w4 (.cells #[.slice (some ⟨g1, 0, none⟩) 1 1, .slice (some ⟨g2, 0, none⟩) 1 1, .slice (some ⟨g3, 0, none⟩) 1 1] 37)
    have hcp := CpD.fin2 (hrd.kp (Tn.of_below (S := fun _ => False) hb4).kpX) (A := []) (vs := []) (fun a ha => (by cases ha)) List.Pairwise.nil ⟨below_on hbl hb4, hbl.size, hx, r1.later hb4, r3.later hb4, HRow.nil, rfl, fun _ h => (by cases h), fun _ _ h => (by cases h)⟩ (r2.later hb4)
    obtain ⟨w5, hw5⟩ : ∃ w5, w4.alloc (.cells #[.slice (some ⟨g1, 0, none⟩) 1 1, .slice (some ⟨g2, 0, none⟩) 1 1, .slice (some ⟨g3, 0, none⟩) 1 1] 37) = w5 := ⟨_, rfl⟩
    obtain ⟨b, hb⟩ : ∃ b, w4.heap.size = b := ⟨_, rfl⟩
    rw [hw5, hb] at hcp
    rw [hw5, hb]
    obtain ⟨i2, L2, hD, hD2, hb35⟩ := hcp
    obtain ⟨L1, hT1, hT2, hT3⟩ := S3.out
    have hT5 := hT1.later hb35
    have hlt1 := hT1.lt
    have hcpy := tb_copy hT5 few_shop kd_shop (by decide) (by rw [sh4]; decide)
    have HD := Lib.hid (And.intro hD (And.intro hD2 (And.intro hb35 (And.intro hT5 (And.intro hT2 (And.intro hT3 hlt1))))))
    clear hx hb4 hw5 hb hD hD2 hb35 hT1 hT2 hT3 hT5 hlt1 hrd r1 r2 r3 hbl
    go_upto_region 7 with (first
      | (go_at_call 10; (with_reducible refine hcpy.mono ?_); rintro e w6 ⟨ob0, L3, rfl, hO, hO2, hb6⟩; have hdc := dcopy_any (HD.out.1.later hb6) (by decide) (by rw [sh4]; decide) (by rw [sh4]; decide); have HO := Lib.hid (And.intro hO (And.intro hO2 hb6)); clear hcpy hO hO2 hb6)
      | (go_at_call 11; (with_reducible refine hdc.mono ?_); rintro e w7 ⟨db0, i4, L4, rfl, hV, hV2, hb7⟩; have HV := Lib.hid (And.intro hV (And.intro hV2 hb7)); clear hdc hV hV2 hb7))
    have hq0 : QS W w7 (fun _ => False) tb 0 [] b 0 [] ob0 0 [] db0 0 [] := by
      obtain ⟨hD, hD2, hb35, hT5, hT2, hT3, hlt1⟩ := HD.out
      obtain ⟨hO, hO2, hb6⟩ := HO.out
      obtain ⟨hV, hV2, hb7⟩ := HV.out
      have hb57 := below_on hb6 hb7
      have z1 := hb35.size
      have z2 := hb6.size
      have z3 := hT3.size
      refine ⟨⟨L1, L2, L3, L4, hT5.later hb57, ⟨i2, hD.later hb57⟩, hO.later hb7, ⟨i4, hV⟩, fun q hq => ⟨hT2 q hq, ?_, ?_, ?_, fun h => h⟩, fun q hq => ⟨by have := hD2 q hq; omega, ?_, ?_, ?_, fun h => h⟩⟩, fun _ h => h.elim, below_on hT3 (below_on hb35 hb57)⟩
      · exact Classical.byContradiction fun h => by have := hD2 q h; have := hlt1 q hq; omega
      · exact Classical.byContradiction fun h => by have := hO2 q h; have := hlt1 q hq; omega
      · exact Classical.byContradiction fun h => by have := hV2 q h; have := hlt1 q hq; omega
      · exact Classical.byContradiction fun h => by have := hD2 q hq; have := hlt1 q h; omega
      · exact Classical.byContradiction fun h => by have := hO2 q h; have := hD.lt q hq; omega
      · exact Classical.byContradiction fun h => by have := hV2 q h; have := hD.lt q hq; omega
    have HQ0 := Lib.hid hq0
    clear hq0 HV HO HD
    go_upto_block 0 with fail
    go_cut [10, 11] from 300 to 300 (fun l10 l11 w => ∃ (n : Nat) (A : List R1) (o : Nat) (C : List R1) (ob db : Nat), l10 = (Value.pointer (some ⟨ob, 0, none⟩)) ∧ l11 = (Value.pointer (some ⟨db, 0, none⟩)) ∧ n ≤ 40 ∧ o ≤ 41 ∧ QS W w (fun _ => False) tb n A b n A ob o C db o C)
    case first =>
      go_wp2_with fail
      go_loopg [10, 11, 12] 41 (fun gh l10 l11 iv w => ∃ (j n : Nat) (A : List R1) (o : Nat) (C : List R1) (ob db : Nat), l10 = (Value.pointer (some ⟨ob, 0, none⟩)) ∧ l11 = (Value.pointer (some ⟨db, 0, none⟩)) ∧ iv = (Value.int .i64 ((j : Int))) ∧ j ≤ 40 ∧ j ≤ N ∧ 41 ≤ j + gh ∧ n ≤ j ∧ o ≤ 41 ∧ QS W w (fun _ => False) tb n A b n A ob o C db o C)
      case atStart => exact ⟨0, 0, [], 0, [], _, _, rfl, rfl, rfl, Nat.zero_le _, Nat.zero_le _, Nat.le_refl _, Nat.le_refl _, Nat.zero_le _, HQ0.out⟩
      case round =>
        clear HQ0
        obtain ⟨j, n, A, o, C, ob, db, rfl, rfl, rfl, hj40, hjN, hg, hnj, ho, hQ⟩ := hrel
        by_cases hlt : j < N ∧ j < 40
        · obtain ⟨h1, h2⟩ := hlt
          have hd40 : (j : Int) < 40 := by omega
          have hdN : (j : Int) < (N : Int) := by omega
          obtain ⟨ox, ib, off, vv, rfl, hib, c0, c1, c2, c3, hiv, hid, hcs, hvs⟩ := HP.out j h1
          have tr : ∀ {w : World} {a : Addr} {v : Value}, Below W.heap.size W w → W.cell? a = some v → w.cell? a = some v := fun hb h => (World.cell?_of_block (w := W) (hb.block _ (World.block_lt_of_cell? _ _ h))).trans h
          have d0 := tr hQ.bl c0
          have d1 := tr hQ.bl c1
          have d2 := tr hQ.bl c2
          have d3 := tr hQ.bl c3
          obtain ⟨kind, hkind⟩ : ∃ k, ox.kind = k := ⟨_, rfl⟩
          obtain ⟨oid, hoid⟩ : ∃ k, ox.id = k := ⟨_, rfl⟩
          rw [hkind] at d0
          rw [hoid] at d1 hid
          obtain ⟨pv, kv, rfl, _, _⟩ := hiv.slice
          obtain ⟨nv, hnv⟩ : ∃ n, ox.vals.length = n := ⟨_, rfl⟩
          rw [hnv] at hiv d3
          have hvals := fun w hb => vals_any (hiv.later (W' := w) hb) hvs
          have hcut := fun w => cut_any ox.col 20 w hcs (by decide) (by decide)
          obtain ⟨oc, hoc⟩ : ∃ x, cutB (20 : Int).toNat ox.col = x := ⟨_, rfl⟩
          simp only [hoc] at hcut
          obtain ⟨xs, hxs⟩ : ∃ x, cutR ox.vals = x := ⟨_, rfl⟩
          have hxs6 : xs.length ≤ 6 := by rw [← hxs]; exact cutR_len _
          have hxsz : ∀ x ∈ xs, x.2.2.size ≤ maxLen := by rw [← hxs]; exact cutR_sz _
          simp only [hxs] at hvals
          obtain ⟨ocol, hocol⟩ : ∃ x, ox.col = x := ⟨_, rfl⟩
          rw [hocol] at hcut d2
          have hzr := hQ.bl
          have HQr := Lib.hid hQ
          have HX := Lib.hid (And.intro hid (And.intro hxs6 hxsz))
          clear hQ c0 c1 c2 c3 hiv tr hoc hvs hid hcs hkind hoid hxs hxs6 hxsz hocol
          go_upto_region 11 with fail
          have hV0 := heap_alloc_new wr (.cells #[.int .i64 kind, .int .i64 oid, .string ocol, .slice pv nv kv] 42)
          have hbV := below_alloc wr (.cells #[.int .i64 kind, .int .i64 oid, .string ocol, .slice pv nv kv] 42)
          obtain ⟨w1, hw1⟩ : ∃ w1, wr.alloc (.cells #[.int .i64 kind, .int .i64 oid, .string ocol, .slice pv nv kv] 42) = w1 := ⟨_, rfl⟩
          obtain ⟨V, hVe⟩ : ∃ V, wr.heap.size = V := ⟨_, rfl⟩
          rw [hw1] at hV0 hbV ⊢
          rw [hVe] at hV0 ⊢
          have hvals := hvals w1 (below_on hzr hbV)
          have v3 := nd_cell hV0 3
          have vl := lt_of_heap hV0
          have H1 := Lib.hid (And.intro hV0 (And.intro hbV (And.intro hzr hVe)))
          clear hV0 hbV hzr hw1 hVe d0 d1 d2 d3
          go_upto_region 12 with (go_at_call 12; (with_reducible refine hvals.mono ?_); rintro e w2 ⟨v', rfl, hr, hb2⟩; have v2 := nd_cell (heap_on hb2 H1.out.1) 2; have v0 := nd_cell (heap_on hb2 H1.out.1) 0; have v1 := nd_cell (heap_on hb2 H1.out.1) 1; have vl2 := lt_of_heap (heap_on hb2 H1.out.1); have H2 := Lib.hid (And.intro hr hb2); clear hvals hr hb2)
          clear v3 vl
          obtain ⟨pw, cw, rfl, _, _⟩ := H2.out.1.isslice
          go_upto_region 13 with (go_at_call 13; (with_reducible refine (hcut w2).mono ?_); rintro e w2' ⟨rfl, hw⟩; subst hw; clear hcut)
          have hqK := HQr.out.hold (K' := fun q => wr.heap.size ≤ q ∧ q < w2.heap.size) (below_on H1.out.2.1 H2.out.2) (fun q h => h)
          have hVK : wr.heap.size ≤ V ∧ V < w2.heap.size := ⟨by rw [← H1.out.2.2.2]; exact Nat.le_refl _, vl2⟩
          have hVh := heap_on H2.out.2 H1.out.1
          have hvK : ∀ q, (Value.slice pw xs.length cw).ownBlock = some q → wr.heap.size ≤ q ∧ q < w2.heap.size := fun q hq => by
            have h5 := HRow.lt H2.out.1 q hq
            have h6 := H1.out.2.1.size
            exact ⟨by omega, h5.2⟩
          obtain ⟨K, hK⟩ : ∃ K : Nat → Prop, (fun q => wr.heap.size ≤ q ∧ q < w2.heap.size) = K := ⟨_, rfl⟩
          have hVK : K V := by rw [← hK]; exact hVK
          have hvK : ∀ q, (Value.slice pw xs.length cw).ownBlock = some q → K q := fun q hq => by rw [← hK]; exact hvK q hq
          rw [hK] at hqK
          have hn40 : n ≤ 40 := by omega
          have HQ := Lib.hid (And.intro hqK hn40)
          have HQV := Lib.hid (And.intro hVh hVK)
          have HVV := Lib.hid (And.intro H2.out.1 hvK)
          clear hqK hn40 hVh hVK hvK hK H1 H2 HQr
          obtain ⟨m, hm⟩ : ∃ m, xs.length = m := ⟨_, rfl⟩
          by_cases hk0 : kind = 0
          · subst hk0
            obtain ⟨x1, hx1⟩ : ∃ x, insI n xs = x := ⟨_, rfl⟩
            obtain ⟨x2, hx2⟩ : ∃ x, insE tShop xs = x := ⟨_, rfl⟩
            obtain ⟨n', hn'⟩ : ∃ x, insN n xs = x := ⟨_, rfl⟩
            obtain ⟨A', hA'⟩ : ∃ x, insA n A xs = x := ⟨_, rfl⟩
            have hnn : n' ≤ n + 1 := by rw [← hn']; unfold insN; split <;> omega
            have hins := q_tins HQ.out.1 (InV.of_row HVV.out.1 rfl) HVV.out.2 HX.out.2.2 (by have := HX.out.2.1; omega) (by have := HQ.out.2; omega)
            rw [hx1, hx2, hn', hA'] at hins
            have hdi := fun w2' (hq : QS W w2' K tb n' A' b n A ob o C db o C) (hk : ∀ q, K q → w2'.heap[q]? = w2.heap[q]?) => q_dins hq (InV.of_row (HRow.of HVV.out.1 (fun q hq => hk q (HVV.out.2 q hq))) rfl) HVV.out.2 HX.out.2.2 (by have := HX.out.2.1; omega) (by have := HQ.out.2; omega) (by have := HQ.out.1.facts; have := HQ.out.2; omega) (fun a ha => (HQ.out.1.facts.2.2 a ha).2)
            rw [hx1, hx2, hn', hA'] at hdi
            rw [hm] at hins hdi ⊢
            have HDI := Lib.hid hdi
            have HNN := Lib.hid hnn
            clear hx1 hx2 hn' hA' hdi hnn
            go_upto_region 25 with (first
              | (go_at_call 14; (with_reducible refine hins.mono ?_); rintro e w3 ⟨rfl, hq3, hk3⟩; have hdi := HDI.out w3 hq3 hk3; clear hins hq3 hk3)
              | (go_at_call 15; (with_reducible refine hdi.mono ?_); rintro e w4 ⟨rfl, hq4, hk4⟩; have HQ4 := Lib.hid hq4; clear hdi hq4 hk4))
            clear v0 v1 v2 vl2
            by_cases hj10 : j = 10
            · subst hj10
              have hcp := q_tcopy (QS.drop HQ4.out) (by have := HNN.out; omega)
              go_wp2_with (first
                | (go_at_call 10; (with_reducible refine hcp.mono ?_); rintro e w8 ⟨ob', rfl, hq8, hb8⟩; have hdc := q_dcopy hq8 (by have := hq8.facts; omega); clear hcp hq8 hb8)
                | (go_at_call 11; (with_reducible refine hdc.mono ?_); rintro e w9 ⟨db', rfl, hq9, hb9⟩; have HQ9 := Lib.hid hq9; clear hdc hq9 hb9))
              go_roundg (40 - 10)
              case measure => omega
              case rel => exact ⟨10 + 1, n', A', _, _, _, _, rfl, rfl, rfl, by omega, by omega, by omega, by have := HNN.out; omega, by have := HNN.out; omega, HQ9.out⟩
            · have hj10' : ((j : Int) == 10) = false := by simp; omega
              have hj10'' : ¬ (j : Int) = 10 := by omega
              go_wp2_with fail
              go_roundg (40 - j)
              case measure => omega
              case rel => exact ⟨j + 1, n', A', _, _, _, _, rfl, rfl, rfl, by omega, by omega, by omega, by have := HNN.out; omega, by omega, QS.drop HQ4.out⟩
          · have e0 : (kind == 0) = false := by simp [hk0]
            by_cases hk1 : kind = 1
            · subst hk1
              have HU := Lib.hid (And.intro HX.out.1 trivial)
              obtain ⟨r, hr⟩ : ∃ x, (A.any fun a => decide (a.1 = oid)) = x := ⟨_, rfl⟩
              have HR := Lib.hid hr
              clear hr
              rw [hm]
              go_upto_region 23 with fail
              clear v0 v1 v2 vl2
              refine Par.wp_region_par4 9 (TJ W w2 K (fun idx => [(Value.pointer (some ⟨tb, 0, none⟩)), (Value.pointer (some ⟨V, 1, none⟩)), (Value.int .i64 (oid)), .bool r, (Value.pointer (some ⟨b, 0, none⟩)), (Value.pointer (some ⟨V, 1, none⟩)), (Value.int .i64 (oid)), .bool r, .bool false].getD idx undef) 3 7 tb b n A (without A oid) ob o C db) ?A6 ?hm6 ?hB6 ?hA6 ?hJ6 ?hop6 ?hT6
              case hm6 => kernel_rfl
              case hB6 => kernel_rfl
              case hA6 =>
                intro vs
                simp only [Par.putA, Par.dstAt, Act.put, List.getElem?_toArray, List.getElem?_cons_zero, List.getElem?_cons_succ, Option.bind_some, List.setIfInBounds_toArray, List.set_cons_zero, List.set_cons_succ]
                rfl
              case hJ6 =>
                intro vs
                have hd := below_drew w2
                exact ⟨HQ.out.1.later hd, fun _ _ => rfl, fun _ h => (by cases h)⟩
              case hop6 =>
                simp only [List.take_succ_cons, List.take_zero, Par.GiveAllK, and_true]
                refine ⟨fun l vs w hJ hl hd hcl => ?_, fun l vs w hJ hl hd hcl => ?_, fun l vs w hJ hl hd hcl => ?_, fun l vs w hJ hl hd hcl => ?_, fun l vs w hJ hl hd hcl => ?_, fun l vs w hJ hl hd hcl => ?_, fun l vs w hJ hl hd hcl => ?_, fun l vs w hJ hl hd hcl => ?_, fun l vs w hJ hl hd hcl => ?_⟩
                · have HJ := Lib.hid hJ
                  have hz := (hJ.kp V HQV.out.2).trans HQV.out.1
                  have y0 := lt_of_heap hz
                  have y1 := nd_cell hz 1
                  clear hJ hd hcl
                  simp only [Par.GivesW]
                  go_simp
                  all_goals exact HJ.out.up 0 (by decide) (by decide)
                · have HJ := Lib.hid hJ
                  have hz := (hJ.kp V HQV.out.2).trans HQV.out.1
                  have y0 := lt_of_heap hz
                  have y1 := nd_cell hz 1
                  clear hJ hd hcl
                  simp only [Par.GivesW]
                  go_simp
                  all_goals exact HJ.out.up 1 (by decide) (by decide)
                · have HJ := Lib.hid hJ
                  have d1 : vs 1 = (Value.pointer (some ⟨V, 1, none⟩)) := hJ.ev 1 (hd 1 (by kernel_rfl))
                  have hz := (hJ.kp V HQV.out.2).trans HQV.out.1
                  have y0 := lt_of_heap hz
                  have y1 := nd_cell hz 1
                  clear hJ hd hcl
                  simp only [Par.GivesW, d1]
                  go_simp
                  all_goals exact HJ.out.up 2 (by decide) (by decide)
                · have HJ := Lib.hid hJ
                  have d0 : vs 0 = (Value.pointer (some ⟨tb, 0, none⟩)) := hJ.ev 0 (hd 0 (by kernel_rfl))
                  have d2 : vs 2 = (Value.int .i64 (oid)) := hJ.ev 2 (hd 2 (by kernel_rfl))
                  have hq := hJ.qs
                  rw [if_neg (c := l 3 = true) (by rw [hl]; decide)] at hq
                  have hc := q_tdel hq HU.out.1 (by have := HQ.out.2; omega)
                  rw [HR.out] at hc
                  clear hJ hd hcl hq
                  simp only [Par.GivesW, d0, d2]
                  go_simp
                  refine hc.mono ?_
                  rintro e y ⟨rfl, hq2, hk2⟩
                  exact ⟨_, rfl, HJ.out.t1 (by decide) hq2 hk2⟩
                · have HJ := Lib.hid hJ
                  have hz := (hJ.kp V HQV.out.2).trans HQV.out.1
                  have y0 := lt_of_heap hz
                  have y1 := nd_cell hz 1
                  clear hJ hd hcl
                  simp only [Par.GivesW]
                  go_simp
                  all_goals exact HJ.out.up 4 (by decide) (by decide)
                · have HJ := Lib.hid hJ
                  have hz := (hJ.kp V HQV.out.2).trans HQV.out.1
                  have y0 := lt_of_heap hz
                  have y1 := nd_cell hz 1
                  clear hJ hd hcl
                  simp only [Par.GivesW]
                  go_simp
                  all_goals exact HJ.out.up 5 (by decide) (by decide)
                · have HJ := Lib.hid hJ
                  have d5 : vs 5 = (Value.pointer (some ⟨V, 1, none⟩)) := hJ.ev 5 (hd 5 (by kernel_rfl))
                  have hz := (hJ.kp V HQV.out.2).trans HQV.out.1
                  have y0 := lt_of_heap hz
                  have y1 := nd_cell hz 1
                  clear hJ hd hcl
                  simp only [Par.GivesW, d5]
                  go_simp
                  all_goals exact HJ.out.up 6 (by decide) (by decide)
                · have HJ := Lib.hid hJ
                  have d4 : vs 4 = (Value.pointer (some ⟨b, 0, none⟩)) := hJ.ev 4 (hd 4 (by kernel_rfl))
                  have d6 : vs 6 = (Value.int .i64 (oid)) := hJ.ev 6 (hd 6 (by kernel_rfl))
                  have hq := hJ.qs
                  rw [if_neg (c := l 7 = true) (by rw [hl]; decide)] at hq
                  have hc := q_ddel (x := oid) hq (by have := HQ.out.1.facts; have := HQ.out.2; omega)
                  rw [HR.out] at hc
                  clear hJ hd hcl hq
                  simp only [Par.GivesW, d4, d6]
                  go_simp
                  refine hc.mono ?_
                  rintro e y ⟨rfl, hq2, hk2⟩
                  exact ⟨_, rfl, HJ.out.t2 (by decide) hq2 hk2⟩
                · have HJ := Lib.hid hJ
                  have d3 : vs 3 = .bool r := hJ.ev 3 (hd 3 (by kernel_rfl))
                  have d7 : vs 7 = .bool r := hJ.ev 7 (hd 7 (by kernel_rfl))
                  have hz := (hJ.kp V HQV.out.2).trans HQV.out.1
                  have y0 := lt_of_heap hz
                  have y1 := nd_cell hz 1
                  clear hJ hd hcl
                  simp only [Par.GivesW, d3, d7]
                  go_simp
                  all_goals exact HJ.out.up 8 (by decide) (by decide)
              case hT6 =>
                intro l vs w4 hl hJ
                simp only [List.drop_succ_cons, List.drop_zero]
                have d8 : vs 8 = .bool false := hJ.ev 8 (hl 8 (by decide))
                have hq := hJ.qs
                rw [if_pos (hl 3 (by decide)), if_pos (hl 7 (by decide))] at hq
                have HQ4 := Lib.hid hq
                have HNN : Hid (n ≤ n + 1) := Lib.hid (Nat.le_succ n)
                simp only [d8]
                generalize vs 0 = s0
                generalize vs 1 = s1
                generalize vs 2 = s2
                generalize vs 3 = s3
                generalize vs 4 = s4
                generalize vs 5 = s5
                generalize vs 6 = s6
                generalize vs 7 = s7
                clear hq hJ hl d8
                unfold wpList
                by_cases hj10 : j = 10
                · subst hj10
                  have hcp := q_tcopy (QS.drop HQ4.out) (by have := HNN.out; omega)
                  go_wp2_with (first
                    | (go_at_call 10; (with_reducible refine hcp.mono ?_); rintro e w8 ⟨ob', rfl, hq8, hb8⟩; have hdc := q_dcopy hq8 (by have := hq8.facts; omega); clear hcp hq8 hb8)
                    | (go_at_call 11; (with_reducible refine hdc.mono ?_); rintro e w9 ⟨db', rfl, hq9, hb9⟩; have HQ9 := Lib.hid hq9; clear hdc hq9 hb9))
                  go_roundg (40 - 10)
                  case measure => omega
                  case rel => exact ⟨10 + 1, n, (without A oid), _, _, _, _, rfl, rfl, rfl, by omega, by omega, by omega, by have := HNN.out; omega, by have := HNN.out; omega, HQ9.out⟩
                · have hj10' : ((j : Int) == 10) = false := by simp; omega
                  have hj10'' : ¬ (j : Int) = 10 := by omega
                  go_wp2_with fail
                  go_roundg (40 - j)
                  case measure => omega
                  case rel => exact ⟨j + 1, n, (without A oid), _, _, _, _, rfl, rfl, rfl, by omega, by omega, by omega, by have := HNN.out; omega, by omega, QS.drop HQ4.out⟩
            · have e1 : (kind == 1) = false := by simp [hk1]
              rw [hm]
              by_cases hm0 : m = 0
              · subst hm0
                go_wp2_with fail
                go_roundg (40 - j)
                case measure => omega
                case rel => exact ⟨j + 1, n, A, _, _, _, _, rfl, rfl, rfl, by omega, by omega, by omega, by omega, ho, QS.drop HQ.out.1⟩
              · have hmz : ((m : Int) == 0) = false := by simp; omega
                have hgz : ¬ (m : Int) = 0 := by omega
                have hmp : (0 : Int) < (m : Int) := by omega
                have hmn : 0 < m := by omega
                have hx0 : 0 < xs.length := by omega
                obtain ⟨gv, cv, ev, _, _⟩ := HVV.out.1.slice hx0
                cases ev
                obtain ⟨u, hu⟩ : ∃ u, xs[0] = u := ⟨_, rfl⟩
                obtain ⟨k1, k2, k3⟩ := cells3_at xs 0 hx0
                rw [hu] at k1 k2 k3
                have hus := HX.out.2.2 _ (List.getElem_mem hx0)
                rw [hu] at hus
                have HRV : Hid (∀ w : World, (∀ q, K q → w.heap[q]? = w2.heap[q]?) → w.cell? ⟨gv, 0, none⟩ = some (.int .i64 u.1) ∧ w.cell? ⟨gv, 1, none⟩ = some (.int .i64 u.2.1) ∧ w.cell? ⟨gv, 2, none⟩ = some (.string u.2.2)) := Lib.hid (fun w hk => by
                  have hr := HRow.of HVV.out.1 (fun q hq => hk q (HVV.out.2 q hq))
                  exact ⟨hr.cell k1, hr.cell k2, hr.cell k3⟩)
                have HU := Lib.hid (And.intro HX.out.1 (And.intro trivial hus))
                obtain ⟨r, hr⟩ : ∃ x, setE tShop A oid oc (u.1, u.2.1, u.2.2) = x := ⟨_, rfl⟩
                obtain ⟨A', hA'⟩ : ∃ x, setR A oid oc (u.1, u.2.1, u.2.2) = x := ⟨_, rfl⟩
                have HR := Lib.hid (And.intro hr hA')
                clear hr hA' hus k1 k2 k3 hu hx0
                go_upto_region 15 with fail
                clear v0 v1 v2 vl2
                refine Par.wp_region_par4 17 (TJ W w2 K (fun idx => [(Value.pointer (some ⟨tb, 0, none⟩)), (Value.pointer (some ⟨V, 1, none⟩)), (Value.int .i64 (oid)), .string oc, .slice (some ⟨gv, 0, none⟩) m cw, (Value.pointer (some ⟨gv, 0, none⟩)), (Value.agg #[Value.int .i64 (u.1), Value.int .i64 (u.2.1), Value.string (u.2.2)]), (Value.int .i64 (r)), (Value.pointer (some ⟨b, 0, none⟩)), (Value.pointer (some ⟨V, 1, none⟩)), (Value.int .i64 (oid)), .string oc, .slice (some ⟨gv, 0, none⟩) m cw, (Value.pointer (some ⟨gv, 0, none⟩)), (Value.agg #[Value.int .i64 (u.1), Value.int .i64 (u.2.1), Value.string (u.2.2)]), (Value.int .i64 (r)), .bool false].getD idx undef) 7 15 tb b n A A' ob o C db) ?A7 ?hm7 ?hB7 ?hA7 ?hJ7 ?hop7 ?hT7
                case hm7 => kernel_rfl
                case hB7 => kernel_rfl
                case hA7 =>
                  intro vs
                  simp only [Par.putA, Par.dstAt, Act.put, List.getElem?_toArray, List.getElem?_cons_zero, List.getElem?_cons_succ, Option.bind_some, List.setIfInBounds_toArray, List.set_cons_zero, List.set_cons_succ]
                  rfl
                case hJ7 =>
                  intro vs
                  have hd := below_drew w2
                  exact ⟨HQ.out.1.later hd, fun _ _ => rfl, fun _ h => (by cases h)⟩
                case hop7 =>
                  simp only [List.take_succ_cons, List.take_zero, Par.GiveAllK, and_true]
                  refine ⟨fun l vs w hJ hl hd hcl => ?_, fun l vs w hJ hl hd hcl => ?_, fun l vs w hJ hl hd hcl => ?_, fun l vs w hJ hl hd hcl => ?_, fun l vs w hJ hl hd hcl => ?_, fun l vs w hJ hl hd hcl => ?_, fun l vs w hJ hl hd hcl => ?_, fun l vs w hJ hl hd hcl => ?_, fun l vs w hJ hl hd hcl => ?_, fun l vs w hJ hl hd hcl => ?_, fun l vs w hJ hl hd hcl => ?_, fun l vs w hJ hl hd hcl => ?_, fun l vs w hJ hl hd hcl => ?_, fun l vs w hJ hl hd hcl => ?_, fun l vs w hJ hl hd hcl => ?_, fun l vs w hJ hl hd hcl => ?_, fun l vs w hJ hl hd hcl => ?_⟩
                  · have HJ := Lib.hid hJ
                    have hz := (hJ.kp V HQV.out.2).trans HQV.out.1
                    have y0 := lt_of_heap hz
                    have y1 := nd_cell hz 1
                    have hz2 := HRV.out w hJ.kp
                    have z0 := hz2.1
                    have z1 := hz2.2.1
                    have z2 := hz2.2.2
                    clear hJ hd hcl
                    simp only [Par.GivesW]
                    go_simp
                    all_goals exact HJ.out.up 0 (by decide) (by decide)
                  · have HJ := Lib.hid hJ
                    have hz := (hJ.kp V HQV.out.2).trans HQV.out.1
                    have y0 := lt_of_heap hz
                    have y1 := nd_cell hz 1
                    have hz2 := HRV.out w hJ.kp
                    have z0 := hz2.1
                    have z1 := hz2.2.1
                    have z2 := hz2.2.2
                    clear hJ hd hcl
                    simp only [Par.GivesW]
                    go_simp
                    all_goals exact HJ.out.up 1 (by decide) (by decide)
                  · have HJ := Lib.hid hJ
                    have d1 : vs 1 = (Value.pointer (some ⟨V, 1, none⟩)) := hJ.ev 1 (hd 1 (by kernel_rfl))
                    have hz := (hJ.kp V HQV.out.2).trans HQV.out.1
                    have y0 := lt_of_heap hz
                    have y1 := nd_cell hz 1
                    have hz2 := HRV.out w hJ.kp
                    have z0 := hz2.1
                    have z1 := hz2.2.1
                    have z2 := hz2.2.2
                    clear hJ hd hcl
                    simp only [Par.GivesW, d1]
                    go_simp
                    all_goals exact HJ.out.up 2 (by decide) (by decide)
                  · have HJ := Lib.hid hJ
                    have hz := (hJ.kp V HQV.out.2).trans HQV.out.1
                    have y0 := lt_of_heap hz
                    have y1 := nd_cell hz 1
                    have hz2 := HRV.out w hJ.kp
                    have z0 := hz2.1
                    have z1 := hz2.2.1
                    have z2 := hz2.2.2
                    clear hJ hd hcl
                    simp only [Par.GivesW]
                    go_simp
                    all_goals exact HJ.out.up 3 (by decide) (by decide)
                  · have HJ := Lib.hid hJ
                    have hz := (hJ.kp V HQV.out.2).trans HQV.out.1
                    have y0 := lt_of_heap hz
                    have y1 := nd_cell hz 1
                    have hz2 := HRV.out w hJ.kp
                    have z0 := hz2.1
                    have z1 := hz2.2.1
                    have z2 := hz2.2.2
                    clear hJ hd hcl
                    simp only [Par.GivesW]
                    go_simp
                    all_goals exact HJ.out.up 4 (by decide) (by decide)
                  · have HJ := Lib.hid hJ
                    have d4 : vs 4 = .slice (some ⟨gv, 0, none⟩) m cw := hJ.ev 4 (hd 4 (by kernel_rfl))
                    have hz := (hJ.kp V HQV.out.2).trans HQV.out.1
                    have y0 := lt_of_heap hz
                    have y1 := nd_cell hz 1
                    have hz2 := HRV.out w hJ.kp
                    have z0 := hz2.1
                    have z1 := hz2.2.1
                    have z2 := hz2.2.2
                    clear hJ hd hcl
                    simp only [Par.GivesW, d4]
                    go_simp
                    all_goals exact HJ.out.up 5 (by decide) (by decide)
                  · have HJ := Lib.hid hJ
                    have d5 : vs 5 = (Value.pointer (some ⟨gv, 0, none⟩)) := hJ.ev 5 (hd 5 (by kernel_rfl))
                    have hz := (hJ.kp V HQV.out.2).trans HQV.out.1
                    have y0 := lt_of_heap hz
                    have y1 := nd_cell hz 1
                    have hz2 := HRV.out w hJ.kp
                    have z0 := hz2.1
                    have z1 := hz2.2.1
                    have z2 := hz2.2.2
                    clear hJ hd hcl
                    simp only [Par.GivesW, d5]
                    go_simp
                    all_goals exact HJ.out.up 6 (by decide) (by decide)
                  · have HJ := Lib.hid hJ
                    have d0 : vs 0 = (Value.pointer (some ⟨tb, 0, none⟩)) := hJ.ev 0 (hd 0 (by kernel_rfl))
                    have d2 : vs 2 = (Value.int .i64 (oid)) := hJ.ev 2 (hd 2 (by kernel_rfl))
                    have d3 : vs 3 = .string oc := hJ.ev 3 (hd 3 (by kernel_rfl))
                    have d6 : vs 6 = (Value.agg #[Value.int .i64 (u.1), Value.int .i64 (u.2.1), Value.string (u.2.2)]) := hJ.ev 6 (hd 6 (by kernel_rfl))
                    have hq := hJ.qs
                    rw [if_neg (c := l 7 = true) (by rw [hl]; decide)] at hq
                    have hc := q_tset hq HU.out.1 (by have := HQ.out.2; omega) oc u.1 u.2.1 u.2.2 HU.out.2.2
                    rw [HR.out.1, HR.out.2] at hc
                    clear hJ hd hcl hq
                    simp only [Par.GivesW, d0, d2, d3, d6]
                    go_simp
                    refine hc.mono ?_
                    rintro e y ⟨rfl, hq2, hk2⟩
                    exact ⟨_, rfl, HJ.out.t1 (by decide) hq2 hk2⟩
                  · have HJ := Lib.hid hJ
                    have hz := (hJ.kp V HQV.out.2).trans HQV.out.1
                    have y0 := lt_of_heap hz
                    have y1 := nd_cell hz 1
                    have hz2 := HRV.out w hJ.kp
                    have z0 := hz2.1
                    have z1 := hz2.2.1
                    have z2 := hz2.2.2
                    clear hJ hd hcl
                    simp only [Par.GivesW]
                    go_simp
                    all_goals exact HJ.out.up 8 (by decide) (by decide)
                  · have HJ := Lib.hid hJ
                    have hz := (hJ.kp V HQV.out.2).trans HQV.out.1
                    have y0 := lt_of_heap hz
                    have y1 := nd_cell hz 1
                    have hz2 := HRV.out w hJ.kp
                    have z0 := hz2.1
                    have z1 := hz2.2.1
                    have z2 := hz2.2.2
                    clear hJ hd hcl
                    simp only [Par.GivesW]
                    go_simp
                    all_goals exact HJ.out.up 9 (by decide) (by decide)
                  · have HJ := Lib.hid hJ
                    have d9 : vs 9 = (Value.pointer (some ⟨V, 1, none⟩)) := hJ.ev 9 (hd 9 (by kernel_rfl))
                    have hz := (hJ.kp V HQV.out.2).trans HQV.out.1
                    have y0 := lt_of_heap hz
                    have y1 := nd_cell hz 1
                    have hz2 := HRV.out w hJ.kp
                    have z0 := hz2.1
                    have z1 := hz2.2.1
                    have z2 := hz2.2.2
                    clear hJ hd hcl
                    simp only [Par.GivesW, d9]
                    go_simp
                    all_goals exact HJ.out.up 10 (by decide) (by decide)
                  · have HJ := Lib.hid hJ
                    have hz := (hJ.kp V HQV.out.2).trans HQV.out.1
                    have y0 := lt_of_heap hz
                    have y1 := nd_cell hz 1
                    have hz2 := HRV.out w hJ.kp
                    have z0 := hz2.1
                    have z1 := hz2.2.1
                    have z2 := hz2.2.2
                    clear hJ hd hcl
                    simp only [Par.GivesW]
                    go_simp
                    all_goals exact HJ.out.up 11 (by decide) (by decide)
                  · have HJ := Lib.hid hJ
                    have hz := (hJ.kp V HQV.out.2).trans HQV.out.1
                    have y0 := lt_of_heap hz
                    have y1 := nd_cell hz 1
                    have hz2 := HRV.out w hJ.kp
                    have z0 := hz2.1
                    have z1 := hz2.2.1
                    have z2 := hz2.2.2
                    clear hJ hd hcl
                    simp only [Par.GivesW]
                    go_simp
                    all_goals exact HJ.out.up 12 (by decide) (by decide)
                  · have HJ := Lib.hid hJ
                    have d12 : vs 12 = .slice (some ⟨gv, 0, none⟩) m cw := hJ.ev 12 (hd 12 (by kernel_rfl))
                    have hz := (hJ.kp V HQV.out.2).trans HQV.out.1
                    have y0 := lt_of_heap hz
                    have y1 := nd_cell hz 1
                    have hz2 := HRV.out w hJ.kp
                    have z0 := hz2.1
                    have z1 := hz2.2.1
                    have z2 := hz2.2.2
                    clear hJ hd hcl
                    simp only [Par.GivesW, d12]
                    go_simp
                    all_goals exact HJ.out.up 13 (by decide) (by decide)
                  · have HJ := Lib.hid hJ
                    have d13 : vs 13 = (Value.pointer (some ⟨gv, 0, none⟩)) := hJ.ev 13 (hd 13 (by kernel_rfl))
                    have hz := (hJ.kp V HQV.out.2).trans HQV.out.1
                    have y0 := lt_of_heap hz
                    have y1 := nd_cell hz 1
                    have hz2 := HRV.out w hJ.kp
                    have z0 := hz2.1
                    have z1 := hz2.2.1
                    have z2 := hz2.2.2
                    clear hJ hd hcl
                    simp only [Par.GivesW, d13]
                    go_simp
                    all_goals exact HJ.out.up 14 (by decide) (by decide)
                  · have HJ := Lib.hid hJ
                    have d8 : vs 8 = (Value.pointer (some ⟨b, 0, none⟩)) := hJ.ev 8 (hd 8 (by kernel_rfl))
                    have d10 : vs 10 = (Value.int .i64 (oid)) := hJ.ev 10 (hd 10 (by kernel_rfl))
                    have d11 : vs 11 = .string oc := hJ.ev 11 (hd 11 (by kernel_rfl))
                    have d14 : vs 14 = (Value.agg #[Value.int .i64 (u.1), Value.int .i64 (u.2.1), Value.string (u.2.2)]) := hJ.ev 14 (hd 14 (by kernel_rfl))
                    have hq := hJ.qs
                    rw [if_neg (c := l 15 = true) (by rw [hl]; decide)] at hq
                    have hc := q_dset (x := oid) hq (by have := HQ.out.1.facts; have := HQ.out.2; omega) oc u.1 u.2.1 u.2.2 HU.out.2.2
                    rw [HR.out.1, HR.out.2] at hc
                    clear hJ hd hcl hq
                    simp only [Par.GivesW, d8, d10, d11, d14]
                    go_simp
                    refine hc.mono ?_
                    rintro e y ⟨rfl, hq2, hk2⟩
                    exact ⟨_, rfl, HJ.out.t2 (by decide) hq2 hk2⟩
                  · have HJ := Lib.hid hJ
                    have d7 : vs 7 = (Value.int .i64 (r)) := hJ.ev 7 (hd 7 (by kernel_rfl))
                    have d15 : vs 15 = (Value.int .i64 (r)) := hJ.ev 15 (hd 15 (by kernel_rfl))
                    have hz := (hJ.kp V HQV.out.2).trans HQV.out.1
                    have y0 := lt_of_heap hz
                    have y1 := nd_cell hz 1
                    have hz2 := HRV.out w hJ.kp
                    have z0 := hz2.1
                    have z1 := hz2.2.1
                    have z2 := hz2.2.2
                    clear hJ hd hcl
                    simp only [Par.GivesW, d7, d15]
                    go_simp
                    all_goals exact HJ.out.up 16 (by decide) (by decide)
                case hT7 =>
                  intro l vs w4 hl hJ
                  simp only [List.drop_succ_cons, List.drop_zero]
                  have d8 : vs 16 = .bool false := hJ.ev 16 (hl 16 (by decide))
                  have hq := hJ.qs
                  rw [if_pos (hl 7 (by decide)), if_pos (hl 15 (by decide))] at hq
                  have HQ4 := Lib.hid hq
                  have HNN : Hid (n ≤ n + 1) := Lib.hid (Nat.le_succ n)
                  simp only [d8]
                  generalize vs 0 = s0
                  generalize vs 1 = s1
                  generalize vs 2 = s2
                  generalize vs 3 = s3
                  generalize vs 4 = s4
                  generalize vs 5 = s5
                  generalize vs 6 = s6
                  generalize vs 7 = s7
                  generalize vs 8 = s8
                  generalize vs 9 = s9
                  generalize vs 10 = s10
                  generalize vs 11 = s11
                  generalize vs 12 = s12
                  generalize vs 13 = s13
                  generalize vs 14 = s14
                  generalize vs 15 = s15
                  clear hq hJ hl d8
                  unfold wpList
                  by_cases hj10 : j = 10
                  · subst hj10
                    have hcp := q_tcopy (QS.drop HQ4.out) (by have := HNN.out; omega)
                    go_wp2_with (first
                      | (go_at_call 10; (with_reducible refine hcp.mono ?_); rintro e w8 ⟨ob', rfl, hq8, hb8⟩; have hdc := q_dcopy hq8 (by have := hq8.facts; omega); clear hcp hq8 hb8)
                      | (go_at_call 11; (with_reducible refine hdc.mono ?_); rintro e w9 ⟨db', rfl, hq9, hb9⟩; have HQ9 := Lib.hid hq9; clear hdc hq9 hb9))
                    go_roundg (40 - 10)
                    case measure => omega
                    case rel => exact ⟨10 + 1, n, A', _, _, _, _, rfl, rfl, rfl, by omega, by omega, by omega, by have := HNN.out; omega, by have := HNN.out; omega, HQ9.out⟩
                  · have hj10' : ((j : Int) == 10) = false := by simp; omega
                    have hj10'' : ¬ (j : Int) = 10 := by omega
                    go_wp2_with fail
                    go_roundg (40 - j)
                    case measure => omega
                    case rel => exact ⟨j + 1, n, A', _, _, _, _, rfl, rfl, rfl, by omega, by omega, by omega, by have := HNN.out; omega, by omega, QS.drop HQ4.out⟩
        · have hex : ¬ j < N ∨ (j < N ∧ ¬ j < 40) := by omega
          have HQ := Lib.hid hQ
          clear hlt hQ
          rcases hex with hex | ⟨hex, hex'⟩
          all_goals
            go_wp2_with fail
            go_meet
            exact ⟨n, A, o, C, ob, db, rfl, rfl, by omega, ho, HQ.out⟩
    case rest =>
      obtain ⟨n, A, o, C, ob, db, rfl, rfl, hn40, ho, hQ⟩ := hcut
      have hcut2 := fun w => cut_any col 20 w HA.out.2 (by decide) (by decide)
      have hs1 := fun s => q_same1 hQ (by omega) ask HA.out.1 s
      have HQ := Lib.hid (And.intro hQ ho)
      clear hQ ho
      go_wp2_with (first
        | (go_at_call 13; (with_reducible refine (hcut2 _).mono ?_); rintro e w8 ⟨rfl, hw8⟩; subst w8)
        | (go_at_call 20; (with_reducible refine (hs1 _).mono ?_); rintro e w9 ⟨rfl, hb9⟩; have hs2 := fun s => q_same2 (HQ.out.1.later hb9) (by have := HQ.out.2; omega) ask HA.out.1 s; have H9 := Lib.hid (below_on HQ.out.1.bl hb9); clear hs1 hb9)
        | (go_at_call 20; (with_reducible refine (hs2 _).mono ?_); rintro e w10 ⟨rfl, hb10⟩; have H10 := Lib.hid (below_on H9.out hb10); clear hs2 hb10))
      go_ret
      exact ⟨rfl, H10.out⟩
end Go.Proofs.YtffpmmphpdkkbaaGreat
