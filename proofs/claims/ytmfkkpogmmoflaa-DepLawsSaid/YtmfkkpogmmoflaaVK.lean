/- DepLaws: its walk. -/
import Derived.Test.YtmfkkpogmmoflaaVJ
namespace Go.Proofs.Ytmfkkpogmmoflaa
open Go Go.RowKit Go.Proofs

theorem IsCl.same {ts : List T} {tb : ByteArray} {ps ls : List (List ByteArray)} (h : IsCl ts tb ps ls) : IsCl ts tb ls ls :=
  ⟨h.1, fun x => ⟨fun hx => .base ((h.2 x).1 hx).ok hx, fun hx => (h.2 x).2 (hx.again (fun _ hp => (h.2 _).1 hp))⟩⟩
theorem IsCl.more {ts : List T} {tb : ByteArray} {ps qs ls ds : List (List ByteArray)} (h : IsCl ts tb ps ls) (k : IsCl ts tb (ps ++ qs) ds) {x : List ByteArray} (hx : x ∈ ls) : x ∈ ds :=
  (k.2 x).2 (((h.2 x).1 hx).mono (fun _ hp => List.mem_append.2 (.inl hp)))
theorem IsCl.own {ts : List T} {tb : ByteArray} {ps ls : List (List ByteArray)} (h : IsCl ts tb ps ls) {x : List ByteArray} (hx : x ∈ ls) : true = true ↔ Cl ts tb (· ∈ [x]) x :=
  ⟨fun _ => .base ((h.2 x).1 hx).ok (by simp), fun _ => rfl⟩
/-- What holds behind both answers. -/
structure LI (S : Nat) (W : World) (cb : Nat) (c : Value) (cvs : List Value) (ls : List (List ByteArray)) (db : Nat) (d : Value) (dvs : List Value) (ds : List (List ByteArray)) (kv : Value) (w : World) : Prop where
  k : BothI S W starK kv w
  c : PR cb c cvs ls w
  d : PR db d dvs ds w
theorem LI.on {S : Nat} {W : World} {cb : Nat} {c : Value} {cvs : List Value} {ls : List (List ByteArray)} {db : Nat} {d : Value} {dvs : List Value} {ds : List (List ByteArray)} {kv : Value} {w w' : World} (h : LI S W cb c cvs ls db d dvs ds kv w) (hb : Below w.heap.size w w') : LI S W cb c cvs ls db d dvs ds kv w' := ⟨h.k.on hb, h.c.on hb, h.d.on hb⟩
set_option maxRecDepth 100000 in
set_option maxHeartbeats 8000000 in
theorem depLaws_walk {vf vm : Value} {lf lm : List (List ByteArray)} {W : World} (hf : InPs W vf lf) (hm : InPs W vm lm) : Calls Try.prog 3 #[vf, vm] W fun e w' => e = .returned (.bool true) ∧ Below W.heap.size W w' := by
  obtain ⟨pf, cpf, rfl, _, _⟩ := hf.slice
  obtain ⟨pm, cpm, rfl, _, _⟩ := hm.slice
  obtain ⟨nf, hnf⟩ : ∃ m, lf.length = m := ⟨_, rfl⟩
  obtain ⟨nm, hnm⟩ : ∃ m, lm.length = m := ⟨_, rfl⟩
  rw [hnf] at hf ⊢
  rw [hnm] at hm ⊢
  have HI := Lib.hid (And.intro hf hm)
  obtain ⟨fr, hfr⟩ : ∃ x, pathsP lf = x := ⟨_, rfl⟩
  obtain ⟨mo, hmo⟩ : ∃ x, pathsP lm = x := ⟨_, rfl⟩
  have HE := Lib.hid (And.intro hfr hmo)
  have hfl : fr.length ≤ 6 := by rw [← hfr]; unfold pathsP; rw [List.length_take]; omega
  have hml : mo.length ≤ 6 := by rw [← hmo]; unfold pathsP; rw [List.length_take]; omega
  have HN := Lib.hid (And.intro hfl hml)
  clear hf hm hnf hnm hfr hmo hfl hml
  go_enter Try.func3, Try.ntmps3
  go_upto_region 4 with (go_at_call 6; (with_reducible refine (dbegun_any _).mono ?_); rintro e w0 ⟨rfl, hb0⟩; have H0 := Lib.hid hb0; have hc1 := paths_any (HI.out.1.on hb0); rw [HE.out.1] at hc1; clear hb0)
  go_upto_region 5 with (first
    | (go_at_call 7; (with_reducible refine hc1.mono ?_); rintro e w1 ⟨p1, n1, c1, vs1, rfl, hn1, hP1, hb1⟩; have H1 := Lib.hid (And.intro hn1 (And.intro hP1 (below_on H0.out hb1))); have hc2 := paths_any (HI.out.2.on (below_on H0.out hb1)); rw [HE.out.2] at hc2; clear hc1 hn1 hP1 hb1)
    | (go_at_call 7; (with_reducible refine hc2.mono ?_); rintro e w2 ⟨p2, n2, c2, vs2, rfl, hn2, hP2, hb2⟩; have H2 := Lib.hid (And.intro hn2 (And.intro hP2 (And.intro (H1.out.2.1.on hb2) (below_on H1.out.2.2 hb2)))); have hstar := star_any w2; clear hc2 hn2 hP2 hb2))
  go_upto_region 6 with (first
    | (go_at_call 9; (with_reducible refine hstar.mono ?_); rintro e w3 ⟨v3, rfl, hr, hb⟩; have hboth := both_is hr star_sm (by decide) star_kept; have H3 := Lib.hid hb; clear hr hb hstar)
    | (go_at_call 8; (with_reducible refine hboth.mono ?_); rintro e w4 ⟨S, p4, n4, c4, rfl, hn4, hK⟩; have K4 := Lib.hid (hK.mono H3.out); clear hn4 hK hboth))
  have hcl := kclos_any (tb := sSale) star_few star_fine K4.out.sch (H2.out.2.2.1.on K4.out.below).rdw
  go_upto_region 7 with (go_at_call 10; (with_reducible refine hcl.mono ?_); rintro e w5 ⟨p5, m5, c5, vs5, ls, rfl, hm5, hl5, hI5, hP5, hb5⟩; have K5 := Lib.hid (K4.out.on hb5); have H5 := Lib.hid (And.intro hm5 (And.intro hl5 (And.intro hI5 hP5))); clear hcl hm5 hl5 hI5 hP5 hb5)
  have hP1 := (H2.out.2.2.1.on K5.out.below)
  have hP2 := (H2.out.2.1.on K5.out.below)
  obtain ⟨p6, c6, w6, hrun1, h6, hb6, _⟩ := (PR.nil w5.heap.size w5).app (ty := 22) (m := n1) hP1 (by have := HN.out.1; simp only [List.length_nil]; omega) (Nat.le_refl _) (by rw [H1.out.1]; simp)
  obtain ⟨p7, c7, w7, hrun2, h7, hb7, _⟩ := h6.app (ty := 22) (m := n1 + n2) (hP2.on hb6) (by have := HN.out.1; have := HN.out.2; simp only [List.nil_append]; omega) hb6.size (by rw [H1.out.1, H2.out.1]; simp)
  have hb57 : Below w5.heap.size w5 w7 := hb6.trans hb7
  have hcl2 := kclos_any (tb := sSale) star_few star_fine (K5.out.on hb57).sch h7.rdw
  have H7 := Lib.hid hb57
  clear hP1 hP2 h6 hb6 h7 hb7 hb57
  go_upto_region 8 with (first
    | (at_builtin; refine wpList_append_run rfl (.const (.slice none 0 0)) (.tmp 27) 22 rfl rfl rfl hrun1 ?_)
    | (at_builtin; refine wpList_append_run rfl (.tmp 28) (.tmp 29) 22 rfl rfl rfl hrun2 ?_)
    | (go_at_call 10; (with_reducible refine hcl2.mono ?_); rintro e w8 ⟨p8, m8, c8, vs8, ds, rfl, hm8, hl8, hI8, hP8, hb8⟩; have H8 := Lib.hid (And.intro hm8 (And.intro hl8 (And.intro hI8 hP8))); have L8 := Lib.hid (LI.mk (K5.out.on (below_on H7.out hb8)) (H5.out.2.2.2.on (below_on H7.out hb8)) hP8); clear hcl2 hm8 hl8 hI8 hP8 hb8))
  have hm5 : m5 ≤ 2000 := by rw [H5.out.1]; exact H5.out.2.1
  clear hrun1 hrun2
  go_wp2_with fail
  go_loopg [10] (m5 + 1) (fun gh jv w => ∃ (j : Nat), jv = .int .i64 (j : Int) ∧ j ≤ m5 ∧ m5 + 1 ≤ j + gh ∧ LI S w2 w4.heap.size (.slice p5 m5 c5) vs5 ls w7.heap.size (.slice p8 m8 c8) vs8 ds (.slice p4 n4 c4) w)
  case atStart => exact ⟨0, rfl, Nat.zero_le _, by omega, L8.out⟩
  case round =>
    obtain ⟨j, rfl, hj, hg, hL⟩ := hrel
    have HL := Lib.hid hL
    obtain ⟨w9, rfl⟩ : ∃ x, x = wr := ⟨_, rfl⟩
    by_cases hlt : j < m5
    · have hjl : j < ls.length := by rw [← H5.out.1]; exact hlt
      obtain ⟨gc, cc, e1, _, _⟩ := hL.c.row.slice (by omega)
      obtain ⟨rfl, -, rfl⟩ := Value.slice.inj e1
      have hx := hL.c.elem hjl
      obtain ⟨pe, ce, hce, hwe, _⟩ := hx
      have hmem : ls[j] ∈ ls := List.getElem_mem hjl
      obtain ⟨x, hxe⟩ : ∃ x, ls[j] = x := ⟨_, rfl⟩
      rw [hxe] at hce hwe hmem
      obtain ⟨me, hme⟩ : ∃ y, x.length = y := ⟨_, rfl⟩
      rw [hme] at hce hwe
      have hin : ∀ w, Below w9.heap.size w9 w → Calls Try.prog 11 #[.slice p8 m8 c8, .slice pe me ce] w fun e w' => e = .returned (.bool true) ∧ Below w.heap.size w w' := fun w hb => by
        have h1 := in_any (HL.out.d.on hb).rdw (hwe.later hb) (by have := H8.out.2.1; omega)
        rw [inP_iff.2 (H5.out.2.2.1.more (by have := H8.out.2.2.1; simpa using this) hmem)] at h1
        exact h1
      have hdet : ∀ w g, Below w9.heap.size w9 w → w.heap[g]? = some (.cells #[.slice pe me ce] 34) → Calls Try.prog 12 #[(Value.pointer (some ⟨S, 0, none⟩)), .string sSale, .slice (some ⟨g, 0, none⟩) 1 1, .slice pe me ce] w fun e w' => e = .returned (.bool true) ∧ Below w.heap.size w w' := fun w g hb hg => kdet_any star_few star_fine (HL.out.k.on hb).sch (RdW.lit hg (hwe.later hb)) (hwe.later hb) (H5.out.2.2.1.own hmem)
      have HC : Hid (∀ w, Below w9.heap.size w9 w → w.cell? ⟨gc, j, none⟩ = some (.slice pe me ce)) := Lib.hid (fun w hb => bel_cell hb hce)
      have HD := Lib.hid (And.intro hin hdet)
      have hji : (j : Int) < (m5 : Int) := by omega
      clear hL e1 hwe hmem hxe hme hin hdet hce hjl
      go_upto_region 11 with fail
      refine Par.wp_region_par2 21 (fun w => Below w9.heap.size w9 w) (Par.VL [(.eq (.slice p8 m8 c8)), (.eq (.slice (some ⟨gc, 0, none⟩) m5 c5)), (.eq (.int .i64 j)), (.eq (Value.pointer (some ⟨gc, j, none⟩))), (.eq (.slice pe me ce)), (.eq (.bool true)), (.eq (.bool false)), (.eq (.bool false)), (.eq (Value.pointer (some ⟨S, 0, none⟩))), (.eq (.slice (some ⟨gc, 0, none⟩) m5 c5)), (.eq (.int .i64 j)), (.eq (Value.pointer (some ⟨gc, j, none⟩))), (.eq (.slice pe me ce)), (.obj (fun g => .slice (some ⟨g, 0, none⟩) 1 1) (.cells #[.slice pe me ce] 34)), (.eq (.slice (some ⟨gc, 0, none⟩) m5 c5)), (.eq (.int .i64 j)), (.eq (Value.pointer (some ⟨gc, j, none⟩))), (.eq (.slice pe me ce)), (.eq (.bool true)), (.eq (.bool false)), (.eq (.bool false))]) ?A1 ?hm1 ?hB1 (fun w w' h hb => below_on h hb) (Par.VL.mono _) ?hA1 ((below_drew w9)) ?hop1 ?hT1
      case hm1 => kernel_rfl
      case hB1 => kernel_rfl
      case hA1 =>
        intro vs
        simp only [Par.putA, Par.dstAt, Act.put, List.getElem?_toArray, List.getElem?_cons_zero, List.getElem?_cons_succ, Option.bind_some, List.setIfInBounds_toArray, List.set_cons_zero, List.set_cons_succ]
        rfl
      case hop1 =>
        simp only [List.take_succ_cons, List.take_zero, Par.GiveAllV, and_true]
        refine ⟨fun vs w hK hd => ?_, fun vs w hK hd => ?_, fun vs w hK hd => ?_, fun vs w hK hd => ?_, fun vs w hK hd => ?_, fun vs w hK hd => ?_, fun vs w hK hd => ?_, fun vs w hK hd => ?_, fun vs w hK hd => ?_, fun vs w hK hd => ?_, fun vs w hK hd => ?_, fun vs w hK hd => ?_, fun vs w hK hd => ?_, fun vs w hK hd => ?_, fun vs w hK hd => ?_, fun vs w hK hd => ?_, fun vs w hK hd => ?_, fun vs w hK hd => ?_, fun vs w hK hd => ?_, fun vs w hK hd => ?_, fun vs w hK hd => ?_⟩
        · clear hd
          simp only [Par.GivesV]
          go_simp
          all_goals exact ⟨rfl, Below.refl _ _⟩
        · clear hd
          simp only [Par.GivesV]
          go_simp
          all_goals exact ⟨rfl, Below.refl _ _⟩
        · clear hd
          simp only [Par.GivesV]
          go_simp
          all_goals exact ⟨rfl, Below.refl _ _⟩
        · have d1 := hd 1 (by decide) (by kernel_rfl)
          replace d1 : vs 1 = (.slice (some ⟨gc, 0, none⟩) m5 c5) := d1
          have d2 := hd 2 (by decide) (by kernel_rfl)
          replace d2 : vs 2 = (.int .i64 j) := d2
          clear hd
          simp only [Par.GivesV, d1, d2]
          go_simp
          all_goals exact ⟨rfl, Below.refl _ _⟩
        · have d3 := hd 3 (by decide) (by kernel_rfl)
          replace d3 : vs 3 = (Value.pointer (some ⟨gc, j, none⟩)) := d3
          have k := HC.out w hK
          clear hd
          simp only [Par.GivesV, d3]
          go_simp
          all_goals exact ⟨rfl, Below.refl _ _⟩
        · have d0 := hd 0 (by decide) (by kernel_rfl)
          replace d0 : vs 0 = (.slice p8 m8 c8) := d0
          have d4 := hd 4 (by decide) (by kernel_rfl)
          replace d4 : vs 4 = (.slice pe me ce) := d4
          clear hd
          simp only [Par.GivesV, d0, d4]
          go_simp
          exact (HD.out.1 w hK).mono (fun e w'' h => ⟨_, h.1, ⟨rfl, h.2⟩⟩)
        · have d5 := hd 5 (by decide) (by kernel_rfl)
          replace d5 : vs 5 = (.bool true) := d5
          clear hd
          simp only [Par.GivesV, d5]
          go_simp
          all_goals exact ⟨rfl, Below.refl _ _⟩
        · have d6 := hd 6 (by decide) (by kernel_rfl)
          replace d6 : vs 6 = (.bool false) := d6
          clear hd
          simp only [Par.GivesV, d6]
          go_simp
          all_goals exact ⟨rfl, Below.refl _ _⟩
        · have d7 := hd 7 (by decide) (by kernel_rfl)
          replace d7 : vs 7 = (.bool false) := d7
          clear hd
          simp only [Par.GivesV, d7]
          go_simp
          all_goals exact ⟨rfl, Below.refl _ _⟩
        · have d7 := hd 7 (by decide) (by kernel_rfl)
          replace d7 : vs 7 = (.bool false) := d7
          clear hd
          simp only [Par.GivesV, d7]
          go_simp
          all_goals exact ⟨rfl, Below.refl _ _⟩
        · have d7 := hd 7 (by decide) (by kernel_rfl)
          replace d7 : vs 7 = (.bool false) := d7
          clear hd
          simp only [Par.GivesV, d7]
          go_simp
          all_goals exact ⟨rfl, Below.refl _ _⟩
        · have d7 := hd 7 (by decide) (by kernel_rfl)
          replace d7 : vs 7 = (.bool false) := d7
          have d9 := hd 9 (by decide) (by kernel_rfl)
          replace d9 : vs 9 = (.slice (some ⟨gc, 0, none⟩) m5 c5) := d9
          have d10 := hd 10 (by decide) (by kernel_rfl)
          replace d10 : vs 10 = (.int .i64 j) := d10
          clear hd
          simp only [Par.GivesV, d7, d9, d10]
          go_simp
          all_goals exact ⟨rfl, Below.refl _ _⟩
        · have d7 := hd 7 (by decide) (by kernel_rfl)
          replace d7 : vs 7 = (.bool false) := d7
          have d11 := hd 11 (by decide) (by kernel_rfl)
          replace d11 : vs 11 = (Value.pointer (some ⟨gc, j, none⟩)) := d11
          have k := HC.out w hK
          clear hd
          simp only [Par.GivesV, d7, d11]
          go_simp
          all_goals exact ⟨rfl, Below.refl _ _⟩
        · have d7 := hd 7 (by decide) (by kernel_rfl)
          replace d7 : vs 7 = (.bool false) := d7
          have d12 := hd 12 (by decide) (by kernel_rfl)
          replace d12 : vs 12 = (.slice pe me ce) := d12
          clear hd
          simp only [Par.GivesV, d7, d12]
          go_simp
          exact ⟨⟨_, rfl, heap_alloc_new w _⟩, below_alloc w _⟩
        · have d7 := hd 7 (by decide) (by kernel_rfl)
          replace d7 : vs 7 = (.bool false) := d7
          clear hd
          simp only [Par.GivesV, d7]
          go_simp
          all_goals exact ⟨rfl, Below.refl _ _⟩
        · have d7 := hd 7 (by decide) (by kernel_rfl)
          replace d7 : vs 7 = (.bool false) := d7
          clear hd
          simp only [Par.GivesV, d7]
          go_simp
          all_goals exact ⟨rfl, Below.refl _ _⟩
        · have d7 := hd 7 (by decide) (by kernel_rfl)
          replace d7 : vs 7 = (.bool false) := d7
          have d14 := hd 14 (by decide) (by kernel_rfl)
          replace d14 : vs 14 = (.slice (some ⟨gc, 0, none⟩) m5 c5) := d14
          have d15 := hd 15 (by decide) (by kernel_rfl)
          replace d15 : vs 15 = (.int .i64 j) := d15
          clear hd
          simp only [Par.GivesV, d7, d14, d15]
          go_simp
          all_goals exact ⟨rfl, Below.refl _ _⟩
        · have d7 := hd 7 (by decide) (by kernel_rfl)
          replace d7 : vs 7 = (.bool false) := d7
          have d16 := hd 16 (by decide) (by kernel_rfl)
          replace d16 : vs 16 = (Value.pointer (some ⟨gc, j, none⟩)) := d16
          have k := HC.out w hK
          clear hd
          simp only [Par.GivesV, d7, d16]
          go_simp
          all_goals exact ⟨rfl, Below.refl _ _⟩
        · have d7 := hd 7 (by decide) (by kernel_rfl)
          replace d7 : vs 7 = (.bool false) := d7
          have d8 := hd 8 (by decide) (by kernel_rfl)
          replace d8 : vs 8 = (Value.pointer (some ⟨S, 0, none⟩)) := d8
          have d13 := hd 13 (by decide) (by kernel_rfl)
          have d17 := hd 17 (by decide) (by kernel_rfl)
          replace d17 : vs 17 = (.slice pe me ce) := d17
          obtain ⟨g, d13, hgc⟩ := d13
          replace d13 : vs 13 = .slice (some ⟨g, 0, none⟩) 1 1 := d13
          clear hd
          simp only [Par.GivesV, d7, d8, d17, d13]
          go_simp
          exact (HD.out.2 w g hK hgc).mono (fun e w'' h => ⟨_, h.1, ⟨rfl, h.2⟩⟩)
        · have d7 := hd 7 (by decide) (by kernel_rfl)
          replace d7 : vs 7 = (.bool false) := d7
          have d18 := hd 18 (by decide) (by kernel_rfl)
          replace d18 : vs 18 = (.bool true) := d18
          clear hd
          simp only [Par.GivesV, d7, d18]
          go_simp
          all_goals exact ⟨rfl, Below.refl _ _⟩
        · have d7 := hd 7 (by decide) (by kernel_rfl)
          replace d7 : vs 7 = (.bool false) := d7
          have d19 := hd 19 (by decide) (by kernel_rfl)
          replace d19 : vs 19 = (.bool false) := d19
          clear hd
          simp only [Par.GivesV, d7, d19]
          go_simp
          all_goals exact ⟨rfl, Below.refl _ _⟩
      case hT1 =>
        intro vs w' hK hV
        simp only [List.drop_succ_cons, List.drop_nil]
        have d0 := hV 0 (by decide)
        replace d0 : vs 0 = (.slice p8 m8 c8) := d0
        have d1 := hV 1 (by decide)
        replace d1 : vs 1 = (.slice (some ⟨gc, 0, none⟩) m5 c5) := d1
        have d2 := hV 2 (by decide)
        replace d2 : vs 2 = (.int .i64 j) := d2
        have d3 := hV 3 (by decide)
        replace d3 : vs 3 = (Value.pointer (some ⟨gc, j, none⟩)) := d3
        have d4 := hV 4 (by decide)
        replace d4 : vs 4 = (.slice pe me ce) := d4
        have d5 := hV 5 (by decide)
        replace d5 : vs 5 = (.bool true) := d5
        have d6 := hV 6 (by decide)
        replace d6 : vs 6 = (.bool false) := d6
        have d7 := hV 7 (by decide)
        replace d7 : vs 7 = (.bool false) := d7
        have d8 := hV 8 (by decide)
        replace d8 : vs 8 = (Value.pointer (some ⟨S, 0, none⟩)) := d8
        have d9 := hV 9 (by decide)
        replace d9 : vs 9 = (.slice (some ⟨gc, 0, none⟩) m5 c5) := d9
        have d10 := hV 10 (by decide)
        replace d10 : vs 10 = (.int .i64 j) := d10
        have d11 := hV 11 (by decide)
        replace d11 : vs 11 = (Value.pointer (some ⟨gc, j, none⟩)) := d11
        have d12 := hV 12 (by decide)
        replace d12 : vs 12 = (.slice pe me ce) := d12
        have d13 := hV 13 (by decide)
        have d14 := hV 14 (by decide)
        replace d14 : vs 14 = (.slice (some ⟨gc, 0, none⟩) m5 c5) := d14
        have d15 := hV 15 (by decide)
        replace d15 : vs 15 = (.int .i64 j) := d15
        have d16 := hV 16 (by decide)
        replace d16 : vs 16 = (Value.pointer (some ⟨gc, j, none⟩)) := d16
        have d17 := hV 17 (by decide)
        replace d17 : vs 17 = (.slice pe me ce) := d17
        have d18 := hV 18 (by decide)
        replace d18 : vs 18 = (.bool true) := d18
        have d19 := hV 19 (by decide)
        replace d19 : vs 19 = (.bool false) := d19
        have d20 := hV 20 (by decide)
        replace d20 : vs 20 = (.bool false) := d20
        clear hV
        simp only [d0, d1, d2, d3, d4, d5, d6, d7, d8, d9, d10, d11, d12, d14, d15, d16, d17, d18, d19, d20]
        clear d0 d1 d2 d3 d4 d5 d6 d7 d8 d9 d10 d11 d12 d14 d15 d16 d17 d18 d19 d20
        obtain ⟨g, d13, _⟩ := d13
        replace d13 : vs 13 = .slice (some ⟨g, 0, none⟩) 1 1 := d13
        rw [d13]
        clear d13
        have H9 := Lib.hid (HL.out.on hK)
        clear hK
        go_wp2_with fail
        go_roundg (m5 - j)
        case measure => omega
        case rel => exact ⟨j + 1, by go_num, by omega, by omega, H9.out⟩
    · obtain rfl : j = m5 := by omega
      have hcl := kclos_any (tb := sSale) star_few star_fine hL.k.sch hL.c.rdw
      clear hL
      go_wp2_with (first
        | (go_at_call 10; (with_reducible refine hcl.mono ?_); rintro e w10 ⟨p10, m10, c10, vs10, ls10, rfl, hm10, hl10, hI10, hP10, hb10⟩; have e10 := hI10.one H5.out.2.2.1.same; rw [e10] at hP10; have L10 := Lib.hid (HL.out.on hb10); have hs10 := same_any hP10 L10.out.c (by have := H5.out.2.1; omega); clear hcl hm10 hl10 hI10 hP10 hb10 e10)
        | (go_at_call 13; (with_reducible refine hs10.mono ?_); rintro e w11 ⟨rfl, hb11⟩; have L11 := Lib.hid (L10.out.on hb11); have hcl2 := kclos_any (tb := sSale) star_few star_fine L11.out.k.sch L11.out.d.rdw; clear hs10 hb11)
        | (go_at_call 10; (with_reducible refine hcl2.mono ?_); rintro e w12 ⟨p12, m12, c12, vs12, ls12, rfl, hm12, hl12, hI12, hP12, hb12⟩; have e12 := hI12.one H8.out.2.2.1.same; rw [e12] at hP12; have L12 := Lib.hid (L11.out.on hb12); have hs12 := same_any hP12 L12.out.d (by have := H8.out.2.1; omega); clear hcl2 hm12 hl12 hI12 hP12 hb12 e12)
        | (go_at_call 13; (with_reducible refine hs12.mono ?_); rintro e w13 ⟨rfl, hb13⟩; have L13 := Lib.hid (L12.out.on hb13); clear hs12 hb13))
      go_ret
      exact ⟨rfl, below_on H2.out.2.2.2 L13.out.k.below⟩
end Go.Proofs.Ytmfkkpogmmoflaa
