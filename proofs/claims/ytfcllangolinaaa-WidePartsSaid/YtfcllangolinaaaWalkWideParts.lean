/- The walk of WideParts. -/
import Derived.Test.YtfcllangolinaaaL
import Derived.Test.YtfcllangolinaaaPar
namespace Go.Proofs.Ytfcllangolinaaa
open Go Go.RowKit

theorem parts_sum (z : Int) : sm (hiOf z * 4611686018427387904 * 4 + (loOf z / 2 * 2 + loOf z % 2)) = sm z := by
  have hb := sm_bd z
  rw [show hiOf z * 4611686018427387904 * 4 + (loOf z / 2 * 2 + loOf z % 2) = sm z from by rw [sm_hilo]; omega]
  exact sm_small hb.1 (by omega)

/-- What lies behind a box of two cells. -/
def WAt (w : World) (g : Nat) (h l : Int) : Prop := w.cell? ⟨g, 0, none⟩ = some (.int .i64 h) ∧ w.cell? ⟨g, 1, none⟩ = some (.int .u64 l)
theorem wat_on {w w' : World} {g : Nat} {h l : Int} (c : WAt w g h l) (hb : Below w.heap.size w w') : WAt w' g h l := wbox_on c.1 c.2 hb
theorem wat_alloc {w : World} {g : Nat} {h l : Int} (c : WAt w g h l) (o : Obj) : WAt (w.alloc o) g h l := wat_on c (below_alloc1 w o)
theorem wat_new (w : World) (h l : Int) : WAt (w.alloc (.cells #[.int .i64 h, .int .u64 l] 27)) w.heap.size h l := by
  unfold WAt; rw [World.cell?_alloc_mark, World.cell?_alloc_mark]; exact ⟨rfl, rfl⟩
structure P3 (w0 w : World) (g1 g2 g3 : Nat) (h1 l1 h2 l2 h3 l3 : Int) : Prop where
  a : WAt w g1 h1 l1
  b : WAt w g2 h2 l2
  c : WAt w g3 h3 l3
  fr : Below w0.heap.size w0 w
theorem P3.on {w0 w w' : World} {g1 g2 g3 : Nat} {h1 l1 h2 l2 h3 l3 : Int} (h : P3 w0 w g1 g2 g3 h1 l1 h2 l2 h3 l3) (hb : Below w.heap.size w w') : P3 w0 w' g1 g2 g3 h1 l1 h2 l2 h3 l3 :=
  ⟨wat_on h.a hb, wat_on h.b hb, wat_on h.c hb, h.fr.trans (hb.mono h.fr.size)⟩
theorem P3.drew {w0 w : World} {g1 g2 g3 : Nat} {h1 l1 h2 l2 h3 l3 : Int} (h : P3 w0 w g1 g2 g3 h1 l1 h2 l2 h3 l3) : P3 w0 w.drew g1 g2 g3 h1 l1 h2 l2 h3 l3 := ⟨h.a, h.b, h.c, h.fr.drew⟩
theorem compare_to (x y h l c : Int) (hh : hiOf y = h) (hl : loOf y = l) (hc : Lib.compareInt (sm x) (sm y) = c) (w : World) :
    Calls Try.prog 23 #[.agg #[.int .i64 (hiOf x), .int .u64 (loOf x)], .agg #[.int .i64 h, .int .u64 l]] w fun e w' => e = .returned (.int .i64 c) ∧ Below w.heap.size w w' := by subst hh hl hc; exact compare_any x y w

set_option maxRecDepth 10000 in
set_option maxHeartbeats 4000000 in
theorem wideParts_walk (a b : Int) (ha0 : -9223372036854775808 ≤ a) (ha1 : a ≤ 9223372036854775807) (hb0 : -9223372036854775808 ≤ b) (hb1 : b ≤ 9223372036854775807) (w : World) :
    Calls Try.prog 9 #[.int .i64 a, .int .i64 b] w fun e w' => e = .returned (.bool true) ∧ Below w.heap.size w w' := by
  have HB0 := Lib.hid (Below.refl w.heap.size w)
  go_enter Try.func9, Try.ntmps9
  go_wp2_with fail
  refine (begun_any _).mono ?_
  rintro e w1 ⟨rfl, hb⟩
  have HB1 := Lib.hid (HB0.out.trans (hb.mono HB0.out.size))
  clear hb
  go_wp2_with fail
  refine (of_any a _ ha0 ha1).mono ?_
  rintro e w2 ⟨rfl, hb⟩
  have HB2 := Lib.hid (HB1.out.trans (hb.mono HB1.out.size))
  clear hb
  go_wp2_with fail
  refine (times_any a b _ hb0 hb1).mono ?_
  rintro e w3 ⟨rfl, hb⟩
  have HB3 := Lib.hid (HB2.out.trans (hb.mono HB2.out.size))
  clear hb
  generalize a * b = z at *
  have HA := Lib.hid (HB3.out.alloc HB3.out.size (.cells #[.int .i64 (hiOf z), .int .u64 (loOf z)] 27))
  go_wp2_with fail
  refine (parts_any z _).mono ?_
  rintro e w4 ⟨rfl, hb⟩
  have HB4 := Lib.hid (HA.out.trans (hb.mono HA.out.size))
  have C4 := Lib.hid (wbox_new w3 z hb)
  clear hb
  have hh0 : -9223372036854775808 ≤ hiOf z := (hi_bd z).1
  have hh1 : hiOf z ≤ 9223372036854775807 := (hi_bd z).2
  have hl0 : 0 ≤ loOf z := (lo_bd z).1
  have hl1 : loOf z ≤ 18446744073709551615 := (lo_bd z).2
  have HE := Lib.hid (parts_sum z)
  obtain ⟨h, hh⟩ : ∃ h, hiOf z = h := ⟨_, rfl⟩
  obtain ⟨l, hl⟩ : ∃ l, loOf z = l := ⟨_, rfl⟩
  rw [hh] at HE hh0 hh1 C4
  rw [hl] at HE hl0 hl1 C4
  rw [hh, hl]
  have HH := Lib.hid hh
  have HL := Lib.hid hl
  clear hh hl
  go_wp2_with fail
  refine (of_any h _ hh0 hh1).mono ?_
  rintro e w5 ⟨rfl, hb⟩
  have HB5 := Lib.hid (HB4.out.trans (hb.mono HB4.out.size))
  have C5 := Lib.hid (wbox_on C4.out.1 C4.out.2 hb)
  clear hb
  go_wp2_with fail
  refine (times_any h 4611686018427387904 _ (by decide) (by decide)).mono ?_
  rintro e w6 ⟨rfl, hb⟩
  have HB6 := Lib.hid (HB5.out.trans (hb.mono HB5.out.size))
  have C6 := Lib.hid (wbox_on C5.out.1 C5.out.2 hb)
  clear hb
  generalize h * 4611686018427387904 = h2 at *
  go_wp2_with fail
  refine (times_any h2 4 _ (by decide) (by decide)).mono ?_
  rintro e w7 ⟨rfl, hb⟩
  have HB7 := Lib.hid (HB6.out.trans (hb.mono HB6.out.size))
  have C7 := Lib.hid (wbox_on C6.out.1 C6.out.2 hb)
  clear hb
  have HA7 := Lib.hid (HB7.out.alloc HB7.out.size (.cells #[.int .i64 (hiOf (h2 * 4)), .int .u64 (loOf (h2 * 4))] 27))
  have C7' := Lib.hid (wat_alloc C7.out (.cells #[.int .i64 (hiOf (h2 * 4)), .int .u64 (loOf (h2 * 4))] 27))
  have D7 := Lib.hid (wat_new w7 (hiOf (h2 * 4)) (loOf (h2 * 4)))
  clear C4 C5 C6 C7
  go_wp2_with fail
  refine (of_any (l / 2) _ (by omega) (by omega)).mono ?_
  rintro e w8 ⟨rfl, hb⟩
  have HB8 := Lib.hid (HA7.out.trans (hb.mono HA7.out.size))
  have C8 := Lib.hid (wat_on C7'.out hb)
  have D8 := Lib.hid (wat_on D7.out hb)
  clear hb C7' D7
  go_wp2_with fail
  refine (times_any (l / 2) 2 _ (by decide) (by decide)).mono ?_
  rintro e w9 ⟨rfl, hb⟩
  have HB9 := Lib.hid (HB8.out.trans (hb.mono HB8.out.size))
  have C9 := Lib.hid (wat_on C8.out hb)
  have D9 := Lib.hid (wat_on D8.out hb)
  clear hb C8 D8
  have hand : bits .and .u64 l 1 = l % 2 := and1_u64 l hl0 (by omega)
  go_wp2_with fail
  refine (of_any (l % 2) _ (by omega) (by omega)).mono ?_
  rintro e w10 ⟨rfl, hb⟩
  have HB10 := Lib.hid (HB9.out.trans (hb.mono HB9.out.size))
  have C10 := Lib.hid (wat_on C9.out hb)
  have D10 := Lib.hid (wat_on D9.out hb)
  clear hb C9 D9 hand
  go_wp2_with fail
  refine (add_any (l / 2 * 2) (l % 2) _).mono ?_
  rintro e w11 ⟨rfl, hb⟩
  have HB11 := Lib.hid (HB10.out.trans (hb.mono HB10.out.size))
  have C11 := Lib.hid (wat_on C10.out hb)
  have D11 := Lib.hid (wat_on D10.out hb)
  clear hb C10 D10
  generalize l / 2 * 2 + l % 2 = lw at *
  generalize h2 * 4 = up at *
  have HR0 : Hid (P3 w (w11.alloc (.cells #[.int .i64 (hiOf lw), .int .u64 (loOf lw)] 27)) w7.heap.size w11.heap.size w3.heap.size (hiOf up) (loOf up) (hiOf lw) (loOf lw) h l) :=
    Lib.hid ⟨wat_alloc D11.out _, wat_new w11 _ _, wat_alloc C11.out _, HB11.out.alloc HB11.out.size _⟩
  have HC : Hid (Lib.compareInt (sm (up + lw)) (sm z) = 0) := Lib.hid (by rw [HE.out]; simp [Lib.compareInt])
  clear C11 D11
  go_wp2_with fail
  generalize w11.alloc (.cells #[.int .i64 (hiOf lw), .int .u64 (loOf lw)] 27) = wo at *
  refine wp_region_par 7 [.agg #[.int .i64 (hiOf (up)), .int .u64 (loOf (up))], .agg #[.int .i64 (hiOf (lw)), .int .u64 (loOf (lw))], .agg #[.int .i64 (hiOf (up + lw)), .int .u64 (loOf (up + lw))], .agg #[.int .i64 h, .int .u64 l], .int .i64 0, .bool true, .bool true] (fun w' => P3 w w' w7.heap.size w11.heap.size w3.heap.size (hiOf up) (loOf up) (hiOf lw) (loOf lw) h l) ?A1 ?hm1 ?hB1 ?hA1 HR0.out.drew ?hop1 ?hT1
  case hm1 => kernel_rfl
  case hB1 => kernel_rfl
  case hA1 =>
    simp only [putA, dstAt, Act.put, List.getElem?_toArray, List.getElem?_cons_zero, List.getElem?_cons_succ, Option.bind_some, List.setIfInBounds_toArray, List.set_cons_zero, List.set_cons_succ, List.getD_cons_zero, List.getD_cons_succ]
    rfl
  case hop1 =>
    simp only [List.take_succ_cons, List.take_zero, GiveAll, and_true]
    refine ⟨fun w' hR => ?_, fun w' hR => ?_, fun w' hR => ?_, fun w' hR => ?_, fun w' hR => ?_, fun w' hR => ?_, fun w' hR => ?_⟩
    · have HR := Lib.hid hR
      obtain ⟨c0, c1⟩ := hR.a
      clear hR
      simp only [Gives]
      go_simp
      exact HR.out
    · have HR := Lib.hid hR
      obtain ⟨c0, c1⟩ := hR.b
      clear hR
      simp only [Gives]
      go_simp
      exact HR.out
    · have HR := Lib.hid hR
      clear hR
      simp only [Gives]
      go_simp
      exact (add_any up lw w').mono (fun e w'' ⟨he, hb⟩ => ⟨he, HR.out.on hb⟩)
    · have HR := Lib.hid hR
      obtain ⟨c0, c1⟩ := hR.c
      clear hR
      simp only [Gives]
      go_simp
      exact HR.out
    · have HR := Lib.hid hR
      clear hR
      simp only [Gives]
      go_simp
      exact (compare_to (up + lw) z h l 0 HH.out HL.out HC.out w').mono (fun e w'' ⟨he, hb⟩ => ⟨he, HR.out.on hb⟩)
    · have HR := Lib.hid hR
      clear hR
      simp only [Gives]
      go_simp
      exact HR.out
    · have HR := Lib.hid hR
      clear hR
      simp only [Gives]
      go_simp
      exact HR.out
  case hT1 =>
    intro w' hR
    simp only [List.drop_succ_cons, List.drop_zero]
    have HF := Lib.hid hR.fr
    clear hR
    go_wp2
    go_ret
    exact ⟨rfl, HF.out⟩
end Go.Proofs.Ytfcllangolinaaa
