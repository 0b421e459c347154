/- What same reads of the reference. What holds where same's last question is asked. -/
import Derived.Test.YtffpmmphpdkkbaaGreatMDM
import Derived.Test.YtffpmmphpdkkbaaGreatMDV
import Derived.Test.YtffpmmphpdkkbaaGreatMBQ5
namespace Go.Proofs.YtffpmmphpdkkbaaGreat
open Go Go.RowKit Go.Proofs Co Co.S
structure SRn where
  go : Nat
  co : Nat
  gs : Nat
  cs : Nat
  gn : Nat
  cn : Nat
  pr : Option Addr
  cr : Nat
  pc : Option Addr
  kc : Nat
  pd : Option Addr
  kd : Nat
structure SR (w : World) (b : Nat) (x : SRn) (t : T) (next : Nat) (A : List R1) : Prop where
  b0 : w.cell? ⟨b, 0, none⟩ = some (.slice (some ⟨x.gs, 0, none⟩) 1 x.cs)
  b1 : w.cell? ⟨b, 1, none⟩ = some (.slice (some ⟨x.go, 0, none⟩) 1 x.co)
  b2 : w.cell? ⟨b, 2, none⟩ = some (.slice (some ⟨x.gn, 0, none⟩) 1 x.cn)
  s0 : w.cell? ⟨x.gs, 0, none⟩ = some (.string t.nm)
  s1 : w.cell? ⟨x.gs, 1, none⟩ = some (.slice x.pc t.cols.length x.kc)
  s2 : w.cell? ⟨x.gs, 2, none⟩ = some (.string t.key)
  s3 : w.cell? ⟨x.gs, 3, none⟩ = some (.slice x.pd t.deps.length x.kd)
  o0 : w.cell? ⟨x.go, 0, none⟩ = some (.slice x.pr A.length x.cr)
  n0 : w.cell? ⟨x.gn, 0, none⟩ = some (.int .i64 (next : Int))
  bl : b < w.heap.size
  sl : x.gs < w.heap.size
  ol : x.go < w.heap.size
  nl : x.gn < w.heap.size
  rd : RdT w (.slice x.pc t.cols.length x.kc) (.slice x.pd t.deps.length x.kd) t
  row : ∀ k (hk : k < A.length), ∃ gr gv cv, x.pr = some ⟨gr, 0, none⟩ ∧ gr < w.heap.size ∧ w.cell? ⟨gr, k * 2, none⟩ = some (.int .i64 A[k].1) ∧ w.cell? ⟨gr, k * 2 + 1, none⟩ = some (.slice (some ⟨gv, 0, none⟩) t.cols.length cv) ∧ HRow w 0 53 3 (.slice (some ⟨gv, 0, none⟩) t.cols.length cv) t.cols.length (cells3 A[k].2) ∧ gv < w.heap.size
section
variable {W : World} {b next : Nat} {t : T} {A : List R1} {i : DI} {lab : Nat → Nat}
theorem DbM.sr (h : DbM W b t next A i lab) (hc0 : 0 < t.cols.length) : ∃ x, ∀ w, Below W.heap.size W w → SR w b x t next A := by
  obtain ⟨gs, cs, f1, f2, f3, f4, f5, f6, f7⟩ := h.formC
  obtain ⟨go, co, o1, o2, o3, o4⟩ := h.outerC
  obtain ⟨gn, cn, n1, n2, n3, n4, _⟩ := h.nextC
  obtain ⟨pc, kc, hfc, _, _⟩ := h.rd.1.slice
  obtain ⟨pd, kd, hfd, _, _⟩ := h.rd.2.slice
  obtain ⟨pr, cr, hrv, _, _⟩ := h.rows.isslice
  refine ⟨⟨go, co, gs, cs, gn, cn, pr, cr, pc, kc, pd, kd⟩, fun w hb => ?_⟩
  have k := h.later hb
  obtain ⟨gs', cs', a1, a2, a3, a4, a5, a6, a7⟩ := k.formC
  obtain ⟨go', co', b1, b2, b3, b4⟩ := k.outerC
  obtain ⟨gn', cn', c1, c2, c3, c4, _⟩ := k.nextC
  rw [f1] at a1; cases a1
  rw [o1] at b1; cases b1
  rw [n1] at c1; cases c1
  have hrd := k.rd
  rw [hfc] at a4 hrd
  rw [hfd] at a6 hrd
  rw [hrv] at b3
  refine ⟨a7, b4, c4, a3, a4, a5, a6, b3, c3, lt_of_heap k.box, a2, b2, c2, hrd, fun j hj => ?_⟩
  obtain ⟨gr, cr', gv, cv, q1, q2, q3, q4, q5, q6, q7⟩ := k.row hc0 hj
  rw [hrv] at q1
  cases q1
  exact ⟨gr, gv, cv, rfl, q2, q3, q4, q7, q6⟩
end
theorem inC_text {kind : Int} {x : T3} (h : inC kind x = true) (h2 : x.1 = 2) : x.2.1 = 0 ∧ x.2.2.size ≤ 12 := by
  refine ⟨?_, inC_size h h2⟩
  unfold inC at h
  rw [Bool.and_eq_true] at h
  have h := h.1
  unfold mayV at h
  rw [h2] at h
  simp at h
  exact h.1
theorem eqV_self (k n : Int) (s : ByteArray) : eqV k n s k n s = true := by simp [eqV]
section
variable {W : World} {tb next : Nat} {t : T} {A : List R1} {lab : Nat → Nat}
/-- The texts of a column are as many as the reference's. -/
theorem tb_words_ref (h : Tb W tb t next A lab) {c : Nat} (hc : c < t.cols.length) (hx : ixC t.cols t.cols[c].nm = (c : Int)) :
    Calls Tryz.prog 31 #[(Value.pointer (some ⟨tb, 0, none⟩)), .string t.cols[c].nm] W fun e w' => e = .returned (.int .i64 ((firstsP (colL A c) A.length).length : Int)) ∧ Below W.heap.size W w' := by
  have hcol : ∀ x ∈ colL A c, x.1 = 2 → x.2.1 = 0 ∧ x.2.2.size ≤ 12 := fun x hx h2 => by
    unfold colL at hx
    obtain ⟨a, ha, rfl⟩ := List.mem_map.1 hx
    have hl := h.len a ha
    have hc' : c < a.2.length := by omega
    have hv := h.ok a ha c hc a.2[c] (List.getElem?_eq_getElem hc')
    rw [getD_lt hc'] at h2 ⊢
    obtain ⟨u, hu⟩ : ∃ u, a.2[c] = u := ⟨_, rfl⟩
    rw [hu] at hv h2 ⊢
    exact inC_text hv h2
  obtain ⟨m, m1, m2, m3⟩ := words_list hcol
  have hl : (colL A c).length = A.length := by unfold colL; rw [List.length_map]
  rw [hl] at m1
  rw [← m1]
  refine tb_words h hc hx m m2 (fun s => ?_)
  rw [m3]
  constructor
  · rintro ⟨x, hx, h1, h2⟩
    unfold colL at hx
    obtain ⟨a, ha, rfl⟩ := List.mem_map.1 hx
    have hc' : c < a.2.length := by rw [h.len a ha]; exact hc
    rw [getD_lt hc'] at h1 h2
    exact ⟨a, ha, a.2[c], List.getElem?_eq_getElem hc', h1, h2⟩
  · rintro ⟨a, ha, y, hy, h1, h2⟩
    have hc' : c < a.2.length := by rw [h.len a ha]; exact hc
    rw [List.getElem?_eq_getElem hc'] at hy
    cases hy
    exact ⟨_, List.mem_map_of_mem ha, by rw [getD_lt hc']; exact h1, by rw [getD_lt hc']; exact h2⟩
end
end Go.Proofs.YtffpmmphpdkkbaaGreat
namespace Go.Proofs.YtffpmmphpdkkbaaGreat
open Go Go.RowKit Go.Proofs Co Co.S
/-- The set of the rows' numbers. -/
theorem ids_set {A : List R1} {W w' : World} {e : Ending} (h : SetR (A.map (·.1)) W e w') : ∃ p m c, e = .returned (.slice p m c) ∧ (elems (idsP A)).length = m ∧ Rd w' p (elems (idsP A)) ∧ Below W.heap.size W w' := by
  obtain ⟨out, v, h1, h2, _, rfl, h4, h5⟩ := h
  have e : out = elems (idsP A) := srt_ext h1 (elems_srt _) (fun x => by
    rw [h2, mem_elems, idsP_iff, mem_ids]
    unfold inB
    rw [decide_eq_true_iff]
    constructor
    · rintro ⟨a, b⟩; exact ⟨b, a⟩
    · rintro ⟨b, a⟩; exact ⟨a, b⟩)
  rw [e] at h4
  obtain ⟨p, c, rfl, _, _⟩ := h4.isslice
  exact ⟨p, _, c, rfl, rfl, Ro.rd (base := W.heap.size) (cap := c) h4, h5⟩
def sp24 (j : Nat) : Bool := j == 32 || j == 34 || j == 39
structure QJ (W : World) (E : Nat → Value) (P : Int → Bool) (t : T) (nm key : ByteArray) (nc nd : Nat) (l : Nat → Bool) (vs : Nat → Value) (w : World) : Prop where
  bl : Below W.heap.size W w
  ev : ∀ j, sp24 j = false → l j = true → vs j = E j
  f32 : l 32 = true → ∃ p m c, vs 32 = .agg #[.slice p m c] ∧ Vm w (.slice p m c) P
  f34 : l 34 = true → ∃ p m c, vs 34 = .slice p m c ∧ (elems P).length = m ∧ Rd w p (elems P)
  f39 : l 39 = true → ∃ p1 c1 p2 c2, vs 39 = .agg #[.string nm, .slice p1 nc c1, .string key, .slice p2 nd c2] ∧ RdT w (.slice p1 nc c1) (.slice p2 nd c2) t
section
open Par
variable {W w w' : World} {E : Nat → Value} {P : Int → Bool} {t : T} {nm key : ByteArray} {nc nd : Nat} {l : Nat → Bool} {vs : Nat → Value}
theorem QJ.later (h : QJ W E P t nm key nc nd l vs w) (hb : Below w.heap.size w w') : QJ W E P t nm key nc nd l vs w' := by
  refine ⟨below_on h.bl hb, h.ev, fun hl => ?_, fun hl => ?_, fun hl => ?_⟩
  · obtain ⟨p, m, c, e, hv⟩ := h.f32 hl
    exact ⟨p, m, c, e, hv.later hb⟩
  · obtain ⟨p, m, c, e, e2, hv⟩ := h.f34 hl
    exact ⟨p, m, c, e, e2, hv.later hb⟩
  · obtain ⟨p1, c1, p2, c2, e, hv⟩ := h.f39 hl
    exact ⟨p1, c1, p2, c2, e, hv.kp (Tn.of_below (S := fun _ => False) hb).kpX⟩
theorem QJ.up (h : QJ W E P t nm key nc nd l vs w) (i : Nat) (hi : sp24 i = false) : QJ W E P t nm key nc nd (upB l i) (upV vs i (E i)) w := by
  have e : ∀ j, sp24 j = true → upB l i j = l j ∧ upV vs i (E i) j = vs j := fun j hj => by
    have : j ≠ i := fun e => by rw [e, hi] at hj; cases hj
    exact ⟨upB_ne this, upV_ne this⟩
  refine ⟨h.bl, fun j a hl => ?_, fun hl => ?_, fun hl => ?_, fun hl => ?_⟩
  · by_cases e : j = i
    · subst e; rw [upV_eq]
    · rw [upV_ne e]; rw [upB_ne e] at hl; exact h.ev j a hl
  · rw [(e 32 rfl).1] at hl
    rw [(e 32 rfl).2]; exact h.f32 hl
  · rw [(e 34 rfl).1] at hl
    rw [(e 34 rfl).2]; exact h.f34 hl
  · rw [(e 39 rfl).1] at hl
    rw [(e 39 rfl).2]; exact h.f39 hl
theorem sp_ne {j i : Nat} (h : sp24 j = false) (hi : sp24 i = true) : j ≠ i := fun e => by rw [e, hi] at h; cases h
theorem QJ.s32 (h : QJ W E P t nm key nc nd l vs w) (hb : Below w.heap.size w w') {p : Option Addr} {m c : Nat} (hv : Vm w' (.slice p m c) P) : QJ W E P t nm key nc nd (upB l 32) (upV vs 32 (.agg #[.slice p m c])) w' := by
  have k := h.later hb
  refine ⟨k.bl, fun j a hl => ?_, fun hl => ⟨p, m, c, upV_eq, hv⟩, fun hl => ?_, fun hl => ?_⟩
  · rw [upV_ne (sp_ne a rfl)]; rw [upB_ne (sp_ne a rfl)] at hl; exact k.ev j a hl
  · rw [upB_ne (by decide)] at hl
    rw [upV_ne (by decide)]; exact k.f34 hl
  · rw [upB_ne (by decide)] at hl
    rw [upV_ne (by decide)]; exact k.f39 hl
theorem QJ.s34 (h : QJ W E P t nm key nc nd l vs w) (hb : Below w.heap.size w w') {p : Option Addr} {m c : Nat} (hm : (elems P).length = m) (hv : Rd w' p (elems P)) : QJ W E P t nm key nc nd (upB l 34) (upV vs 34 (.slice p m c)) w' := by
  have k := h.later hb
  refine ⟨k.bl, fun j a hl => ?_, fun hl => ?_, fun hl => ⟨p, m, c, upV_eq, hm, hv⟩, fun hl => ?_⟩
  · rw [upV_ne (sp_ne a rfl)]; rw [upB_ne (sp_ne a rfl)] at hl; exact k.ev j a hl
  · rw [upB_ne (by decide)] at hl
    rw [upV_ne (by decide)]; exact k.f32 hl
  · rw [upB_ne (by decide)] at hl
    rw [upV_ne (by decide)]; exact k.f39 hl
theorem QJ.s39 (h : QJ W E P t nm key nc nd l vs w) (hb : Below w.heap.size w w') {p1 p2 : Option Addr} {c1 c2 : Nat} (hv : RdT w' (.slice p1 nc c1) (.slice p2 nd c2) t) : QJ W E P t nm key nc nd (upB l 39) (upV vs 39 (.agg #[.string nm, .slice p1 nc c1, .string key, .slice p2 nd c2])) w' := by
  have k := h.later hb
  refine ⟨k.bl, fun j a hl => ?_, fun hl => ?_, fun hl => ?_, fun hl => ⟨p1, c1, p2, c2, upV_eq, hv⟩⟩
  · rw [upV_ne (sp_ne a rfl)]; rw [upB_ne (sp_ne a rfl)] at hl; exact k.ev j a hl
  · rw [upB_ne (by decide)] at hl
    rw [upV_ne (by decide)]; exact k.f32 hl
  · rw [upB_ne (by decide)] at hl
    rw [upV_ne (by decide)]; exact k.f34 hl
end
/-- What holds where a value is got and kept in a box. -/
structure SJ (W : World) (E : Nat → Value) (u : T3) (l : Nat → Bool) (vs : Nat → Value) (w : World) : Prop where
  bl : Below W.heap.size W w
  ev : ∀ j, j ≠ 21 → j ≠ 22 → l j = true → vs j = E j
  f21 : l 21 = true → ∃ g, vs 21 = (Value.pointer (some ⟨g, 0, none⟩)) ∧ W.heap.size ≤ g ∧ (l 22 = false → w.heap[g]? = some (.cells #[.int .i64 0, .int .i64 0, .string e0] 53)) ∧ (l 22 = true → w.heap[g]? = some (.cells #[.int .i64 u.1, .int .i64 u.2.1, .string u.2.2] 53))
section
open Par
variable {W w w' : World} {E : Nat → Value} {u : T3} {l : Nat → Bool} {vs : Nat → Value}
theorem SJ.later (h : SJ W E u l vs w) (hb : Below w.heap.size w w') : SJ W E u l vs w' := by
  refine ⟨below_on h.bl hb, h.ev, fun hl => ?_⟩
  obtain ⟨g, e, h1, h2, h3⟩ := h.f21 hl
  exact ⟨g, e, h1, fun hl => heap_on hb (h2 hl), fun hl => heap_on hb (h3 hl)⟩
theorem SJ.up (h : SJ W E u l vs w) (i : Nat) (hi : i ≠ 21 ∧ i ≠ 22) : SJ W E u (upB l i) (upV vs i (E i)) w := by
  refine ⟨h.bl, fun j a b hl => ?_, fun hl => ?_⟩
  · by_cases e : j = i
    · subst e; rw [upV_eq]
    · rw [upV_ne e]; rw [upB_ne e] at hl; exact h.ev j a b hl
  · rw [upB_ne (fun e => hi.1 e.symm)] at hl
    rw [upV_ne (fun e => hi.1 e.symm), upB_ne (fun e => hi.2 e.symm)]; exact h.f21 hl
theorem SJ.s21 (h : SJ W E u l vs w) (h22 : l 22 = false) : SJ W E u (upB l 21) (upV vs 21 (Value.pointer (some ⟨w.heap.size, 0, none⟩))) (w.alloc (.cells #[.int .i64 0, .int .i64 0, .string e0] 53)) := by
  have hb := below_alloc w (.cells #[.int .i64 0, .int .i64 0, .string e0] 53)
  refine ⟨below_on h.bl hb, fun j a b hl => ?_, fun _ => ⟨w.heap.size, upV_eq, h.bl.size, fun _ => heap_alloc_new w _, fun hl => ?_⟩⟩
  · rw [upV_ne a]; rw [upB_ne a] at hl; exact h.ev j a b hl
  · rw [upB_ne (by decide), h22] at hl; cases hl
theorem SJ.s22 (h : SJ W E u l vs w) (h21 : l 21 = true) {g : Nat} (hg : vs 21 = (Value.pointer (some ⟨g, 0, none⟩))) (v : Value) (hb : ∀ q, q ≠ g → w'.heap[q]? = w.heap[q]?) (hs : w'.os = w.os ∧ w'.tape = w.tape ∧ w'.output = w.output ∧ w'.heap.size = w.heap.size) (hn : w'.heap[g]? = some (.cells #[.int .i64 u.1, .int .i64 u.2.1, .string u.2.2] 53)) : SJ W E u (upB l 22) (upV vs 22 v) w' := by
  obtain ⟨g', e, h1, _, _⟩ := h.f21 h21
  rw [hg] at e
  cases e
  refine ⟨h.bl.trans ⟨hs.1, hs.2.1, hs.2.2.1, Nat.le_of_eq hs.2.2.2.symm, fun q hq => hb q (by have := h.bl.size; omega)⟩, fun j a b hl => ?_, fun _ => ⟨g, by rw [upV_ne (by decide)]; exact hg, h1, fun hl => ?_, fun _ => hn⟩⟩
  · rw [upV_ne b]; rw [upB_ne b] at hl; exact h.ev j a b hl
  · rw [upB_eq] at hl; cases hl
end
end Go.Proofs.YtffpmmphpdkkbaaGreat
