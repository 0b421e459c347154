/- The queue beside the row of answers. -/
import Derived.Test.YtmfkkpogmmoflaaGreatQA
import Derived.Test.YtmfkkpogmmoflaaGreatPB
namespace Go.Proofs.YtmfkkpogmmoflaaGreat
open Go Go.RowKit Go.Proofs

structure BF (B : Nat) (ov : Value) (ovs : List Value) (out : List (List ByteArray)) (g off n cap : Nat) (tvs : List Value) (td : List (List ByteArray)) (w : World) : Prop where
  o : PR B ov ovs out w
  t : QR B g off n cap tvs w
  nn : td.length = n
  tw : ∀ j (h : j < tvs.length) (h' : j < td.length), Wd w tvs[j] td[j]
  ne : ∀ k, ov.ownBlock = some k → k ≠ g
  sz : B ≤ w.heap.size
section
variable {B : Nat} {ov : Value} {ovs : List Value} {out : List (List ByteArray)} {g off n cap : Nat} {tvs : List Value} {td : List (List ByteArray)} {w w' : World}
theorem BF.on (h : BF B ov ovs out g off n cap tvs td w) (hb : Below w.heap.size w w') : BF B ov ovs out g off n cap tvs td w' :=
  ⟨h.o.on hb, h.t.of (hb.block g h.t.lt), h.nn, fun j a b => (h.tw j a b).later hb, h.ne, Nat.le_trans h.sz hb.size⟩
theorem BF.tl (h : BF B ov ovs out g off n cap tvs td w) : tvs.length = td.length := h.t.1.trans h.nn.symm
/-- One way more among the answers. -/
theorem BF.oput (h : BF B ov ovs out g off n cap tvs td w) {u : Value} {a : List ByteArray} (hu : Wd w u a) (hl : out.length ≤ 100000) {m ty : Nat} (hm : out.length + 1 = m) :
    ∃ g2 c2 w', (Builtin.append_ #[23, 23] ty #[ov, .slice (some ⟨w.heap.size, 0, none⟩) 1 1]).run Tryz.prog (w.alloc (.cells #[u] 25)) = .ok (.slice (some ⟨g2, 0, none⟩) m c2) w' ∧
      BF B (.slice (some ⟨g2, 0, none⟩) m c2) (ovs ++ [u]) (out ++ [a]) g off n cap tvs td w' ∧ Below B w w' ∧ Kn w w' := by
  subst hm
  obtain ⟨p, c, e, _⟩ := hu.slice
  obtain ⟨g2, c2, w', h1, h2, h3, h4⟩ := app_one (ty := ty) Tryz.underlying23 info24 (by kernel_rfl) (by decide) (by decide) w B h.o.row (by omega) h.sz #[u] rfl (by
    intro x hx
    simp only [List.mem_cons, List.not_mem_nil, or_false] at hx
    subst hx
    rw [e]; rfl)
  have hk := Kn.grown h.o.row h3
  have hbw := below_row h.o.row h3 (Nat.le_refl _) h.sz
  refine ⟨g2, c2, w', h1, ⟨⟨by rw [List.length_append]; exact h2, fun j x y => ?_⟩, h.t.of (h3.block g h.t.lt (fun e => h.ne g e.symm rfl)), h.nn, fun j a b => (h.tw j a b).kp hk.kp9, fun k hk2 => ?_, Nat.le_trans h.sz hbw.size⟩, hbw, hk⟩
  · by_cases e : j < ovs.length
    · have e2 : j < out.length := by rw [← h.o.n]; exact e
      rw [List.getElem_append_left e, List.getElem_append_left e2]
      exact (h.o.each j e e2).kp hk.kp9
    · have hn := h.o.n
      have e2 : j = ovs.length := by simp at x; omega
      subst e2
      have e3 : (ovs ++ [u])[ovs.length] = u := by simp
      have e4 : (out ++ [a])[ovs.length] = a := by simp [hn]
      rw [e3, e4]
      exact hu.kp hk.kp9
  · have e1 : g2 = k := by simpa [Value.ownBlock] using hk2
    subst e1
    rcases h4 with h4 | h4
    · exact h.ne g2 h4
    · have := h.t.lt; omega
/-- One way more in the queue. -/
theorem BF.tput (h : BF B ov ovs out g off n cap tvs td w) {gb c1 : Nat} {u : Value} {a : List ByteArray} (hb : w.heap[gb]? = some (.cells #[u] 25)) (hu : Wd w u a) (hl : n ≤ 100000) {m ty : Nat} (hm : n + 1 = m) :
    ∃ g' off' cap' w', (Builtin.append_ #[23, 23] ty #[.slice (some ⟨g, off, none⟩) n cap, .slice (some ⟨gb, 0, none⟩) 1 c1]).run Tryz.prog w = .ok (.slice (some ⟨g', off', none⟩) m cap') w' ∧
      BF B ov ovs out g' off' m cap' (tvs ++ [u]) (td ++ [a]) w' ∧ Below B w w' ∧ Kn w w' := by
  subst hm
  obtain ⟨p, c, e, _⟩ := hu.slice
  obtain ⟨g', off', cap', w', h1, h2, h3, h4⟩ := h.t.snoc (ty := ty) (c1 := c1) hb (by rw [e]; rfl) hl h.sz
  have hBg := h.t.2.1
  obtain ⟨_, _, _, _, cur, hgc, _⟩ := h.t
  have hk := Kn.one h3 hgc
  have hbw : Below B w w' := grown_below h3 (fun q hq => by cases hq; exact hBg) h.sz
  refine ⟨g', off', cap', w', h1, ⟨⟨h.o.row.of (fun k hk2 => h3.block k (h.o.row.lt k hk2).2 (fun e => h.ne k hk2 (by cases e; rfl))), fun j a b => (h.o.each j a b).kp hk.kp9⟩, h2, by rw [List.length_append, h.nn]; rfl, fun j x y => ?_, fun k hk2 => ?_, Nat.le_trans h.sz hbw.size⟩, hbw, hk⟩
  · have hn := h.tl
    by_cases e : j < tvs.length
    · have e2 : j < td.length := by rw [← hn]; exact e
      rw [List.getElem_append_left e, List.getElem_append_left e2]
      exact (h.tw j e e2).kp hk.kp9
    · have e2 : j = tvs.length := by simp at x; omega
      subst e2
      have e3 : (tvs ++ [u])[tvs.length] = u := by simp
      have e4 : (td ++ [a])[tvs.length] = a := by simp [hn]
      rw [e3, e4]
      exact hu.kp hk.kp9
  · rcases h4 with h4 | h4
    · rw [h4]; exact h.ne k hk2
    · have := (h.o.row.lt k hk2).2; omega
/-- The first one is gone. -/
theorem BF.tail {u : Value} {r : List Value} {p : List ByteArray} {q : List (List ByteArray)} (h : BF B ov ovs out g off (n + 1) (cap + 1) (u :: r) (p :: q) w) : BF B ov ovs out g (off + 1) n cap r q w :=
  ⟨h.o, h.t.tail, by have := h.nn; simpa using this, fun j a b => by
    have := h.tw (j + 1) (by simpa using a) (by simpa using b)
    simpa using this, h.ne, h.sz⟩
theorem BF.tail0 {u : Value} {r : List Value} {p : List ByteArray} {q : List (List ByteArray)} (h : BF B ov ovs out g off 1 1 (u :: r) (p :: q) w) : BF B ov ovs out g off 0 0 r q w := by
  have ht := h.tail
  obtain ⟨h1, h2, h3, h4, cur, h5, h6, h7⟩ := ht.t
  have hr : r = [] := List.eq_nil_of_length_eq_zero h1
  subst hr
  exact ⟨ht.o, ⟨rfl, h2, Nat.le_refl _, Nat.zero_le _, cur, h5, by omega, fun j u hj => by simp at hj⟩, ht.nn, ht.tw, ht.ne, ht.sz⟩
theorem BF.head {u : Value} {r : List Value} {p : List ByteArray} {q : List (List ByteArray)} (h : BF B ov ovs out g off n cap (u :: r) (p :: q) w) : ∃ a c, u = .slice a p.length c ∧ w.cell? ⟨g, off, none⟩ = some (.slice a p.length c) ∧ Wd w (.slice a p.length c) p ∧ g < w.heap.size := by
  have hw := h.tw 0 (by simp) (by simp)
  simp only [List.getElem_cons_zero] at hw
  obtain ⟨a, c, e, _⟩ := hw.slice
  have hc := h.t.cell (j := 0) (u := u) rfl
  rw [Nat.add_zero] at hc
  subst e
  exact ⟨a, c, rfl, hc, hw, h.t.lt⟩
end
/-- What a call that makes a way answers. -/
def wayV (m : Nat) (q : List ByteArray) : Par.VW := ⟨fun v w => ∃ a c, v = .slice a m c ∧ Wd w v q, fun _ _ _ ⟨a, c, h1, h2⟩ hb => ⟨a, c, h1, h2.later hb⟩⟩
def boxV (m : Nat) (q : List ByteArray) : Par.VW := ⟨fun v w => ∃ g a c, v = .slice (some ⟨g, 0, none⟩) 1 1 ∧ w.heap[g]? = some (.cells #[.slice a m c] 25) ∧ Wd w (.slice a m c) q, fun _ _ _ ⟨g, a, c, h1, h2, h3⟩ hb => ⟨g, a, c, h1, heap_on hb h2, h3.later hb⟩⟩
theorem Kn.cells {w w' : World} (h : Kn w w') {b : Nat} {cur : Array Value} {e : TypeId} {m : Nat × Nat} (hb : w.heap[b]? = some (.cells cur e m)) (he : e ≠ 25) : w'.heap[b]? = some (.cells cur e m) := h b cur e m hb he
end Go.Proofs.YtmfkkpogmmoflaaGreat
