/- What has been found so far, in memory: find, has, add. has, add. -/
import Derived.Test.YtmfkkpogmmoflaaGreatVB
import Derived.Test.YtmfkkpogmmoflaaGreatPG
import Derived.Test.YtmfkkpogmmoflaaGreatPar
namespace Go.Proofs.YtmfkkpogmmoflaaGreat
open Go Go.RowKit Go.Proofs

/-- All blocks but those of flags, of ways' rows, of what has been found. -/
structure Kc (w w' : World) : Prop where
  size : w.heap.size ≤ w'.heap.size
  keep : ∀ (b : Nat) (cur : Array Value) (e : TypeId) (m : Nat × Nat), w.heap[b]? = some (Obj.cells cur e m) → e ≠ 4 → e ≠ 25 → e ≠ 63 → w'.heap[b]? = some (Obj.cells cur e m)
theorem Kc.refl (w : World) : Kc w w := ⟨Nat.le_refl _, fun _ _ _ _ h _ _ _ => h⟩
theorem Kc.trans {w w' w'' : World} (h : Kc w w') (k : Kc w' w'') : Kc w w'' := ⟨Nat.le_trans h.size k.size, fun b cur e m x h4 h34 h56 => k.keep b cur e m (h.keep b cur e m x h4 h34 h56) h4 h34 h56⟩
theorem Kc.below {w w' : World} (h : Below w.heap.size w w') : Kc w w' := ⟨h.size, fun b _ _ _ x _ _ _ => (h.block b (lt_of_heap x)).trans x⟩
theorem Kc.kp9 {w w' : World} (h : Kc w w') : Kp9 w w' := fun b cur m x => h.keep b cur 9 m x (by decide) (by decide) (by decide)
theorem Kc.grown {w w' : World} {o : Option Nat} (hg : w.grownBy w' o) (ho : ∀ q, o = some q → ∃ cur e m, w.heap[q]? = some (.cells cur e m) ∧ (e = 4 ∨ e = 25 ∨ e = 63)) : Kc w w' := ⟨hg.size, fun b cur e m x h4 h34 h56 => by
  refine (hg.block b (lt_of_heap x) (fun eq => ?_)).trans x
  obtain ⟨c2, e2, m2, h1, h2⟩ := ho b eq.symm
  rw [h1] at x
  cases x
  rcases h2 with h2 | h2 | h2
  · exact h4 h2
  · exact h34 h2
  · exact h56 h2⟩
theorem Kc.cells {w w' : World} (h : Kc w w') {b : Nat} {cur : Array Value} {e : TypeId} {m : Nat × Nat} (hb : w.heap[b]? = some (.cells cur e m)) (h4 : e ≠ 4) (h34 : e ≠ 25) (h56 : e ≠ 63) : w'.heap[b]? = some (.cells cur e m) := h.keep b cur e m hb h4 h34 h56
theorem below_set {B : Nat} (w : World) (p : Addr) (v : Value) (h : B ≤ p.block) : Below B w (w.setCell p v) :=
  ⟨rfl, rfl, rfl, by simp, fun k hk => heap_setCell_other w p k v (by omega)⟩
theorem grown_set (w : World) (g i : Nat) (v : Value) : w.grownBy (w.setCell ⟨g, i, none⟩ v) (some g) :=
  ⟨rfl, rfl, rfl, by simp, fun k _ hk => heap_setCell_other w ⟨g, i, none⟩ k v (fun e => hk (by simp [e]))⟩

/-- What has been found so far. -/
structure KI (W : World) (kb : Nat) (pv : Value) (tb : ByteArray) (qs : List (List ByteArray)) (av : Value) (avs : List Value) (iv : Value) (fl : List Bool) (sv : Value) (svs : List Value) (ss : List (List ByteArray)) (w : World) : Prop where
  box : w.heap[kb]? = some (.cells #[pv, .string tb, av, iv, sv] 63)
  all : PR W.heap.size av avs qs w
  inr : HRow w W.heap.size 4 1 iv qs.length (fl.map Value.bool)
  set : PR W.heap.size sv svs ss w
  ne : ∀ k, sv.ownBlock = some k → av.ownBlock ≠ some k
  kb : W.heap.size ≤ kb
  below : Below W.heap.size W w
section
variable {W : World} {kb : Nat} {pv : Value} {tb : ByteArray} {qs ss : List (List ByteArray)} {av iv sv : Value} {avs svs : List Value} {fl : List Bool} {w w' : World} {p : List ByteArray} {u : Value}
theorem KI.on (h : KI W kb pv tb qs av avs iv fl sv svs ss w) (hb : Below w.heap.size w w') : KI W kb pv tb qs av avs iv fl sv svs ss w' :=
  ⟨heap_on hb h.box, h.all.on hb, h.inr.later hb, h.set.on hb, h.ne, h.kb, below_on h.below hb⟩
/-- One flag more. -/
theorem KI.flag {gi cap : Nat} (h : KI W kb pv tb qs av avs (.slice (some ⟨gi, 0, none⟩) qs.length cap) fl sv svs ss w) (i : Nat) (b : Bool) : KI W kb pv tb qs av avs (.slice (some ⟨gi, 0, none⟩) qs.length cap) (fl.set i b) sv svs ss (w.setCell ⟨gi, i, none⟩ (.bool b)) ∧ Kc w (w.setCell ⟨gi, i, none⟩ (.bool b)) := by
  obtain ⟨h1, h2⟩ := h.inr.stored i (.bool b)
  obtain ⟨hgi, cur, hb⟩ := h.inr.block gi rfl
  have ho : ∀ k c e m, w.heap[k]? = some (Obj.cells c e m) → e ≠ 4 → (w.setCell ⟨gi, i, none⟩ (.bool b)).heap[k]? = some (Obj.cells c e m) := fun k c e m hk he => by
    rw [heap_setCell_other w ⟨gi, i, none⟩ k _ (fun e2 => by
      rw [e2, hb] at hk
      cases hk
      exact he rfl)]
    exact hk
  have hrow : ∀ {v : Value} {n : Nat} {xs : List Value}, HRow w W.heap.size 25 1 v n xs → HRow (w.setCell ⟨gi, i, none⟩ (.bool b)) W.heap.size 25 1 v n xs := fun {v n xs} hr => hr.of (fun k hk => by
    obtain ⟨_, c, hc⟩ := hr.block k hk
    rw [ho k c 25 _ hc (by decide), hc])
  have hk9 : Kp9 w (w.setCell ⟨gi, i, none⟩ (.bool b)) := fun k c m hk => ho k c 9 m hk (by decide)
  refine ⟨⟨ho kb _ 63 _ h.box (by decide), ⟨hrow h.all.row, fun j x y => (h.all.each j x y).kp hk9⟩, ?_, ⟨hrow h.set.row, fun j x y => (h.set.each j x y).kp hk9⟩, h.ne, h.kb, h.below.trans (below_set w _ _ hgi)⟩, Kc.grown h2 (fun q hq => by cases hq; exact ⟨cur, 4, _, hb, .inl rfl⟩)⟩
  rw [List.map_set]
  exact h1
/-- One way more. -/
theorem KI.put (h : KI W kb pv tb qs av avs iv fl sv svs ss w) {a : List ByteArray} (hu : Wd w u a) (hl : ss.length ≤ 100000) {m ty : Nat} (hm : ss.length + 1 = m) :
    ∃ g c w', (Builtin.append_ #[23, 23] ty #[sv, .slice (some ⟨w.heap.size, 0, none⟩) 1 1]).run Tryz.prog (w.alloc (.cells #[u] 25)) = .ok (.slice (some ⟨g, 0, none⟩) m c) w' ∧
      w'.heap[kb]? = some (.cells #[pv, .string tb, av, iv, sv] 63) ∧
      KI W kb pv tb qs av avs iv fl (.slice (some ⟨g, 0, none⟩) m c) (svs ++ [u]) (ss ++ [a]) (w'.setCell ⟨kb, 4, none⟩ (.slice (some ⟨g, 0, none⟩) m c)) ∧ Kc w (w'.setCell ⟨kb, 4, none⟩ (.slice (some ⟨g, 0, none⟩) m c)) := by
  subst hm
  obtain ⟨p, c0, e, _⟩ := hu.slice
  have hsz := h.below.size
  obtain ⟨g, c, w', h1, h2, h3, h4⟩ := app_one (ty := ty) Tryz.underlying23 info24 (by kernel_rfl) (by decide) (by decide) w W.heap.size h.set.row (by omega) hsz #[u] rfl (by
    intro x hx
    simp only [List.mem_cons, List.not_mem_nil, or_false] at hx
    subst hx
    rw [e]; rfl)
  have hkc : Kc w w' := Kc.grown h3 (fun q hq => by
    obtain ⟨_, cur, hb⟩ := h.set.row.block q hq
    exact ⟨cur, 25, _, hb, .inr (.inl rfl)⟩)
  have hold : ∀ k c e m, w.heap[k]? = some (Obj.cells c e m) → sv.ownBlock ≠ some k → w'.heap[k]? = some (Obj.cells c e m) := fun k c e m hk hne => (h3.block k (lt_of_heap hk) (fun eq => hne eq.symm)).trans hk
  have hty : ∀ k c e m, w.heap[k]? = some (Obj.cells c e m) → e ≠ 25 → sv.ownBlock ≠ some k := fun k c e m hk he hs => by
    obtain ⟨_, cur, hb⟩ := h.set.row.block k hs
    rw [hb] at hk
    cases hk
    exact he rfl
  have hbox : w'.heap[kb]? = some (.cells #[pv, .string tb, av, iv, sv] 63) := hold kb _ 63 _ h.box (hty kb _ 63 _ h.box (by decide))
  have hset : (w'.setCell ⟨kb, 4, none⟩ (.slice (some ⟨g, 0, none⟩) (ss.length + 1) c)).heap[kb]? = some (.cells #[pv, .string tb, av, iv, .slice (some ⟨g, 0, none⟩) (ss.length + 1) c] 63) := by
    have := heap_setCell_same w' kb 4 _ 63 (.slice (some ⟨g, 0, none⟩) (ss.length + 1) c) hbox
    exact this
  have hg34 : g ≠ kb := fun e2 => by
    obtain ⟨_, cur, hb⟩ := h2.block g rfl
    rw [e2, hbox] at hb
    cases hb
  have hother : ∀ k, k ≠ kb → (w'.setCell ⟨kb, 4, none⟩ (.slice (some ⟨g, 0, none⟩) (ss.length + 1) c)).heap[k]? = w'.heap[k]? := fun k hk => heap_setCell_other w' ⟨kb, 4, none⟩ k _ hk
  have hkc2 : Kc w' (w'.setCell ⟨kb, 4, none⟩ (.slice (some ⟨g, 0, none⟩) (ss.length + 1) c)) := Kc.grown (grown_set w' kb 4 _) (fun q hq => by cases hq; exact ⟨_, 63, _, hbox, .inr (.inr rfl)⟩)
  have hkc3 := hkc.trans hkc2
  have hblk : ∀ k cu e m, w.heap[k]? = some (Obj.cells cu e m) → e ≠ 63 → sv.ownBlock ≠ some k → (w'.setCell ⟨kb, 4, none⟩ (.slice (some ⟨g, 0, none⟩) (ss.length + 1) c)).heap[k]? = some (Obj.cells cu e m) := fun k cu e m hk he hs => by
    rw [hother k (fun e2 => by rw [e2, h.box] at hk; cases hk; exact he rfl)]
    exact hold k cu e m hk hs
  refine ⟨g, c, w', h1, hbox, ⟨hset, ⟨h.all.row.of (fun k hk => ?_), fun j x y => (h.all.each j x y).kp hkc3.kp9⟩, h.inr.of (fun k hk => ?_), ⟨?_, fun j x y => ?_⟩, fun k hk hk2 => ?_, h.kb, ?_⟩, hkc3⟩
  · obtain ⟨_, cur, hb⟩ := h.all.row.block k hk
    rw [hblk k _ 25 _ hb (by decide) (fun hs => h.ne k hs hk), hb]
  · obtain ⟨_, cur, hb⟩ := h.inr.block k hk
    rw [hblk k _ 4 _ hb (by decide) (hty k _ 4 _ hb (by decide)), hb]
  · rw [List.length_append]
    refine h2.of (fun k hk => hother k (fun e2 => ?_))
    cases hk
    exact hg34 e2
  · by_cases e : j < svs.length
    · have e2 : j < ss.length := by rw [← h.set.n]; exact e
      rw [List.getElem_append_left e, List.getElem_append_left e2]
      exact (h.set.each j e e2).kp hkc3.kp9
    · have hn := h.set.n
      have e2 : j = svs.length := by simp at x; omega
      subst e2
      have e3 : (svs ++ [u])[svs.length] = u := by simp
      have e4 : (ss ++ [a])[svs.length] = a := by simp [hn]
      rw [e3, e4]
      exact hu.kp hkc3.kp9
  · cases hk
    have := (h.all.row.lt g hk2).2
    rcases h4 with h4 | h4
    · exact h.ne g h4 hk2
    · omega
  · exact (h.below.trans (grown_below h3 (fun q hq => (h.set.row.lt q hq).1) hsz)).trans (below_set w' _ _ h.kb)

/-! ### find -/
set_option maxRecDepth 100000 in
set_option maxHeartbeats 1000000 in
theorem kfind_any (h : KI W kb pv tb qs av avs iv fl sv svs ss w) (hu : Wd w u p) (hl : qs.length ≤ 2000) (hs : qs.Pairwise (fun a b => cmpP a b < 0)) : Calls Tryz.prog 44 #[(Value.pointer (some ⟨kb, 0, none⟩)), u] w (FoundAt qs p w) := by
  have hbs := bs_any h.all.rdw hu (by omega) hs
  have z2 := nd_cell h.box 2
  have zl := lt_of_heap h.box
  obtain ⟨pa, ca, rfl, _, _⟩ := h.all.row.isslice
  obtain ⟨qu, cu, rfl, _, _⟩ := hu.slice
  obtain ⟨r, hr⟩ : ∃ r, inP qs p = r := ⟨_, rfl⟩
  obtain ⟨n, hn⟩ : ∃ n, qs.length = n := ⟨_, rfl⟩
  rw [hn] at z2 hbs
  have HR := Lib.hid hr
  clear h hu hs hr hn hl
  go_enter Tryz.func44, Tryz.ntmps44
  go_wp2_with (go_at_call 35; (with_reducible refine hbs.mono ?_); rintro e w1 ⟨i, rfl, h1, h2, hb⟩; have H := Lib.hid (And.intro h1 (And.intro h2 hb)); rw [HR.out]; clear h1 h2 hb hbs)
  go_ret2
  exact ⟨i, by rw [HR.out]; rfl, H.out.1, H.out.2.1, H.out.2.2⟩
end
end Go.Proofs.YtmfkkpogmmoflaaGreat
namespace Go.Proofs.YtmfkkpogmmoflaaGreat
open Go Go.RowKit Go.Proofs

/-- What has been found, whatever its memory is. -/
structure KN (W : World) (kb : Nat) (pv : Value) (tb : ByteArray) (qs ss : List (List ByteArray)) (w : World) : Prop where
  ki : ∃ av avs iv sv svs, KI W kb pv tb qs av avs iv (qs.map (inP ss)) sv svs ss w
  sub : ∀ x ∈ ss, x ∈ qs
  nodup : ss.Nodup
/-- All ways, in order, not too many. -/
structure FewQ (qs : List (List ByteArray)) : Prop where
  len : qs.length ≤ 2000
  srt : qs.Pairwise (fun a b => cmpP a b < 0)
section
variable {W : World} {kb : Nat} {pv : Value} {tb : ByteArray} {qs ss : List (List ByteArray)} {w w' : World} {p : List ByteArray} {u : Value}
theorem KN.on (h : KN W kb pv tb qs ss w) (hb : Below w.heap.size w w') : KN W kb pv tb qs ss w' := by
  obtain ⟨av, avs, iv, sv, svs, hk⟩ := h.ki
  exact ⟨⟨av, avs, iv, sv, svs, hk.on hb⟩, h.sub, h.nodup⟩
theorem KN.below (h : KN W kb pv tb qs ss w) : Below W.heap.size W w := by
  obtain ⟨_, _, _, _, _, hk⟩ := h.ki
  exact hk.below
theorem nodup_at {α : Type} {l : List α} (h : l.Nodup) {i j : Nat} (hi : i < l.length) (hj : j < l.length) (e : l[i] = l[j]) : i = j := by
  rcases Nat.lt_trichotomy i j with h1 | h1 | h1
  · exact absurd e (List.pairwise_iff_getElem.1 h i j hi hj h1)
  · exact h1
  · exact absurd e.symm (List.pairwise_iff_getElem.1 h j i hj hi h1)
theorem flag_put {i : Nat} (hf : FewQ qs) (hi : qs[i]? = some p) : (qs.map (inP ss)).set i true = qs.map (inP (ss ++ [p])) := by
  obtain ⟨hil, e⟩ := List.getElem?_eq_some_iff.1 hi
  apply List.ext_getElem
  · simp
  intro j h1 h2
  rw [List.getElem_set, List.getElem_map, List.getElem_map]
  have hj : j < qs.length := by simpa using h2
  split
  · rename_i hij
    subst hij
    rw [e]
    exact (inP_iff.2 (by simp)).symm
  · rename_i hij
    rw [Bool.eq_iff_iff, inP_iff, inP_iff, List.mem_append, List.mem_singleton]
    refine ⟨Or.inl, fun h => h.elim id (fun e2 => absurd ?_ hij)⟩
    exact (nodup_at (nodup_sorted hf.srt) hj hil (e2.trans e.symm)).symm

set_option maxRecDepth 100000 in
set_option maxHeartbeats 1000000 in
theorem khas_any (h : KN W kb pv tb qs ss w) (hu : Wd w u p) (hf : FewQ qs) : Calls Tryz.prog 69 #[(Value.pointer (some ⟨kb, 0, none⟩)), u] w fun e w' => e = .returned (.bool (inP ss p)) ∧ Below w.heap.size w w' := by
  obtain ⟨av, avs, iv, sv, svs, hk⟩ := h.ki
  have hfind := kfind_any hk hu hf.len hf.srt
  have HK := Lib.hid (And.intro hk h.sub)
  obtain ⟨qu, cu, rfl, _, _⟩ := hu.slice
  obtain ⟨r, hr⟩ : ∃ r, inP qs p = r := ⟨_, rfl⟩
  have HR := Lib.hid (And.intro hr hf)
  obtain ⟨z, hz⟩ : ∃ z, inP ss p = z := ⟨_, rfl⟩
  rw [hz]
  have HZ := Lib.hid hz
  clear h hu hf hk hr hz
  go_enter Tryz.func69, Tryz.ntmps69
  go_upto_region 2 with (go_at_call 44; (with_reducible refine hfind.mono ?_); rintro e w1 ⟨i, rfl, h1, h2, hb⟩; have H := Lib.hid (And.intro h1 (And.intro h2 hb)); rw [HR.out.1]; clear h1 h2 hb hfind)
  cases r
  · have hz : z = false := by
      rw [← HZ.out, inP_no]
      intro hm
      exact inP_no.1 HR.out.1 (HK.out.2 _ hm)
    subst hz
    go_wp2_with fail
    go_ret
    exact ⟨rfl, H.out.2.2⟩
  · have hi := H.out.2.1 HR.out.1
    obtain ⟨hil, he⟩ := List.getElem?_eq_some_iff.1 hi
    have hK1 := HK.out.1.on H.out.2.2
    obtain ⟨gi, ci, rfl, hn, hm⟩ := hK1.inr.slice (by omega)
    have hcell := hK1.inr.cell (j := i) (u := .bool z) (by rw [List.getElem?_map, List.getElem?_map, hi, ← HZ.out]; rfl)
    have z3 := nd_cell hK1.box 3
    have zl := lt_of_heap hK1.box
    obtain ⟨n, hnn⟩ : ∃ n, qs.length = n := ⟨_, rfl⟩
    rw [hnn] at z3 hn hil
    clear hK1 hi he hnn
    go_wp2_with fail
    go_ret
    exact ⟨rfl, H.out.2.2⟩

theorem addW_in {p : List ByteArray} (h1 : inP qs p = true) (h2 : inP ss p = false) : addW qs ss p = ss ++ [p] := by unfold addW; rw [if_pos ⟨h1, h2⟩]
theorem addW_out {p : List ByteArray} (h1 : inP qs p = false) : addW qs ss p = ss := by unfold addW; rw [if_neg (fun h => by rw [h1] at h; cases h.1)]
theorem addW_there {p : List ByteArray} (h1 : inP ss p = true) : addW qs ss p = ss := by unfold addW; rw [if_neg (fun h => by rw [h1] at h; cases h.2)]
theorem KN.few (h : KN W kb pv tb qs ss w) (hf : FewQ qs) : ss.length ≤ 2000 := Nat.le_trans (nodup_le h.nodup h.sub) hf.len
set_option maxRecDepth 100000 in
set_option maxHeartbeats 4000000 in
theorem kadd_any (h : KN W kb pv tb qs ss w) (hu : Wd w u p) (hf : FewQ qs) : Calls Tryz.prog 31 #[(Value.pointer (some ⟨kb, 0, none⟩)), u] w fun e w' => e = .returned (.tuple #[]) ∧ KN W kb pv tb qs (addW qs ss p) w' ∧ Kc w w' := by
  obtain ⟨av, avs, iv, sv, svs, hk⟩ := h.ki
  have hfind := kfind_any hk hu hf.len hf.srt
  have HK := Lib.hid (And.intro hk h)
  obtain ⟨qu, cu, rfl, _, _⟩ := hu.slice
  obtain ⟨r, hr⟩ : ∃ r, inP qs p = r := ⟨_, rfl⟩
  have HR := Lib.hid (And.intro hr hf)
  obtain ⟨z, hz⟩ : ∃ z, inP ss p = z := ⟨_, rfl⟩
  have HZ := Lib.hid hz
  clear h hu hf hk hr hz
  go_enter Tryz.func31, Tryz.ntmps31
  go_upto_region 1 with (go_at_call 44; (with_reducible refine hfind.mono ?_); rintro e w1 ⟨i, rfl, h1, h2, hb⟩; have H := Lib.hid (And.intro h1 (And.intro h2 hb)); rw [HR.out.1]; clear h1 h2 hb hfind)
  cases r
  · go_wp2_with fail
    refine bodyPost_ret (v := .tuple #[]) (by simp [results, Tryz.results31, go_sem]) rfl ?_
    rw [addW_out HR.out.1]
    exact ⟨rfl, HK.out.2.on H.out.2.2, .below H.out.2.2⟩
  · have hi := H.out.2.1 HR.out.1
    obtain ⟨hil, he⟩ := List.getElem?_eq_some_iff.1 hi
    have hK1 := HK.out.1.on H.out.2.2
    have HI := Lib.hid hi
    obtain ⟨gi, ci, rfl, hn, hm⟩ := hK1.inr.slice (by omega)
    have hcell := hK1.inr.cell (j := i) (u := .bool z) (by rw [List.getElem?_map, List.getElem?_map, hi, ← HZ.out]; rfl)
    have hfz := hK1.inr.frozenAt i
    have hlt := (hK1.inr.lt gi rfl).2
    have z3 := nd_cell hK1.box 3
    have zl := lt_of_heap hK1.box
    obtain ⟨n, hnn⟩ : ∃ n, qs.length = n := ⟨_, rfl⟩
    have HN := Lib.hid hnn
    rw [hnn] at z3 hn hil
    cases z
    · have hfl := hK1.flag i true
      rw [flag_put HR.out.2 hi] at hfl
      obtain ⟨ga, ca, rfl, _, _⟩ := hK1.all.row.slice (by omega)
      have HF := Lib.hid hfl
      clear hK1 hi he hnn hfl
      go_upto_region 3 with fail
      obtain ⟨w2, hw2⟩ : ∃ x, w1.setCell ⟨gi, i, none⟩ (.bool true) = x := ⟨_, rfl⟩
      rw [hw2] at HF ⊢
      rw [HN.out] at HF
      have hfl := HF.out.1
      have hil2 : i < qs.length := by rw [HN.out]; exact hil
      obtain ⟨pe, ce, hce, hwe, _⟩ := hfl.all.elem hil2
      have hqe : qs[i] = p := (List.getElem?_eq_some_iff.1 HI.out).2
      rw [hqe] at hce hwe
      obtain ⟨m, hm⟩ : ∃ m, p.length = m := ⟨_, rfl⟩
      rw [hm] at hce hwe
      have HW := Lib.hid (And.intro hfl hwe)
      have hss := HK.out.2.few HR.out.2
      obtain ⟨m1, hm1⟩ : ∃ m, ss.length + 1 = m := ⟨_, rfl⟩
      obtain ⟨g2, c2, w3, hrun, hbox, hk3, hkc⟩ := (hfl.on (below_drew w2)).put (ty := 23) (hwe.later (below_drew w2)) (by omega) hm1
      have HE := Lib.hid (And.intro hk3 (HF.out.2.trans ((Kc.below (below_drew w2)).trans hkc)))
      have v4 := nd_cell hbox 4
      have vf := frozen_of_row w3 kb 4 _ _ hbox
      have vl := lt_of_heap hbox
      have z4 := nd_cell HW.out.1.box 4
      have z2 := nd_cell HW.out.1.box 2
      have zl2 := lt_of_heap HW.out.1.box
      clear hfl hwe hm hw2 hcell hfz hlt z3 zl hqe hil2 hk3 hkc hbox hss hm1
      go_region_law (refine step_append_run rfl (.tmp 33) (.tmp 41) 23 rfl rfl rfl hrun ?_)
      all_goals
        go_wp2_with fail
        go_end0
        have hq : p ∈ qs := inP_iff.1 HR.out.1
        have hn2 : p ∉ ss := inP_no.1 HZ.out
        rw [addW_in HR.out.1 HZ.out]
        refine ⟨rfl, ⟨⟨_, _, _, _, _, HE.out.1⟩, fun x hx => ?_, ?_⟩, (Kc.below H.out.2.2).trans HE.out.2⟩
        · rw [List.mem_append, List.mem_singleton] at hx
          exact hx.elim (HK.out.2.sub x) (fun e => e ▸ hq)
        · have := addW_nodup (qs := qs) (p := p) HK.out.2.nodup
          rw [addW_in HR.out.1 HZ.out] at this
          exact this
    · clear hK1 hi he hnn
      go_wp2_with fail
      refine bodyPost_ret (v := .tuple #[]) (by simp [results, Tryz.results31, go_sem]) rfl ?_
      rw [addW_there HZ.out]
      exact ⟨rfl, HK.out.2.on H.out.2.2, .below H.out.2.2⟩
end
end Go.Proofs.YtmfkkpogmmoflaaGreat
