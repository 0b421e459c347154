/- Tables; what is kept of a list. -/
import Derived.Test.YtcgceigcegddlaaTB
import Derived.Test.YtcgceigcegddlaaLS
namespace Go.Proofs.Ytcgceigcegddlaa
open Go Go.RowKit Go.Proofs

/-- A row of tables of one's own. -/
structure TR (B : Nat) (us : List T) (v : Value) (xs : List Value) (w : World) : Prop where
  row : HRow w B 53 4 v us.length xs
  tabs : TabsC w xs us
  sz : B ≤ w.heap.size
theorem rd_row {w : World} {B : Nat} {v : Value} {us : List T} {xs : List Value} (hr : HRow w B 53 4 v us.length xs) (ht : TabsC w xs us) : RdTs w v us := by
  have hx := ht.1
  rcases hr.2 with ⟨h1, h2⟩ | ⟨g, cap, cur, h1, h2, h3, h4, h5, h6, h7⟩
  · have : us = [] := List.eq_nil_of_length_eq_zero h2
    subst this
    rw [h1]; exact RdTs.nil w
  · refine ⟨some ⟨g, 0, none⟩, cap, xs, h1, h4, h5, fun _ => ⟨g, 0, rfl, lt_of_heap h3, fun j u hj => ?_⟩, ht⟩
    rw [Nat.zero_add, nd_cell h3]
    rw [← h7, List.getElem?_take] at hj
    split at hj
    · rw [← Array.getElem?_toList]; exact hj
    · cases hj
section
variable {B : Nat} {w w' : World} {us : List T} {v : Value} {xs : List Value}
theorem TR.on (h : TR B us v xs w) (hb : Below w.heap.size w w') : TR B us v xs w' := ⟨h.row.later hb, h.tabs.kp (.below hb), Nat.le_trans h.sz hb.size⟩
theorem TR.nil (h : B ≤ w.heap.size) : TR B [] (.slice none 0 0) [] w := ⟨HRow.nil, TabsC.nil w, h⟩
theorem TR.app (h : TR B us v xs w) {t : T} {p1 p2 : Option Addr} {n1 c1 n2 c2 ty : Nat} {nm key : ByteArray} (hn : t.nm = nm) (hk : t.key = key) (ht : RdT w (.slice p1 n1 c1) (.slice p2 n2 c2) t) (hl : us.length ≤ 1000) (hty : Try.prog.underlying ty = some (.slice 53)) :
    ∃ g cap w', (Builtin.append_ #[ty, ty] ty #[v, .slice (some ⟨w.heap.size, 0, none⟩) 1 1]).run Try.prog (w.alloc (boxT nm (.slice p1 n1 c1) key (.slice p2 n2 c2))) = .ok (.slice (some ⟨g, 0, none⟩) (us.length + 1) cap) w' ∧
      TR B (us ++ [t]) (.slice (some ⟨g, 0, none⟩) (us.length + 1) cap) (xs ++ [.string nm, .slice p1 n1 c1, .string key, .slice p2 n2 c2]) w' ∧ Below B w w' := by
  subst hn hk
  obtain ⟨g, cap, w', h1, h2, h3, h4⟩ := app_one (ty := ty) hty info34 (by kernel_rfl) (by decide) (by decide) w B h.row (by omega) h.sz #[.string t.nm, .slice p1 n1 c1, .string t.key, .slice p2 n2 c2] rfl (by
    intro u hu
    simp only [List.mem_cons, List.not_mem_nil, or_false] at hu
    rcases hu with rfl | rfl | rfl | rfl <;> rfl)
  have hk := Kp.grown h.row h3
  have hbel : Below B w w' := below_row h.row h3 (Nat.le_refl _) h.sz
  exact ⟨g, cap, w', h1, ⟨by rw [List.length_append]; exact h2, (h.tabs.kp hk).snoc (ht.kp hk), Nat.le_trans h.sz hbel.size⟩, hbel⟩
end
set_option maxRecDepth 100000 in
set_option maxHeartbeats 4000000 in
theorem tables_any {l : List T} {v : Value} {W : World} (h : InTs W v l) : Calls Try.prog 11 #[v] W fun e w' => ∃ p n c xs, e = .returned (.slice p n c) ∧ TR W.heap.size ((l.map cutT).take 12) (.slice p n c) xs w' ∧ n = ((l.map cutT).take 12).length ∧ Below W.heap.size W w' := by
  obtain ⟨p, cap, rfl, hc, hm⟩ := h.slice
  obtain ⟨n, hn⟩ : ∃ n, l.length = n := ⟨_, rfl⟩
  unfold maxLen at hm
  rw [hn] at hc h ⊢
  have HR := Lib.hid h
  have HN := Lib.hid hn
  clear h hn
  go_enter Try.func11, Try.ntmps11
  go_wp2_with fail
  go_loopg [3, 4] (n + 1) (fun gh rv jv w => ∃ (j : Nat) (q : Option Addr) (cq : Nat) (xs : List Value), jv = .int .i64 (j : Int) ∧ j ≤ n ∧ j ≤ 12 ∧ n + 1 ≤ j + gh ∧ rv = .slice q j cq ∧ TR W.heap.size ((l.map cutT).take j) (.slice q j cq) xs w ∧ Below W.heap.size W w)
  case atStart => exact ⟨0, none, 0, [], rfl, Nat.zero_le _, Nat.zero_le _, by omega, rfl, TR.nil (Nat.le_refl _), Below.refl _ _⟩
  case round =>
    obtain ⟨j, q, cq, xs, rfl, hj, hj6, hg, rfl, hR, hB⟩ := hrel
    have HI := Lib.hid (And.intro hR hB)
    by_cases hlt : j < n
    · by_cases hlt6 : j < 12
      · have hjl : j < l.length := by rw [HN.out]; exact hlt
        obtain ⟨b, off, cv, dv, rfl, hb, c0, c1, c2, c3, hT⟩ := InTs.tab (HR.out.on hB) hjl
        obtain ⟨t, ht⟩ : ∃ t, l[j] = t := ⟨_, rfl⟩
        rw [ht] at c0 c2 hT
        have hlen : ((l.map cutT).take j).length = j := by rw [List.length_take, List.length_map, HN.out]; omega
        have htk : (l.map cutT).take (j + 1) = (l.map cutT).take j ++ [cutT t] := by rw [List.take_succ_eq_append_getElem (by simpa using hjl), List.getElem_map, ht]
        have hcall := table_any hT
        obtain ⟨u, hu⟩ : ∃ u, cutT t = u := ⟨_, rfl⟩
        rw [hu] at hcall htk
        obtain ⟨nm, hnm⟩ : ∃ x, u.nm = x := ⟨_, rfl⟩
        obtain ⟨key, hkey⟩ : ∃ x, u.key = x := ⟨_, rfl⟩
        rw [hnm, hkey] at hcall
        have HU := Lib.hid (And.intro hnm (And.intro hkey (And.intro hlen htk)))
        clear hR hB ht hT hu hnm hkey hlen htk hb
        go_wp2_with (first
          | (at_builtin; refine wpList_append_run rfl (.tmp 15) (.tmp 21) 22 rfl rfl rfl hrun ?_)
          | (go_at_call 29; (with_reducible refine hcall.mono ?_); rintro e w2 ⟨p1, n1, c1, p2, n2, c2, ps, rfl, hO, hb2⟩; obtain ⟨g, cap', w3, hrun, h3, hb3⟩ := (HI.out.1.on hb2).app HU.out.1 HU.out.2.1 hO.rd (by rw [HU.out.2.2.1]; omega) Try.underlying22; rw [HU.out.2.2.1] at hrun h3; rw [← HU.out.2.2.2] at h3; have H3 := Lib.hid (And.intro h3 (below_on HI.out.2 hb2 |>.trans hb3)); clear hO hb2 h3 hb3 hcall))
        go_roundg (n - j)
        case measure => omega
        case rel => exact ⟨j + 1, _, _, _, by go_num, by omega, by omega, by omega, rfl, H3.out.1, H3.out.2⟩
      · obtain rfl : j = 12 := by omega
        clear hR hB
        go_wp2_with fail
        go_ret
        exact ⟨_, _, _, _, rfl, HI.out.1, by rw [List.length_take, List.length_map, HN.out]; omega, HI.out.2⟩
    · obtain rfl : j = n := by omega
      clear hR hB
      go_wp2_with fail
      go_ret
      have e : (l.map cutT).take 12 = (l.map cutT).take j := by rw [List.take_of_length_le (by rw [List.length_map, HN.out]; exact hj6), List.take_of_length_le (by rw [List.length_map, HN.out]; exact Nat.le_refl _)]
      exact ⟨_, _, _, _, rfl, by rw [e]; exact HI.out.1, by rw [e, List.length_take, List.length_map, HN.out]; omega, HI.out.2⟩

/-! ### What is kept of a list -/
def kept (us : List T) (i : Nat) : List T := (us.take i).foldl addT []
theorem kept_zero (us : List T) : kept us 0 = [] := rfl
theorem kept_succ (us : List T) (i : Nat) (h : i < us.length) : kept us (i + 1) = addT (kept us i) us[i] := by
  unfold kept
  rw [List.take_succ_eq_append_getElem h, List.foldl_append]; rfl
theorem kept_all : ∀ (l ts : List T), Inv ts → AllFew ts → Inv (l.foldl addT ts) ∧ AllFew (l.foldl addT ts)
  | [], _, h, k => ⟨h, k⟩
  | t :: r, ts, h, k => kept_all r (addT ts t) (h.add t) (k.add t)
theorem kept_inv (us : List T) (i : Nat) : Inv (kept us i) ∧ AllFew (kept us i) := kept_all _ [] nil_inv AllFew.nil
theorem cols_of {ts : List T} {t : T} (h : mayP ts t = 0) : 0 < t.cols.length := by
  obtain ⟨h1, _, _, _⟩ := mayP_zero h
  unfold lim at h1
  simp only [Bool.or_eq_false_iff, decide_eq_false_iff_not] at h1
  omega
theorem cut_sm (t : T) : Sm (cutT t) := by
  refine ⟨Nat.le_trans (cutB_le 20 t.nm) (by decide), fun c hc => ?_⟩
  have hc := List.mem_of_mem_take hc
  obtain ⟨c', _, rfl⟩ := List.mem_map.1 hc
  exact Nat.le_trans (cutB_le 20 c'.nm) (by decide)
theorem cuts_sm (l : List T) : ∀ t ∈ (l.map cutT).take 12, Sm t := fun t ht => by
  obtain ⟨t', _, rfl⟩ := List.mem_map.1 (List.mem_of_mem_take ht)
  exact cut_sm t'
end Go.Proofs.Ytcgceigcegddlaa
