/- follow. -/
import Derived.Test.YtmfkkpogmmoflaaGreatVF
namespace Go.Proofs.YtmfkkpogmmoflaaGreat
open Go Go.RowKit Go.Proofs

theorem Wd.take {w : World} {q : Option Addr} {m c k : Nat} {l : List ByteArray} (h : Wd w (.slice q m c) l) (hk : k ≤ m) : Wd w (.slice q k c) (l.take k) := by
  obtain ⟨p, cap, e, h1, h2, h3, h4⟩ := h
  obtain ⟨rfl, rfl, rfl⟩ := Value.slice.inj e
  have hl : (l.take k).length = k := by rw [List.length_take]; omega
  refine ⟨q, c, by rw [hl], by omega, h2, h3, fun h0 => ?_⟩
  obtain ⟨b, off, cur, me, k1, k2, k3⟩ := h4 (by omega)
  exact ⟨b, off, cur, me, k1, k2, fun j hj => by rw [List.getElem_take]; exact k3 j (by omega)⟩
theorem KT.dep {w : World} {cv : Value} {p : Option Addr} {n c : Nat} {t : T} (h : KT w cv (.slice p n c) t) {i : Nat} (hi : i < t.deps.length) : ∃ b off lv, p = some ⟨b, off, none⟩ ∧ b < w.heap.size ∧ w.cell? ⟨b, off + i * 2, none⟩ = some lv ∧ w.cell? ⟨b, off + i * 2 + 1, none⟩ = some (.string t.deps[i].right) ∧ Wd w lv t.deps[i].left := by
  obtain ⟨base, ps, h⟩ := h
  have hn := h.n
  obtain ⟨g, cap, e, _, _⟩ := h.d.slice (by omega)
  obtain ⟨rfl, rfl, rfl⟩ := Value.slice.inj e
  obtain ⟨c0, c1⟩ := cellsD_at ps t.deps i (by omega) hi
  exact ⟨g, 0, ps[i]'(by omega), rfl, (h.d.lt g rfl).2, by rw [Nat.zero_add]; exact h.d.cell c0, by rw [Nat.zero_add]; exact h.d.cell c1, (h.l i (by omega) hi).wd⟩
theorem KT.turn {B : Nat} {w w' : World} {cv dv : Value} {t : T} (h : KT w cv dv t) (ht : Par.Turn B 46 w w') : KT w' cv dv t := by
  obtain ⟨base, ps, h⟩ := h
  have hr : ∀ {e : TypeId} {size : Nat} {v : Value} {n : Nat} {xs : List Value}, HRow w base e size v n xs → e ≠ 46 → HRow w' base e size v n xs := fun hx he => hx.of fun k hk => by
    obtain ⟨_, cur, hb⟩ := hx.block k hk
    rw [ht.keep k _ _ _ hb he, hb]
  exact ⟨base, ps, hr h.c (by decide), h.n, hr h.d (by decide), fun j a b => hr (h.l j a b) (by decide)⟩
/-- What Find answers, and its first part. -/
def tupV (B : Nat) (t : T) (ok : Bool) : Par.VB B 46 := ⟨fun v w => ∃ p1 n1 c1 p2 n2 c2, v = .tuple #[.agg #[.string t.nm, .slice p1 n1 c1, .string t.key, .slice p2 n2 c2], .bool ok] ∧ KT w (.slice p1 n1 c1) (.slice p2 n2 c2) t, fun _ _ _ ⟨p1, n1, c1, p2, n2, c2, h1, h2⟩ ht => ⟨p1, n1, c1, p2, n2, c2, h1, h2.turn ht⟩⟩
def tblV (B : Nat) (t : T) : Par.VB B 46 := ⟨fun v w => ∃ p1 n1 c1 p2 n2 c2, v = .agg #[.string t.nm, .slice p1 n1 c1, .string t.key, .slice p2 n2 c2] ∧ KT w (.slice p1 n1 c1) (.slice p2 n2 c2) t, fun _ _ _ ⟨p1, n1, c1, p2, n2, c2, h1, h2⟩ ht => ⟨p1, n1, c1, p2, n2, c2, h1, h2.turn ht⟩⟩
section
variable {W : World} {kb : Nat} {pv : Value} {tb : ByteArray} {qs ss : List (List ByteArray)} {w w' : World} {a p : List ByteArray} {vp : Value} {ts : List T} {t : T}
theorem depsW_succ {ds : List D} {j : Nat} (h : j < ds.length) : depsW ts t qs a ss (ds.take (j + 1)) = depW ts t qs a (depsW ts t qs a ss (ds.take j)) ds[j] := by
  unfold depsW
  rw [List.take_succ_eq_append_getElem h, List.foldl_append]
  rfl
set_option maxRecDepth 100000 in
set_option maxHeartbeats 8000000 in
theorem kfollow_any (hF : AllFew ts) (h : KN W kb pv tb qs ss w) (hs : SchP W pv ts) (hp : Wd w vp p) (hl1 : 1 ≤ p.length) (hl4 : p.length ≤ 4) (hf : FewQ qs) : Calls Tryz.prog 32 #[(Value.pointer (some ⟨kb, 0, none⟩)), vp] w fun e w' => e = .returned (.tuple #[]) ∧ KN W kb pv tb qs (followW ts tb qs ss p) w' ∧ Kc w w' := by
  obtain ⟨pp, cp, rfl, hc, hm⟩ := hp.slice
  obtain ⟨k, hk⟩ : ∃ k, p.length = k + 1 := ⟨p.length - 1, by omega⟩
  rw [hk] at hp hc ⊢
  obtain ⟨av, avs, iv, sv, svs, hki⟩ := h.ki
  obtain ⟨r, hr⟩ : ∃ r, pcolL ts tb p = r := ⟨_, rfl⟩
  obtain ⟨⟨nm, kd, mu, tg⟩, u, er⟩ := r
  have hcol : ∀ y, Below w.heap.size w y → Calls Tryz.prog 45 #[pv, .string tb, .slice pp (k + 1) cp] y fun e w' => e = .returned (.tuple #[.agg #[.string nm, .int .i64 kd, .bool mu, .string tg], .string u, .int .i64 er]) ∧ Below y.heap.size y w' := fun y hb => by
    have := pathCol_any (tb := tb) (hs.later (h.on hb).below) (hp.later hb)
    rw [hr] at this
    exact this
  obtain ⟨t1, ht1⟩ : ∃ t1, orT (findT ts tg) = t1 := ⟨_, rfl⟩
  obtain ⟨ok1, hok1⟩ : ∃ ok1, hasT ts tg = ok1 := ⟨_, rfl⟩
  obtain ⟨t2, ht2⟩ : ∃ t2, orT (findT ts u) = t2 := ⟨_, rfl⟩
  obtain ⟨ok2, hok2⟩ : ∃ ok2, hasT ts u = ok2 := ⟨_, rfl⟩
  have hf1 : ∀ y, Below W.heap.size W y → Calls Tryz.prog 46 #[pv, .string tg] y _ := fun y hb => sFind_own (hs.later hb) hF ht1 hok1
  have hf2 : ∀ y, Below W.heap.size W y → Calls Tryz.prog 46 #[pv, .string u] y _ := fun y hb => sFind_own (hs.later hb) hF ht2 hok2
  have hfol : followW ts tb qs ss p = depsW ts t2 qs p.dropLast (if eqS nm t2.key = true then keyedW qs (refW ts tb qs ss p) p.dropLast t2 else refW ts tb qs ss p) t2.deps := by
    unfold followW keyW
    rw [hr, ht2]
  have href : refW ts tb qs ss p = if ok1 = true then colsW qs ss p t1.cols else ss := by
    unfold refW
    rw [hr, hok1, ht1]
  have H0 := Lib.hid (And.intro h (And.intro hp (And.intro hki.box (And.intro hcol (And.intro hf1 hf2)))))
  have HP := Lib.hid (And.intro hfol (And.intro href (And.intro hk (And.intro hl4 (And.intro hf hs)))))
  obtain ⟨pb, po, hpb⟩ : ∃ b off, pp = some ⟨b, off, none⟩ := by
    obtain ⟨b, off, e, _⟩ := hp.word (i := 0) (by omega)
    exact ⟨b, off, e⟩
  subst hpb
  clear h hs hp hl1 hl4 hf hki hcol hf1 hf2 hfol href hr ht1 hok1 ht2 hok2 hk
  unfold maxLen at hm
  go_enter Tryz.func32, Tryz.ntmps32
  go_upto_region 0 with fail
  refine Par.wp_region_box 18 14 15 11 (w.heap.size) 54 (#[.string e0, .int .i64 0, .bool false, .string e0]) (Par.aggC) (fun y => Below w.heap.size w y) (Par.VBL [(.eq (Value.pointer (some ⟨kb, 0, none⟩))), (.eq (Value.pointer (some ⟨kb, 0, none⟩))), (.eq (Value.pointer (some ⟨kb, 0, none⟩))), (.eq pv), (.eq (Value.pointer (some ⟨kb, 0, none⟩))), (.eq (Value.pointer (some ⟨kb, 0, none⟩))), (.eq (Value.pointer (some ⟨kb, 1, none⟩))), (.eq (.string tb)), (.eq (.slice (some ⟨pb, po, none⟩) (k + 1) cp)), (.eq (.tuple #[.agg #[.string nm, .int .i64 kd, .bool mu, .string tg], .string u, .int .i64 er])), (.eq (.tuple #[.agg #[.string nm, .int .i64 kd, .bool mu, .string tg], .string u, .int .i64 er])), (.eq (.agg #[.string nm, .int .i64 kd, .bool mu, .string tg])), (.eq (.string u)), (.eq (.int .i64 er)), (.any), (.any), (.eq (.string u)), (.eq (.int .i64 er))]) ?A1 ?hm1 ?hB1 (fun w w' h ht => h.trans ht.below) (Par.VBL.mono _) (fun w h => h.size) ?hA1 ((below_drew w)) (by decide) (by decide) (by decide) (by kernel_rfl) (by kernel_rfl) (by decide) ?hop1 ?hT1
  case hm1 => kernel_rfl
  case hB1 => kernel_rfl
  case hA1 =>
    intro vs
    simp only [Par.putA, Par.dstAt, Act.put, List.getElem?_toArray, List.getElem?_cons_zero, List.getElem?_cons_succ, Option.bind_some, List.setIfInBounds_toArray, List.set_cons_zero, List.set_cons_succ]
    rfl
  case hop1 =>
    have hkd : (List.range 18).map (Par.kdOf 14 15) = [.val, .val, .val, .val, .val, .val, .val, .val, .val, .val, .val, .val, .val, .val, .new, .put, .val, .val] := rfl
    simp only [hkd, List.take_succ_cons, List.take_zero, Par.GiveAllB, and_true]
    refine ⟨fun vs w hK hd => ?_, fun vs w hK hd => ?_, fun vs w hK hd => ?_, fun vs w hK hd => ?_, fun vs w hK hd => ?_, fun vs w hK hd => ?_, fun vs w hK hd => ?_, fun vs w hK hd => ?_, fun vs w hK hd => ?_, fun vs w hK hd => ?_, fun vs w hK hd => ?_, fun vs w hK hd => ?_, fun vs w hK hd => ?_, fun vs w hK hd => ?_, fun vs w hK => ?_, fun vs w g hK hd a hz => ?_, fun vs w hK hd => ?_, fun vs w hK hd => ?_⟩
    · clear hd
      simp only [Par.GivesW]
      go_simp
      all_goals exact ⟨rfl, Below.refl _ _⟩
    · have d0 := hd 0 (by decide) (by decide) (by decide) (by kernel_rfl)
      replace d0 : vs 0 = (Value.pointer (some ⟨kb, 0, none⟩)) := d0
      clear hd
      simp only [Par.GivesW, d0]
      go_simp
      all_goals exact ⟨rfl, Below.refl _ _⟩
    · have d1 := hd 1 (by decide) (by decide) (by decide) (by kernel_rfl)
      replace d1 : vs 1 = (Value.pointer (some ⟨kb, 0, none⟩)) := d1
      clear hd
      simp only [Par.GivesW, d1]
      go_simp
      all_goals exact ⟨rfl, Below.refl _ _⟩
    · have d2 := hd 2 (by decide) (by decide) (by decide) (by kernel_rfl)
      replace d2 : vs 2 = (Value.pointer (some ⟨kb, 0, none⟩)) := d2
      have k := nd_cell (heap_on hK H0.out.2.2.1) 0
      clear hd
      simp only [Par.GivesW, d2]
      go_simp
      all_goals exact ⟨rfl, Below.refl _ _⟩
    · clear hd
      simp only [Par.GivesW]
      go_simp
      all_goals exact ⟨rfl, Below.refl _ _⟩
    · have d4 := hd 4 (by decide) (by decide) (by decide) (by kernel_rfl)
      replace d4 : vs 4 = (Value.pointer (some ⟨kb, 0, none⟩)) := d4
      clear hd
      simp only [Par.GivesW, d4]
      go_simp
      all_goals exact ⟨rfl, Below.refl _ _⟩
    · have d5 := hd 5 (by decide) (by decide) (by decide) (by kernel_rfl)
      replace d5 : vs 5 = (Value.pointer (some ⟨kb, 0, none⟩)) := d5
      clear hd
      simp only [Par.GivesW, d5]
      go_simp
      all_goals exact ⟨rfl, Below.refl _ _⟩
    · have d6 := hd 6 (by decide) (by decide) (by decide) (by kernel_rfl)
      replace d6 : vs 6 = (Value.pointer (some ⟨kb, 1, none⟩)) := d6
      have k := nd_cell (heap_on hK H0.out.2.2.1) 1
      clear hd
      simp only [Par.GivesW, d6]
      go_simp
      all_goals exact ⟨rfl, Below.refl _ _⟩
    · clear hd
      simp only [Par.GivesW]
      go_simp
      all_goals exact ⟨rfl, Below.refl _ _⟩
    · have d3 := hd 3 (by decide) (by decide) (by decide) (by kernel_rfl)
      replace d3 : vs 3 = pv := d3
      have d7 := hd 7 (by decide) (by decide) (by decide) (by kernel_rfl)
      replace d7 : vs 7 = (.string tb) := d7
      have d8 := hd 8 (by decide) (by decide) (by decide) (by kernel_rfl)
      replace d8 : vs 8 = (.slice (some ⟨pb, po, none⟩) (k + 1) cp) := d8
      clear hd
      simp only [Par.GivesW, d3, d7, d8]
      go_simp
      exact (H0.out.2.2.2.1 w hK).mono (fun e w'' h => ⟨_, h.1, ⟨rfl, h.2⟩⟩)
    · have d9 := hd 9 (by decide) (by decide) (by decide) (by kernel_rfl)
      replace d9 : vs 9 = (.tuple #[.agg #[.string nm, .int .i64 kd, .bool mu, .string tg], .string u, .int .i64 er]) := d9
      clear hd
      simp only [Par.GivesW, d9]
      go_simp
      all_goals exact ⟨rfl, Below.refl _ _⟩
    · have d10 := hd 10 (by decide) (by decide) (by decide) (by kernel_rfl)
      replace d10 : vs 10 = (.tuple #[.agg #[.string nm, .int .i64 kd, .bool mu, .string tg], .string u, .int .i64 er]) := d10
      clear hd
      simp only [Par.GivesW, d10]
      go_simp
      all_goals exact ⟨rfl, Below.refl _ _⟩
    · have d10 := hd 10 (by decide) (by decide) (by decide) (by kernel_rfl)
      replace d10 : vs 10 = (.tuple #[.agg #[.string nm, .int .i64 kd, .bool mu, .string tg], .string u, .int .i64 er]) := d10
      clear hd
      simp only [Par.GivesW, d10]
      go_simp
      all_goals exact ⟨rfl, Below.refl _ _⟩
    · have d10 := hd 10 (by decide) (by decide) (by decide) (by kernel_rfl)
      replace d10 : vs 10 = (.tuple #[.agg #[.string nm, .int .i64 kd, .bool mu, .string tg], .string u, .int .i64 er]) := d10
      clear hd
      simp only [Par.GivesW, d10]
      go_simp
      all_goals exact ⟨rfl, Below.refl _ _⟩
    · clear hK
      simp only [Par.GivesW]
      go_simp
      all_goals exact ⟨rfl, rfl⟩
    · have d11 := hd 11 (by decide) (by decide) (by decide) (by kernel_rfl)
      replace d11 : vs 11 = (.agg #[.string nm, .int .i64 kd, .bool mu, .string tg]) := d11
      have z0 := nd_cell hz 0
      have z1 := nd_cell hz 1
      have z2 := nd_cell hz 2
      have z3 := nd_cell hz 3
      have zf := fun i => frozen_of_row w g i _ _ hz
      have zl := lt_of_heap hz
      have HZ := Lib.hid hz
      clear hK hd hz
      simp only [Par.GivesW, a, d11]
      go_simp
      exact ⟨grown_set4 w g _ _ _ _, set4 HZ.out _ _ _ _⟩
    · have d12 := hd 12 (by decide) (by decide) (by decide) (by kernel_rfl)
      replace d12 : vs 12 = (.string u) := d12
      clear hd
      simp only [Par.GivesW, d12]
      go_simp
      all_goals exact ⟨rfl, Below.refl _ _⟩
    · have d13 := hd 13 (by decide) (by decide) (by decide) (by kernel_rfl)
      replace d13 : vs 13 = (.int .i64 er) := d13
      clear hd
      simp only [Par.GivesW, d13]
      go_simp
      all_goals exact ⟨rfl, Below.refl _ _⟩
  case hT1 =>
    intro vs w' g hK hV a hBg hz
    simp only [List.drop_succ_cons, List.drop_nil]
    have d0 := hV 0 (by decide) (by decide) (by decide)
    replace d0 : vs 0 = (Value.pointer (some ⟨kb, 0, none⟩)) := d0
    have d1 := hV 1 (by decide) (by decide) (by decide)
    replace d1 : vs 1 = (Value.pointer (some ⟨kb, 0, none⟩)) := d1
    have d2 := hV 2 (by decide) (by decide) (by decide)
    replace d2 : vs 2 = (Value.pointer (some ⟨kb, 0, none⟩)) := d2
    have d3 := hV 3 (by decide) (by decide) (by decide)
    replace d3 : vs 3 = pv := d3
    have d4 := hV 4 (by decide) (by decide) (by decide)
    replace d4 : vs 4 = (Value.pointer (some ⟨kb, 0, none⟩)) := d4
    have d5 := hV 5 (by decide) (by decide) (by decide)
    replace d5 : vs 5 = (Value.pointer (some ⟨kb, 0, none⟩)) := d5
    have d6 := hV 6 (by decide) (by decide) (by decide)
    replace d6 : vs 6 = (Value.pointer (some ⟨kb, 1, none⟩)) := d6
    have d7 := hV 7 (by decide) (by decide) (by decide)
    replace d7 : vs 7 = (.string tb) := d7
    have d8 := hV 8 (by decide) (by decide) (by decide)
    replace d8 : vs 8 = (.slice (some ⟨pb, po, none⟩) (k + 1) cp) := d8
    have d9 := hV 9 (by decide) (by decide) (by decide)
    replace d9 : vs 9 = (.tuple #[.agg #[.string nm, .int .i64 kd, .bool mu, .string tg], .string u, .int .i64 er]) := d9
    have d10 := hV 10 (by decide) (by decide) (by decide)
    replace d10 : vs 10 = (.tuple #[.agg #[.string nm, .int .i64 kd, .bool mu, .string tg], .string u, .int .i64 er]) := d10
    have d11 := hV 11 (by decide) (by decide) (by decide)
    replace d11 : vs 11 = (.agg #[.string nm, .int .i64 kd, .bool mu, .string tg]) := d11
    have d12 := hV 12 (by decide) (by decide) (by decide)
    replace d12 : vs 12 = (.string u) := d12
    have d13 := hV 13 (by decide) (by decide) (by decide)
    replace d13 : vs 13 = (.int .i64 er) := d13
    have d16 := hV 16 (by decide) (by decide) (by decide)
    replace d16 : vs 16 = (.string u) := d16
    have d17 := hV 17 (by decide) (by decide) (by decide)
    replace d17 : vs 17 = (.int .i64 er) := d17
    clear hV
    rw [d11] at hz
    simp only [a, d0, d1, d2, d3, d4, d5, d6, d7, d8, d9, d10, d11, d12, d13, d16, d17]
    clear a d0 d1 d2 d3 d4 d5 d6 d7 d8 d9 d10 d11 d12 d13 d16 d17
    replace hz : w'.heap[g]? = some (.cells #[.string nm, .int .i64 kd, .bool mu, .string tg] 54) := hz
    obtain ⟨w1, rfl⟩ : ∃ x, x = w' := ⟨_, rfl⟩
    have H1 := Lib.hid (And.intro (H0.out.1.on hK) (And.intro (H0.out.2.1.later hK) (And.intro (heap_on hK H0.out.2.2.1) (And.intro hz (Kc.below hK)))))
    obtain ⟨gc, rfl⟩ : ∃ x, x = g := ⟨_, rfl⟩
    clear hK hz hBg
    go_upto_region 1 with fail
    refine Par.wp_region_box 13 10 11 8 (w1.heap.size) 46 (#[.string e0, .slice none 0 0, .string e0, .slice none 0 0]) (Par.aggC) (fun y => Below w1.heap.size w1 y) (Par.VBL [(.eq (Value.pointer (some ⟨kb, 0, none⟩))), (.eq (Value.pointer (some ⟨kb, 0, none⟩))), (.eq (Value.pointer (some ⟨kb, 0, none⟩))), (.eq pv), (.eq (Value.pointer (some ⟨gc, 3, none⟩))), (.eq (.string tg)), (tupV w1.heap.size t1 ok1), (tupV w1.heap.size t1 ok1), (tblV w1.heap.size t1), (.eq (.bool ok1)), (.any), (.any), (.eq (.bool ok1))]) ?A2 ?hm2 ?hB2 (fun w w' h ht => h.trans ht.below) (Par.VBL.mono _) (fun w h => h.size) ?hA2 ((below_drew w1)) (by decide) (by decide) (by decide) (by kernel_rfl) (by kernel_rfl) (by decide) ?hop2 ?hT2
    case hm2 => kernel_rfl
    case hB2 => kernel_rfl
    case hA2 =>
      intro vs
      simp only [Par.putA, Par.dstAt, Act.put, List.getElem?_toArray, List.getElem?_cons_zero, List.getElem?_cons_succ, Option.bind_some, List.setIfInBounds_toArray, List.set_cons_zero, List.set_cons_succ]
      rfl
    case hop2 =>
      have hkd : (List.range 13).map (Par.kdOf 10 11) = [.val, .val, .val, .val, .val, .val, .val, .val, .val, .val, .new, .put, .val] := rfl
      simp only [hkd, List.take_succ_cons, List.take_zero, Par.GiveAllB, and_true]
      refine ⟨fun vs w hK hd => ?_, fun vs w hK hd => ?_, fun vs w hK hd => ?_, fun vs w hK hd => ?_, fun vs w hK hd => ?_, fun vs w hK hd => ?_, fun vs w hK hd => ?_, fun vs w hK hd => ?_, fun vs w hK hd => ?_, fun vs w hK hd => ?_, fun vs w hK => ?_, fun vs w g hK hd a hz => ?_, fun vs w hK hd => ?_⟩
      · clear hd
        simp only [Par.GivesW]
        go_simp
        all_goals exact ⟨rfl, Below.refl _ _⟩
      · have d0 := hd 0 (by decide) (by decide) (by decide) (by kernel_rfl)
        replace d0 : vs 0 = (Value.pointer (some ⟨kb, 0, none⟩)) := d0
        clear hd
        simp only [Par.GivesW, d0]
        go_simp
        all_goals exact ⟨rfl, Below.refl _ _⟩
      · have d1 := hd 1 (by decide) (by decide) (by decide) (by kernel_rfl)
        replace d1 : vs 1 = (Value.pointer (some ⟨kb, 0, none⟩)) := d1
        clear hd
        simp only [Par.GivesW, d1]
        go_simp
        all_goals exact ⟨rfl, Below.refl _ _⟩
      · have d2 := hd 2 (by decide) (by decide) (by decide) (by kernel_rfl)
        replace d2 : vs 2 = (Value.pointer (some ⟨kb, 0, none⟩)) := d2
        have k := nd_cell (heap_on hK H1.out.2.2.1) 0
        clear hd
        simp only [Par.GivesW, d2]
        go_simp
        all_goals exact ⟨rfl, Below.refl _ _⟩
      · clear hd
        simp only [Par.GivesW]
        go_simp
        all_goals exact ⟨rfl, Below.refl _ _⟩
      · have d4 := hd 4 (by decide) (by decide) (by decide) (by kernel_rfl)
        replace d4 : vs 4 = (Value.pointer (some ⟨gc, 3, none⟩)) := d4
        have k := nd_cell (heap_on hK H1.out.2.2.2.1) 3
        clear hd
        simp only [Par.GivesW, d4]
        go_simp
        all_goals exact ⟨rfl, Below.refl _ _⟩
      · have d3 := hd 3 (by decide) (by decide) (by decide) (by kernel_rfl)
        replace d3 : vs 3 = pv := d3
        have d5 := hd 5 (by decide) (by decide) (by decide) (by kernel_rfl)
        replace d5 : vs 5 = (.string tg) := d5
        clear hd
        simp only [Par.GivesW, d3, d5]
        go_simp
        exact (H0.out.2.2.2.2.1 w (H1.out.1.on hK).below).mono (fun e w'' ⟨p1, n1, c1, p2, n2, c2, h1, h2, h3⟩ => ⟨_, h1, ⟨⟨p1, n1, c1, p2, n2, c2, rfl, h2⟩, h3⟩⟩)
      · have d6 := hd 6 (by decide) (by decide) (by decide) (by kernel_rfl)
        obtain ⟨p1, n1, c1, p2, n2, c2, d6, hkt⟩ := d6
        replace d6 : vs 6 = .tuple #[.agg #[.string t1.nm, .slice p1 n1 c1, .string t1.key, .slice p2 n2 c2], .bool ok1] := d6
        clear hd
        simp only [Par.GivesW, d6]
        go_simp
        exact ⟨⟨p1, n1, c1, p2, n2, c2, rfl, hkt⟩, Below.refl _ _⟩
      · have d7 := hd 7 (by decide) (by decide) (by decide) (by kernel_rfl)
        obtain ⟨p1, n1, c1, p2, n2, c2, d7, hkt⟩ := d7
        replace d7 : vs 7 = .tuple #[.agg #[.string t1.nm, .slice p1 n1 c1, .string t1.key, .slice p2 n2 c2], .bool ok1] := d7
        clear hd
        simp only [Par.GivesW, d7]
        go_simp
        exact ⟨⟨p1, n1, c1, p2, n2, c2, rfl, hkt⟩, Below.refl _ _⟩
      · have d7 := hd 7 (by decide) (by decide) (by decide) (by kernel_rfl)
        obtain ⟨p1, n1, c1, p2, n2, c2, d7, hkt⟩ := d7
        replace d7 : vs 7 = .tuple #[.agg #[.string t1.nm, .slice p1 n1 c1, .string t1.key, .slice p2 n2 c2], .bool ok1] := d7
        clear hkt
        clear hd
        simp only [Par.GivesW, d7]
        go_simp
        all_goals exact ⟨rfl, Below.refl _ _⟩
      · clear hK
        simp only [Par.GivesW]
        go_simp
        all_goals exact ⟨rfl, rfl⟩
      · have d8 := hd 8 (by decide) (by decide) (by decide) (by kernel_rfl)
        obtain ⟨p1, n1, c1, p2, n2, c2, d8, hkt⟩ := d8
        have z0 := nd_cell hz 0
        have z1 := nd_cell hz 1
        have z2 := nd_cell hz 2
        have z3 := nd_cell hz 3
        have zf := fun i => frozen_of_row w g i _ _ hz
        have zl := lt_of_heap hz
        have HZ := Lib.hid hz
        clear hK hd hz
        simp only [Par.GivesW, a, d8]
        go_simp
        exact ⟨grown_set4 w g _ _ _ _, set4 HZ.out _ _ _ _⟩
      · have d9 := hd 9 (by decide) (by decide) (by decide) (by kernel_rfl)
        replace d9 : vs 9 = (.bool ok1) := d9
        clear hd
        simp only [Par.GivesW, d9]
        go_simp
        all_goals exact ⟨rfl, Below.refl _ _⟩
    case hT2 =>
      intro vs w' g hK hV a hBg hz
      simp only [List.drop_succ_cons, List.drop_nil]
      have d0 := hV 0 (by decide) (by decide) (by decide)
      replace d0 : vs 0 = (Value.pointer (some ⟨kb, 0, none⟩)) := d0
      have d1 := hV 1 (by decide) (by decide) (by decide)
      replace d1 : vs 1 = (Value.pointer (some ⟨kb, 0, none⟩)) := d1
      have d2 := hV 2 (by decide) (by decide) (by decide)
      replace d2 : vs 2 = (Value.pointer (some ⟨kb, 0, none⟩)) := d2
      have d3 := hV 3 (by decide) (by decide) (by decide)
      replace d3 : vs 3 = pv := d3
      have d4 := hV 4 (by decide) (by decide) (by decide)
      replace d4 : vs 4 = (Value.pointer (some ⟨gc, 3, none⟩)) := d4
      have d5 := hV 5 (by decide) (by decide) (by decide)
      replace d5 : vs 5 = (.string tg) := d5
      have d6 := hV 6 (by decide) (by decide) (by decide)
      have d7 := hV 7 (by decide) (by decide) (by decide)
      have d8 := hV 8 (by decide) (by decide) (by decide)
      have d9 := hV 9 (by decide) (by decide) (by decide)
      replace d9 : vs 9 = (.bool ok1) := d9
      have d12 := hV 12 (by decide) (by decide) (by decide)
      replace d12 : vs 12 = (.bool ok1) := d12
      clear hV
      simp only [a, d0, d1, d2, d3, d4, d5, d9, d12]
      clear a d0 d1 d2 d3 d4 d5 d9 d12
      obtain ⟨p1, n1, c1, p2, n2, c2, d8, hkt⟩ := d8
      replace d8 : vs 8 = .agg #[.string t1.nm, .slice p1 n1 c1, .string t1.key, .slice p2 n2 c2] := d8
      replace hkt : KT w' (.slice p1 n1 c1) (.slice p2 n2 c2) t1 := hkt
      rw [d8] at hz ⊢
      replace hz : w'.heap[g]? = some (boxT t1.nm (.slice p1 n1 c1) t1.key (.slice p2 n2 c2)) := hz
      clear d6 d7 d8
      generalize vs 6 = v6
      generalize vs 7 = v7
      obtain ⟨w2, rfl⟩ : ∃ x, x = w' := ⟨_, rfl⟩
      obtain ⟨gt, rfl⟩ : ∃ x, x = g := ⟨_, rfl⟩
      have H2 := Lib.hid (And.intro (H1.out.1.on hK) (And.intro (H1.out.2.1.later hK) (And.intro (heap_on hK H1.out.2.2.2.1) (And.intro hkt (H1.out.2.2.2.2.trans (.below hK))))))
      have z0 := nd_cell hz 0
      have z1 := nd_cell hz 1
      have z2 := nd_cell hz 2
      have z3 := nd_cell hz 3
      have zl := lt_of_heap hz
      obtain ⟨nm1, hnm1⟩ : ∃ x, t1.nm = x := ⟨_, rfl⟩
      obtain ⟨key1, hkey1⟩ : ∃ x, t1.key = x := ⟨_, rfl⟩
      have hcols := kcols_any H2.out.1 H2.out.2.2.2.1 H2.out.2.1 HP.out.2.2.2.1 HP.out.2.2.2.2.1
      rw [hnm1, hkey1] at hcols
      rw [hnm1] at z0
      rw [hkey1] at z2
      rw [hnm1, hkey1]
      clear hK hz hBg hkt hnm1 hkey1
      go_upto_if 38 with fail
      go_cut [] from 39 to 43 (fun wx => KN W kb pv tb qs (refW ts tb qs ss p) wx ∧ Kc w2 wx)
      case first =>
        cases ok1
        · go_wp2_with fail
          go_meet
          rw [HP.out.2.1, if_neg (by decide)]
          exact ⟨H2.out.1, Kc.refl _⟩
        · go_wp2_with (go_at_call 47; (with_reducible refine hcols.mono ?_); rintro e w3 ⟨rfl, h3, hkc3⟩; have H3 := Lib.hid (And.intro h3 hkc3); clear h3 hkc3 hcols)
          go_meet
          rw [HP.out.2.1, if_pos (by trivial)]
          exact H3.out
      case rest =>
        obtain ⟨hK3, hkc3⟩ := hcut
        obtain ⟨w3, rfl⟩ : ∃ x, x = wc := ⟨_, rfl⟩
        obtain ⟨av, avs, iv, sv, svs, hki⟩ := hK3.ki
        have hwt : Wd w3 (.slice (some ⟨pb, po, none⟩) k cp) p.dropLast := by
          have h1 := Wd.take (k := k) (H2.out.2.1.kp hkc3.kp9) (Nat.le_succ k)
          have e : p.take k = p.dropLast := by rw [List.dropLast_eq_take, HP.out.2.2.1]; rfl
          rw [e] at h1
          exact h1
        have H3 := Lib.hid (And.intro hK3 (And.intro hki.box (And.intro (hkc3.cells H2.out.2.2.1 (by decide) (by decide) (by decide)) (And.intro hwt (H2.out.2.2.2.2.trans hkc3)))))
        have hkcp : (k : Int) ≤ (cp : Int) := by omega
        have hfind := H0.out.2.2.2.2.2 w3 hK3.below
        have b0 := nd_cell hki.box 0
        have bl := lt_of_heap hki.box
        obtain ⟨nm2, hnm2⟩ : ∃ x, t2.nm = x := ⟨_, rfl⟩
        obtain ⟨key2, hkey2⟩ : ∃ x, t2.key = x := ⟨_, rfl⟩
        rw [hnm2, hkey2] at hfind
        have HNM := Lib.hid (And.intro hnm2 hkey2)
        clear hK3 hkc3 hki hwt z0 z1 z2 z3 zl hcols hnm2 hkey2
        go_upto_region 6 with (go_at_call 46; (with_reducible refine hfind.mono ?_); rintro e w5 ⟨q1, m1, e1, q2, m2, e2, rfl, hkt, hb5⟩)
        have hz := heap_alloc_new w5 (boxT nm2 (.slice q1 m1 e1) key2 (.slice q2 m2 e2))
        have hb6 := below_on hb5 (below_alloc w5 (boxT nm2 (.slice q1 m1 e1) key2 (.slice q2 m2 e2)))
        have hkt6 := hkt.later (below_alloc w5 (boxT nm2 (.slice q1 m1 e1) key2 (.slice q2 m2 e2)))
        obtain ⟨ga, hga⟩ : ∃ x, w5.heap.size = x := ⟨_, rfl⟩
        obtain ⟨w4, hw4⟩ : ∃ x, w5.alloc (boxT nm2 (.slice q1 m1 e1) key2 (.slice q2 m2 e2)) = x := ⟨_, rfl⟩
        rw [hga, hw4] at hz
        rw [hw4] at hb6 hkt6
        rw [hga, hw4]
        obtain ⟨nd, hnd⟩ : ∃ x, t2.deps.length = x := ⟨_, rfl⟩
        obtain ⟨_, _, ed, hdc, hdm⟩ := hkt6.rd.2.slice
        obtain ⟨-, e3, e4⟩ := Value.slice.inj ed
        rw [hnd] at e3
        rw [hnd] at hdc
        subst e3
        have hm2 : m2 ≤ 9223372036854775807 := by
          unfold maxLen at hdm
          omega
        have H4 := Lib.hid (And.intro (H3.out.1.on hb6) (And.intro (heap_on hb6 H3.out.2.2.1) (And.intro hz (And.intro (H3.out.2.2.2.1.later hb6) (And.intro hkt6 (And.intro (H3.out.2.2.2.2.trans (.below hb6)) hnd))))))
        have z0 := nd_cell hz 0
        have z1 := nd_cell hz 1
        have z2 := nd_cell hz 2
        have z3 := nd_cell hz 3
        have zl := lt_of_heap hz
        have c0 := nd_cell H4.out.2.1 0
        have cl := lt_of_heap H4.out.2.1
        have hkeyed := kkeyed_any H4.out.1 H4.out.2.2.2.2.1 H4.out.2.2.2.1 (by rw [List.length_dropLast]; have := HP.out.2.2.2.1; omega) HP.out.2.2.2.2.1
        have hla : p.dropLast.length = k := by rw [List.length_dropLast, HP.out.2.2.1]; rfl
        have HL := Lib.hid hla
        rw [HNM.out.1, HNM.out.2] at hkeyed
        obtain ⟨q, hq⟩ : ∃ q, eqS nm key2 = q := ⟨_, rfl⟩
        have hq2 : (nm.toList == key2.toList) = q := by rw [eqS_toList]; exact hq
        have HQ := Lib.hid (show eqS nm t2.key = q by rw [HNM.out.2]; exact hq)
        clear hz hb5 hb6 hkt hkt6 hla ed e4 hdc hdm hnd hq hga hw4 hfind b0 bl
        go_upto_if 61 with fail
        go_cut [] from 62 to 66 (fun wx => KN W kb pv tb qs (if q = true then keyedW qs (refW ts tb qs ss p) p.dropLast t2 else refW ts tb qs ss p) wx ∧ Kc w4 wx)
        case first =>
          cases q
          · go_wp2_with fail
            go_meet
            rw [if_neg (by decide)]
            exact ⟨H4.out.1, Kc.refl _⟩
          · go_wp2_with (go_at_call 48; (with_reducible refine hkeyed.mono ?_); rintro e w3 ⟨rfl, h3, hkc3⟩; have H5 := Lib.hid (And.intro h3 hkc3); clear h3 hkc3 hkeyed)
            go_meet
            rw [if_pos (by trivial)]
            exact H5.out
        case rest =>
          obtain ⟨hK5, hkc5⟩ := hcut
          obtain ⟨w6, rfl⟩ : ∃ x, x = wc := ⟨_, rfl⟩
          have hfin := HP.out.1
          rw [HQ.out] at hfin
          obtain ⟨s2, hs2⟩ : ∃ s2, (if q = true then keyedW qs (refW ts tb qs ss p) p.dropLast t2 else refW ts tb qs ss p) = s2 := ⟨_, rfl⟩
          rw [hs2] at hK5 hfin
          have hbox := hkc5.cells H4.out.2.2.1 (by decide) (by decide) (by decide)
          have H6 := Lib.hid (And.intro hK5 (And.intro hbox (And.intro (H4.out.2.2.2.1.kp hkc5.kp9) (And.intro (H4.out.2.2.2.2.1.kc hkc5) (And.intro (H4.out.2.2.2.2.2.1.trans hkc5) (And.intro H4.out.2.2.2.2.2.2 hfin))))))
          have y3 := nd_cell hbox 3
          have yl := lt_of_heap hbox
          clear hK5 hkc5 hbox hfin hs2 hq2 z0 z1 z2 z3 zl c0 cl hkeyed
          go_wp2_with fail
          go_loopg [69] (m2 + 1) (fun gh jv w => ∃ (j : Nat), jv = .int .i64 (j : Int) ∧ j ≤ m2 ∧ m2 + 1 ≤ j + gh ∧ KN W kb pv tb qs (depsW ts t2 qs p.dropLast s2 (t2.deps.take j)) w ∧ Kc w6 w)
          case atStart => exact ⟨0, rfl, Nat.zero_le _, by omega, H6.out.1, Kc.refl _⟩
          case round =>
            obtain ⟨j, rfl, hj, hg, hK, hkc⟩ := hrel
            have HK := Lib.hid (And.intro hK hkc)
            clear y3 yl
            by_cases hlt : j < m2
            · have hjl : j < t2.deps.length := by rw [H6.out.2.2.2.2.2.1]; exact hlt
              obtain ⟨bd, od, lv, rfl, hbd, d0, d1, hlv⟩ := (H6.out.2.2.2.1.kc hkc).dep hjl
              have hsucc := depsW_succ (ts := ts) (t := t2) (qs := qs) (ss := s2) (a := p.dropLast) hjl
              obtain ⟨d, hd⟩ : ∃ d, t2.deps[j] = d := ⟨_, rfl⟩
              rw [hd] at d1 hlv hsucc
              obtain ⟨left, right⟩ := d
              simp only [] at d1 hlv
              obtain ⟨pl, cl, rfl, _, _⟩ := hlv.slice
              obtain ⟨nl, hnl⟩ : ∃ x, left.length = x := ⟨_, rfl⟩
              rw [hnl] at d0 hlv
              have hb7 := below_alloc wr (.cells #[.slice pl nl cl, .string right] 70)
              have hx7 := heap_alloc_new wr (.cells #[.slice pl nl cl, .string right] 70)
              have hK7 := hK.on hb7
              have hkc7 := hkc.trans (.below hb7)
              have hlv7 := hlv.later hb7
              obtain ⟨B7, hB7⟩ : ∃ x, wr.heap.size = x := ⟨_, rfl⟩
              obtain ⟨w7, hw7⟩ : ∃ x, wr.alloc (.cells #[.slice pl nl cl, .string right] 70) = x := ⟨_, rfl⟩
              have HW7 := Lib.hid (And.intro hw7 hB7)
              rw [hw7] at hx7 hK7 hkc7 hlv7
              rw [hB7] at hx7
              have hbox7 := hkc7.cells H6.out.2.1 (by decide) (by decide) (by decide)
              have hwa7 : Wd w7 (.slice (some ⟨pb, po, none⟩) k cp) p.dropLast := H6.out.2.2.1.kp hkc7.kp9
              have hl4 : p.dropLast.length ≤ 4 := by rw [List.length_dropLast]; have := HP.out.2.2.2.1; omega
              have hholds := kholds_any (t := t2) (right := right) (p1 := q1) (n1 := m1) (c1 := e1) (key := key2) (p2 := some ⟨bd, od, none⟩) (n2 := m2) (c2 := e2) hK7 HP.out.2.2.2.2.2 hwa7 hl4 hlv7 HP.out.2.2.2.2.1
              rw [HNM.out.1] at hholds
              have g0 := nd_cell hbox7 0
              have g1 := nd_cell hbox7 1
              have g2 := nd_cell hbox7 2
              have g3 := nd_cell hbox7 3
              have gl := lt_of_heap hbox7
              have f0 := nd_cell hx7 0
              have f1 := nd_cell hx7 1
              have fl := lt_of_heap hx7
              obtain ⟨z, hz⟩ : ∃ z, holdsP ts t2 (depsW ts t2 qs p.dropLast s2 (t2.deps.take j)) p.dropLast left = z := ⟨_, rfl⟩
              rw [hz] at hholds
              obtain ⟨l2, hl2⟩ : ∃ l2, p.dropLast ++ [right] = l2 := ⟨_, rfl⟩
              obtain ⟨ml, hml⟩ : ∃ m2, l2.length = m2 := ⟨_, rfl⟩
              have hdw : depW ts t2 qs p.dropLast (depsW ts t2 qs p.dropLast s2 (t2.deps.take j)) ⟨left, right⟩ = if z = true then addW qs (depsW ts t2 qs p.dropLast s2 (t2.deps.take j)) l2 else depsW ts t2 qs p.dropLast s2 (t2.deps.take j) := by
                unfold depW
                rw [← hz, ← hl2]
              rw [hdw] at hsucc
              have HS := Lib.hid (And.intro hsucc (And.intro hl2 (And.intro hml hl4)))
              have H7 := Lib.hid (And.intro hK7 (And.intro hkc7 (And.intro hwa7 hx7)))
              have hji : (j : Int) < (m2 : Int) := by omega
              clear hK hkc hb7 hK7 hkc7 hlv hlv7 hbox7 hwa7 hx7 hw7 hB7 hsucc hl2 hml hdw hz hnl hd hbd hl4 hjl
              go_upto_region 11 with fail
              rw [HW7.out.1, HW7.out.2]
              clear d0 d1
              go_upto_if 77 with (go_at_call 49; (with_reducible refine hholds.mono ?_); rintro e w8 ⟨rfl, hb8⟩; have H8 := Lib.hid (And.intro (H7.out.1.on hb8) (And.intro (H7.out.2.1.trans (.below hb8)) (And.intro (H7.out.2.2.1.later hb8) (heap_on hb8 H7.out.2.2.2)))); clear hb8 hholds g0 g1 g2 g3 gl f0 f1 fl)
              cases z
              · go_wp2_with fail
                go_roundg (m2 - j)
                case measure => omega
                case rel => exact ⟨j + 1, by go_num, by omega, by omega, by rw [HS.out.1, if_neg (by decide)]; exact H8.out.1, H8.out.2.1⟩
              · have f1 := nd_cell H8.out.2.2.2 1
                have fl := lt_of_heap H8.out.2.2.2
                have hstep := kstep_is (x := right) H8.out.2.2.1 HS.out.2.2.2 HS.out.2.1 HS.out.2.2.1
                go_wp2_with (first
                  | (go_at_call 50; (with_reducible refine hstep.mono ?_); rintro e w9 ⟨p9, c9, rfl, h9, hb9⟩; have hadd := kadd_any (H8.out.1.on hb9) h9 HP.out.2.2.2.2.1; have H9 := Lib.hid (H8.out.2.1.trans (.below hb9)); clear h9 hb9 hstep)
                  | (go_at_call 31; (with_reducible refine hadd.mono ?_); rintro e w10 ⟨rfl, h10, hkc10⟩; have H10 := Lib.hid (And.intro h10 (H9.out.trans hkc10)); clear h10 hkc10 hadd))
                go_roundg (m2 - j)
                case measure => omega
                case rel => exact ⟨j + 1, by go_num, by omega, by omega, by rw [HS.out.1, if_pos (by trivial)]; exact H10.out.1, H10.out.2⟩
            · obtain rfl : j = m2 := by omega
              go_wp2_with fail
              go_end0
              have e : t2.deps.take j = t2.deps := List.take_of_length_le (by rw [H6.out.2.2.2.2.2.1]; exact Nat.le_refl _)
              rw [e] at HK
              rw [H6.out.2.2.2.2.2.2]
              exact ⟨rfl, HK.out.1, H6.out.2.2.2.2.1.trans HK.out.2⟩
end
end Go.Proofs.YtmfkkpogmmoflaaGreat
