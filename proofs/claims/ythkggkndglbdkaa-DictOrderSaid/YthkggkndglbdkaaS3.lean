import Derived.Test.YthkggkndglbdkaaV2
import Derived.Test.YthkggkndglbdkaaU
namespace Go.Proofs.Ythkggkndglbdkaa.S
open Go Go.RowKit Go.Shelf Go.Proofs Go.Proofs.Ythkggkndglbdkaa
variable {M : Nat}

/-- Strings as words of at most so many bytes. -/
theorem as_keys (l : List ByteArray) : ∃ (M : Nat) (ks : List (K M)), ks.map (·.1) = l := by
  have hb : ∃ M, ∀ s ∈ l, s.size ≤ M := by
    induction l with
    | nil => exact ⟨0, fun s hs => by simp at hs⟩
    | cons a r ih =>
      obtain ⟨M, hM⟩ := ih
      refine ⟨max a.size M, fun s hs => ?_⟩
      rcases List.mem_cons.1 hs with rfl | hs
      · exact Nat.le_max_left _ _
      · exact Nat.le_trans (hM s hs) (Nat.le_max_right _ _)
  obtain ⟨M, hM⟩ := hb
  refine ⟨M, l.pmap (fun s h => (⟨s, h⟩ : K M)) hM, ?_⟩
  rw [List.map_pmap]
  simp
theorem ParS.strs {W : World} {p : Option Addr} {xs : List ByteArray} (h : ParS W p xs) {ks : List (K M)} (e : ks.map (·.1) = xs) : Strs W p ks := fun j hj => by
  subst e
  obtain ⟨b, off, h1, h2, h3⟩ := h j (by simpa using hj)
  exact ⟨b, off, h1, h2, by rw [h3]; simp⟩
theorem Strs.take {W : World} {p : Option Addr} {xs : List (K M)} (h : Strs W p xs) (n : Nat) : Strs W p (xs.take n) := fun j hj => by
  rw [List.length_take] at hj
  obtain ⟨b, off, h1, h2, h3⟩ := h j (by omega)
  exact ⟨b, off, h1, h2, by rw [h3, List.getElem_take]⟩
theorem look_at' {L : List (K M × Int)} {i : Nat} (h : i < L.length) : look L (i : Int) = some L[i] := by
  unfold look; rw [if_pos (by omega)]; simp [h]
theorem look_out {L : List (K M × Int)} {i : Int} (h : i < 0 ∨ (L.length : Int) ≤ i) : look L i = none := by
  unfold look
  split
  · exact List.getElem?_eq_none (by omega)
  · rfl
theorem Strs.one {W : World} {p : Option Addr} {xs : List (K M)} (h : Strs W p xs) (h0 : 0 < xs.length) : ∃ b off, p = some ⟨b, off, none⟩ ∧ b < W.heap.size ∧ ∀ j (hj : j < xs.length), W.cell? ⟨b, off + j, none⟩ = some (.string xs[j].1) := by
  obtain ⟨b, off, h1, h2, _⟩ := h 0 h0
  refine ⟨b, off, h1, h2, fun j hj => ?_⟩
  obtain ⟨b', off', h3, h4, h5⟩ := h j hj
  rw [h1] at h3
  cases h3
  exact h5
/-- One word more in one of two. -/
theorem two_add {W1 W2 w w' : World} {m1 m2 : Nat} {L1 L2 : List (K M × Int)} (hne : m1 ≠ m2) (d2 : Dm W2 m2 L2 w) (d1 : Dm W1 m1 L1 w) (c : Chg (fun b => b = m1) w w') : Dm W2 m2 L2 w' :=
  d2.other c hne d1.ty
set_option maxRecDepth 100000 in
set_option maxHeartbeats 2000000 in
theorem order_walk (p : Option Addr) (xs : List ByteArray) (len cap : Nat) (turn : Int) (W : World) (hlen : xs.length = len) (hcap : len ≤ cap) (ht1 : turn ≤ 9223372036854775807) (hP : ParS W p xs) :
    Calls Try.prog 4 #[.slice p len cap, (Value.int .i64 (turn))] W fun e W' => e = .returned (.bool true) ∧ Below W.heap.size W W' := by
  have hbeg := begun_any W
  obtain ⟨M, ks, hks⟩ := as_keys xs
  have hS := hP.strs hks
  have hkl : ks.length = len := by rw [← hlen, ← hks, List.length_map]
  obtain ⟨n, hn⟩ : ∃ n, min len 30 = n := ⟨_, rfl⟩
  obtain ⟨kt, hkt⟩ : ∃ kt, ks.take n = kt := ⟨_, rfl⟩
  have hT : Strs W p kt := hkt ▸ hS.take n
  have hktl : kt.length = n := by rw [← hkt, List.length_take, hkl]; omega
  have hn30 : n ≤ 30 := by omega
  clear hks hS hP hkt hkl
  go_enter Try.func4, Try.ntmps4
  go_upto_if 21 with (go_at_call 7; (with_reducible refine hbeg.mono ?_); rintro e x0 ⟨rfl, b0⟩; clear hbeg)
  go_cut [0] from 22 to 23 (fun sv wx => sv = .slice p n cap ∧ wx = x0)
  case first =>
    by_cases h30 : 30 < len
    · have h30' : (30 : Int) < (len : Int) := by omega
      have hq : (30 : Int) ≤ (cap : Int) := by omega
      have hn' : n = 30 := by omega
      subst hn'
      go_wp2_with fail
      go_meet
      exact ⟨rfl, rfl⟩
    · have h30' : ¬ (30 : Int) < (len : Int) := by omega
      have hn' : n = len := by omega
      subst hn'
      go_wp2_with fail
      go_meet
      exact ⟨rfl, rfl⟩
  case rest =>
    obtain ⟨rfl, rfl⟩ := hcut
    clear hn
    by_cases h0 : n = 0
    · subst h0
      go_wp2_with fail
      go_ret
      exact ⟨rfl, b0⟩
    · have hz : ((n : Int) == 0) = false := by simp; omega
      by_cases ht0 : turn < 0
      · go_wp2_with fail
        go_ret
        exact ⟨rfl, b0⟩
      · have z1 := (zero_dm M wc).later (below_alloc (wc.alloc Z31) Z31)
        have z2 := zero_dm M (wc.alloc Z31)
        have bz : Below wc.heap.size wc ((wc.alloc Z31).alloc Z31) := below_on (below_alloc wc Z31) (below_alloc _ Z31)
        obtain ⟨m1, hm1⟩ : ∃ m1, wc.heap.size = m1 := ⟨_, rfl⟩
        obtain ⟨m2, hm2⟩ : ∃ m2, m1 + 1 = m2 := ⟨_, rfl⟩
        have hsz : (wc.alloc Z31).heap.size = m2 := by rw [World.size_alloc, hm1, hm2]
        rw [hm1] at z1 bz
        rw [hsz] at z2
        obtain ⟨t, rfl⟩ := Int.eq_ofNat_of_zero_le (show 0 ≤ turn by omega)
        obtain ⟨r, hr⟩ : ∃ r, t % n = r := ⟨_, rfl⟩
        have hrn : r < n := hr ▸ Nat.mod_lt _ (by omega)
        obtain ⟨rot, hrot⟩ : ∃ rot, kt.drop r ++ kt.take r = rot := ⟨_, rfl⟩
        have hrl : rot.length = n := by rw [← hrot, List.length_append, List.length_drop, List.length_take]; omega
        have hra : ∀ j (h : j < rot.length), ∃ h2 : (j + r) % n < kt.length, rot[j] = kt[(j + r) % n] := fun j h => by
          refine ⟨by rw [hktl]; exact Nat.mod_lt _ (by omega), ?_⟩
          subst hrot
          rw [List.getElem_append]
          split
          · rename_i h1
            rw [List.length_drop] at h1
            rw [List.getElem_drop]
            congr 1
            rw [Nat.mod_eq_of_lt (by omega)]; omega
          · rename_i h1
            rw [List.length_drop] at h1
            rw [List.getElem_take]
            congr 1
            rw [List.length_drop, Nat.mod_eq_sub_mod (by omega), Nat.mod_eq_of_lt (by omega)]; omega
        have hrm : ∀ s, s ∈ rot ↔ s ∈ kt := fun s => by
          rw [← hrot, List.mem_append]
          conv => rhs; rw [← List.take_append_drop r kt, List.mem_append]
          exact or_comm
        have hrw : Int.tmod (t : Int) (n : Int) = (r : Int) := by rw [← hr]; rfl
        obtain ⟨b, off, rfl, hbW, hcl⟩ := hT.one (by omega)
        have HC := Lib.hid hcl
        clear hcl
        have HR := Lib.hid (And.intro hrl (And.intro hra hrm))
        have HZ := Lib.hid (And.intro z1 (And.intro z2 (And.intro bz b0)))
        have hWm : W.heap.size ≤ m1 := by have := b0.size; omega
        have HMS := Lib.hid hm1
        have HK := Lib.hid (And.intro hktl hT)
        have HM := Lib.hid hm2
        have hne : m1 ≠ m2 := by omega
        clear hrl hra hrm z1 z2 bz b0 hr hrot hktl hT hsz hm2
        go_upto_block 0 with fail
        rw [HM.out]
        clear hm1
        go_wp2_with fail
        go_loopg [8] 31 (fun gh iv w => ∃ (i : Nat) (L1 L2 : List (K M × Int)), i ≤ n ∧ 31 ≤ i + gh ∧ iv = .int .i64 (i : Int) ∧ Dm wc m1 L1 w ∧ Dm (wc.alloc Z31) m2 L2 w ∧ Cnt (kt.take i) L1 ∧ Cnt (rot.take i) L2 ∧ L1.length ≤ i ∧ L2.length ≤ i ∧ Below m1 wc w)
        case atStart => exact ⟨0, [], [], Nat.zero_le _, Nat.le_refl _, rfl, HZ.out.1, HZ.out.2.1, fun s => rfl, fun s => rfl, Nat.le_refl _, Nat.le_refl _, HZ.out.2.2.1⟩
        case round =>
          obtain ⟨i, L1, L2, hin, hig, rfl, d1, d2, n1, n2, l1, l2, hbel⟩ := hrel
          have hcw : ∀ w, Below m1 wc w → ∀ j (hj : j < kt.length), w.cell? ⟨b, off + j, none⟩ = some (.string kt[j].1) := fun w hw j hj =>
            (World.cell?_of_block (w := wc) (hw.block b (by omega))).trans ((World.cell?_of_block (w := W) (HZ.out.2.2.2.block b hbW)).trans (HC.out j hj))
          have hm1s : m1 ≤ wc.heap.size := by have := HMS.out; omega
          by_cases hlt : i < n
          · have hik : i < kt.length := by have := HK.out.1; omega
            have hir : i < rot.length := by have := HR.out.1; omega
            obtain ⟨hq1, hq2⟩ := HR.out.2.1 i hir
            obtain ⟨x, hx⟩ : ∃ x : K M, kt[i] = x := ⟨kt[i], rfl⟩
            obtain ⟨y, hy⟩ : ∃ y : K M, rot[i] = y := ⟨rot[i], rfl⟩
            obtain ⟨q, hq⟩ : ∃ q, (i + r) % n = q := ⟨_, rfl⟩
            have hqn : q < n := hq ▸ Nat.mod_lt _ (by omega)
            have hc1 := hcw wr hbel i hik
            rw [hx] at hc1
            have hc2 := fun w hw => hcw w hw ((i + r) % n) hq1
            simp only [← hq2, hy] at hc2
            rw [hq] at hc2
            have t1 := n1 x
            have t2 := n2 y
            have k1 := cnt_le x (kt.take i)
            have k2 := cnt_le y (rot.take i)
            rw [List.length_take] at k1 k2
            have ha1 := add_any x d1 (by omega) (by omega)
            have ha2 := fun w (h : Dm (wc.alloc Z31) m2 L2 w) => add_any y h (by omega) (by omega)
            obtain ⟨ir, hir2⟩ : ∃ ir, i + r = ir := ⟨_, rfl⟩
            have hw1 : IntKind.i64.wrap ((i : Int) + (r : Int)) = (ir : Int) := by rw [← hir2, IntKind.wrap_i64]; omega
            have hw2 : Int.tmod (ir : Int) (n : Int) = (q : Int) := by rw [← hq, ← hir2]; rfl
            have hq3 : (q : Int) < (n : Int) := by omega
            have hi3 : (i : Int) < (n : Int) := by omega
            have hnw : ∀ x1, Chg (fun b => b = m1) wr x1 → Below m1 wc x1 := fun x1 hc => hbel.trans (chg_below hc (Nat.le_trans hm1s hbel.size) (Nat.le_refl _))
            have HX := Lib.hid (And.intro hx hy)
            have HN := Lib.hid (And.intro n1 n2)
            clear hx hy hq hir2 t1 t2 n1 n2 k1 k2 hq1 hq2 hcw
            go_wp2_with (first
              | (go_at_call 9; (with_reducible refine ha1.mono ?_); rintro e x1 ⟨rfl, e1, c1⟩; clear ha1; have f2 := d2.other c1 hne d1.ty; have g1 := hnw x1 c1; have hc3 := hc2 x1 g1)
              | (go_at_call 9; (with_reducible refine (ha2 _ f2).mono ?_); rintro e x2 ⟨rfl, e2, c2⟩; have f1 := e1.other c2 hne.symm f2.ty))
            go_roundg (30 - i)
            case measure => omega
            case rel => exact ⟨i + 1, _, _, by omega, by omega, by simp, f1, e2, by rw [List.take_succ_eq_append_getElem hik, HX.out.1]; exact HN.out.1.add d1.srt x, by rw [List.take_succ_eq_append_getElem hir, HX.out.2]; exact HN.out.2.add d2.srt y,
              Nat.le_trans (ins_len_le x _ d1.srt) (by omega), Nat.le_trans (ins_len_le y _ d2.srt) (by omega), g1.trans (chg_below c2 (Nat.le_trans hm1s g1.size) (by have := HM.out; omega))⟩
          · obtain rfl : i = n := by omega
            have htk : kt.take i = kt := List.take_of_length_le (by have := HK.out.1; omega)
            have hrk : rot.take i = rot := List.take_of_length_le (by have := HR.out.1; omega)
            rw [htk] at n1
            rw [hrk] at n2
            have hkk : keys L1 = keys L2 := sorted_ext (keys_srt d1.srt) (keys_srt d2.srt) (fun s => by rw [n1.mem d1, n2.mem d2]; exact (HR.out.2.2 s).symm)
            have hS1 : SrtK (keys L1) := keys_srt d1.srt
            have hmem : ∀ s, s ∈ keys L1 ↔ s ∈ kt := fun s => n1.mem d1 s
            have hll : L2.length = L1.length := by have := congrArg List.length hkk; simpa using this.symm
            obtain ⟨nl, hnl⟩ : ∃ nl, L1.length = nl := ⟨_, rfl⟩
            rw [hnl] at l1 hll
            have HF := Lib.hid (And.intro hkk (And.intro hS1 (And.intro hmem (And.intro hll hnl))))
            have HE := Lib.hid (And.intro d1 (And.intro d2 hbel))
            clear htk hrk n1 n2 hkk hS1 hmem hll hnl hcw hbel d1 d2
            go_wp2_with fail
            go_loopg [9] 31 (fun gh jv w => ∃ j : Nat, j ≤ nl ∧ 31 ≤ j + gh ∧ jv = .int .i64 (j : Int) ∧ Dm wc m1 L1 w ∧ Dm (wc.alloc Z31) m2 L2 w ∧ Below m1 wc w)
            case atStart => exact ⟨0, Nat.zero_le _, Nat.le_refl _, rfl, HE.out.1, HE.out.2.1, HE.out.2.2⟩
            case round =>
              obtain ⟨j, hjn, hjg, rfl, d1, d2, hbel⟩ := hrel
              have hlen1 := dlen_any d1
              rw [HF.out.2.2.2.2] at hlen1
              by_cases hjl : j < nl
              · have h1 : j < L1.length := by have := HF.out.2.2.2.2; omega
                have h2 : j < L2.length := by have := HF.out.2.2.2.1; omega
                have hj3 : (j : Int) < (nl : Int) := by omega
                obtain ⟨s, hs⟩ : ∃ s : K M, L1[j].1 = s := ⟨L1[j].1, rfl⟩
                have hs2 : L2[j].1 = s := by
                  have e1 : (keys L1)[j]? = some s := by rw [List.getElem?_map, List.getElem?_eq_getElem h1, ← hs]; rfl
                  rw [HF.out.1, List.getElem?_map, List.getElem?_eq_getElem h2] at e1
                  exact Option.some.inj e1
                have hat1 : Calls Try.prog 14 #[(Value.pointer (some ⟨m1, 0, none⟩)), (Value.int .i64 ((j : Int)))] wr fun e w' => e = .returned (.tuple #[.string s.1, .bool true]) ∧ Below wr.heap.size wr w' := by
                  have h := dat_any (j : Int) (by omega) (by omega) d1
                  rw [look_at' h1] at h
                  rw [← hs]; exact h
                have hat2 : ∀ w, Dm (wc.alloc Z31) m2 L2 w → Calls Try.prog 14 #[(Value.pointer (some ⟨m2, 0, none⟩)), (Value.int .i64 ((j : Int)))] w fun e w' => e = .returned (.tuple #[.string s.1, .bool true]) ∧ Below w.heap.size w w' := fun w hd => by
                  have h := dat_any (j : Int) (by omega) (by omega) hd
                  rw [look_at' h2] at h
                  rw [← hs2]; exact h
                by_cases hj0 : j = 0
                · subst hj0
                  clear hs hs2
                  have hat1 : Calls Try.prog 14 #[(Value.pointer (some ⟨m1, 0, none⟩)), (Value.int .i64 (0))] wr fun e w' => e = .returned (.tuple #[.string s.1, .bool true]) ∧ Below wr.heap.size wr w' := hat1
                  have hat2 : ∀ w, Dm (wc.alloc Z31) m2 L2 w → Calls Try.prog 14 #[(Value.pointer (some ⟨m2, 0, none⟩)), (Value.int .i64 (0))] w fun e w' => e = .returned (.tuple #[.string s.1, .bool true]) ∧ Below w.heap.size w w' := hat2
                  go_wp2_with (first
                    | (go_at_call 12; (with_reducible refine hlen1.mono ?_); rintro e w' ⟨rfl, hw⟩; subst w')
                    | (go_at_call 14; (with_reducible refine hat1.mono ?_); rintro e x1 ⟨rfl, b1⟩; clear hat1; have f2 := d2.later b1; have f1 := d1.later b1)
                    | (go_at_call 14; (with_reducible refine (hat2 _ f2).mono ?_); rintro e x2 ⟨rfl, b2⟩; have g1 := f1.later b2; have g2 := f2.later b2; clear f2))
                  go_roundg 30
                  case measure => omega
                  case rel => exact ⟨1, by omega, by omega, by simp, g1, g2, hbel.trans ((below_on b1 b2).mono (Nat.le_trans hm1s hbel.size))⟩
                · obtain ⟨j', rfl⟩ : ∃ j', j = j' + 1 := ⟨j - 1, by omega⟩
                  have h3 : j' < L1.length := by omega
                  obtain ⟨u, hu⟩ : ∃ u : K M, L1[j'].1 = u := ⟨L1[j'].1, rfl⟩
                  have hus : keyOf u < keyOf s := by
                    have h := List.pairwise_iff_getElem.1 HF.out.2.1 j' (j' + 1) (by simpa using h3) (by simpa using h1) (by omega)
                    rw [List.getElem_map, List.getElem_map, hu, hs] at h
                    exact h
                  have e1 : Op.bytesLess u.1.toList s.1.toList = true := by rw [str_lt]; exact decide_eq_true hus
                  have hat3 : ∀ w, Dm wc m1 L1 w → Calls Try.prog 14 #[(Value.pointer (some ⟨m1, 0, none⟩)), (Value.int .i64 ((j' : Int)))] w fun e w' => e = .returned (.tuple #[.string u.1, .bool true]) ∧ Below w.heap.size w w' := fun w hd => by
                    have h := dat_any (j' : Int) (by omega) (by omega) hd
                    rw [look_at' h3] at h
                    rw [← hu]; exact h
                  have hj4 : (0 : Int) < ((j' + 1 : Nat) : Int) := by omega
                  have hwj : IntKind.i64.wrap (j' : Int) = (j' : Int) := by rw [IntKind.wrap_i64]; omega
                  clear hs hs2 hu hus
                  have hat1b : Calls Try.prog 14 #[(Value.pointer (some ⟨m1, 0, none⟩)), (Value.int .i64 ((j' : Int) + 1))] wr fun e w' => e = .returned (.tuple #[.string s.1, .bool true]) ∧ Below wr.heap.size wr w' := hat1
                  have hat2b : ∀ w, Dm (wc.alloc Z31) m2 L2 w → Calls Try.prog 14 #[(Value.pointer (some ⟨m2, 0, none⟩)), (Value.int .i64 ((j' : Int) + 1))] w fun e w' => e = .returned (.tuple #[.string s.1, .bool true]) ∧ Below w.heap.size w w' := hat2
                  go_wp2_with (first
                    | (go_at_call 12; (with_reducible refine hlen1.mono ?_); rintro e w' ⟨rfl, hw⟩; subst w')
                    | (go_at_call 14; (with_reducible first | refine hat1.mono ?_ | refine hat1b.mono ?_); rintro e x1 ⟨rfl, b1⟩; clear hat1 hat1b; have f2 := d2.later b1; have f1 := d1.later b1)
                    | (go_at_call 14; (with_reducible first | refine (hat2 _ f2).mono ?_ | refine (hat2b _ f2).mono ?_); rintro e x2 ⟨rfl, b2⟩; have g1 := f1.later b2; have g2 := f2.later b2; clear f2)
                    | (go_at_call 14; (with_reducible refine (hat3 _ g1).mono ?_); rintro e x3 ⟨rfl, b3⟩; have p1 := g1.later b3; have p2 := g2.later b3))
                  go_roundg (30 - (j' + 1))
                  case measure => omega
                  case rel => exact ⟨j' + 1 + 1, by omega, by omega, by simp, p1, p2, hbel.trans ((below_on (below_on b1 b2) b3).mono (Nat.le_trans hm1s hbel.size))⟩
              · obtain rfl : j = nl := by omega
                have hlen2 := dlen_any d2
                rw [HF.out.2.2.2.1] at hlen2
                have hwd := words_any kt (some ⟨b, off, none⟩) i cap wr HK.out.1 (by omega) (fun q hq => ⟨b, off, rfl, Nat.lt_of_lt_of_le hbW (by have := HZ.out.2.2.2.size; have := hbel.size; omega), (World.cell?_of_block (w := wc) (hbel.block b (by omega))).trans ((World.cell?_of_block (w := W) (HZ.out.2.2.2.block b hbW)).trans (HC.out q hq))⟩)
                have hfit : ∀ out : List (K M), SrtK out → (∀ s, s ∈ out ↔ s ∈ kt) → out.length = j := fun out h1 h2 => by
                  have := sorted_ext h1 HF.out.2.1 (fun s => by rw [h2, HF.out.2.2.1])
                  rw [this, List.length_map, HF.out.2.2.2.2]
                have HFI := Lib.hid hfit
                clear hfit
                go_wp2_with (first
                  | (go_at_call 12; (with_reducible refine hlen1.mono ?_); rintro e w' ⟨rfl, hw⟩; subst w')
                  | (go_at_call 12; (with_reducible refine hlen2.mono ?_); rintro e w' ⟨rfl, hw⟩; subst w')
                  | (go_at_call 11; (with_reducible refine hwd.mono ?_); rintro e x3 ⟨out, q1, q2, q3, v, rfl, q4, b3⟩; rw [HFI.out out q1 q2] at q4; obtain ⟨pv, cv, rfl, _, _⟩ := q4.isslice; clear q4 q1 q2))
                go_ret
                exact ⟨rfl, HZ.out.2.2.2.trans ((hbel.mono hWm).trans (b3.mono (by have := HZ.out.2.2.2.size; have := hbel.size; omega)))⟩
end Go.Proofs.Ythkggkndglbdkaa.S
