/- A column holds a list of values. -/
import Derived.Test.YtglfmbpcapendaaO7
namespace Go.Proofs.Ytglfmbpcapendaa.S
open Go Go.RowKit Go.Shelf Go.Proofs Go.Proofs.Ytglfmbpcapendaa

/-! ### Counting, in no memory -/
theorem sum_set {α : Type} (f : α → Nat) (x : α) : ∀ (l : List α) (i : Nat) (h : i < l.length), ((l.set i x).map f).sum + f l[i] = (l.map f).sum + f x
  | [], i, h => by simp at h
  | a :: r, 0, _ => by simp; omega
  | a :: r, i + 1, h => by
    have := sum_set f x r i (by simpa using h)
    simp only [List.set_cons_succ, List.map_cons, List.sum_cons, List.getElem_cons_succ]
    omega
theorem sum_le {α : Type} (f : α → Nat) (hf : ∀ x, f x ≤ 1) : ∀ l : List α, (l.map f).sum ≤ l.length
  | [] => by simp
  | a :: r => by
    have := sum_le f hf r
    have := hf a
    simp only [List.map_cons, List.sum_cons, List.length_cons]
    omega
theorem sum_pos {α : Type} (f : α → Nat) : ∀ l : List α, 1 ≤ (l.map f).sum ↔ ∃ x ∈ l, 1 ≤ f x
  | [] => by simp
  | a :: r => by
    have ih := sum_pos f r
    simp only [List.map_cons, List.sum_cons, List.mem_cons, exists_eq_or_imp]
    rw [← ih]
    omega
def one (s : K 12) (x : T3) : Nat := if x.1 = 2 ∧ wd x.2.2 = s then 1 else 0
theorem one_le (s : K 12) (x : T3) : one s x ≤ 1 := by unfold one; split <;> omega
/-- How often a word stands in it. -/
def ct (s : K 12) (l : List T3) : Nat := (l.map (one s)).sum
def nul (x : T3) : Nat := if x.1 = 0 then 1 else 0
/-- How many nothings. -/
def nz (l : List T3) : Nat := (l.map nul).sum
theorem nz_snoc (l : List T3) (x : T3) : ((nz (l ++ [x]) : Nat) : Int) = nUp (nz l) x := by unfold nz nUp nul; simp; split <;> simp
theorem nz_set (l : List T3) (i : Nat) (h : i < l.length) (x : T3) : ((nz (l.set i x) : Nat) : Int) = nUp (nDn (nz l) l[i]) x := by
  have := sum_set nul x l i h
  unfold nz nUp nDn
  unfold nul at this ⊢
  split at this <;> split at this <;> simp_all <;> omega
theorem nz_le (l : List T3) : nz l ≤ l.length := sum_le _ (fun x => by unfold nul; split <;> omega) l
theorem nz_pos (l : List T3) (i : Nat) (h : i < l.length) (h0 : (l[i]).1 = 0) : 1 ≤ nz l := (sum_pos _ l).2 ⟨l[i], List.getElem_mem _, by unfold nul; rw [if_pos h0]; omega⟩
theorem ct_le (s : K 12) (l : List T3) : ct s l ≤ l.length := sum_le _ (one_le s) l
/-- The Dict holds the texts of l. -/
def Cn (l : List T3) (L : List (K 12 × Int)) : Prop := ∀ s, tm s L = (ct s l : Int)
theorem tm_lUp {L : List (K 12 × Int)} (hs : Srt keyOf L) (x : T3) (s : K 12) : tm s (lUp L x) = tm s L + one s x := by
  unfold lUp one
  by_cases h : x.1 = 2
  · rw [if_pos h, tm_ins _ _ _ hs]
    by_cases e : wd x.2.2 = s
    · rw [if_pos e, if_pos ⟨h, e⟩, e]; rfl
    · rw [if_neg e, if_neg (fun x => e x.2)]; simp
  · rw [if_neg h, if_neg (fun x => h x.1)]; simp
theorem tm_lDn' {L : List (K 12 × Int)} (hs : Srt keyOf L) (x : T3) (hx : x.1 = 2 → 1 ≤ tm (wd x.2.2) L) (s : K 12) : tm s (lDn L x) + one s x = tm s L := by
  unfold lDn one
  by_cases h : x.1 = 2
  · have h1 := hx h
    rw [if_pos h, tm_take _ _ hs (by omega), if_pos h1]
    by_cases e : wd x.2.2 = s
    · rw [if_pos e, if_pos ⟨h, e⟩, e]; simp
    · rw [if_neg e, if_neg (fun x => e x.2)]; simp
  · rw [if_neg h, if_neg (fun x => h x.1)]; simp
theorem srt_lDn {L : List (K 12 × Int)} (hs : Srt keyOf L) (x : T3) : Srt keyOf (lDn L x) := by
  unfold lDn; split
  · exact take_srt _ hs
  · exact hs
theorem Cn.nil : Cn [] [] := fun s => by rw [tm_nil]; rfl
theorem Cn.snoc {l : List T3} {L : List (K 12 × Int)} (h : Cn l L) (hs : Srt keyOf L) (x : T3) : Cn (l ++ [x]) (lUp L x) := fun s => by
  rw [tm_lUp hs, h s]
  unfold ct
  simp
theorem Cn.set {l : List T3} {L : List (K 12 × Int)} (h : Cn l L) (hs : Srt keyOf L) (i : Nat) (hi : i < l.length) (x : T3) : Cn (l.set i x) (lUp (lDn L l[i]) x) := fun s => by
  have h1 := sum_set (one s) x l i hi
  have h2 := tm_lDn' hs l[i] (fun e => by
    rw [h (wd (l[i]).2.2)]
    have := (sum_pos (one (wd (l[i]).2.2)) l).2 ⟨l[i], List.getElem_mem _, by unfold one; rw [if_pos ⟨e, rfl⟩]; omega⟩
    unfold ct; omega) s
  have h3 := h s
  rw [tm_lUp (srt_lDn hs _)]
  unfold ct at h3 ⊢
  omega
theorem Cn.bd {l : List T3} {L : List (K 12 × Int)} (h : Cn l L) (s : K 12) : 0 ≤ tm s L ∧ tm s L ≤ l.length := by
  rw [h s]
  have := ct_le s l
  omega
/-- Two lists without doubles and of the same members are as long. -/
theorem len_sub {α : Type} [DecidableEq α] : ∀ {l m : List α}, l.Nodup → (∀ s ∈ l, s ∈ m) → l.length ≤ m.length
  | [], _, _, _ => Nat.zero_le _
  | a :: r, m, h, hs => by
    rw [List.nodup_cons] at h
    have ha : a ∈ m := hs a (by simp)
    have := len_sub (l := r) (m := m.erase a) h.2 (fun s hm => (List.mem_erase_of_ne (fun e => h.1 (by rw [← e]; exact hm))).2 (hs s (by simp [hm])))
    rw [List.length_erase_of_mem ha] at this
    have := List.length_pos_of_mem ha
    rw [List.length_cons]; omega
theorem srtK_nodup : ∀ {l : List (K 12)}, SrtK l → l.Nodup := fun {l} h => by
  unfold SrtK at h
  exact h.imp (fun hab e => by rw [e] at hab; omega)
theorem Cn.mem {W0 W : World} {mb : Nat} {l : List T3} {L : List (K 12 × Int)} (h : Cn l L) (hd : Dm W0 mb L W) (s : K 12) : s ∈ keys L ↔ ∃ x ∈ l, x.1 = 2 ∧ wd x.2.2 = s := by
  rw [← has_mem, (hd.tm_bd s).2.2, h s]
  have := sum_pos (one s) l
  unfold ct
  constructor
  · intro hh
    obtain ⟨x, hx, h1⟩ := this.1 (by omega)
    refine ⟨x, hx, ?_⟩
    unfold one at h1
    split at h1
    · assumption
    · omega
  · rintro ⟨x, hx, h1⟩
    have := this.2 ⟨x, hx, by unfold one; rw [if_pos h1]; omega⟩
    omega
/-- As many words as any list without doubles of the texts that stand there. -/
theorem Cn.len {W0 W : World} {mb : Nat} {l : List T3} {L : List (K 12 × Int)} (h : Cn l L) (hd : Dm W0 mb L W) (m : List (K 12)) (hm : m.Nodup) (hs : ∀ s, s ∈ m ↔ ∃ x ∈ l, x.1 = 2 ∧ wd x.2.2 = s) : L.length = m.length := by
  have hk : (keys L).Nodup := srtK_nodup (keys_srt hd.srt)
  have h1 := len_sub hk (fun s hx => (hs s).2 ((h.mem hd s).1 hx))
  have h2 := len_sub hm (fun s hx => (h.mem hd s).2 ((hs s).1 hx))
  simp at h1 h2
  omega
theorem Cn.len_le {W0 W : World} {mb : Nat} {l : List T3} {L : List (K 12 × Int)} (h : Cn l L) (hd : Dm W0 mb L W) : L.length ≤ l.length := by
  have hk : (keys L).Nodup := srtK_nodup (keys_srt hd.srt)
  have h1 := len_sub (m := l.map (fun x => wd x.2.2)) hk (fun s hx => by
    obtain ⟨x, hx, _, e⟩ := (h.mem hd s).1 hx
    exact List.mem_map.2 ⟨x, hx, e⟩)
  simp at h1
  exact h1

/-- The column in block cb holds the values l; its row is v. -/
structure Col (cb : Nat) (kind : Int) (l : List T3) (v : Value) (W : World) : Prop where
  mem : ∃ L W0, Cm cb kind v (nz l) L W0 W ∧ Cn l L
  row : HRow W (cb + 1) 28 3 v l.length (cells3 l)
  ok : ∀ x ∈ l, inC kind x = true
section
variable {cb : Nat} {kind : Int} {l : List T3} {v : Value} {W W' : World}
theorem Col.lt (h : Col cb kind l v W) : cb < W.heap.size := by obtain ⟨L, W0, h1, _⟩ := h.mem; exact h1.lt
theorem Col.later (h : Col cb kind l v W) (hb : Below W.heap.size W W') : Col cb kind l v W' := by
  obtain ⟨L, W0, h1, h2⟩ := h.mem
  exact ⟨⟨L, W0, h1.later hb, h2⟩, h.row.later hb, h.ok⟩
theorem Col.other {row : Option Nat} (h : Col cb kind l v W) (hg : W.grownBy W' row) (hr : ∀ k, row = some k → k ≠ cb ∧ v.ownBlock ≠ some k ∧ Ty W k) : Col cb kind l v W' := by
  obtain ⟨L, W0, h1, h2⟩ := h.mem
  exact ⟨⟨L, W0, h1.other hg (fun k hk => ⟨(hr k hk).1, (hr k hk).2.2⟩), h2⟩, h.row.of (fun k hk => hg.block k (h.row.lt k hk).2 (fun e => (hr k e.symm).2.1 hk)), h.ok⟩
theorem col_app (h : Col cb kind l v W) (hl : l.length + 1 ≤ 60) (x : T3) (hs : x.2.2.size ≤ maxLen) (hi : inC kind x = true) :
    Calls Try.prog 10 #[(Value.pointer (some ⟨cb, 0, none⟩)), (Value.agg #[Value.int .i64 (x.1), Value.int .i64 (x.2.1), Value.string (x.2.2)])] W fun e w' => e = .returned (.bool true) ∧ ∃ v', Col cb kind (l ++ [x]) v' w' ∧ (∀ q, v'.ownBlock = some q → v.ownBlock = some q ∨ W.heap.size ≤ q) ∧ Chg (fun b => b = cb ∨ v.ownBlock = some b) W w' := by
  obtain ⟨L, W0, h1, h2⟩ := h.mem
  have hle := h2.len_le h1.dm
  have hnz := nz_le l
  refine (append_yes h1 h.row (by omega) x hs hi (by omega) (by omega) (fun s => by have := h2.bd s; omega)).mono ?_
  rintro e w' ⟨rfl, v', c1, c2, c3, c4⟩
  refine ⟨rfl, v', ⟨⟨_, W0, by rw [nz_snoc]; exact c1, h2.snoc h1.dm.srt x⟩, c2, fun y hy => ?_⟩, c3, c4⟩
  rcases List.mem_append.1 hy with hy | hy
  · exact h.ok y hy
  · rw [List.mem_singleton.1 hy]; exact hi
theorem col_app_no (h : Col cb kind l v W) (x : T3) (hs : x.2.2.size ≤ maxLen) (hi : inC kind x = false) :
    Calls Try.prog 10 #[(Value.pointer (some ⟨cb, 0, none⟩)), (Value.agg #[Value.int .i64 (x.1), Value.int .i64 (x.2.1), Value.string (x.2.2)])] W fun e w' => e = .returned (.bool false) ∧ Below W.heap.size W w' := by
  obtain ⟨L, W0, h1, h2⟩ := h.mem
  exact append_no h1 x.1 x.2.1 x.2.2 hs hi
theorem col_set (h : Col cb kind l v W) (hl : l.length ≤ 60) (i : Nat) (hil : i < l.length) (x : T3) (hs : x.2.2.size ≤ maxLen) (hi : inC kind x = true) :
    Calls Try.prog 11 #[(Value.pointer (some ⟨cb, 0, none⟩)), (Value.int .i64 ((i : Int))), (Value.agg #[Value.int .i64 (x.1), Value.int .i64 (x.2.1), Value.string (x.2.2)])] W fun e w' => e = .returned (.bool true) ∧ Col cb kind (l.set i x) v w' ∧ Chg (fun b => b = cb ∨ v.ownBlock = some b) W w' := by
  obtain ⟨L, W0, h1, h2⟩ := h.mem
  have hle := h2.len_le h1.dm
  have hnz := nz_le l
  refine (set_yes h1 h.row (by omega) i hil x hs hi (h.ok _ (List.getElem_mem _)) (by omega) (fun e => by have := nz_pos l i hil e; omega) (by omega) (fun s => by have := h2.bd s; omega)).mono ?_
  rintro e w' ⟨rfl, c1, c2, c4⟩
  refine ⟨rfl, ⟨⟨_, W0, by rw [nz_set l i hil]; exact c1, h2.set h1.dm.srt i hil x⟩, c2, fun y hy => ?_⟩, c4⟩
  rcases List.mem_or_eq_of_mem_set hy with hy | hy
  · exact h.ok y hy
  · rw [hy]; exact hi
theorem col_set_no (h : Col cb kind l v W) (i : Int) (x : T3) (hs : x.2.2.size ≤ maxLen) (hi : ¬ (0 ≤ i ∧ i < l.length) ∨ inC kind x = false) :
    Calls Try.prog 11 #[(Value.pointer (some ⟨cb, 0, none⟩)), (Value.int .i64 (i)), (Value.agg #[Value.int .i64 (x.1), Value.int .i64 (x.2.1), Value.string (x.2.2)])] W fun e w' => e = .returned (.bool false) ∧ Below W.heap.size W w' := by
  obtain ⟨L, W0, h1, h2⟩ := h.mem
  by_cases hin : 0 ≤ i ∧ i < l.length
  · obtain ⟨j, rfl⟩ := Int.eq_ofNat_of_zero_le hin.1
    exact set_no h1 h.row j (by omega) x.1 x.2.1 x.2.2 hs (hi.resolve_left (fun hn => hn hin))
  · exact set_out h1 h.row i (by omega) x.1 x.2.1 x.2.2
theorem col_at (h : Col cb kind l v W) (i : Nat) (hi : i < l.length) : Calls Try.prog 12 #[(Value.pointer (some ⟨cb, 0, none⟩)), (Value.int .i64 ((i : Int)))] W fun e w' => e = .returned (.tuple #[(Value.agg #[Value.int .i64 ((l[i]).1), Value.int .i64 ((l[i]).2.1), Value.string ((l[i]).2.2)]), .bool true]) ∧ Below W.heap.size W w' := by
  obtain ⟨L, W0, h1, h2⟩ := h.mem
  exact at_in h1 h.row i hi
theorem col_at_no (h : Col cb kind l v W) (i : Int) (hi : ¬ (0 ≤ i ∧ i < l.length)) : Calls Try.prog 12 #[(Value.pointer (some ⟨cb, 0, none⟩)), (Value.int .i64 (i))] W fun e w' => e = .returned (.tuple #[(Value.agg #[Value.int .i64 (0), Value.int .i64 (0), Value.string (⟨#[]⟩)]), .bool false]) ∧ Below W.heap.size W w' := by
  obtain ⟨L, W0, h1, h2⟩ := h.mem
  exact at_out h1 h.row i (by omega)
theorem col_len (h : Col cb kind l v W) : Calls Try.prog 14 #[(Value.pointer (some ⟨cb, 0, none⟩))] W fun e w' => e = .returned (Value.int .i64 ((l.length : Int))) ∧ w' = W := by
  obtain ⟨L, W0, h1, h2⟩ := h.mem
  exact clen_any h1 h.row
theorem col_words (h : Col cb kind l v W) (m : List (K 12)) (hm : m.Nodup) (hs : ∀ s, s ∈ m ↔ ∃ x ∈ l, x.1 = 2 ∧ wd x.2.2 = s) : Calls Try.prog 15 #[(Value.pointer (some ⟨cb, 0, none⟩))] W fun e w' => e = .returned (Value.int .i64 ((m.length : Int))) ∧ w' = W := by
  obtain ⟨L, W0, h1, h2⟩ := h.mem
  have := words_any h1
  rw [h2.len h1.dm m hm hs] at this
  exact this
theorem col_nulls (h : Col cb kind l v W) : Calls Try.prog 16 #[(Value.pointer (some ⟨cb, 0, none⟩))] W fun e w' => e = .returned (Value.int .i64 ((nz l : Int))) ∧ w' = W := by
  obtain ⟨L, W0, h1, h2⟩ := h.mem
  exact nulls_any h1

theorem col_new (k : Int) (hk : k = 1 ∨ k = 2) (W : World) : Calls Try.prog 7 #[(Value.int .i64 (k))] W fun e w' => e = .returned (Value.pointer (some ⟨W.heap.size, 0, none⟩)) ∧ Col W.heap.size k [] (.slice none 0 0) w' ∧ Below W.heap.size W w' := by
  have hh := heap_alloc_new W (.cells #[(Value.int .i64 (k)), .slice none 0 0, .nilFunc, .pointer none, (Value.int .i64 (0))] 51)
  have hcol : Col W.heap.size k [] (.slice none 0 0) (W.alloc (.cells #[(Value.int .i64 (k)), .slice none 0 0, .nilFunc, .pointer none, (Value.int .i64 (0))] 51)) :=
    ⟨⟨[], W, ⟨nd_cell hh 0, nd_cell hh 1, ⟨⟨.nilFunc, ⟨Nat.zero_le _, nd_cell hh 2, ⟨.nil, none, nd_cell hh 3, rfl, rfl⟩, fun j => frozen_of_row _ _ j _ _ hh, Srt.nil, (below_alloc W _).mono (Nat.zero_le _), ⟨_, _, hh, by decide⟩⟩, .inl rfl⟩, fun p hp => by simp at hp, by simp⟩, nd_cell hh 4⟩, Cn.nil⟩, HRow.nil, fun x hx => by simp at hx⟩
  have HC := Lib.hid hcol
  clear hcol hh
  rcases hk with rfl | rfl
  · go_enter Try.func7, Try.ntmps7
    go_wp2
    go_ret
    exact ⟨rfl, HC.out, below_alloc W _⟩
  · go_enter Try.func7, Try.ntmps7
    go_wp2
    go_ret
    exact ⟨rfl, HC.out, below_alloc W _⟩
theorem col_new_no (k : Int) (h1 : k ≠ 1) (h2 : k ≠ 2) (W : World) : Calls Try.prog 7 #[(Value.int .i64 (k))] W fun e w' => e = .returned (.pointer none) ∧ w' = W := by
  have e1 : (k != 1) = true := by simp [h1]
  have e2 : (k != 2) = true := by simp [h2]
  go_enter Try.func7, Try.ntmps7
  go_wp2
  go_ret
  exact ⟨rfl, rfl⟩
end
end Go.Proofs.Ytglfmbpcapendaa.S
