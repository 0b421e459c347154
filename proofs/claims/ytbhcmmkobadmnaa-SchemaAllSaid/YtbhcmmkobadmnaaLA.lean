/- col, one; SchemaNone, SchemaRefs: their walks. -/
import Derived.Test.YtbhcmmkobadmnaaBG
namespace Go.Proofs.Ytbhcmmkobadmnaa
open Go Go.RowKit Go.Proofs

set_option maxRecDepth 100000 in
theorem lcol_any (nm tg : ByteArray) (k : Int) (W : World) : Calls Try.prog 22 #[.string nm, .int .i64 k, .string tg] W fun e w' => e = .returned (.agg #[.string nm, .int .i64 k, .bool false, .string tg]) ∧ Below W.heap.size W w' := by
  go_enter Try.func22, Try.ntmps22
  go_wp2_with fail
  refine bodyPost_ret (v := .agg #[.string nm, .int .i64 k, .bool false, .string tg]) (by simp [results, Try.results22, go_sem]) rfl ?_
  exact ⟨rfl, below_alloc W _⟩
set_option maxRecDepth 100000 in
theorem lone_any (nm key : ByteArray) (c : C) (W : World) : Calls Try.prog 21 #[.string nm, .agg #[.string c.nm, .int .i64 c.kd, .bool c.mu, .string c.tgt], .string key] W fun e w' => ∃ g, e = .returned (.agg #[.string nm, .slice (some ⟨g, 0, none⟩) 1 1, .string key, .slice none 0 0]) ∧ w'.heap[g]? = some (.cells #[.string c.nm, .int .i64 c.kd, .bool c.mu, .string c.tgt] 43) ∧ Below W.heap.size W w' := by
  go_enter Try.func21, Try.ntmps21
  go_wp2_with fail
  refine bodyPost_ret (v := .agg #[.string nm, .slice (some ⟨W.heap.size + 1 + 1, 0, none⟩) 1 1, .string key, .slice none 0 0]) (by simp [results, Try.results21, go_sem]) rfl ?_
  have hb1 := below_alloc W (.cells #[.string c.nm, .int .i64 c.kd, .bool c.mu, .string c.tgt] 43)
  have hb2 := hb1.alloc hb1.size (boxT nm (.slice (some ⟨W.heap.size + 1 + 1, 0, none⟩) 1 1) key (.slice none 0 0))
  have hb3 := hb2.alloc hb2.size (.cells #[.string c.nm, .int .i64 c.kd, .bool c.mu, .string c.tgt] 43)
  have k1 := heap_alloc_new ((W.alloc (.cells #[.string c.nm, .int .i64 c.kd, .bool c.mu, .string c.tgt] 43)).alloc (boxT nm (.slice (some ⟨W.heap.size + 1 + 1, 0, none⟩) 1 1) key (.slice none 0 0))) (.cells #[.string c.nm, .int .i64 c.kd, .bool c.mu, .string c.tgt] 43)
  rw [World.size_alloc, World.size_alloc] at k1
  exact ⟨_, rfl, k1, hb3⟩

/-- The law's Schema, and all that was there ahead of the law. -/
structure St (S : Nat) (W : World) (ts : List T) (w : World) : Prop where
  sch : Sch w S ts
  below : Below W.heap.size W w
  le : W.heap.size ≤ S
section
variable {S : Nat} {W w w' : World} {ts ts' : List T}
theorem St.on (h : St S W ts w) (hb : Below w.heap.size w w') : St S W ts w' := ⟨h.sch.later hb, below_on h.below hb, h.le⟩
theorem St.add (h : St S W ts w) (hs : Sch w' S ts') (hc : Chg (fun b => b = S) w w') : St S W ts' w' := ⟨hs, h.below.trans (hc.under h.below.size h.le), h.le⟩
theorem St.new (hb : Below W.heap.size W w) (hs : Sch w' w.heap.size []) (hb2 : Below w.heap.size w w') : St w.heap.size W [] w' := ⟨hs, below_on hb hb2, hb.size⟩
end

theorem add_nil {nm key : ByteArray} {p1 p2 : Option Addr} {n1 c1 n2 c2 : Nat} (W : World) : Calls Try.prog 13 #[.pointer none, .agg #[.string nm, .slice p1 n1 c1, .string key, .slice p2 n2 c2]] W fun e w' => e = .returned (.int .i64 6) ∧ Below W.heap.size W w' := by
  go_enter Try.func13, Try.ntmps13
  go_wp2_with fail
  go_ret
  exact ⟨rfl, below_alloc W _⟩
theorem nilP (W : World) : SchP W (.pointer none) [] := .inl ⟨rfl, rfl⟩
set_option maxRecDepth 100000 in
set_option maxHeartbeats 2000000 in
theorem none_walk (W : World) : Calls Try.prog 4 #[] W fun e w' => e = .returned (.bool true) ∧ Below W.heap.size W w' := by
  go_enter Try.func4, Try.ntmps4
  go_wp2_with fail
  refine (find_is (t := zeroT) (nm := e0) (key := e0) (ok := false) (nilP _) AllFew.nil rfl rfl rfl rfl).mono ?_
  rintro e w1 ⟨p1, n1, c1, p2, n2, c2, rfl, hr, hb⟩
  have H1 := Lib.hid (hb.alloc hb.size (boxT e0 (.slice p1 n1 c1) e0 (.slice p2 n2 c2)))
  clear hr hb
  go_wp2_with fail
  refine (col_is (nm := e0) (kd := 0) (mu := false) (tg := e0) (ok := false) (nilP _) rfl rfl).mono ?_
  rintro e w2 ⟨rfl, hb⟩
  have H2 := Lib.hid ((below_on H1.out hb).alloc (below_on H1.out hb).size (.cells #[.string e0, .int .i64 0, .bool false, .string e0] 43))
  clear hb
  go_wp2_with fail
  refine (begun_any _).mono ?_
  rintro e w3 ⟨rfl, hb⟩
  have H3 := Lib.hid (below_on H2.out hb)
  clear hb
  go_wp2_with fail
  refine (add_nil _).mono ?_
  rintro e w4 ⟨rfl, hb⟩
  have H4 := Lib.hid (below_on (H3.out.alloc H3.out.size (.cells #[.string bX, .int .i64 1, .bool false, .string e0] 43)) hb)
  clear hb
  go_wp2_with fail
  refine (sNames_any (nilP _) (by decide)).mono ?_
  rintro e w5 ⟨v, rfl, hr, hb⟩
  have hr : HRow w5 w4.heap.size 9 1 v 0 [] := hr
  obtain ⟨pv, cv, rfl, _, _⟩ := hr.isslice
  have H5 := Lib.hid (below_on H4.out hb)
  clear hr hb
  go_wp2_with fail
  go_ret
  exact ⟨rfl, H5.out⟩
end Go.Proofs.Ytbhcmmkobadmnaa
