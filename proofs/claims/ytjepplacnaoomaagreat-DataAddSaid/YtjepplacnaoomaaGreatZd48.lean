import Derived.Test.YtjepplacnaoomaaGreatZd44
import Derived.Test.YtjepplacnaoomaaGreatZd39
import Derived.Test.YtjepplacnaoomaaGreatZd35
namespace Go.Proofs.YtjepplacnaoomaaGreat
open Go Go.RowKit Go.Proofs Co Co.S
set_option maxRecDepth 100000 in
set_option maxHeartbeats 1000000 in
theorem dvalue_no {dv pv v mv : Value} {ts : List T} {x : ByteArray} {p : List ByteArray} {id : Int} {W : World} (hd : ∀ w,Below W.heap.size W w→Calls Tryz.prog 30 #[dv] w fun e w'=>e=.returned pv∧w'=w) (h : SchP mv W pv ts) (hp : Wd W v p) (hno : (pcolL ts x p).2.2≠0) :
  Calls Tryz.prog 20 #[dv,.string x,.int .i64 id,v] W fun e w'=>e=.returned (.tuple #[(Value.agg #[Value.int .i64 (0),Value.int .i64 (0),Value.string (e0)]),.bool false])∧Below W.heap.size W w':=by
 have hb1:=below_alloc W (.cells #[.int .i64 0,.int .i64 0,.string e0] 26)
 have k1:=heap_alloc_new W (.cells #[.int .i64 0,.int .i64 0,.string e0] 26)
 obtain ⟨w1,hw1⟩ : ∃ w1,W.alloc (.cells #[.int .i64 0,.int .i64 0,.string e0] 26)=w1:=⟨_,rfl⟩
 obtain ⟨B,hB⟩ : ∃ B,W.heap.size=B:=⟨_,rfl⟩
 rw [hw1] at hb1 k1
 have hs:=hd w1 hb1
 have hc:=pathCol_any (tb:=x) (h.later hb1) (hp.later hb1)
 obtain ⟨err,herr⟩ : ∃ e,(pcolL ts x p).2.2=e:=⟨_,rfl⟩
 obtain ⟨s2,hs2⟩ : ∃ e,(pcolL ts x p).2.1=e:=⟨_,rfl⟩
 obtain ⟨cc,hcc⟩ : ∃ e,(pcolL ts x p).1=e:=⟨_,rfl⟩
 rw [herr] at hc hno
 rw [hs2,hcc] at hc
 obtain ⟨nm,kd,mu,tg⟩:=cc
 rw [show colVQ ⟨nm,kd,mu,tg⟩=.agg #[.string nm,.int .i64 kd,.bool mu,.string tg] from rfl] at hc
 rw [hB] at k1
 have HW:=Lib.hid (And.intro hw1 (And.intro hB (And.intro hb1 k1)))
 clear hw1 hB hb1 k1 hd h hp herr hs2
 go_enter Tryz.func20,Tryz.ntmps20
 go_upto_region 1 with fail
 rw [HW.out.1,HW.out.2.1]
 go_wp2_with (first
  | (go_at_call 30; (with_reducible refine hs.mono ?_); rintro e w2 ⟨rfl,hw⟩; subst w2; clear hs)
  | (go_at_call 62; (with_reducible refine hc.mono ?_); rintro e w3 ⟨rfl,hb3⟩; have hb4:=below_alloc w3 (.cells #[.string nm,.int .i64 kd,.bool mu,.string tg] 116); have hres:=heap_on hb4 (heap_on hb3 HW.out.2.2.2); have z0:=nd_cell hres 0; have z1:=nd_cell hres 1; have z2:=nd_cell hres 2; have zf:=fun i=>frozen_of_row (w3.alloc (.cells #[.string nm,.int .i64 kd,.bool mu,.string tg] 116)) B i _ _ hres; have zl:=lt_of_heap hres; have H3:=Lib.hid (And.intro (below_on (below_on HW.out.2.2.1 hb3) hb4) hres); clear hc hb3 hb4 hres))
 have hS3:=set3 H3.out.2 (.int .i64 0) (.int .i64 0) (.string e0)
 have hBx:=below_set3 H3.out.1 (Nat.le_of_eq HW.out.2.1) (.int .i64 0) (.int .i64 0) (.string e0)
 generalize ((World.setCell _ _ _).setCell _ _).setCell _ _=wz at hS3 hBx ⊢
 have y0:=nd_cell hS3 0
 have y1:=nd_cell hS3 1
 have y2:=nd_cell hS3 2
 refine bodyPost_ret (v:=.tuple #[(Value.agg #[Value.int .i64 (0),Value.int .i64 (0),Value.string (e0)]),.bool false]) (by simp [results,Tryz.results20,go_sem,y0,y1,y2]) rfl ?_
 exact ⟨rfl,hBx⟩
theorem set_two {w : World} {a b : Nat} {x y u v : Value} {t1 t2 : TypeId} (h1 : w.heap[a]?=some (.cells #[x] t1)) (h2 : w.heap[b]?=some (.cells #[y] t2)) (hne : a≠b) :
  ((w.setCell ⟨a,0,none⟩ u).setCell ⟨b,0,none⟩ v).cell? ⟨a,0,none⟩=some u∧((w.setCell ⟨a,0,none⟩ u).setCell ⟨b,0,none⟩ v).cell? ⟨b,0,none⟩=some v:=by
 have k1:=heap_setCell_same w a 0 #[x] t1 u h1
 have k2 : (w.setCell ⟨a,0,none⟩ u).heap[b]?=some (.cells #[y] t2):=(heap_setCell_other w ⟨a,0,none⟩ b u (fun e=>hne e.symm)).trans h2
 have k3:=heap_setCell_same (w.setCell ⟨a,0,none⟩ u) b 0 #[y] t2 v k2
 have k4 : ((w.setCell ⟨a,0,none⟩ u).setCell ⟨b,0,none⟩ v).heap[a]?=_:=(heap_setCell_other (w.setCell ⟨a,0,none⟩ u) ⟨b,0,none⟩ a v hne).trans k1
 exact ⟨nd_cell k4 0,nd_cell k3 0⟩
set_option maxRecDepth 100000 in
set_option maxHeartbeats 2000000 in
theorem dbykey_no {dv pv mv : Value} {ts : List T} {x : ByteArray} {u : T3} {W : World} (hd : ∀ w,Below W.heap.size W w→Calls Tryz.prog 30 #[dv] w fun e w'=>e=.returned pv∧w'=w) (h : SchP mv W pv ts) (hfew : AllFew ts) (hno : (orT (findT ts x)).key=e0∨u.1=0) :
  Calls Tryz.prog 18 #[dv,.string x,(Value.agg #[Value.int .i64 (u.1),Value.int .i64 (u.2.1),Value.string (u.2.2)])] W fun e w'=>e=.returned (.tuple #[(Value.int .i64 (0)),.bool false])∧Below W.heap.size W w':=by
 have hb0:=below_alloc W (.cells #[.int .i64 u.1,.int .i64 u.2.1,.string u.2.2] 26)
 have k0:=heap_alloc_new W (.cells #[.int .i64 u.1,.int .i64 u.2.1,.string u.2.2] 26)
 have hb1:=below_alloc (W.alloc (.cells #[.int .i64 u.1,.int .i64 u.2.1,.string u.2.2] 26)) (.cells #[.int .i64 0] 3)
 have k1:=heap_alloc_new (W.alloc (.cells #[.int .i64 u.1,.int .i64 u.2.1,.string u.2.2] 26)) (.cells #[.int .i64 0] 3)
 have hb2:=below_alloc ((W.alloc (.cells #[.int .i64 u.1,.int .i64 u.2.1,.string u.2.2] 26)).alloc (.cells #[.int .i64 0] 3)) (.cells #[.bool false] 4)
 have k2:=heap_alloc_new ((W.alloc (.cells #[.int .i64 u.1,.int .i64 u.2.1,.string u.2.2] 26)).alloc (.cells #[.int .i64 0] 3)) (.cells #[.bool false] 4)
 have k0:=heap_on hb2 (heap_on hb1 k0)
 have k1:=heap_on hb2 k1
 have hb2:=below_on (below_on hb0 hb1) hb2
 obtain ⟨w1,hw1⟩ : ∃ w1,((W.alloc (.cells #[.int .i64 u.1,.int .i64 u.2.1,.string u.2.2] 26)).alloc (.cells #[.int .i64 0] 3)).alloc (.cells #[.bool false] 4)=w1:=⟨_,rfl⟩
 obtain ⟨B,hB⟩ : ∃ B,W.heap.size=B:=⟨_,rfl⟩
 simp only [World.size_alloc] at k1 k2
 rw [hw1] at hb2 k0 k1 k2
 rw [hB] at k0 k1 k2
 have hs:=hd w1 hb2
 have hfi:=sFind_any (x:=x) (h.later hb2) hfew
 generalize orT (findT ts x)=t at hfi hno
 generalize hasT ts x=ok at hfi
 have HW:=Lib.hid (And.intro hw1 (And.intro hB (And.intro hb2 (And.intro k0 (And.intro k1 k2)))))
 clear hw1 hB hb0 hb1 hb2 k0 k1 k2 hd h hfew
 have hc : ∃ b : Bool,b=decide (t.key=e0):=⟨_,rfl⟩
 go_enter Tryz.func18,Tryz.ntmps18
 go_upto_region 1 with fail
 rw [HW.out.1,HW.out.2.1]
 go_upto_region 2 with (first
  | (go_at_call 30; (with_reducible refine hs.mono ?_); rintro e w2 ⟨rfl,hw⟩; subst w2; clear hs)
  | (go_at_call 55; (with_reducible refine hfi.mono ?_); rintro e w3 ⟨p1,n1,c1,p2,n2,c2,rfl,_,hb3⟩; have hb4:=below_alloc w3 (.cells #[.string t.nm,.slice p1 n1 c1,.string t.key,.slice p2 n2 c2] 46); have ka:=heap_alloc_new w3 (.cells #[.string t.nm,.slice p1 n1 c1,.string t.key,.slice p2 n2 c2] 46); have H3:=Lib.hid (And.intro (below_on HW.out.2.2.1 (below_on hb3 hb4)) (And.intro (heap_on hb4 (heap_on hb3 HW.out.2.2.2.1)) (And.intro (heap_on hb4 (heap_on hb3 HW.out.2.2.2.2.1)) (And.intro (heap_on hb4 (heap_on hb3 HW.out.2.2.2.2.2)) ka)))); clear hfi hb3 hb4 ka))
 generalize w3.alloc _=w4 at H3 ⊢
 obtain ⟨m0,m1,m2,m3,m4⟩:=H3.out
 have z2:=nd_cell m4 2
 have v0:=nd_cell m1 0
 have r0:=nd_cell m2 0
 have r1:=nd_cell m3 0
 have f0:=fun i=>frozen_of_row w4 (B+1) i _ _ m2
 have f1:=fun i=>frozen_of_row w4 (B+1+1) i _ _ m3
 have l0:=lt_of_heap m2
 have l1:=lt_of_heap m3
 have l2:=lt_of_heap m4
 have l3:=lt_of_heap m1
 have hst:=set_two (u:=.int .i64 0) (v:=.bool false) m2 m3 (by omega)
 have hBx : Below B W ((w4.setCell ⟨B+1,0,none⟩ (.int .i64 0)).setCell ⟨B+1+1,0,none⟩ (.bool false)):=((HW.out.2.1 ▸ m0).setCell (p:=⟨B+1,0,none⟩) (by show B≤B+1; omega) _).setCell (p:=⟨B+1+1,0,none⟩) (by show B≤B+1+1; omega) _
 have HE:=Lib.hid (And.intro hst hBx)
 clear m0 m1 m2 m3 m4 hst hBx
 by_cases hk : t.key=e0
 ·go_upto_region 3 with fail
  all_goals (go_wp2_with fail)
  all_goals
   obtain ⟨⟨y0,y1⟩,hBx⟩:=HE.out
   refine bodyPost_ret (v:=.tuple #[.int .i64 0,.bool false]) (by simp [results,Tryz.results18,go_sem,y0,y1]) rfl ?_
   exact ⟨rfl,HW.out.2.1 ▸ hBx⟩
 ·obtain hu : u.1=0:=hno.resolve_left hk
  go_upto_region 3 with fail
  all_goals (go_wp2_with fail)
  all_goals
   obtain ⟨⟨y0,y1⟩,hBx⟩:=HE.out
   refine bodyPost_ret (v:=.tuple #[.int .i64 0,.bool false]) (by simp [results,Tryz.results18,go_sem,y0,y1]) rfl ?_
   exact ⟨rfl,HW.out.2.1 ▸ hBx⟩
end Go.Proofs.YtjepplacnaoomaaGreat
