import Derived.Test.YtjepplacnaoomaaGreatZd35
import Derived.Test.YtjepplacnaoomaaGreatZd38
import Derived.Test.YtjepplacnaoomaaGreatZd39
namespace Go.Proofs.YtjepplacnaoomaaGreat
open Go Go.RowKit Go.Proofs Co Co.S
section
variable {W w : World} {b : Nat} {ts : List T} {tt : List RT} {i : NI} {O : Nat→Nat} {t : Nat} {y : RT}
theorem cellsF_len {fs : List (Value×Value)} {ts : List T} (h : fs.length=ts.length) : (cellsF fs ts).length=ts.length*4:=by
 unfold cellsF
 induction fs generalizing ts with
 | nil=>cases ts with
  | nil=>rfl
  | cons t ts=>cases h
 | cons f fs ih =>
  cases ts with
  | nil=>cases h
  | cons t ts =>
   simp only [List.zip_cons_cons,List.flatMap_cons,List.length_append,List.length_cons,List.length_nil]
   rw [ih (by simpa using h)]
   omega
theorem DbN.rdTs (h : DbN W b ts tt i O) : RdTs W i.sv ts:=by
 obtain ⟨p,cap,e,h1,h2⟩:=h.form.isslice
 refine ⟨p,cap,cellsF i.fs ts,e,h1,h2,fun h0=>?_,cellsF_len h.fn,fun j hj=>?_⟩
 ·obtain ⟨g,c,e2,_,_⟩:=h.form.slice h0
  rw [e] at e2
  cases e2
  have f:=h.form
  rw [e] at f
  exact ⟨g,0,rfl,(HRow.lt f g rfl).2,fun j u hj=>by rw [Nat.zero_add]; exact f.cell hj⟩
 ·obtain ⟨c0,c1,c2,c3⟩:=cellsF_at h.fn hj
  exact ⟨_,_,c0,c1,c2,c3,h.rd j hj (by rw [h.fn]; exact hj)⟩
end
def byRow (A : List R1) (k : Nat) (v : T3) : Option Int:=(A.find? fun a=>decide (a.2.getD k z3=v)).map (·.1)
theorem byRow_none {A : List R1} {k : Nat} {v : T3} (h : ∀ j (hj : j<A.length),A[j].2.getD k z3≠v) : byRow A k v=none:=by
 unfold byRow
 rw [List.find?_eq_none.2 (fun a ha=>by
  obtain ⟨j,hj,rfl⟩:=List.getElem_of_mem ha
  simpa using h j hj)]
 rfl
theorem byRow_some {A : List R1} {k : Nat} {v : T3} {j : Nat} (hj : j<A.length) (h1 : A[j].2.getD k z3=v) (h : ∀ m (hm : m<A.length),m<j→A[m].2.getD k z3≠v) : byRow A k v=some A[j].1:=by
 unfold byRow
 have e : A.find? (fun a=>decide (a.2.getD k z3=v))=some A[j]:=by
  rw [List.find?_eq_some_iff_getElem]
  exact ⟨by simpa using h1,j,hj,rfl,fun m hm=>by simpa using h m (by omega) hm⟩
 rw [e]
 rfl
theorem nonempty {key : ByteArray} (h : key≠e0) : key.toList.isEmpty=false:=by
 cases hh : key.toList.isEmpty with
 | false=>rfl
 | true =>
  rw [List.isEmpty_iff,ByteArray.toList_eq] at hh
  exact absurd (bytes_ext (hh.trans rfl)) h
def byKeyP (ts : List T) (As : List (List R1)) (x : ByteArray) (v : T3) : Option Int :=
 match ts[(ixT ts x).toNat]?,As[(ixT ts x).toNat]? with
 | some t,some A=>if ixT ts x<0 then none else if t.key=e0 then none else if v.1=0 then none else byRow A (ixC t.cols t.key).toNat v
 | _,_=>none
section
variable {W : World} {b : Nat} {ts : List T} {tt : List RT} {i : NI} {O : Nat→Nat}
end
section
variable {W w : World} {b : Nat} {ts : List T} {tt : List RT} {i : NI} {O : Nat→Nat} {t : T} {cv dv : Value}
set_option maxRecDepth 100000 in
set_option maxHeartbeats 2000000 in
theorem nadd_no (h : DbN W b ts tt i O) (hi : InvQ ts) (hT : RdT W cv dv t) (hsm : SmQ t) (hno : mayP ts t≠0) : Calls Tryz.prog 29 #[(Value.pointer (some ⟨b,0,none⟩)),.agg #[.string t.nm,cv,.string t.key,dv]] W fun e w'=>e=.returned (.int .i64 (mayP ts t))∧Below W.heap.size W w':=by
 obtain ⟨pc,kc,rfl,_,_⟩:=hT.1.slice
 obtain ⟨pd,kd,rfl,_,_⟩:=hT.2.slice
 obtain ⟨nc,hnc⟩ : ∃ n,t.cols.length=n:=⟨_,rfl⟩
 obtain ⟨nd,hnd⟩ : ∃ n,t.deps.length=n:=⟨_,rfl⟩
 obtain ⟨nm,hnm⟩ : ∃ n,t.nm=n:=⟨_,rfl⟩
 obtain ⟨key,hkey⟩ : ∃ n,t.key=n:=⟨_,rfl⟩
 have hbl:=below_alloc W (.cells #[.string nm,.slice pc nc kc,.string key,.slice pd nd kd] 46)
 have hV:=heap_alloc_new W (.cells #[.string nm,.slice pc nc kc,.string key,.slice pd nd kd] 46)
 have hT1:=hT.kp (Tn.of_below (S:=fun _=>False) hbl).kpX
 have h1:=h.later hbl
 obtain ⟨w1,hw1⟩ : ∃ w1,W.alloc (.cells #[.string nm,.slice pc nc kc,.string key,.slice pd nd kd] 46)=w1:=⟨_,rfl⟩
 obtain ⟨V,hVe⟩ : ∃ V,W.heap.size=V:=⟨_,rfl⟩
 rw [hw1] at hbl hV hT1 h1
 rw [hVe] at hV
 obtain ⟨r,hr⟩ : ∃ r,mayP ts t=r:=⟨_,rfl⟩
 obtain ⟨ps,cs,hsv,_,_⟩:=h1.form.isslice
 have hsv : i.sv=.slice ps ts.length cs:=hsv
 obtain ⟨n,hn⟩ : ∃ n,ts.length=n:=⟨_,rfl⟩
 rw [hn] at hsv
 have hadd : ∀ w,Below w1.heap.size w1 w→Calls Tryz.prog 73 #[.slice ps n cs,.agg #[.string nm,.slice pc nc kc,.string key,.slice pd nd kd]] w fun e w'=>e=.returned (.int .i64 r)∧Below w.heap.size w w':=fun w hw=>by
  have:=rmay_any (hT1.kp (Tn.of_below (S:=fun _=>False) hw).kpX) (h1.later hw).rdTs hi hsm
  rw [hnm,hkey,hnc,hnd,hr,hsv] at this
  exact this
 have hbox:=h1.box
 rw [hsv] at hbox
 have HA:=Lib.hid hadd
 have HV:=Lib.hid (And.intro hV (And.intro hbl hbox))
 have HW:=Lib.hid (And.intro hw1 hVe)
 have hr0 : ¬ r=0:=by rw [← hr]; exact hno
 rw [hr,hnm,hkey,hnc,hnd]
 clear h h1 hT hT1 hsm hV hbl hadd hno hw1 hVe hr hnm hkey hnc hnd hi hsv hn hbox
 go_enter Tryz.func29,Tryz.ntmps29
 go_upto_region 1 with fail
 rw [HW.out.1,HW.out.2]
 refine Par.wp_region_par 5 [(Value.pointer (some ⟨b,0,none⟩)),(Value.pointer (some ⟨b,0,none⟩)),(Value.pointer (some ⟨b,0,none⟩)),.slice ps n cs,.agg #[.string nm,.slice pc nc kc,.string key,.slice pd nd kd]] (fun w=>Below w1.heap.size w1 w) ?A1 ?hm1 ?hB1 ?hA1 ((below_drew w1)) ?hop1 ?hT1
 case hm1=>kernel_rfl
 case hB1=>kernel_rfl
 case hA1 =>
  simp only [Par.putA,Par.dstAt,Act.put,List.getElem?_toArray,List.getElem?_cons_zero,List.getElem?_cons_succ,Option.bind_some,List.setIfInBounds_toArray,List.set_cons_zero,List.set_cons_succ,List.getD_cons_zero,List.getD_cons_succ]
  rfl
 case hop1 =>
  simp only [List.take_succ_cons,List.take_zero,Par.GiveAll,and_true]
  refine ⟨fun w' hR=>?_,fun w' hR=>?_,fun w' hR=>?_,fun w' hR=>?_,fun w' hR=>?_⟩
  ·have HR:=Lib.hid hR
   clear hR
   simp only [Par.Gives]
   go_simp
   all_goals exact HR.out
  ·have HR:=Lib.hid hR
   clear hR
   simp only [Par.Gives]
   go_simp
   all_goals exact HR.out
  ·have HR:=Lib.hid hR
   have zl:=lt_of_heap (heap_on hR HV.out.2.2)
   clear hR
   simp only [Par.Gives]
   go_simp
   all_goals exact HR.out
  ·have HR:=Lib.hid hR
   have x0:=nd_cell (heap_on hR HV.out.2.2) 0
   clear hR
   simp only [Par.Gives]
   go_simp
   all_goals exact HR.out
  ·have HR:=Lib.hid hR
   have x0:=nd_cell (heap_on hR HV.out.1) 0
   have x1:=nd_cell (heap_on hR HV.out.1) 1
   have x2:=nd_cell (heap_on hR HV.out.1) 2
   have x3:=nd_cell (heap_on hR HV.out.1) 3
   clear hR
   simp only [Par.Gives]
   go_simp
   all_goals exact HR.out
 case hT1 =>
  intro w' hR
  simp only [List.drop_succ_cons,List.drop_zero]
  have HR:=Lib.hid hR
  have hadd:=HA.out w' hR
  clear hR
  have hr0' : (r == 0)=false:=by simpa using hr0
  go_wp2_with (go_at_call 73; (with_reducible refine hadd.mono ?_); rintro e w4 ⟨rfl,hD⟩; have H4:=Lib.hid (below_on (below_on HV.out.2.1 HR.out) hD); clear hadd hD)
  go_ret
  exact ⟨rfl,H4.out⟩
end
theorem cellsF_snoc (fs : List (Value×Value)) (ts : List T) (f : Value×Value) (t : T) (h : fs.length=ts.length) : cellsF (fs ++ [f]) (ts ++ [t])=cellsF fs ts ++ [.string t.nm,f.1,.string t.key,f.2]:=by
 unfold cellsF
 rw [List.zip_append h,List.flatMap_append]
 simp
def rt0 : RT:=⟨.slice none 0 0,0,[],[]⟩
theorem RTok.nil {W : World} {t : T} {O : Nat→Nat} {j : Nat} : RTok W t rt0 O j :=
 ⟨HRow.nil,rfl,fun _ h=>absurd h (Nat.not_lt_zero _),fun _ _ h=>absurd h (Nat.not_lt_zero _),fun _ h=>(by cases h),List.Pairwise.nil,fun _ h=>(by cases h),fun _ h=>(by cases h),fun _ h=>absurd h (Nat.not_lt_zero _)⟩
def ownO (W : World) (O : Nat→Nat) (sv ov nv : Value) (q : Nat) : Nat :=
 if q<W.heap.size then O q else if sv.ownBlock=some q then 2 else if ov.ownBlock=some q then 3 else if nv.ownBlock=some q then 4 else 0
section
variable {W W' : World} {b : Nat} {ts : List T} {tt : List RT} {i : NI} {O : Nat→Nat} {t : T} {sv ov nv c d : Value}
theorem DbN.addtab (h : DbN W b ts tt i O) (hbox : W'.heap[b]?=some (.cells #[sv,ov,nv] 42)) (hk : Tn (fun q=>O q≠0∧O q≤4) W W')
  (hform : HRow W' 0 46 4 sv (ts.length+1) (cellsF i.fs ts ++ [.string t.nm,c,.string t.key,d])) (hrd : RdT W' c d t)
  (hout : HRow W' 0 55 1 ov (ts.length+1) (tt.map (·.rv) ++ [.slice none 0 0])) (hnx : HRow W' 0 3 1 nv (ts.length+1) (tt.map (fun x=>Value.int .i64 (x.nx : Int)) ++ [.int .i64 0]))
  (h2 : ∀ q,sv.ownBlock=some q→i.sv.ownBlock=some q∨W.heap.size≤q) (h3 : ∀ q,ov.ownBlock=some q→i.ov.ownBlock=some q∨W.heap.size≤q) (h4 : ∀ q,nv.ownBlock=some q→i.nv.ownBlock=some q∨W.heap.size≤q) :
  DbN W' b (ts ++ [t]) (tt ++ [rt0]) ⟨sv,ov,nv,i.fs ++ [(c,d)]⟩ (ownO W O sv ov nv)∧Ext W O (ownO W O sv ov nv):=by
 have hold : ∀ q,q<W.heap.size→ownO W O sv ov nv q=O q:=fun q hq=>by unfold ownO; rw [if_pos hq]
 have hbl:=lt_of_heap h.box
 have hl1 : (ts ++ [t]).length=ts.length+1:=by simp
 have d23 : ∀ q,sv.ownBlock=some q→ov.ownBlock=some q→False:=fun q e1 e2=>by
  obtain ⟨_,_,a1⟩:=hform.block q e1
  obtain ⟨_,_,a2⟩:=hout.block q e2
  rw [a1] at a2; cases a2
 have d24 : ∀ q,sv.ownBlock=some q→nv.ownBlock=some q→False:=fun q e1 e2=>by
  obtain ⟨_,_,a1⟩:=hform.block q e1
  obtain ⟨_,_,a2⟩:=hnx.block q e2
  rw [a1] at a2; cases a2
 have d34 : ∀ q,ov.ownBlock=some q→nv.ownBlock=some q→False:=fun q e1 e2=>by
  obtain ⟨_,_,a1⟩:=hout.block q e1
  obtain ⟨_,_,a2⟩:=hnx.block q e2
  rw [a1] at a2; cases a2
 refine ⟨⟨hbox,?_,?_,?_,fun j a e=>?_,?_,?_,fun j a e=>?_,(hold b hbl).trans h.o1,fun q hq=>?_,fun q hq=>?_,fun q hq=>?_,fun q hq=>?_⟩,fun q hq=>hold q hq⟩
 ·rw [List.length_append,List.length_append,h.n]; rfl
 ·rw [List.length_append,List.length_append,h.fn]; rfl
 ·rw [hl1,cellsF_snoc _ _ _ _ h.fn]; exact hform
 ·by_cases hj : j<ts.length
  ·have hj2 : j<i.fs.length:=by rw [h.fn]; exact hj
   have e1 : (i.fs ++ [(c,d)])[j]=i.fs[j]:=List.getElem_append_left hj2
   have e2 : (ts ++ [t])[j]=ts[j]:=List.getElem_append_left hj
   show RdT W' (i.fs ++ [(c,d)])[j].1 (i.fs ++ [(c,d)])[j].2 (ts ++ [t])[j]
   rw [e1,e2]
   exact (h.rd j hj hj2).kp hk.kpX
  ·obtain rfl : j=ts.length:=by omega
   have e1 : (i.fs ++ [(c,d)])[ts.length]'e=(c,d):=by
    rw [List.getElem_append_right (by rw [h.fn]; exact Nat.le_refl _)]; simp
   have e2 : (ts ++ [t])[ts.length]'a=t:=by
    rw [List.getElem_append_right (Nat.le_refl _)]; simp
   show RdT W' (i.fs ++ [(c,d)])[ts.length].1 (i.fs ++ [(c,d)])[ts.length].2 (ts ++ [t])[ts.length]
   rw [e1,e2]
   exact hrd
 ·rw [hl1,List.map_append]; exact hout
 ·rw [hl1,List.map_append]; exact hnx
 ·by_cases hj : j<ts.length
  ·have hj2 : j<tt.length:=by rw [h.n]; exact hj
   have e1 : (tt ++ [rt0])[j]=tt[j]:=List.getElem_append_left hj2
   have e2 : (ts ++ [t])[j]=ts[j]:=List.getElem_append_left hj
   rw [e1,e2]
   exact (h.tab j hj hj2).tn hk (fun q hq=>by omega) hold
  ·obtain rfl : j=ts.length:=by omega
   have e1 : (tt ++ [rt0])[ts.length]'e=rt0:=by
    rw [List.getElem_append_right (by rw [h.n]; exact Nat.le_refl _)]; simp [h.n]
   rw [e1]
   exact RTok.nil
 ·rcases h2 q hq with e | e
  ·exact (hold q (HRow.lt h.form q e).2).trans (h.o2 q e)
  ·unfold ownO
   rw [if_neg (Nat.not_lt.2 e),if_pos hq]
 ·rcases h3 q hq with e | e
  ·exact (hold q (HRow.lt h.outer q e).2).trans (h.o3 q e)
  ·unfold ownO
   rw [if_neg (Nat.not_lt.2 e),if_neg (fun e2=>d23 q e2 hq),if_pos hq]
 ·rcases h4 q hq with e | e
  ·exact (hold q (HRow.lt h.nxs q e).2).trans (h.o4 q e)
  ·unfold ownO
   rw [if_neg (Nat.not_lt.2 e),if_neg (fun e2=>d24 q e2 hq),if_neg (fun e2=>d34 q e2 hq),if_pos hq]
 ·by_cases hl : q<W.heap.size
  ·exact Nat.lt_of_lt_of_le hl hk.size
  ·unfold ownO at hq
   rw [if_neg hl] at hq
   by_cases e1 : sv.ownBlock=some q
   ·exact (HRow.lt hform q e1).2
   ·rw [if_neg e1] at hq
    by_cases e2 : ov.ownBlock=some q
    ·exact (HRow.lt hout q e2).2
    ·rw [if_neg e2] at hq
     by_cases e3 : nv.ownBlock=some q
     ·exact (HRow.lt hnx q e3).2
     ·rw [if_neg e3] at hq; exact absurd rfl hq
end
theorem infoT46 : (Tryz.prog.info? 46).map (fun i=>(i.zero,i.size,i.bytes))=some (some (.agg #[.string e0,.slice none 0 0,.string e0,.slice none 0 0]),4,80):=by kernel_rfl
theorem infoR55 : (Tryz.prog.info? 55).map (fun i=>(i.zero,i.size,i.bytes))=some (some (.slice none 0 0),1,24):=by kernel_rfl
theorem infoI3 : (Tryz.prog.info? 3).map (fun i=>(i.zero,i.size,i.bytes))=some (some (.int .i64 0),1,8):=by kernel_rfl
theorem app_at {t ty e : TypeId} {z : Value} {size bytes : Nat} (ht : Tryz.prog.underlying t=some (.slice e)) (hinf : (Tryz.prog.info? e).map (fun i=>(i.zero,i.size,i.bytes))=some (some z,size,bytes)) (hzs : z.cells.size=size) (hsz : 0<size) (hby : bytes≤80)
  (w : World) (base : Nat) {v : Value} {m : Nat} {xs : List Value} (hr : HRow w base e size v m xs) (hm : m+1≤1000000) (hb : base≤w.heap.size) (g0 : Nat) (cs : Array Value) (hh : w.heap[g0]?=some (.cells cs e)) (hcs : cs.size=size) (h1 : ∀ u∈cs.toList,u.oneCell'=true) :
  ∃ g cap w',(Builtin.append_ #[t,t] ty #[v,.slice (some ⟨g0,0,none⟩) 1 1]).run Tryz.prog w=.ok (.slice (some ⟨g,0,none⟩) (m+1) cap) w' ∧
   HRow w' base e size (.slice (some ⟨g,0,none⟩) (m+1) cap) (m+1) (xs ++ cs.toList)∧w.grownBy w' v.ownBlock∧(v.ownBlock=some g∨w.heap.size≤g):=by
 obtain ⟨i0,hi0,hz0,hz1,hz2⟩:=info_parts hinf
 have hmul : (m+1)*bytes≤140737488355328:=by
  have : (m+1)*bytes≤1000000*80:=Nat.mul_le_mul hm hby
  omega
 obtain ⟨g,cap,w',h1',h2,h3,h4⟩:=run_append_has (P:=Tryz.prog) w base t ty e i0 z size bytes ht hi0 hz0 hz1 hz2 hzs hsz hr ⟨g0,0,none⟩ 1 1 cs.toList (by simpa using hcs)
  (by exact World.news_of_block hh) h1 (by decide) (by unfold maxLen; omega) hmul hb
 exact ⟨g,cap,w',h1',h2,h3,h4⟩
theorem HRow.by_other {w w' : World} {base size n : Nat} {e : TypeId} {v : Value} {xs : List Value} (h : HRow w base e size v n xs) {o : Option Nat} (hg : w.grownBy w' o) (ho : ∀ k cur,o=some k→w.heap[k]?≠some (.cells cur e)) : HRow w' base e size v n xs :=
 h.of (fun k hk=>by
  obtain ⟨_,cur,e1⟩:=h.block k hk
  exact hg.block k (lt_of_heap e1) (fun e2=>ho k cur e2.symm e1))
structure FJ (W0 : World) (E : Nat→Value) (rv : Value) (n : Nat) (xs : List Value) (nm key : ByteArray) (nc : Nat) (dv : Value) (t : T) (l : Nat→Bool) (vs : Nat→Value) (w : World) : Prop where
 gb : W0.grownBy w rv.ownBlock
 f0 : l 8=false→Below W0.heap.size W0 w
 ev : ∀ j,j<6∨j=9∨j=10→l j=true→vs j=E j
 f6 : l 6=true→l 8=false→∃ p1 c1,vs 6=.agg #[.string nm,.slice p1 nc c1,.string key,dv]∧RdT w (.slice p1 nc c1) dv t
 f7 : l 7=true→l 8=false→∃ p1 c1 g0,vs 6=.agg #[.string nm,.slice p1 nc c1,.string key,dv]∧RdT w (.slice p1 nc c1) dv t∧vs 7=.slice (some ⟨g0,0,none⟩) 1 1∧w.heap[g0]?=some (.cells #[.string nm,.slice p1 nc c1,.string key,dv] 46)
 f8 : l 8=true→∃ g cap p1 c1,vs 8=.slice (some ⟨g,0,none⟩) (n+1) cap∧HRow w 0 46 4 (.slice (some ⟨g,0,none⟩) (n+1) cap) (n+1) (xs ++ [.string nm,.slice p1 nc c1,.string key,dv])∧(rv.ownBlock=some g∨W0.heap.size≤g)∧RdT w (.slice p1 nc c1) dv t
section
open Par
variable {W0 w w' : World} {E : Nat→Value} {rv : Value} {n : Nat} {xs : List Value} {nm key : ByteArray} {nc : Nat} {dv : Value} {t : T} {l : Nat→Bool} {vs : Nat→Value}
theorem FJ.up (h : FJ W0 E rv n xs nm key nc dv t l vs w) (i : Nat) (hi : i<6∨i=9∨i=10) : FJ W0 E rv n xs nm key nc dv t (upB l i) (upV vs i (E i)) w:=by
 have k : ∀ j,j=6∨j=7∨j=8→upB l i j=l j∧upV vs i (E i) j=vs j:=fun j hj=>⟨upB_ne (by omega),upV_ne (by omega)⟩
 obtain ⟨a6,b6⟩:=k 6 (by simp)
 obtain ⟨a7,b7⟩:=k 7 (by simp)
 obtain ⟨a8,b8⟩:=k 8 (by simp)
 refine ⟨h.gb,fun hl=>h.f0 (a8 ▸ hl),fun j hj hl=>?_,fun h1 h2=>?_,fun h1 h2=>?_,fun hl=>?_⟩
 ·by_cases e : j=i
  ·subst e; rw [upV_eq]
  ·rw [upV_ne e]; rw [upB_ne e] at hl; exact h.ev j hj hl
 ·rw [a6] at h1; rw [a8] at h2; rw [b6]; exact h.f6 h1 h2
 ·rw [a7] at h1; rw [a8] at h2; rw [b6,b7]; exact h.f7 h1 h2
 ·rw [a8] at hl; rw [b8]; exact h.f8 hl
theorem FJ.s6 (h : FJ W0 E rv n xs nm key nc dv t l vs w) (h7 : l 7=false) (h8 : l 8=false) {p1 : Option Addr} {c1 : Nat} (hr : RdT w' (.slice p1 nc c1) dv t) (hb : Below w.heap.size w w') :
  FJ W0 E rv n xs nm key nc dv t (upB l 6) (upV vs 6 (.agg #[.string nm,.slice p1 nc c1,.string key,dv])) w':=by
 have hb2:=below_on (h.f0 h8) hb
 refine ⟨grownB hb2,fun _=>hb2,fun j hj hl=>?_,fun _ _=>⟨p1,c1,upV_eq,hr⟩,fun hl _=>?_,fun hl=>?_⟩
 ·rw [upV_ne (by omega)]; rw [upB_ne (by omega)] at hl; exact h.ev j hj hl
 ·rw [upB_ne (by decide),h7] at hl; cases hl
 ·rw [upB_ne (by decide),h8] at hl; cases hl
theorem FJ.s7 (h : FJ W0 E rv n xs nm key nc dv t l vs w) (h8 : l 8=false) {p1 : Option Addr} {c1 : Nat} (e6 : vs 6=.agg #[.string nm,.slice p1 nc c1,.string key,dv]) (hr : RdT w (.slice p1 nc c1) dv t) :
  FJ W0 E rv n xs nm key nc dv t (upB l 7) (upV vs 7 (.slice (some ⟨w.heap.size,0,none⟩) 1 1)) (w.alloc (.cells #[.string nm,.slice p1 nc c1,.string key,dv] 46)):=by
 have hbA:=below_alloc w (.cells #[.string nm,.slice p1 nc c1,.string key,dv] 46)
 have hb2:=below_on (h.f0 h8) hbA
 have hr2:=hr.kp (Tn.of_below (S:=fun _=>False) hbA).kpX
 refine ⟨grownB hb2,fun _=>hb2,fun j hj hl=>?_,fun _ _=>⟨p1,c1,by rw [upV_ne (by decide)]; exact e6,hr2⟩,fun _ _=>⟨p1,c1,_,by rw [upV_ne (by decide)]; exact e6,hr2,upV_eq,heap_alloc_new w _⟩,fun hl=>?_⟩
 ·rw [upV_ne (by omega)]; rw [upB_ne (by omega)] at hl; exact h.ev j hj hl
 ·rw [upB_ne (by decide),h8] at hl; cases hl
theorem tn_of46 {o : Option Nat} (hg : w.grownBy w' o) (ho : ∀ q,o=some q→∃ cur,w.heap[q]?=some (.cells cur 46)) : Tn (fun q=>o=some q) w w' :=
 Tn.of_chg ⟨hg.os,hg.tape,hg.output,hg.size,fun q hq hn=>hg.block q hq (fun e=>hn e.symm)⟩ (fun q _ hq=>by
  obtain ⟨cur,e⟩:=ho q hq
  exact .inl ⟨cur,46,e,rfl⟩)
theorem FJ.s8 (h : FJ W0 E rv n xs nm key nc dv t l vs w) (h8 : l 8=false) {p1 : Option Addr} {c1 : Nat} (hr : RdT w (.slice p1 nc c1) dv t) (hW : HRow W0 0 46 4 rv n xs) {g cap : Nat} {v : Value}
  (hv : v=.slice (some ⟨g,0,none⟩) (n+1) cap) (hr2 : HRow w' 0 46 4 (.slice (some ⟨g,0,none⟩) (n+1) cap) (n+1) (xs ++ [.string nm,.slice p1 nc c1,.string key,dv])) (hg : w.grownBy w' rv.ownBlock) (ho : rv.ownBlock=some g∨w.heap.size≤g) :
  FJ W0 E rv n xs nm key nc dv t (upB l 8) (upV vs 8 v) w':=by
 have hb:=h.f0 h8
 have hgb : W0.grownBy w' rv.ownBlock:=⟨hg.os.trans hb.os,hg.tape.trans hb.tape,hg.output.trans hb.output,Nat.le_trans hb.size hg.size,fun q hq hn=>(hg.block q (Nat.lt_of_lt_of_le hq hb.size) hn).trans (hb.block q hq)⟩
 have htn:=tn_of46 hg (fun q hq=>by
  obtain ⟨_,cur,e⟩:=(hW.later hb).block q hq
  exact ⟨cur,e⟩)
 refine ⟨hgb,fun hl=>?_,fun j hj hl=>?_,fun _ hl=>?_,fun _ hl=>?_,fun _=>⟨g,cap,p1,c1,upV_eq.trans hv,hr2,ho.imp (fun h=>h) (fun h=>Nat.le_trans hb.size h),hr.kp htn.kpX⟩⟩
 ·rw [upB_eq] at hl; cases hl
 ·rw [upV_ne (by omega)]; rw [upB_ne (by omega)] at hl; exact h.ev j hj hl
 ·rw [upB_eq] at hl; cases hl
 ·rw [upB_eq] at hl; cases hl
end
structure AJ (W0 : World) (E : Nat→Value) (b : Nat) (sv ov nv : Value) (n : Nat) (xs ys : List Value) (l : Nat→Bool) (vs : Nat→Value) (w : World) : Prop where
 tn : Tn (fun q=>q=b∨ov.ownBlock=some q∨nv.ownBlock=some q) W0 w
 ev : ∀ j,j<17→j≠6→j≠7→j≠12→j≠13→j≠16→l j=true→vs j=E j
 box : w.heap[b]?=some (.cells #[sv,(if l 16=true then vs 7 else ov),nv] 42)
 r7 : l 7=false→HRow w 0 55 1 ov n xs
 r13 : l 13=false→HRow w 0 3 1 nv n ys
 f6 : l 6=true→l 7=false→∃ g0,vs 6=.slice (some ⟨g0,0,none⟩) 1 1∧w.heap[g0]?=some (.cells #[.slice none 0 0] 55)∧W0.heap.size≤g0
 f12 : l 12=true→l 13=false→∃ g0,vs 12=.slice (some ⟨g0,0,none⟩) 1 1∧w.heap[g0]?=some (.cells #[.int .i64 0] 3)∧W0.heap.size≤g0
 f7 : l 7=true→∃ g cap,vs 7=.slice (some ⟨g,0,none⟩) (n+1) cap∧HRow w 0 55 1 (.slice (some ⟨g,0,none⟩) (n+1) cap) (n+1) (xs ++ [.slice none 0 0])∧(ov.ownBlock=some g∨W0.heap.size≤g)
 f13 : l 13=true→∃ g cap,vs 13=.slice (some ⟨g,0,none⟩) (n+1) cap∧HRow w 0 3 1 (.slice (some ⟨g,0,none⟩) (n+1) cap) (n+1) (ys ++ [.int .i64 0])∧(nv.ownBlock=some g∨W0.heap.size≤g)
section
open Par
variable {W0 w w' : World} {E : Nat→Value} {b : Nat} {sv ov nv : Value} {n : Nat} {xs ys : List Value} {l : Nat→Bool} {vs : Nat→Value}
theorem AJ.up (h : AJ W0 E b sv ov nv n xs ys l vs w) (i : Nat) (hi : i<17∧i≠6∧i≠7∧i≠12∧i≠13∧i≠16) : AJ W0 E b sv ov nv n xs ys (upB l i) (upV vs i (E i)) w:=by
 have k : ∀ j,j=6∨j=7∨j=12∨j=13∨j=16→upB l i j=l j∧upV vs i (E i) j=vs j:=fun j hj=>⟨upB_ne (by omega),upV_ne (by omega)⟩
 obtain ⟨a6,b6⟩:=k 6 (by simp)
 obtain ⟨a7,b7⟩:=k 7 (by simp)
 obtain ⟨a12,b12⟩:=k 12 (by simp)
 obtain ⟨a13,b13⟩:=k 13 (by simp)
 obtain ⟨a16,b16⟩:=k 16 (by simp)
 refine ⟨h.tn,fun j hj j1 j2 j3 j4 j5 hl=>?_,by rw [a16,b7]; exact h.box,by rw [a7]; exact h.r7,by rw [a13]; exact h.r13,by rw [a6,a7,b6]; exact h.f6,by rw [a12,a13,b12]; exact h.f12,by rw [a7,b7]; exact h.f7,by rw [a13,b13]; exact h.f13⟩
 by_cases e : j=i
 ·subst e; rw [upV_eq]
 ·rw [upV_ne e]; rw [upB_ne e] at hl; exact h.ev j hj j1 j2 j3 j4 j5 hl
theorem AJ.s6 (h : AJ W0 E b sv ov nv n xs ys l vs w) (h7 : l 7=false) : AJ W0 E b sv ov nv n xs ys (upB l 6) (upV vs 6 (.slice (some ⟨w.heap.size,0,none⟩) 1 1)) (w.alloc (.cells #[.slice none 0 0] 55)):=by
 have hbA:=below_alloc w (.cells #[.slice none 0 0] 55)
 have u : ∀ j,j≠6→upB l 6 j=l j∧upV vs 6 (.slice (some ⟨w.heap.size,0,none⟩) 1 1) j=vs j:=fun j hj=>⟨upB_ne hj,upV_ne hj⟩
 refine ⟨h.tn.trans (Tn.of_below (S:=fun _=>False) hbA) (fun _ _ h=>h) (fun _ _ h=>h.elim),fun j hj j1 j2 j3 j4 j5 hl=>?_,?_,fun hl=>?_,fun hl=>?_,fun _ _=>⟨_,upV_eq,heap_alloc_new w _,h.tn.size⟩,fun h1 h2=>?_,fun hl=>?_,fun hl=>?_⟩
 ·rw [(u j j1).2]; rw [(u j j1).1] at hl; exact h.ev j hj j1 j2 j3 j4 j5 hl
 ·rw [(u 16 (by decide)).1,(u 7 (by decide)).2]; exact heap_on hbA h.box
 ·rw [(u 7 (by decide)).1] at hl; exact (h.r7 hl).later hbA
 ·rw [(u 13 (by decide)).1] at hl; exact (h.r13 hl).later hbA
 ·rw [(u 12 (by decide)).1] at h1; rw [(u 13 (by decide)).1] at h2; rw [(u 12 (by decide)).2]
  obtain ⟨g0,q1,q2,q3⟩:=h.f12 h1 h2
  exact ⟨g0,q1,heap_on hbA q2,q3⟩
 ·rw [(u 7 (by decide)).1,h7] at hl; cases hl
 ·rw [(u 13 (by decide)).1] at hl; rw [(u 13 (by decide)).2]
  obtain ⟨g,cap,q1,q2,q3⟩:=h.f13 hl
  exact ⟨g,cap,q1,q2.later hbA,q3⟩
theorem AJ.s12 (h : AJ W0 E b sv ov nv n xs ys l vs w) (h13 : l 13=false) : AJ W0 E b sv ov nv n xs ys (upB l 12) (upV vs 12 (.slice (some ⟨w.heap.size,0,none⟩) 1 1)) (w.alloc (.cells #[.int .i64 0] 3)):=by
 have hbA:=below_alloc w (.cells #[.int .i64 0] 3)
 have u : ∀ j,j≠12→upB l 12 j=l j∧upV vs 12 (.slice (some ⟨w.heap.size,0,none⟩) 1 1) j=vs j:=fun j hj=>⟨upB_ne hj,upV_ne hj⟩
 refine ⟨h.tn.trans (Tn.of_below (S:=fun _=>False) hbA) (fun _ _ h=>h) (fun _ _ h=>h.elim),fun j hj j1 j2 j3 j4 j5 hl=>?_,?_,fun hl=>?_,fun hl=>?_,fun h1 h2=>?_,fun _ _=>⟨_,upV_eq,heap_alloc_new w _,h.tn.size⟩,fun hl=>?_,fun hl=>?_⟩
 ·rw [(u j j3).2]; rw [(u j j3).1] at hl; exact h.ev j hj j1 j2 j3 j4 j5 hl
 ·rw [(u 16 (by decide)).1,(u 7 (by decide)).2]; exact heap_on hbA h.box
 ·rw [(u 7 (by decide)).1] at hl; exact (h.r7 hl).later hbA
 ·rw [(u 13 (by decide)).1] at hl; exact (h.r13 hl).later hbA
 ·rw [(u 6 (by decide)).1] at h1; rw [(u 7 (by decide)).1] at h2; rw [(u 6 (by decide)).2]
  obtain ⟨g0,q1,q2,q3⟩:=h.f6 h1 h2
  exact ⟨g0,q1,heap_on hbA q2,q3⟩
 ·rw [(u 7 (by decide)).1] at hl; rw [(u 7 (by decide)).2]
  obtain ⟨g,cap,q1,q2,q3⟩:=h.f7 hl
  exact ⟨g,cap,q1,q2.later hbA,q3⟩
 ·rw [(u 13 (by decide)).1,h13] at hl; cases hl
theorem tn_row {base size m : Nat} {e : TypeId} {v : Value} {zs : List Value} (hr : HRow w base e size v m zs) (he : mtT e=true) (hg : w.grownBy w' v.ownBlock) : Tn (fun q=>v.ownBlock=some q) w w' :=
 Tn.of_chg ⟨hg.os,hg.tape,hg.output,hg.size,fun q hq hn=>hg.block q hq (fun e2=>hn e2.symm)⟩ (fun q _ hq=>by
  obtain ⟨_,cur,e2⟩:=hr.block q hq
  exact .inl ⟨cur,e,e2,he⟩)
theorem AJ.s7 (h : AJ W0 E b sv ov nv n xs ys l vs w) (h7 : l 7=false) (h13 : l 13=false) (h16 : l 16=false) {v : Value} {g cap : Nat} (hv : v=.slice (some ⟨g,0,none⟩) (n+1) cap)
  (hr : HRow w' 0 55 1 (.slice (some ⟨g,0,none⟩) (n+1) cap) (n+1) (xs ++ [.slice none 0 0])) (hg : w.grownBy w' ov.ownBlock) (ho : ov.ownBlock=some g∨w.heap.size≤g) : AJ W0 E b sv ov nv n xs ys (upB l 7) (upV vs 7 v) w':=by
 have hro:=h.r7 h7
 have htn:=tn_row hro rfl hg
 have no : ∀ (q : Nat) (cur : Array Value) (e : TypeId),e≠55→w.heap[q]?=some (Obj.cells cur e)→w'.heap[q]?=some (Obj.cells cur e):=fun q cur e he hq=>by
  rw [hg.block q (lt_of_heap hq) (fun e2=>?_)]
  ·exact hq
  ·obtain ⟨_,c2,q2⟩:=hro.block q e2.symm
   rw [hq] at q2; cases q2; exact he rfl
 have u : ∀ j,j≠7→upB l 7 j=l j∧upV vs 7 v j=vs j:=fun j hj=>⟨upB_ne hj,upV_ne hj⟩
 refine ⟨h.tn.trans htn (fun _ _ h=>h) (fun _ _ h=>.inr (.inl h)),fun j hj j1 j2 j3 j4 j5 hl=>?_,?_,fun hl=>?_,fun hl=>?_,fun _ h2=>?_,fun h1 h2=>?_,fun _=>⟨g,cap,upV_eq.trans hv,hr,ho.imp (fun h=>h) (fun h2=>Nat.le_trans h.tn.size h2)⟩,fun hl=>?_⟩
 ·rw [(u j j2).2]; rw [(u j j2).1] at hl; exact h.ev j hj j1 j2 j3 j4 j5 hl
 ·rw [(u 16 (by decide)).1,h16]
  have hb:=h.box
  rw [h16] at hb
  exact no b _ 42 (by decide) hb
 ·rw [upB_eq] at hl; cases hl
 ·rw [(u 13 (by decide)).1] at hl
  exact (h.r13 hl).by_other hg (fun k cur e1 e2=>by
   obtain ⟨_,c2,q2⟩:=hro.block k e1
   rw [e2] at q2; cases q2)
 ·rw [upB_eq] at h2; cases h2
 ·rw [(u 12 (by decide)).1] at h1; rw [(u 13 (by decide)).1] at h2; rw [(u 12 (by decide)).2]
  obtain ⟨g0,q1,q2,q3⟩:=h.f12 h1 h2
  exact ⟨g0,q1,no g0 _ 3 (by decide) q2,q3⟩
 ·rw [(u 13 (by decide)).1,h13] at hl; cases hl
theorem AJ.s13 (h : AJ W0 E b sv ov nv n xs ys l vs w) (h7 : l 7=true) (h13 : l 13=false) (h16 : l 16=false) {v : Value} {g cap : Nat} (hv : v=.slice (some ⟨g,0,none⟩) (n+1) cap)
  (hr : HRow w' 0 3 1 (.slice (some ⟨g,0,none⟩) (n+1) cap) (n+1) (ys ++ [.int .i64 0])) (hg : w.grownBy w' nv.ownBlock) (ho : nv.ownBlock=some g∨w.heap.size≤g) : AJ W0 E b sv ov nv n xs ys (upB l 13) (upV vs 13 v) w':=by
 have hro:=h.r13 h13
 have htn:=tn_row hro rfl hg
 have u : ∀ j,j≠13→upB l 13 j=l j∧upV vs 13 v j=vs j:=fun j hj=>⟨upB_ne hj,upV_ne hj⟩
 refine ⟨h.tn.trans htn (fun _ _ h=>h) (fun _ _ h=>.inr (.inr h)),fun j hj j1 j2 j3 j4 j5 hl=>?_,?_,fun hl=>?_,fun hl=>?_,fun _ h2=>?_,fun _ h2=>?_,fun hl=>?_,fun _=>⟨g,cap,upV_eq.trans hv,hr,ho.imp (fun h=>h) (fun h2=>Nat.le_trans h.tn.size h2)⟩⟩
 ·rw [(u j j4).2]; rw [(u j j4).1] at hl; exact h.ev j hj j1 j2 j3 j4 j5 hl
 ·rw [(u 16 (by decide)).1,h16]
  have hb:=h.box
  rw [h16] at hb
  rw [hg.block b (lt_of_heap hb) (fun e2=>?_)]
  ·exact hb
  ·obtain ⟨_,c2,q2⟩:=hro.block b e2.symm
   rw [hb] at q2; cases q2
 ·rw [(u 7 (by decide)).1,h7] at hl; cases hl
 ·rw [upB_eq] at hl; cases hl
 ·rw [(u 7 (by decide)).1,h7] at h2; cases h2
 ·rw [upB_eq] at h2; cases h2
 ·rw [(u 7 (by decide)).2]
  obtain ⟨g7,c7,q1,q2,q3⟩:=h.f7 h7
  exact ⟨g7,c7,q1,q2.by_other hg (fun k cur e1 e2=>by
   obtain ⟨_,c2,q2⟩:=hro.block k e1
   rw [e2] at q2; cases q2),q3⟩
theorem AJ.s16 (h : AJ W0 E b sv ov nv n xs ys l vs w) (h7 : l 7=true) (h13 : l 13=true) (h16 : l 16=false) (v : Value) : AJ W0 E b sv ov nv n xs ys (upB l 16) (upV vs 16 v) (w.setCell ⟨b,1,none⟩ (vs 7)):=by
 have hb:=h.box
 rw [h16] at hb
 have hbox:=heap_setCell_same w b 1 _ 42 (vs 7) hb
 have oth : ∀ q,q≠b→(w.setCell ⟨b,1,none⟩ (vs 7)).heap[q]?=w.heap[q]?:=fun q hq=>heap_setCell_other w ⟨b,1,none⟩ q (vs 7) hq
 have htn : Tn (fun q=>q=b) w (w.setCell ⟨b,1,none⟩ (vs 7)):=Tn.of_chg ⟨rfl,rfl,rfl,Nat.le_of_eq (by simp),fun q _ hn=>oth q hn⟩ (fun q _ hq=>by have hq : q=b:=hq; subst hq; exact .inl ⟨_,42,hb,rfl⟩)
 have nb : ∀ {base size m : Nat} {e : TypeId} {v : Value} {zs : List Value},HRow w base e size v m zs→e≠42→HRow (w.setCell ⟨b,1,none⟩ (vs 7)) base e size v m zs:=fun hr he=>hr.of (fun k hk=>oth k (fun e2=>by
  obtain ⟨_,c2,q2⟩:=hr.block k hk
  rw [e2,hb] at q2; cases q2; exact he rfl))
 have u : ∀ j,j≠16→upB l 16 j=l j∧upV vs 16 v j=vs j:=fun j hj=>⟨upB_ne hj,upV_ne hj⟩
 refine ⟨h.tn.trans htn (fun _ _ h=>h) (fun _ _ h=>.inl h),fun j hj j1 j2 j3 j4 j5 hl=>?_,?_,fun hl=>?_,fun hl=>?_,fun _ h2=>?_,fun _ h2=>?_,fun hl=>?_,fun hl=>?_⟩
 ·rw [(u j j5).2]; rw [(u j j5).1] at hl; exact h.ev j hj j1 j2 j3 j4 j5 hl
 ·rw [upB_eq,if_pos rfl,(u 7 (by decide)).2,hbox]; rfl
 ·rw [(u 7 (by decide)).1,h7] at hl; cases hl
 ·rw [(u 13 (by decide)).1,h13] at hl; cases hl
 ·rw [(u 7 (by decide)).1,h7] at h2; cases h2
 ·rw [(u 13 (by decide)).1,h13] at h2; cases h2
 ·rw [(u 7 (by decide)).2]
  obtain ⟨g7,c7,q1,q2,q3⟩:=h.f7 h7
  exact ⟨g7,c7,q1,nb q2 (by decide),q3⟩
 ·rw [(u 13 (by decide)).2]
  obtain ⟨g7,c7,q1,q2,q3⟩:=h.f13 h13
  exact ⟨g7,c7,q1,nb q2 (by decide),q3⟩
end
def tgtOf (ts : List T) (x y : ByteArray) : ByteArray:=(orC (colOf (colsAt ts x) y)).tgt
def rowsAt (ts : List T) (As : List (List R1)) (x : ByteArray) : List R1:=(As[(ixT ts x).toNat]?).getD []
def cellA (A : List R1) (k : Nat) (id : Int) : T3:=((A.find? fun a=>decide (a.1=id)).map fun a=>a.2.getD k z3).getD z3
def hasId (A : List R1) (id : Int) : Bool:=A.any fun a=>decide (a.1=id)
def cellP (ts : List T) (As : List (List R1)) (x : ByteArray) (id : Int) (y : ByteArray) : T3:=cellA (rowsAt ts As x) (ixC (colsAt ts x) y).toNat id
def valP (ts : List T) (As : List (List R1)) : ByteArray→Int→List ByteArray→T3
 | _,_,[]=>z3
 | x,id,y :: r=>if r.isEmpty=true then cellP ts As x id y else match byKeyP ts As (tgtOf ts x y) (cellP ts As x id y) with
  | none=>z3
  | some i=>valP ts As (tgtOf ts x y) i r
def valueP (ts : List T) (As : List (List R1)) (x : ByteArray) (id : Int) (p : List ByteArray) : T3×Bool :=
 if (pcolL ts x p).2.2=0∧hasId (rowsAt ts As x) id=true then (valP ts As x id p,true) else (z3,false)
section
variable {ts : List T} {As : List (List R1)} {x y : ByteArray} {id : Int} {p : List ByteArray} {j : Nat}
theorem drop_last (p : List ByteArray) {j : Nat} (hj : j<p.length) : (p.drop (j+1)).isEmpty=true↔j+1=p.length:=by
 constructor
 ·intro h
  rw [List.isEmpty_iff] at h
  have:=congrArg List.length h
  simp only [List.length_drop,List.length_nil] at this
  omega
 ·intro h
  rw [List.drop_of_length_le (by omega)]; rfl
theorem valP_last (hj : j<p.length) (h : j+1=p.length) : valP ts As x id (p.drop j)=cellP ts As x id p[j]:=by
 rw [List.drop_eq_getElem_cons hj,valP,if_pos ((drop_last p hj).2 h)]
theorem valP_none (hj : j<p.length) (h : j+1≠p.length) (hb : byKeyP ts As (tgtOf ts x p[j]) (cellP ts As x id p[j])=none) : valP ts As x id (p.drop j)=z3:=by
 rw [List.drop_eq_getElem_cons hj,valP,if_neg (fun e=>h ((drop_last p hj).1 e)),hb]
theorem valP_some (hj : j<p.length) (h : j+1≠p.length) {i : Int} (hb : byKeyP ts As (tgtOf ts x p[j]) (cellP ts As x id p[j])=some i) : valP ts As x id (p.drop j)=valP ts As (tgtOf ts x p[j]) i (p.drop (j+1)):=by
 rw [List.drop_eq_getElem_cons hj,valP,if_neg (fun e=>h ((drop_last p hj).1 e)),hb]
theorem pcol_ok (hj : j<p.length) (h : (pcol ts x (p.drop j)).2.2=0) : hasC (colsAt ts x) p[j]=true∧(j+1≠p.length→(pcol ts (tgtOf ts x p[j]) (p.drop (j+1))).2.2=0):=by
 rw [pcol_at ts x p hj] at h
 split at h
 ·rename_i h1
  refine ⟨h1,fun hne=>?_⟩
  rw [if_neg hne] at h
  split at h
  ·exact absurd h (by decide)
  ·exact h
 ·exact absurd h (by decide)
theorem hasC_at (h : hasC (colsAt ts x) y=true) : ∃ (j : Nat) (hj : j<ts.length),ts[j].nm=x∧ixT ts x=(j : Int)∧findT ts x=some ts[j]∧colsAt ts x=ts[j].cols∧∃ k,k<ts[j].cols.length∧ixC ts[j].cols y=(k : Int):=by
 rcases ixT_cases ts x with ⟨_,_,h3⟩ | ⟨j,hj,h1,_,h3⟩
 ·rw [colsAt,h3] at h
  simp [hasC,orT,zeroT] at h
 ·have e : colsAt ts x=ts[j].cols:=by rw [colsAt,h3]; rfl
  rw [e] at h
  rcases ixC_casesQ ts[j].cols y with ⟨_,h2,_⟩ | ⟨k,hk,h2,_⟩
  ·rw [h2] at h; cases h
  ·have hn : ts[j].nm=x:=by
    have:=List.find?_some (l:=ts) (p:=isT x) h3
    exact bytes_ext (by simpa [isT,eqS] using this)
   exact ⟨j,hj,hn,h1,h3,e,k,hk,h2⟩
theorem byRow_mem {A : List R1} {k : Nat} {v : T3} {i : Int} (h : byRow A k v=some i) : hasId A i=true:=by
 unfold byRow at h
 cases hf : A.find? (fun a=>decide (a.2.getD k z3=v)) with
 | none=>rw [hf] at h; cases h
 | some a =>
  rw [hf] at h
  simp only [Option.map_some,Option.some.injEq] at h
  unfold hasId
  rw [List.any_eq_true]
  exact ⟨a,List.mem_of_find?_eq_some hf,by simpa using h⟩
theorem byKeyP_mem {v : T3} {i : Int} (h : byKeyP ts As x v=some i) : hasId (rowsAt ts As x) i=true:=by
 unfold byKeyP at h
 split at h
 ·rename_i t A h1 h2
  rw [rowsAt,h2]
  split at h
  ·cases h
  ·split at h
   ·cases h
   ·split at h
    ·cases h
    ·exact byRow_mem h
 ·cases h
theorem hasId_mem {A : List R1} {i : Int} : hasId A i=true↔∃ a∈A,a.1=i:=by
 unfold hasId
 rw [List.any_eq_true]
 simp
theorem hasId_no {A : List R1} {i : Int} : hasId A i=false↔∀ a∈A,a.1≠i:=by
 unfold hasId
 rw [List.any_eq_false]
 simp
theorem cellA_of {A : List R1} {i : Int} (h : hasId A i=true) : ∃ a∈A,a.1=i∧∀ k,cellA A k i=a.2.getD k z3:=by
 unfold hasId at h
 have hs : (A.find? fun a=>decide (a.1=i)).isSome=true:=List.find?_isSome.2 (List.any_eq_true.1 h)
 obtain ⟨a,ha⟩:=Option.isSome_iff_exists.1 hs
 refine ⟨a,List.mem_of_find?_eq_some ha,by simpa using List.find?_some ha,fun k=>?_⟩
 unfold cellA
 rw [ha]; rfl
theorem cellA_no {A : List R1} {i : Int} (h : hasId A i=false) (k : Nat) : cellA A k i=z3:=by
 have : A.find? (fun a=>decide (a.1=i))=none:=by
  rw [List.find?_eq_none]
  unfold hasId at h
  rw [List.any_eq_false] at h
  exact h
 unfold cellA
 rw [this]; rfl
end
end Go.Proofs.YtjepplacnaoomaaGreat
