import Derived.Test.YtjepplacnaoomaaGreatZc32
import Derived.Test.YtjepplacnaoomaaGreatZc35
import Derived.Test.YtjepplacnaoomaaGreatZc36
import Derived.Test.YtjepplacnaoomaaGreatZc39
namespace Go.Proofs.YtjepplacnaoomaaGreat
open Go Go.RowKit Go.Proofs Co Co.S
def cutT (x : T3) : T3:=(x.1,x.2.1,cutB 20 x.2.2)
def cutR (N : Nat) (xs : List T3) : List T3:=(xs.map cutT).take N
theorem cutR_len (N : Nat) (xs : List T3) : (cutR N xs).length≤N:=by simp [cutR]; omega
theorem cutR_snoc (xs : List T3) (k : Nat) (h : k<xs.length) : cells3 ((xs.map cutT).take (k+1))=cells3 ((xs.map cutT).take k) ++ [.int .i64 xs[k].1,.int .i64 xs[k].2.1,.string (cutB 20 xs[k].2.2)]:=by
 rw [List.take_succ_eq_append_getElem (by simpa using h),cells3_append]
 simp [cells3,cutT]
set_option maxRecDepth 100000 in
set_option maxHeartbeats 4000000 in
theorem vals_any {S : Nat→Prop} {v : Value} {xs : List T3} {W : World} {N : Nat} (hN : N≤1000) (h : InV S W v xs) (hs : ∀ x∈xs,x.2.2.size≤maxLen) :
  Calls Tryz.prog 52 #[v,.int .i64 (N : Int)] W fun e w'=>∃ v',e=.returned v'∧HRow w' W.heap.size 26 3 v' (cutR N xs).length (cells3 (cutR N xs))∧Below W.heap.size W w':=by
 obtain ⟨p,c,rfl,_,hm⟩:=h.slice
 obtain ⟨n,hn⟩ : ∃ n,xs.length=n:=⟨_,rfl⟩
 have hn' : (n : Int)≤9223372036854775807:=by unfold maxLen at hm; omega
 have HN:=Lib.hid hn
 have HI:=Lib.hid h
 have HS:=Lib.hid hs
 rw [hn]
 clear h hs hm hn
 go_enter Tryz.func52,Tryz.ntmps52
 go_wp2_with fail
 go_loopg [5,6] (N+1) (fun gh tv iv w=>∃ (k : Nat),k≤n∧k≤N∧N+1≤k+gh∧iv=.int .i64 (k : Int)∧HRow w W.heap.size 26 3 tv k (cells3 ((xs.map cutT).take k))∧Below W.heap.size W w)
 case atStart=>exact ⟨0,Nat.zero_le _,Nat.zero_le _,by omega,rfl,HRow.nil,Below.refl _ _⟩
 case round =>
  obtain ⟨k,hk,hk6,hg,rfl,hr,hB⟩:=hrel
  obtain ⟨pt,ct,rfl,_,_⟩:=hr.isslice
  by_cases hlt : k<n∧k<N
  ·obtain ⟨h1,h2⟩:=hlt
   have hkl : k<xs.length:=by rw [HN.out]; exact h1
   have hd6 : (k : Int)<(N : Int):=by omega
   have hdn : (k : Int)<(n : Int):=by omega
   obtain ⟨b1,o1,rfl,hb1,y0,y1,y2⟩:=(HI.out.later hB).val hkl
   have hsn:=cutR_snoc xs k hkl
   have hsz:=HS.out _ (List.getElem_mem hkl)
   obtain ⟨u,hu⟩ : ∃ u,xs[k]=u:=⟨_,rfl⟩
   rw [hu] at y0 y1 y2 hsn hsz
   have hval:=val_any u.1 u.2.1 u.2.2 wr hsz
   have hap:=fun y (hy : Below wr.heap.size wr y)=>Co.S.app_one y W.heap.size (hr.later hy) (by omega) (Nat.le_trans hB.size hy.size) u.1 u.2.1 (cutB 20 u.2.2)
   have HB:=Lib.hid (And.intro hB (And.intro hsn hr))
   clear hB hsn hsz hu hr
   go_wp2_with (first
    | (go_at_call 13; (with_reducible refine hval.mono ?_); rintro e w2 ⟨rfl,hb2⟩; obtain ⟨g,cap,w3,hrun,r3,g3,o3⟩:=hap w2 hb2; have H3:=Lib.hid (And.intro r3 (And.intro g3 hb2)); clear hval hap r3 g3 o3 hb2)
    | (at_builtin; refine wpList_append_run rfl (.tmp 18) (.tmp 24) 56 rfl rfl rfl hrun ?_))
   go_roundg (N - k)
   case measure=>omega
   case rel =>
    obtain ⟨hB,hsn,hr⟩:=HB.out
    obtain ⟨r3,g3,hb2⟩:=H3.out
    refine ⟨k+1,by omega,by omega,by omega,rfl,by rw [hsn]; exact r3,?_⟩
    have hB2:=hB.trans (hb2.mono hB.size)
    refine hB2.trans ⟨g3.os,g3.tape,g3.output,Nat.le_trans (below_alloc w2 _).size g3.size,fun q hq=>?_⟩
    have hlt2 : q<w2.heap.size:=Nat.lt_of_lt_of_le hq hB2.size
    rw [g3.block q (by rw [World.size_alloc]; omega) (fun e=>by have:=(HRow.lt hr q e.symm).1; omega)]
    exact (below_alloc w2 _).block q hlt2
  ·have hex : ¬ k<n∨(k<n∧¬ k<N):=by omega
   have HR:=Lib.hid (And.intro hr hB)
   have he : cutR N xs=(xs.map cutT).take k:=by
    unfold cutR
    rcases hex with he | ⟨_,he⟩
    ·rw [List.take_of_length_le (l:=xs.map cutT) (i:=k) (by rw [List.length_map,HN.out]; omega),List.take_of_length_le (by rw [List.length_map,HN.out]; omega)]
    ·obtain rfl : k=N:=by omega
     rfl
   have hl : (cutR N xs).length=k:=by rw [he,List.length_take,List.length_map,HN.out]; omega
   have HE:=Lib.hid (And.intro he hl)
   clear hlt hr hB he hl
   rcases hex with hex | ⟨hex,hex'⟩
   all_goals
    go_wp2_with fail
    go_ret
    exact ⟨_,rfl,by rw [HE.out.2,HE.out.1]; exact HR.out.1,HR.out.2⟩
section
variable {W w : World} {b : Nat} {ts : List T} {tt : List RT} {i : NI} {O : Nat→Nat} {t : Nat} {y : RT}
theorem cellsF_len {fs : List (Value×Value)} {ts : List T} (h : fs.length=ts.length) : (cellsF fs ts).length=ts.length*4:=by
 unfold cellsF
 induction fs generalizing ts with
 | nil=>cases ts with
  | nil=>rfl
  | cons t ts=>cases h
 | cons f fs ih =>
  cases ts with
  | nil=>cases h
  | cons t ts =>
   simp only [List.zip_cons_cons,List.flatMap_cons,List.length_append,List.length_cons,List.length_nil]
   rw [ih (by simpa using h)]
   omega
theorem DbN.rdTs (h : DbN W b ts tt i O) : RdTs W i.sv ts:=by
 obtain ⟨p,cap,e,h1,h2⟩:=h.form.isslice
 refine ⟨p,cap,cellsF i.fs ts,e,h1,h2,fun h0=>?_,cellsF_len h.fn,fun j hj=>?_⟩
 ·obtain ⟨g,c,e2,_,_⟩:=h.form.slice h0
  rw [e] at e2
  cases e2
  have f:=h.form
  rw [e] at f
  exact ⟨g,0,rfl,(HRow.lt f g rfl).2,fun j u hj=>by rw [Nat.zero_add]; exact f.cell hj⟩
 ·obtain ⟨c0,c1,c2,c3⟩:=cellsF_at h.fn hj
  exact ⟨_,_,c0,c1,c2,c3,h.rd j hj (by rw [h.fn]; exact hj)⟩
end
def byRow (A : List R1) (k : Nat) (v : T3) : Option Int:=(A.find? fun a=>decide (a.2.getD k z3=v)).map (·.1)
theorem byRow_none {A : List R1} {k : Nat} {v : T3} (h : ∀ j (hj : j<A.length),A[j].2.getD k z3≠v) : byRow A k v=none:=by
 unfold byRow
 rw [List.find?_eq_none.2 (fun a ha=>by
  obtain ⟨j,hj,rfl⟩:=List.getElem_of_mem ha
  simpa using h j hj)]
 rfl
theorem byRow_some {A : List R1} {k : Nat} {v : T3} {j : Nat} (hj : j<A.length) (h1 : A[j].2.getD k z3=v) (h : ∀ m (hm : m<A.length),m<j→A[m].2.getD k z3≠v) : byRow A k v=some A[j].1:=by
 unfold byRow
 have e : A.find? (fun a=>decide (a.2.getD k z3=v))=some A[j]:=by
  rw [List.find?_eq_some_iff_getElem]
  exact ⟨by simpa using h1,j,hj,rfl,fun m hm=>by simpa using h m (by omega) hm⟩
 rw [e]
 rfl
theorem nonempty {key : ByteArray} (h : key≠e0) : key.toList.isEmpty=false:=by
 cases hh : key.toList.isEmpty with
 | false=>rfl
 | true =>
  rw [List.isEmpty_iff,ByteArray.toList_eq] at hh
  exact absurd (bytes_ext (hh.trans rfl)) h
def byKeyP (ts : List T) (As : List (List R1)) (x : ByteArray) (v : T3) : Option Int :=
 match ts[(ixT ts x).toNat]?,As[(ixT ts x).toNat]? with
 | some t,some A=>if ixT ts x<0 then none else if t.key=e0 then none else if v.1=0 then none else byRow A (ixC t.cols t.key).toNat v
 | _,_=>none
section
variable {W : World} {b : Nat} {ts : List T} {tt : List RT} {i : NI} {O : Nat→Nat}
end
def tgtOf (ts : List T) (x y : ByteArray) : ByteArray:=(orC (colOf (colsAt ts x) y)).tgt
def rowsAt (ts : List T) (As : List (List R1)) (x : ByteArray) : List R1:=(As[(ixT ts x).toNat]?).getD []
def cellA (A : List R1) (k : Nat) (id : Int) : T3:=((A.find? fun a=>decide (a.1=id)).map fun a=>a.2.getD k z3).getD z3
def hasId (A : List R1) (id : Int) : Bool:=A.any fun a=>decide (a.1=id)
def cellP (ts : List T) (As : List (List R1)) (x : ByteArray) (id : Int) (y : ByteArray) : T3:=cellA (rowsAt ts As x) (ixC (colsAt ts x) y).toNat id
def valP (ts : List T) (As : List (List R1)) : ByteArray→Int→List ByteArray→T3
 | _,_,[]=>z3
 | x,id,y :: r=>if r.isEmpty=true then cellP ts As x id y else match byKeyP ts As (tgtOf ts x y) (cellP ts As x id y) with
  | none=>z3
  | some i=>valP ts As (tgtOf ts x y) i r
def valueP (ts : List T) (As : List (List R1)) (x : ByteArray) (id : Int) (p : List ByteArray) : T3×Bool :=
 if (pcolL ts x p).2.2=0∧hasId (rowsAt ts As x) id=true then (valP ts As x id p,true) else (z3,false)
section
variable {ts : List T} {As : List (List R1)} {x y : ByteArray} {id : Int} {p : List ByteArray} {j : Nat}
theorem drop_last (p : List ByteArray) {j : Nat} (hj : j<p.length) : (p.drop (j+1)).isEmpty=true↔j+1=p.length:=by
 constructor
 ·intro h
  rw [List.isEmpty_iff] at h
  have:=congrArg List.length h
  simp only [List.length_drop,List.length_nil] at this
  omega
 ·intro h
  rw [List.drop_of_length_le (by omega)]; rfl
theorem valP_last (hj : j<p.length) (h : j+1=p.length) : valP ts As x id (p.drop j)=cellP ts As x id p[j]:=by
 rw [List.drop_eq_getElem_cons hj,valP,if_pos ((drop_last p hj).2 h)]
theorem valP_none (hj : j<p.length) (h : j+1≠p.length) (hb : byKeyP ts As (tgtOf ts x p[j]) (cellP ts As x id p[j])=none) : valP ts As x id (p.drop j)=z3:=by
 rw [List.drop_eq_getElem_cons hj,valP,if_neg (fun e=>h ((drop_last p hj).1 e)),hb]
theorem valP_some (hj : j<p.length) (h : j+1≠p.length) {i : Int} (hb : byKeyP ts As (tgtOf ts x p[j]) (cellP ts As x id p[j])=some i) : valP ts As x id (p.drop j)=valP ts As (tgtOf ts x p[j]) i (p.drop (j+1)):=by
 rw [List.drop_eq_getElem_cons hj,valP,if_neg (fun e=>h ((drop_last p hj).1 e)),hb]
theorem pcol_ok (hj : j<p.length) (h : (pcol ts x (p.drop j)).2.2=0) : hasC (colsAt ts x) p[j]=true∧(j+1≠p.length→(pcol ts (tgtOf ts x p[j]) (p.drop (j+1))).2.2=0):=by
 rw [pcol_at ts x p hj] at h
 split at h
 ·rename_i h1
  refine ⟨h1,fun hne=>?_⟩
  rw [if_neg hne] at h
  split at h
  ·exact absurd h (by decide)
  ·exact h
 ·exact absurd h (by decide)
theorem hasC_at (h : hasC (colsAt ts x) y=true) : ∃ (j : Nat) (hj : j<ts.length),ts[j].nm=x∧ixT ts x=(j : Int)∧findT ts x=some ts[j]∧colsAt ts x=ts[j].cols∧∃ k,k<ts[j].cols.length∧ixC ts[j].cols y=(k : Int):=by
 rcases ixT_cases ts x with ⟨_,_,h3⟩ | ⟨j,hj,h1,_,h3⟩
 ·rw [colsAt,h3] at h
  simp [hasC,orT,zeroT] at h
 ·have e : colsAt ts x=ts[j].cols:=by rw [colsAt,h3]; rfl
  rw [e] at h
  rcases ixC_casesQ ts[j].cols y with ⟨_,h2,_⟩ | ⟨k,hk,h2,_⟩
  ·rw [h2] at h; cases h
  ·have hn : ts[j].nm=x:=by
    have:=List.find?_some (l:=ts) (p:=isT x) h3
    exact bytes_ext (by simpa [isT,eqS] using this)
   exact ⟨j,hj,hn,h1,h3,e,k,hk,h2⟩
theorem byRow_mem {A : List R1} {k : Nat} {v : T3} {i : Int} (h : byRow A k v=some i) : hasId A i=true:=by
 unfold byRow at h
 cases hf : A.find? (fun a=>decide (a.2.getD k z3=v)) with
 | none=>rw [hf] at h; cases h
 | some a =>
  rw [hf] at h
  simp only [Option.map_some,Option.some.injEq] at h
  unfold hasId
  rw [List.any_eq_true]
  exact ⟨a,List.mem_of_find?_eq_some hf,by simpa using h⟩
theorem byKeyP_mem {v : T3} {i : Int} (h : byKeyP ts As x v=some i) : hasId (rowsAt ts As x) i=true:=by
 unfold byKeyP at h
 split at h
 ·rename_i t A h1 h2
  rw [rowsAt,h2]
  split at h
  ·cases h
  ·split at h
   ·cases h
   ·split at h
    ·cases h
    ·exact byRow_mem h
 ·cases h
theorem hasId_mem {A : List R1} {i : Int} : hasId A i=true↔∃ a∈A,a.1=i:=by
 unfold hasId
 rw [List.any_eq_true]
 simp
theorem hasId_no {A : List R1} {i : Int} : hasId A i=false↔∀ a∈A,a.1≠i:=by
 unfold hasId
 rw [List.any_eq_false]
 simp
theorem cellA_of {A : List R1} {i : Int} (h : hasId A i=true) : ∃ a∈A,a.1=i∧∀ k,cellA A k i=a.2.getD k z3:=by
 unfold hasId at h
 have hs : (A.find? fun a=>decide (a.1=i)).isSome=true:=List.find?_isSome.2 (List.any_eq_true.1 h)
 obtain ⟨a,ha⟩:=Option.isSome_iff_exists.1 hs
 refine ⟨a,List.mem_of_find?_eq_some ha,by simpa using List.find?_some ha,fun k=>?_⟩
 unfold cellA
 rw [ha]; rfl
theorem cellA_no {A : List R1} {i : Int} (h : hasId A i=false) (k : Nat) : cellA A k i=z3:=by
 have : A.find? (fun a=>decide (a.1=i))=none:=by
  rw [List.find?_eq_none]
  unfold hasId at h
  rw [List.any_eq_false] at h
  exact h
 unfold cellA
 rw [this]; rfl
end
set_option maxRecDepth 100000 in
set_option maxHeartbeats 1000000 in
theorem dvalue_no {dv pv v mv : Value} {ts : List T} {x : ByteArray} {p : List ByteArray} {id : Int} {W : World} (hd : ∀ w,Below W.heap.size W w→Calls Tryz.prog 30 #[dv] w fun e w'=>e=.returned pv∧w'=w) (h : SchP mv W pv ts) (hp : Wd W v p) (hno : (pcolL ts x p).2.2≠0) :
  Calls Tryz.prog 20 #[dv,.string x,.int .i64 id,v] W fun e w'=>e=.returned (.tuple #[(Value.agg #[Value.int .i64 (0),Value.int .i64 (0),Value.string (e0)]),.bool false])∧Below W.heap.size W w':=by
 have hb1:=below_alloc W (.cells #[.int .i64 0,.int .i64 0,.string e0] 26)
 have k1:=heap_alloc_new W (.cells #[.int .i64 0,.int .i64 0,.string e0] 26)
 obtain ⟨w1,hw1⟩ : ∃ w1,W.alloc (.cells #[.int .i64 0,.int .i64 0,.string e0] 26)=w1:=⟨_,rfl⟩
 obtain ⟨B,hB⟩ : ∃ B,W.heap.size=B:=⟨_,rfl⟩
 rw [hw1] at hb1 k1
 have hs:=hd w1 hb1
 have hc:=pathCol_any (tb:=x) (h.later hb1) (hp.later hb1)
 obtain ⟨err,herr⟩ : ∃ e,(pcolL ts x p).2.2=e:=⟨_,rfl⟩
 obtain ⟨s2,hs2⟩ : ∃ e,(pcolL ts x p).2.1=e:=⟨_,rfl⟩
 obtain ⟨cc,hcc⟩ : ∃ e,(pcolL ts x p).1=e:=⟨_,rfl⟩
 rw [herr] at hc hno
 rw [hs2,hcc] at hc
 obtain ⟨nm,kd,mu,tg⟩:=cc
 rw [show colVQ ⟨nm,kd,mu,tg⟩=.agg #[.string nm,.int .i64 kd,.bool mu,.string tg] from rfl] at hc
 rw [hB] at k1
 have HW:=Lib.hid (And.intro hw1 (And.intro hB (And.intro hb1 k1)))
 clear hw1 hB hb1 k1 hd h hp herr hs2
 go_enter Tryz.func20,Tryz.ntmps20
 go_upto_region 1 with fail
 rw [HW.out.1,HW.out.2.1]
 go_wp2_with (first
  | (go_at_call 30; (with_reducible refine hs.mono ?_); rintro e w2 ⟨rfl,hw⟩; subst w2; clear hs)
  | (go_at_call 62; (with_reducible refine hc.mono ?_); rintro e w3 ⟨rfl,hb3⟩; have hb4:=below_alloc w3 (.cells #[.string nm,.int .i64 kd,.bool mu,.string tg] 116); have hres:=heap_on hb4 (heap_on hb3 HW.out.2.2.2); have z0:=nd_cell hres 0; have z1:=nd_cell hres 1; have z2:=nd_cell hres 2; have zf:=fun i=>frozen_of_row (w3.alloc (.cells #[.string nm,.int .i64 kd,.bool mu,.string tg] 116)) B i _ _ hres; have zl:=lt_of_heap hres; have H3:=Lib.hid (And.intro (below_on (below_on HW.out.2.2.1 hb3) hb4) hres); clear hc hb3 hb4 hres))
 have hS3:=set3 H3.out.2 (.int .i64 0) (.int .i64 0) (.string e0)
 have hBx:=below_set3 H3.out.1 (Nat.le_of_eq HW.out.2.1) (.int .i64 0) (.int .i64 0) (.string e0)
 generalize ((World.setCell _ _ _).setCell _ _).setCell _ _=wz at hS3 hBx ⊢
 have y0:=nd_cell hS3 0
 have y1:=nd_cell hS3 1
 have y2:=nd_cell hS3 2
 refine bodyPost_ret (v:=.tuple #[(Value.agg #[Value.int .i64 (0),Value.int .i64 (0),Value.string (e0)]),.bool false]) (by simp [results,Tryz.results20,go_sem,y0,y1,y2]) rfl ?_
 exact ⟨rfl,hBx⟩
theorem set_two {w : World} {a b : Nat} {x y u v : Value} {t1 t2 : TypeId} (h1 : w.heap[a]?=some (.cells #[x] t1)) (h2 : w.heap[b]?=some (.cells #[y] t2)) (hne : a≠b) :
  ((w.setCell ⟨a,0,none⟩ u).setCell ⟨b,0,none⟩ v).cell? ⟨a,0,none⟩=some u∧((w.setCell ⟨a,0,none⟩ u).setCell ⟨b,0,none⟩ v).cell? ⟨b,0,none⟩=some v:=by
 have k1:=heap_setCell_same w a 0 #[x] t1 u h1
 have k2 : (w.setCell ⟨a,0,none⟩ u).heap[b]?=some (.cells #[y] t2):=(heap_setCell_other w ⟨a,0,none⟩ b u (fun e=>hne e.symm)).trans h2
 have k3:=heap_setCell_same (w.setCell ⟨a,0,none⟩ u) b 0 #[y] t2 v k2
 have k4 : ((w.setCell ⟨a,0,none⟩ u).setCell ⟨b,0,none⟩ v).heap[a]?=_:=(heap_setCell_other (w.setCell ⟨a,0,none⟩ u) ⟨b,0,none⟩ a v hne).trans k1
 exact ⟨nd_cell k4 0,nd_cell k3 0⟩
set_option maxRecDepth 100000 in
set_option maxHeartbeats 2000000 in
theorem dbykey_no {dv pv mv : Value} {ts : List T} {x : ByteArray} {u : T3} {W : World} (hd : ∀ w,Below W.heap.size W w→Calls Tryz.prog 30 #[dv] w fun e w'=>e=.returned pv∧w'=w) (h : SchP mv W pv ts) (hfew : AllFew ts) (hno : (orT (findT ts x)).key=e0∨u.1=0) :
  Calls Tryz.prog 18 #[dv,.string x,(Value.agg #[Value.int .i64 (u.1),Value.int .i64 (u.2.1),Value.string (u.2.2)])] W fun e w'=>e=.returned (.tuple #[(Value.int .i64 (0)),.bool false])∧Below W.heap.size W w':=by
 have hb0:=below_alloc W (.cells #[.int .i64 u.1,.int .i64 u.2.1,.string u.2.2] 26)
 have k0:=heap_alloc_new W (.cells #[.int .i64 u.1,.int .i64 u.2.1,.string u.2.2] 26)
 have hb1:=below_alloc (W.alloc (.cells #[.int .i64 u.1,.int .i64 u.2.1,.string u.2.2] 26)) (.cells #[.int .i64 0] 3)
 have k1:=heap_alloc_new (W.alloc (.cells #[.int .i64 u.1,.int .i64 u.2.1,.string u.2.2] 26)) (.cells #[.int .i64 0] 3)
 have hb2:=below_alloc ((W.alloc (.cells #[.int .i64 u.1,.int .i64 u.2.1,.string u.2.2] 26)).alloc (.cells #[.int .i64 0] 3)) (.cells #[.bool false] 4)
 have k2:=heap_alloc_new ((W.alloc (.cells #[.int .i64 u.1,.int .i64 u.2.1,.string u.2.2] 26)).alloc (.cells #[.int .i64 0] 3)) (.cells #[.bool false] 4)
 have k0:=heap_on hb2 (heap_on hb1 k0)
 have k1:=heap_on hb2 k1
 have hb2:=below_on (below_on hb0 hb1) hb2
 obtain ⟨w1,hw1⟩ : ∃ w1,((W.alloc (.cells #[.int .i64 u.1,.int .i64 u.2.1,.string u.2.2] 26)).alloc (.cells #[.int .i64 0] 3)).alloc (.cells #[.bool false] 4)=w1:=⟨_,rfl⟩
 obtain ⟨B,hB⟩ : ∃ B,W.heap.size=B:=⟨_,rfl⟩
 simp only [World.size_alloc] at k1 k2
 rw [hw1] at hb2 k0 k1 k2
 rw [hB] at k0 k1 k2
 have hs:=hd w1 hb2
 have hfi:=sFind_any (x:=x) (h.later hb2) hfew
 generalize orT (findT ts x)=t at hfi hno
 generalize hasT ts x=ok at hfi
 have HW:=Lib.hid (And.intro hw1 (And.intro hB (And.intro hb2 (And.intro k0 (And.intro k1 k2)))))
 clear hw1 hB hb0 hb1 hb2 k0 k1 k2 hd h hfew
 have hc : ∃ b : Bool,b=decide (t.key=e0):=⟨_,rfl⟩
 go_enter Tryz.func18,Tryz.ntmps18
 go_upto_region 1 with fail
 rw [HW.out.1,HW.out.2.1]
 go_upto_region 2 with (first
  | (go_at_call 30; (with_reducible refine hs.mono ?_); rintro e w2 ⟨rfl,hw⟩; subst w2; clear hs)
  | (go_at_call 55; (with_reducible refine hfi.mono ?_); rintro e w3 ⟨p1,n1,c1,p2,n2,c2,rfl,_,hb3⟩; have hb4:=below_alloc w3 (.cells #[.string t.nm,.slice p1 n1 c1,.string t.key,.slice p2 n2 c2] 46); have ka:=heap_alloc_new w3 (.cells #[.string t.nm,.slice p1 n1 c1,.string t.key,.slice p2 n2 c2] 46); have H3:=Lib.hid (And.intro (below_on HW.out.2.2.1 (below_on hb3 hb4)) (And.intro (heap_on hb4 (heap_on hb3 HW.out.2.2.2.1)) (And.intro (heap_on hb4 (heap_on hb3 HW.out.2.2.2.2.1)) (And.intro (heap_on hb4 (heap_on hb3 HW.out.2.2.2.2.2)) ka)))); clear hfi hb3 hb4 ka))
 generalize w3.alloc _=w4 at H3 ⊢
 obtain ⟨m0,m1,m2,m3,m4⟩:=H3.out
 have z2:=nd_cell m4 2
 have v0:=nd_cell m1 0
 have r0:=nd_cell m2 0
 have r1:=nd_cell m3 0
 have f0:=fun i=>frozen_of_row w4 (B+1) i _ _ m2
 have f1:=fun i=>frozen_of_row w4 (B+1+1) i _ _ m3
 have l0:=lt_of_heap m2
 have l1:=lt_of_heap m3
 have l2:=lt_of_heap m4
 have l3:=lt_of_heap m1
 have hst:=set_two (u:=.int .i64 0) (v:=.bool false) m2 m3 (by omega)
 have hBx : Below B W ((w4.setCell ⟨B+1,0,none⟩ (.int .i64 0)).setCell ⟨B+1+1,0,none⟩ (.bool false)):=((HW.out.2.1 ▸ m0).setCell (p:=⟨B+1,0,none⟩) (by show B≤B+1; omega) _).setCell (p:=⟨B+1+1,0,none⟩) (by show B≤B+1+1; omega) _
 have HE:=Lib.hid (And.intro hst hBx)
 clear m0 m1 m2 m3 m4 hst hBx
 by_cases hk : t.key=e0
 ·go_upto_region 3 with fail
  all_goals (go_wp2_with fail)
  all_goals
   obtain ⟨⟨y0,y1⟩,hBx⟩:=HE.out
   refine bodyPost_ret (v:=.tuple #[.int .i64 0,.bool false]) (by simp [results,Tryz.results18,go_sem,y0,y1]) rfl ?_
   exact ⟨rfl,HW.out.2.1 ▸ hBx⟩
 ·obtain hu : u.1=0:=hno.resolve_left hk
  go_upto_region 3 with fail
  all_goals (go_wp2_with fail)
  all_goals
   obtain ⟨⟨y0,y1⟩,hBx⟩:=HE.out
   refine bodyPost_ret (v:=.tuple #[.int .i64 0,.bool false]) (by simp [results,Tryz.results18,go_sem,y0,y1]) rfl ?_
   exact ⟨rfl,HW.out.2.1 ▸ hBx⟩
end Go.Proofs.YtjepplacnaoomaaGreat
