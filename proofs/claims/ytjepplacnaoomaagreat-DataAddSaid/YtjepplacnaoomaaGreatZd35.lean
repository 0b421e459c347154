import Derived.Test.YtjepplacnaoomaaGreatZd34
import Derived.Test.YtjepplacnaoomaaGreatZd27
import Derived.Test.YtjepplacnaoomaaGreatZd32
namespace Go.Proofs.YtjepplacnaoomaaGreat
open Go Go.RowKit Go.Proofs Co Co.S
abbrev bx : ByteArray:=⟨#[120]⟩
abbrev by' : ByteArray:=⟨#[121]⟩
abbrev bz : ByteArray:=⟨#[122]⟩
abbrev bzone : ByteArray:=⟨#[122,111,110,101]⟩
abbrev bcity : ByteArray:=⟨#[99,105,116,121]⟩
abbrev bshop : ByteArray:=⟨#[115,104,111,112]⟩
abbrev A4 : List R1:=[(1,[(1,8,e0),(2,0,by'),(2,0,bz),z3])]
theorem words1 : ∀ s,s∈[wd by']↔∃ a∈A4,∃ y,a.2[1]?=some y∧y.1=2∧wd y.2.2=s:=fun s=>⟨fun h=>⟨_,List.mem_singleton.2 rfl,_,rfl,rfl,(List.mem_singleton.1 h).symm⟩,fun ⟨a,ha,y,hy,_,he⟩=>by
 obtain rfl:=List.mem_singleton.1 ha
 cases hy
 rw [← he]
 exact List.mem_singleton.2 rfl⟩
theorem field_nm (nm key : ByteArray) (a b : Value) (w : World) : (Instr.field 46 (.agg #[.string nm,a,.string key,b]) 0).run Tryz.prog w=.ok (.string nm) w:=by kernel_rfl
theorem small_row {l : List T3} (h : ∀ x∈l,x.2.2.size≤12) : ∀ x∈l,x.2.2.size≤maxLen:=fun x hx=>Nat.le_trans (h x hx) (by unfold maxLen; omega)
set_option maxRecDepth 100000 in
set_option maxHeartbeats 4000000 in
theorem begun_any (W : World) : Calls Tryz.prog 82 #[] W fun e w'=>e=.returned (.bool true)∧Below W.heap.size W w':=by
 have hshop:=shop_any W
 go_enter Tryz.func82,Tryz.ntmps82
 go_upto_region 11 with (first
  | (go_at_call 108; (with_reducible refine hshop.mono ?_); rintro e w1 ⟨cv,dv,rfl,hT,hb1⟩; have hnew:=st_new hT hb1; clear hshop hT hb1)
  | (go_at_call 76; (with_reducible refine hnew.mono ?_); rintro e w2 ⟨tb,rfl,S2⟩; have hrow1:=row_any 7 bx w2; have S2:=Lib.hid S2; clear hnew)
  | (go_at_call 109; (with_reducible refine hrow1.mono ?_); rintro e w3 ⟨rfl,hr,hb3⟩; have hins1 : Calls Tryz.prog 43 #[(Value.pointer (some ⟨tb,0,none⟩)),.slice (some ⟨w2.heap.size,0,none⟩) 4 4] w3 fun e w'=>e=.returned (.tuple #[.int .i64 0,.int .i64 0])∧St W w' tb 1 [(0,rowL 7 bx)]:=st_ins S2.out hb3 hr (by decide) (small_row (by decide)) (by decide); clear hrow1 hr hb3)
  | (go_at_call 43; (with_reducible refine hins1.mono ?_); rintro e w4 ⟨rfl,S4⟩; have hrow2:=row_any 8 by' w4; have S4:=Lib.hid S4; clear hins1 S2)
  | (go_at_call 109; (with_reducible refine hrow2.mono ?_); rintro e w5 ⟨rfl,hr,hb3⟩; have hins2 : Calls Tryz.prog 43 #[(Value.pointer (some ⟨tb,0,none⟩)),.slice (some ⟨w4.heap.size,0,none⟩) 4 4] w5 fun e w'=>e=.returned (.tuple #[.int .i64 1,.int .i64 0])∧St W w' tb 2 [(0,rowL 7 bx),(1,rowL 8 by')]:=st_ins S4.out hb3 hr (by decide) (small_row (by decide)) (by decide); clear hrow2 hr hb3)
  | (go_at_call 43; (with_reducible refine hins2.mono ?_); rintro e w6 ⟨rfl,S6⟩; have hins3:=st_insnil S6 (by decide); clear hins2 S4 S6)
  | (go_at_call 43; (with_reducible refine hins3.mono ?_); rintro e w7 ⟨rfl,S7⟩; have hdel : Calls Tryz.prog 48 #[(Value.pointer (some ⟨tb,0,none⟩)),.int .i64 0] w7 fun e w'=>e=.returned (.bool true)∧St W w' tb 2 [(1,rowL 8 by')]:=st_del S7 (a:=(0,rowL 7 bx)) (by simp) (by decide); clear hins3 S7)
  | (go_at_call 48; (with_reducible refine hdel.mono ?_); rintro e w8 ⟨rfl,S8⟩; have hset : Calls Tryz.prog 50 #[(Value.pointer (some ⟨tb,0,none⟩)),.int .i64 1,.string bzone,(Value.agg #[Value.int .i64 (2),Value.int .i64 (0),Value.string (bz)])] w8 fun e w'=>e=.returned (.int .i64 0)∧St W w' tb 2 A4:=st_set S8 (a:=(1,rowL 8 by')) (by simp) (by decide) (j:=2) (by decide) (by decide) 2 0 bz (by decide) (by decide); clear hdel S8)
  | (go_at_call 50; (with_reducible refine hset.mono ?_); rintro e w9 ⟨rfl,S9⟩; have hrow9 : Calls Tryz.prog 69 #[(Value.pointer (some ⟨tb,0,none⟩)),.int .i64 1] w9 _:=st_row S9 (a:=(1,[(1,8,e0),(2,0,by'),(2,0,bz),z3])) (by simp); have S9:=Lib.hid S9; clear hset)
  | (go_at_call 69; (with_reducible refine hrow9.mono ?_); rintro e w10 ⟨g,c,rfl,_,hb10⟩; have S10:=S9.out.later hb10; have hget : Calls Tryz.prog 59 #[(Value.pointer (some ⟨tb,0,none⟩)),.int .i64 1,.string bzone] w10 fun e w'=>e=.returned (.tuple #[(Value.agg #[Value.int .i64 (2),Value.int .i64 (0),Value.string (bz)]),.bool true])∧Below w10.heap.size w10 w':=st_get S10 (a:=(1,[(1,8,e0),(2,0,by'),(2,0,bz),z3])) (by simp) (k:=2) (by decide) (by decide) (u:=(2,0,bz)) rfl; have S10:=Lib.hid S10; clear hrow9 hb10 S9)
  | (go_at_call 59; (with_reducible refine hget.mono ?_); rintro e w11 ⟨rfl,hb11⟩; have S11:=Lib.hid (S10.out.later hb11); clear hget hb11 S10))
 have S12:=S11.out.later (below_alloc w11 (.cells #[.int .i64 2,.int .i64 0,.string bz] 26))
 have hV:=heap_alloc_new w11 (.cells #[.int .i64 2,.int .i64 0,.string bz] 26)
 obtain ⟨w12,hw12⟩ : ∃ w12,w11.alloc (.cells #[.int .i64 2,.int .i64 0,.string bz] 26)=w12:=⟨_,rfl⟩
 obtain ⟨V,hVe⟩ : ∃ V,w11.heap.size=V:=⟨_,rfl⟩
 rw [hw12] at S12 hV ⊢
 rw [hVe] at hV ⊢
 clear hw12 hVe S11
 have hcopy:=st_copy S12 (by decide)
 have S12:=Lib.hid S12
 have hV:=Lib.hid hV
 go_wp2_with (first
  | (go_at_call 54; (with_reducible refine hcopy.mono ?_); rintro e w13 ⟨ob,rfl,O13,hb13⟩; have S13:=S12.out.later hb13; have HV13:=heap_on hb13 hV.out; have v2:=nd_cell HV13 2; have hn1 : Calls Tryz.prog 33 #[(Value.pointer (some ⟨tb,0,none⟩))] w13 fun e w'=>e=.returned (.int .i64 2)∧w'=w13:=st_next S13; have hn2 : Calls Tryz.prog 33 #[(Value.pointer (some ⟨ob,0,none⟩))] w13 fun e w'=>e=.returned (.int .i64 2)∧w'=w13:=st_next O13; have hlive:=st_live S13; have S13:=Lib.hid S13; have O13:=Lib.hid O13; clear hcopy S12 hb13 HV13)
  | (go_at_call 33; (with_reducible refine hn1.mono ?_); rintro e w14 ⟨rfl,hw⟩; subst w14; clear hn1)
  | (go_at_call 57; (with_reducible refine hlive.mono ?_); rintro e w15 ⟨p,n,cc,rfl,hb15,hcount⟩; have hcount : Calls Tryz.prog 68 #[.agg #[.slice p n cc]] w15 fun e w2=>e=.returned (.int .i64 1)∧Below w15.heap.size w15 w2:=hcount; have S15:=Lib.hid (S13.out.later hb15); have O15:=Lib.hid (O13.out.later hb15); clear hlive hb15)
  | (go_at_call 68; (with_reducible refine hcount.mono ?_); rintro e w16 ⟨rfl,hb16⟩; have S16:=Lib.hid (S15.out.later hb16); have O16:=Lib.hid (O15.out.later hb16); have hwords : Calls Tryz.prog 110 #[(Value.pointer (some ⟨tb,0,none⟩)),.string bcity] w16 fun e w'=>e=.returned (.int .i64 1)∧Below w16.heap.size w16 w':=st_words S16.out (k:=1) (by decide) (by decide) [wd by'] (by simp) words1; clear hcount hb16)
  | (go_at_call 110; (with_reducible refine hwords.mono ?_); rintro e w17 ⟨rfl,hb17⟩; have S17:=S16.out.later hb17; have hn3 : Calls Tryz.prog 33 #[(Value.pointer (some ⟨ob,0,none⟩))] w17 fun e w'=>e=.returned (.int .i64 2)∧w'=w17:=st_next (O16.out.later hb17); have hform:=st_form S17; have S17:=Lib.hid S17; clear hwords hb17)
  | (go_at_call 33; (with_reducible refine hn3.mono ?_); rintro e w18 ⟨rfl,hw⟩; subst w18; clear hn3)
  | (go_at_call 111; (with_reducible refine hform.mono ?_); rintro e w19 ⟨p1,c1,p2,c2,ps,rfl,_,hb19⟩; have S19:=Lib.hid (S17.out.later hb19); have hnm : tShop.nm=bshop:=rfl; rw [hnm]; have hfd:=field_nm bshop tShop.key (.slice p1 4 c1) (.slice p2 1 c2) w19; clear hform hb19))
 go_ret
 exact ⟨rfl,S19.out.bel⟩
abbrev bspoilt : ByteArray:=⟨#[115,112,111,105,108,116]⟩
def cellsR (A : List R1) (vs : List Value) : List Value:=(A.zip vs).flatMap fun p=>[.int .i64 p.1.1,p.2]
structure RT where
 rv : Value
 nx : Nat
 A : List R1
 vs : List Value
structure RTok (W : World) (t : T) (x : RT) (O : Nat→Nat) (j : Nat) : Prop where
 rows : HRow W 0 58 2 x.rv x.A.length (cellsR x.A x.vs)
 n : x.vs.length=x.A.length
 vals : ∀ k (h : k<x.A.length) (h' : k<x.vs.length),HRow W 0 26 3 x.vs[k] x.A[k].2.length (cells3 x.A[k].2)
 sep : ∀ k l (hk : k<x.vs.length) (hl : l<x.vs.length),k≠l→∀ q,x.vs[k].ownBlock=some q→x.vs[l].ownBlock≠some q
 len : ∀ a∈x.A,a.2.length=t.cols.length
 srt : x.A.Pairwise (fun a b=>a.1<b.1)
 rng : ∀ a∈x.A,a.1<(x.nx : Int)
 orv : ∀ q,x.rv.ownBlock=some q→O q=5+2*j
 ovs : ∀ k (h : k<x.vs.length) q,x.vs[k].ownBlock=some q→O q=6+2*j
theorem RTok.tn {S : Nat→Prop} {W W' : World} {t : T} {x : RT} {O O' : Nat→Nat} {j : Nat} (h : RTok W t x O j) (hk : Tn S W W') (hs : ∀ q,S q→O q≠5+2*j∧O q≠6+2*j) (hO : ∀ q,q<W.heap.size→O' q=O q) : RTok W' t x O' j :=
 ⟨h.rows.of (fun q hq=>hk.chg.block q (HRow.lt h.rows q hq).2 (fun hS=>(hs q hS).1 (h.orv q hq))),h.n,fun k a b=>(h.vals k a b).of (fun q hq=>hk.chg.block q (HRow.lt (h.vals k a b) q hq).2 (fun hS=>(hs q hS).2 (h.ovs k b q hq))),h.sep,h.len,h.srt,h.rng,
  fun q hq=>(hO q (HRow.lt h.rows q hq).2).trans (h.orv q hq),fun k a q hq=>(hO q (HRow.lt (h.vals k (by rw [← h.n]; exact a) a) q hq).2).trans (h.ovs k a q hq)⟩
structure NI where
 sv : Value
 ov : Value
 nv : Value
 fs : List (Value×Value)
def cellsF (fs : List (Value×Value)) (ts : List T) : List Value:=(fs.zip ts).flatMap fun p=>[.string p.2.nm,p.1.1,.string p.2.key,p.1.2]
theorem cellsF_at {fs : List (Value×Value)} {ts : List T} (h : fs.length=ts.length) {k : Nat} (hk : k<ts.length) : (cellsF fs ts)[k*4]?=some (.string ts[k].nm)∧(cellsF fs ts)[k*4+1]?=some (fs[k]'(by omega)).1∧(cellsF fs ts)[k*4+2]?=some (.string ts[k].key)∧(cellsF fs ts)[k*4+3]?=some (fs[k]'(by omega)).2:=by
 unfold cellsF
 induction fs generalizing ts k with
 | nil=>simp at h; omega
 | cons f fs ih =>
  cases ts with
  | nil=>cases hk
  | cons t ts =>
   cases k with
   | zero=>exact ⟨rfl,rfl,rfl,rfl⟩
   | succ k =>
    have h2:=ih (ts:=ts) (by simpa using h) (k:=k) (by simpa using hk)
    simp only [List.zip_cons_cons,List.flatMap_cons,List.getElem_cons_succ]
    have e : ∀ r,([Value.string t.nm,f.1,.string t.key,f.2] ++ List.flatMap (fun p : (Value×Value)×T=>[Value.string p.2.nm,p.1.1,.string p.2.key,p.1.2]) (fs.zip ts))[(k+1)*4+r]?=(List.flatMap (fun p : (Value×Value)×T=>[Value.string p.2.nm,p.1.1,.string p.2.key,p.1.2]) (fs.zip ts))[k*4+r]?:=fun r=>by
     rw [List.getElem?_append_right (by simp; omega)]
     congr 1
     simp; omega
    exact ⟨(e 0).trans h2.1,(e 1).trans h2.2.1,(e 2).trans h2.2.2.1,(e 3).trans h2.2.2.2⟩
structure DbN (W : World) (b : Nat) (ts : List T) (tt : List RT) (i : NI) (O : Nat→Nat) : Prop where
 box : W.heap[b]?=some (.cells #[i.sv,i.ov,i.nv] 42)
 n : tt.length=ts.length
 fn : i.fs.length=ts.length
 form : HRow W 0 46 4 i.sv ts.length (cellsF i.fs ts)
 rd : ∀ j (h : j<ts.length) (h' : j<i.fs.length),RdT W i.fs[j].1 i.fs[j].2 ts[j]
 outer : HRow W 0 55 1 i.ov ts.length (tt.map (·.rv))
 nxs : HRow W 0 3 1 i.nv ts.length (tt.map fun x=>.int .i64 (x.nx : Int))
 tab : ∀ j (h : j<ts.length) (h' : j<tt.length),RTok W ts[j] tt[j] O j
 o1 : O b=1
 o2 : ∀ q,i.sv.ownBlock=some q→O q=2
 o3 : ∀ q,i.ov.ownBlock=some q→O q=3
 o4 : ∀ q,i.nv.ownBlock=some q→O q=4
 lt : ∀ q,O q≠0→q<W.heap.size
section
variable {W W' : World} {b : Nat} {ts : List T} {tt : List RT} {i : NI} {O O' : Nat→Nat} {S : Nat→Prop}
theorem DbN.tn (h : DbN W b ts tt i O) (hk : Tn S W W') (hs : ∀ q,S q→O q=0) : DbN W' b ts tt i O:=by
 have hb : ∀ q,O q≠0→W'.heap[q]?=W.heap[q]?:=fun q hq=>hk.chg.block q (h.lt q hq) (fun hS=>hq (hs q hS))
 exact ⟨(hb b (by rw [h.o1]; decide)).trans h.box,h.n,h.fn,h.form.of (fun q hq=>hb q (by rw [h.o2 q hq]; decide)),fun j a c=>(h.rd j a c).kp hk.kpX,h.outer.of (fun q hq=>hb q (by rw [h.o3 q hq]; decide)),h.nxs.of (fun q hq=>hb q (by rw [h.o4 q hq]; decide)),
  fun j a c=>(h.tab j a c).tn hk (fun q hq=>by rw [hs q hq]; omega) (fun _ _=>rfl),h.o1,h.o2,h.o3,h.o4,fun q hq=>Nat.lt_of_lt_of_le (h.lt q hq) hk.size⟩
theorem DbN.later (h : DbN W b ts tt i O) (hb : Below W.heap.size W W') : DbN W' b ts tt i O:=h.tn (S:=fun _=>False) (Tn.of_below hb) (fun _ h=>h.elim)
end
section
variable {W w : World} {b : Nat} {ts : List T} {tt : List RT} {i : NI} {O : Nat→Nat} {t : Nat} {y : RT}
end
def atP (A : List R1) (x : Int) : Int:=match A.findIdx? (fun a=>decide (a.1=x)) with
 | none=>-1
 | some k=>(k : Int)
structure NRn where
 gs : Nat
 cs : Nat
 go : Nat
 co : Nat
 gn : Nat
 cn : Nat
 pc : Option Addr
 kc : Nat
 pd : Option Addr
 kd : Nat
structure NR (w : World) (b : Nat) (m t : Nat) (T0 : T) (y : RT) (x : NRn) : Prop where
 b0 : w.cell? ⟨b,0,none⟩=some (.slice (some ⟨x.gs,0,none⟩) m x.cs)
 b1 : w.cell? ⟨b,1,none⟩=some (.slice (some ⟨x.go,0,none⟩) m x.co)
 b2 : w.cell? ⟨b,2,none⟩=some (.slice (some ⟨x.gn,0,none⟩) m x.cn)
 s0 : w.cell? ⟨x.gs,t*4,none⟩=some (.string T0.nm)
 s1 : w.cell? ⟨x.gs,t*4+1,none⟩=some (.slice x.pc T0.cols.length x.kc)
 s2 : w.cell? ⟨x.gs,t*4+2,none⟩=some (.string T0.key)
 s3 : w.cell? ⟨x.gs,t*4+3,none⟩=some (.slice x.pd T0.deps.length x.kd)
 o0 : w.cell? ⟨x.go,t,none⟩=some y.rv
 n0 : w.cell? ⟨x.gn,t,none⟩=some (.int .i64 (y.nx : Int))
 bl : b<w.heap.size
 sl : x.gs<w.heap.size
 ol : x.go<w.heap.size
 nl : x.gn<w.heap.size
 nf : w.frozen? ⟨x.gn,t,none⟩=false
 oF : w.frozen? ⟨x.go,t,none⟩=false
 rd : RdC w (.slice x.pc T0.cols.length x.kc) T0.cols
 rt : RdT w (.slice x.pc T0.cols.length x.kc) (.slice x.pd T0.deps.length x.kd) T0
section
variable {W : World} {b : Nat} {ts : List T} {tt : List RT} {i : NI} {O : Nat→Nat} {t : Nat} {y : RT}
theorem DbN.reads (h : DbN W b ts tt i O) (ht : t<ts.length) (hy : tt[t]?=some y) : ∃ x,i.sv=.slice (some ⟨x.gs,0,none⟩) ts.length x.cs∧i.ov=.slice (some ⟨x.go,0,none⟩) ts.length x.co∧i.nv=.slice (some ⟨x.gn,0,none⟩) ts.length x.cn∧O x.go=3∧O x.gn=4∧O x.gs=2∧∀ w,Below W.heap.size W w→NR w b ts.length t ts[t] y x:=by
 have h0 : 0<ts.length:=by omega
 obtain ⟨gs,cs,e1,_,_⟩:=h.form.slice h0
 obtain ⟨go,co,e2,_,_⟩:=h.outer.slice h0
 obtain ⟨gn,cn,e3,_,_⟩:=h.nxs.slice h0
 have htf : t<i.fs.length:=by rw [h.fn]; exact ht
 obtain ⟨pc,kc,e4,_,_⟩:=(h.rd t ht htf).1.slice
 obtain ⟨pd,kd,e5,_,_⟩:=(h.rd t ht htf).2.slice
 refine ⟨⟨gs,cs,go,co,gn,cn,pc,kc,pd,kd⟩,e1,e2,e3,h.o3 go (by rw [e2]; rfl),h.o4 gn (by rw [e3]; rfl),h.o2 gs (by rw [e1]; rfl),fun w hb=>?_⟩
 have k:=h.later hb
 have f:=k.form
 have o:=k.outer
 have n:=k.nxs
 rw [e1] at f
 rw [e2] at o
 rw [e3] at n
 obtain ⟨c0,c1,c2,c3⟩:=cellsF_at h.fn ht
 rw [e4] at c1
 rw [e5] at c3
 have hr:=k.rd t ht htf
 rw [e4,e5] at hr
 have k0 : w.cell? ⟨b,0,none⟩=some i.sv:=nd_cell k.box 0
 have k1 : w.cell? ⟨b,1,none⟩=some i.ov:=nd_cell k.box 1
 have k2 : w.cell? ⟨b,2,none⟩=some i.nv:=nd_cell k.box 2
 rw [e1] at k0
 rw [e2] at k1
 rw [e3] at k2
 exact ⟨k0,k1,k2,f.cell c0,f.cell c1,f.cell c2,f.cell c3,o.cell (by rw [List.getElem?_map,hy]; rfl),n.cell (by rw [List.getElem?_map,hy]; rfl),lt_of_heap k.box,(HRow.lt f gs rfl).2,(HRow.lt o go rfl).2,(HRow.lt n gn rfl).2,n.frozenAt t,o.frozenAt t,hr.1,hr⟩
end
namespace Par
theorem gives_append {P : Program} {ops : Array Oper} {A : Act} {R : Value→World→Prop} {o : Oper} {w w' : World} {vs vx v' : Value} (hgd : o.guard=none) (s x : Operand) (t u : TypeId)
  (ho : o.op=.call { callee:=.builtin .append,args:=#[s,x],argTypes:=#[t,u] }) (hs : A.eval s=vs) (hx : A.eval x=vx)
  (hr : (Builtin.append_ #[t,u] o.type #[vs,vx]).run P w=.ok v' w') (h : R v' w') : GivesW P ops A R o w:=by
 have hw : Region.wanted o (yielded ops A.tmps)=true:=by simp [Region.wanted,hgd]
 unfold GivesW
 rw [if_pos hw]
 unfold execOp
 simp only [ho,resolve,invoke,builtin,Sem.run_bind,Sem.run_pure,Result.andThen_ok,List.map_toArray,List.map_cons,List.map_nil,hs,hx,hr]
 exact h
end Par
structure IJ (W0 : World) (E : Nat→Value) (rv : Value) (n : Nat) (xs : List Value) (id : Int) (vals : List T3) (l : Nat→Bool) (vs : Nat→Value) (w : World) : Prop where
 gb : W0.grownBy w rv.ownBlock
 f0 : l 17=false→Below W0.heap.size W0 w
 ev : ∀ j,j<14∨j=18→l j=true→vs j=E j
 f14 : l 14=true→∃ g c,vs 14=.slice (some ⟨g,0,none⟩) vals.length c∧HRow w 0 26 3 (.slice (some ⟨g,0,none⟩) vals.length c) vals.length (cells3 vals)∧W0.heap.size≤g
 f15 : l 15=true→vs 15=.agg #[.int .i64 id,vs 14]
 f16 : l 16=true→l 17=false→∃ y,w=y.alloc (.cells #[.int .i64 id,vs 14] 58)∧vs 16=.slice (some ⟨y.heap.size,0,none⟩) 1 1∧Below W0.heap.size W0 y∧∀ q,(vs 14).ownBlock=some q→q<y.heap.size
 f17 : l 17=true→∃ g cap,vs 17=.slice (some ⟨g,0,none⟩) (n+1) cap∧HRow w 0 58 2 (.slice (some ⟨g,0,none⟩) (n+1) cap) (n+1) (xs ++ [.int .i64 id,vs 14])∧(rv.ownBlock=some g∨W0.heap.size≤g)∧∀ q,(vs 14).ownBlock=some q→q≠g
theorem grownB {W0 w : World} {o : Option Nat} (h : Below W0.heap.size W0 w) : W0.grownBy w o:=⟨h.os,h.tape,h.output,h.size,fun q hq _=>h.block q hq⟩
section
open Par
variable {W0 w w' : World} {E : Nat→Value} {rv : Value} {n : Nat} {xs : List Value} {id : Int} {vals : List T3} {l : Nat→Bool} {vs : Nat→Value}
end
section
variable {W : World} {b : Nat} {ts : List T} {tt : List RT} {i : NI} {O : Nat→Nat} {t : Nat} {y : RT}
end
section
variable {W w : World} {b : Nat} {ts : List T} {tt : List RT} {i : NI} {O : Nat→Nat} {t : Nat} {y : RT}
end
structure EJ (W0 : World) (E : Nat→Value) (k m : Nat) (xs ys : List Value) (l : Nat→Bool) (vs : Nat→Value) (w : World) : Prop where
 bl : Below W0.heap.size W0 w
 ev : ∀ j,j≠14→j≠24→j≠25→l j=true→vs j=E j
 f14 : l 14=true→l 25=false→HRow w W0.heap.size 58 2 (vs 14) k xs
 f24 : l 24=true→∃ q d,vs 24=.slice q m d∧(0<m→∃ b off,q=some ⟨b,off,none⟩∧∀ j u,ys[j]?=some u→W0.cell? ⟨b,off+j,none⟩=some u)
 f25 : l 25=true→HRow w W0.heap.size 58 2 (vs 25) (k+m) (xs ++ ys)
section
open Par
variable {W0 w w' : World} {E : Nat→Value} {k m : Nat} {xs ys : List Value} {l : Nat→Bool} {vs : Nat→Value}
end
section
variable {W : World} {b : Nat} {ts : List T} {tt : List RT} {i : NI} {O : Nat→Nat} {t : Nat} {y : RT}
end
section
variable {A : List R1}
end
section
variable {W w : World} {b : Nat} {ts : List T} {tt : List RT} {i : NI} {O : Nat→Nat} {t : Nat} {y : RT}
end
def cutT (x : T3) : T3:=(x.1,x.2.1,cutB 20 x.2.2)
def cutR (N : Nat) (xs : List T3) : List T3:=(xs.map cutT).take N
structure OpX where
 dO : Int
 tbl : ByteArray
 id : Int
 col : ByteArray
 vals : List T3
def opC (u : OpX) (v : Value) : List Value:=[.int .i64 u.dO,.string u.tbl,.int .i64 u.id,.string u.col,v]
def cellsO (L : List OpX) (vs : List Value) : List Value:=(L.zip vs).flatMap fun p=>opC p.1 p.2
def cutOp (u : OpX) : OpX:=⟨u.dO,cutB 20 u.tbl,u.id,cutB 20 u.col,cutR 7 u.vals⟩
def OpsR (W : World) (p : Option Addr) (L : List OpX) : Prop:=∀ j (hj : j<L.length),∃ (b off : Nat) (vv : Value),p=some ⟨b,off,none⟩∧b<W.heap.size∧W.cell? ⟨b,off+j*5,none⟩=some (.int .i64 L[j].dO)∧W.cell? ⟨b,off+j*5+1,none⟩=some (.string L[j].tbl)∧W.cell? ⟨b,off+j*5+2,none⟩=some (.int .i64 L[j].id)∧W.cell? ⟨b,off+j*5+3,none⟩=some (.string L[j].col)∧W.cell? ⟨b,off+j*5+4,none⟩=some vv ∧
 InV (fun q=>q<W.heap.size) W vv L[j].vals∧L[j].tbl.size≤maxLen∧L[j].col.size≤maxLen∧∀ x∈L[j].vals,x.2.2.size≤maxLen
def OpsO (w : World) (base : Nat) (tv : Value) (L : List OpX) : Prop:=∃ sv : List Value,sv.length=L.length∧HRow w base 85 5 tv L.length (cellsO L sv)∧∀ j (hj : j<L.length),∃ v,sv[j]?=some v∧HRow w base 26 3 v L[j].vals.length (cells3 L[j].vals)
structure OJ (W0 : World) (base : Nat) (E : Nat→Value) (rv : Value) (n : Nat) (xs : List Value) (u : OpX) (l : Nat→Bool) (vs : Nat→Value) (w : World) : Prop where
 gb : W0.grownBy w rv.ownBlock
 f0 : l 16=false→Below W0.heap.size W0 w
 ev : ∀ j,j<13→l j=true→vs j=E j
 f13 : l 13=true→∃ p c,vs 13=.slice p u.vals.length c∧HRow w base 26 3 (vs 13) u.vals.length (cells3 u.vals)
 f14 : l 14=true→vs 14=.agg #[.int .i64 u.dO,.string u.tbl,.int .i64 u.id,.string u.col,vs 13]
 f15 : l 15=true→l 16=false→∃ y,w=y.alloc (.cells #[.int .i64 u.dO,.string u.tbl,.int .i64 u.id,.string u.col,vs 13] 85)∧vs 15=.slice (some ⟨y.heap.size,0,none⟩) 1 1∧Below W0.heap.size W0 y∧∀ q,(vs 13).ownBlock=some q→q<y.heap.size
 f16 : l 16=true→∃ g cap,vs 16=.slice (some ⟨g,0,none⟩) (n+1) cap∧HRow w base 85 5 (.slice (some ⟨g,0,none⟩) (n+1) cap) (n+1) (xs ++ opC u (vs 13))∧(rv.ownBlock=some g∨W0.heap.size≤g)
section
open Par
variable {W0 w w' : World} {base : Nat} {E : Nat→Value} {rv : Value} {n : Nat} {xs : List Value} {u : OpX} {l : Nat→Bool} {vs : Nat→Value}
end
end Go.Proofs.YtjepplacnaoomaaGreat
