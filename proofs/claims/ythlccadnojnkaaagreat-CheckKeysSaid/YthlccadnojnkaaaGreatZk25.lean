import Derived.Test.YthlccadnojnkaaaGreatZk23
import Derived.Test.YthlccadnojnkaaaGreatZk24
set_option maxHeartbeats 4000000
set_option maxRecDepth 100000
namespace Go.Proofs.YthlccadnojnkaaaGreat
open Go Go.RowKit Go.Proofs Co Co.S
abbrev bx:ByteArray:=⟨#[120]⟩
abbrev by':ByteArray:=⟨#[121]⟩
abbrev bz:ByteArray:=⟨#[122]⟩
abbrev bzone:ByteArray:=⟨#[122,111,110,101]⟩
abbrev bcity:ByteArray:=⟨#[99,105,116,121]⟩
abbrev bshop:ByteArray:=⟨#[115,104,111,112]⟩
abbrev A4:List R1:=[(1,[(1,8,e0),(2,0,by'),(2,0,bz),z3])]
theorem aHj:∀ s,s∈[wd by']↔∃ a∈A4,∃ y,a.2[1]?=some y/\y.1=2/\wd y.2.2=s:=fun s=>⟨fun h=>⟨_,List.mem_singleton.2 rfl,_,rfl,rfl,(List.mem_singleton.1 h).symm⟩,fun ⟨a,ha,y,hy,_,he⟩=>by
 obtain rfl:=List.mem_singleton.1 ha;cases hy;rw[<- he];exact List.mem_singleton.2 rfl⟩
theorem aCV (nm key:ByteArray) (a b:Value) (w:World):(Instr.field 77 (.agg #[.string nm,a,.string key,b]) 0).run Tryz.prog w=.ok (.string nm) w:=by kernel_rfl
theorem gF {l:List T3} (h:∀ x∈l,x.2.2.size<=12):∀ x∈l,x.2.2.size<=maxLen:=fun x hx=>Nat.le_trans (h x hx) (by unfold maxLen;omega)
theorem aBu (W:World):Calls Tryz.prog 135 #[] W fun e w'=>e=.returned (.bool true)/\Below W.heap.size W w':=by
 have hshop:=aCQ W;go_enter Tryz.func135,Tryz.ntmps135
 go_upto_region 11 with (first
  | (go_at_call 157;(with_reducible refine hshop.mono ?_);rintro e w1 ⟨cv,dv,rfl,hT,hb1⟩;have hnew:=aHe hT hb1;clear hshop hT hb1)
  | (go_at_call 63;(with_reducible refine hnew.mono ?_);rintro e w2 ⟨tb,rfl,S2⟩;have hrow1:=zU 7 bx w2;have S2:=qAq S2;clear hnew)
  | (go_at_call 158;(with_reducible refine hrow1.mono ?_);rintro e w3 ⟨rfl,hr,hb3⟩;have hins1:Calls Tryz.prog 37 #[.pointer (some ⟨tb,0,none⟩),.slice (some ⟨w2.heap.size,0,none⟩) 4 4] w3 fun e w'=>e=.returned (.tuple #[.int .i64 0,.int .i64 0])/\St W w' tb 1 [(0,rowL 7 bx)]:=aCR S2.out hb3 hr (by decide) (gF (by decide)) (by decide);clear hrow1 hr hb3)
  | (go_at_call 37;(with_reducible refine hins1.mono ?_);rintro e w4 ⟨rfl,S4⟩;have hrow2:=zU 8 by' w4;have S4:=qAq S4;clear hins1 S2)
  | (go_at_call 158;(with_reducible refine hrow2.mono ?_);rintro e w5 ⟨rfl,hr,hb3⟩;have hins2:Calls Tryz.prog 37 #[.pointer (some ⟨tb,0,none⟩),.slice (some ⟨w4.heap.size,0,none⟩) 4 4] w5 fun e w'=>e=.returned (.tuple #[.int .i64 1,.int .i64 0])/\St W w' tb 2 [(0,rowL 7 bx),(1,rowL 8 by')]:=aCR S4.out hb3 hr (by decide) (gF (by decide)) (by decide);clear hrow2 hr hb3)
  | (go_at_call 37;(with_reducible refine hins2.mono ?_);rintro e w6 ⟨rfl,S6⟩;have hins3:=aBq S6 (by decide);clear hins2 S4 S6)
  | (go_at_call 37;(with_reducible refine hins3.mono ?_);rintro e w7 ⟨rfl,S7⟩;have hdel:Calls Tryz.prog 39 #[.pointer (some ⟨tb,0,none⟩),.int .i64 0] w7 fun e w'=>e=.returned (.bool true)/\St W w' tb 2 [(1,rowL 8 by')]:=aHf S7 (a:=(0,rowL 7 bx)) (by simp) (by decide);clear hins3 S7)
  | (go_at_call 39;(with_reducible refine hdel.mono ?_);rintro e w8 ⟨rfl,S8⟩;have hset:Calls Tryz.prog 41 #[.pointer (some ⟨tb,0,none⟩),.int .i64 1,.string bzone,.agg #[.int .i64 (2),.int .i64 (0),.string (bz)]] w8 fun e w'=>e=.returned (.int .i64 0)/\St W w' tb 2 A4:=aHg S8 (a:=(1,rowL 8 by')) (by simp) (by decide) (j:=2) (by decide) (by decide) 2 0 bz (by decide) (by decide);clear hdel S8)
  | (go_at_call 41;(with_reducible refine hset.mono ?_);rintro e w9 ⟨rfl,S9⟩;have hrow9:Calls Tryz.prog 84 #[.pointer (some ⟨tb,0,none⟩),.int .i64 1] w9 _:=aHh S9 (a:=(1,[(1,8,e0),(2,0,by'),(2,0,bz),z3])) (by simp);have S9:=qAq S9;clear hset)
  | (go_at_call 84;(with_reducible refine hrow9.mono ?_);rintro e w10 ⟨g,c,rfl,_,hb10⟩;have S10:=S9.out.later hb10;have hget:Calls Tryz.prog 132 #[.pointer (some ⟨tb,0,none⟩),.int .i64 1,.string bzone] w10 fun e w'=>e=.returned (.tuple #[(Value.agg #[Value.int .i64 (2),Value.int .i64 (0),Value.string (bz)]),.bool true])/\Below w10.heap.size w10 w':=aHi S10 (a:=(1,[(1,8,e0),(2,0,by'),(2,0,bz),z3])) (by simp) (k:=2) (by decide) (by decide) (u:=(2,0,bz)) rfl;have S10:=qAq S10;clear hrow9 hb10 S9)
  | (go_at_call 132;(with_reducible refine hget.mono ?_);rintro e w11 ⟨rfl,hb11⟩;have S11:=qAq (S10.out.later hb11);clear hget hb11 S10))
 have S12:=S11.out.later (aD w11 (.cells #[.int .i64 2,.int .i64 0,.string bz] 32));have hV:=heap_alloc_new w11 (.cells #[.int .i64 2,.int .i64 0,.string bz] 32);obtain⟨w12,hw12⟩:∃ w12,w11.alloc (.cells #[.int .i64 2,.int .i64 0,.string bz] 32)=w12:=⟨_,rfl⟩;obtain⟨V,hVe⟩:∃ V,w11.heap.size=V:=⟨_,rfl⟩;rw[hw12] at S12 hV ⊢;rw[hVe] at hV ⊢;clear hw12 hVe S11;have hcopy:=aFd S12 (by decide);have S12:=qAq S12;have hV:=qAq hV
 go_wp2_with (first
  | (go_at_call 93;(with_reducible refine hcopy.mono ?_);rintro e w13 ⟨ob,rfl,O13,hb13⟩;have S13:=S12.out.later hb13;have HV13:=aE hb13 hV.out;have v2:=aA HV13 2;have hn1:Calls Tryz.prog 30 #[.pointer (some ⟨tb,0,none⟩)] w13 fun e w'=>e=.returned (.int .i64 2)/\w'=w13:=rC S13;have hn2:Calls Tryz.prog 30 #[.pointer (some ⟨ob,0,none⟩)] w13 fun e w'=>e=.returned (.int .i64 2)/\w'=w13:=rC O13;have hlive:=aFe S13;have S13:=qAq S13;have O13:=qAq O13;clear hcopy S12 hb13 HV13)
  | (go_at_call 30;(with_reducible refine hn1.mono ?_);rintro e w14 ⟨rfl,hw⟩;subst w14;clear hn1)
  | (go_at_call 52;(with_reducible refine hlive.mono ?_);rintro e w15 ⟨p,n,cc,rfl,hb15,hcount⟩;have hcount:Calls Tryz.prog 53 #[.agg #[.slice p n cc]] w15 fun e w2=>e=.returned (.int .i64 1)/\Below w15.heap.size w15 w2:=hcount;have S15:=qAq (S13.out.later hb15);have O15:=qAq (O13.out.later hb15);clear hlive hb15)
  | (go_at_call 53;(with_reducible refine hcount.mono ?_);rintro e w16 ⟨rfl,hb16⟩;have S16:=qAq (S15.out.later hb16);have O16:=qAq (O15.out.later hb16);have hwords:Calls Tryz.prog 82 #[.pointer (some ⟨tb,0,none⟩),.string bcity] w16 fun e w'=>e=.returned (.int .i64 1)/\Below w16.heap.size w16 w':=aCS S16.out (k:=1) (by decide) (by decide) [wd by'] (by simp) aHj;clear hcount hb16)
  | (go_at_call 82;(with_reducible refine hwords.mono ?_);rintro e w17 ⟨rfl,hb17⟩;have S17:=S16.out.later hb17;have hn3:Calls Tryz.prog 30 #[.pointer (some ⟨ob,0,none⟩)] w17 fun e w'=>e=.returned (.int .i64 2)/\w'=w17:=rC (O16.out.later hb17);have hform:=aFf S17;have S17:=qAq S17;clear hwords hb17)
  | (go_at_call 30;(with_reducible refine hn3.mono ?_);rintro e w18 ⟨rfl,hw⟩;subst w18;clear hn3)
  | (go_at_call 159;(with_reducible refine hform.mono ?_);rintro e w19 ⟨p1,c1,p2,c2,ps,rfl,_,hb19⟩;have S19:=qAq (S17.out.later hb19);have hnm:tShop.nm=bshop:=rfl;rw[hnm];have hfd:=aCV bshop tShop.key (.slice p1 4 c1) (.slice p2 1 c2) w19;clear hform hb19))
 go_ret;exact⟨rfl,S19.out.bel⟩
theorem xF (l:List T3):∀ u∈cells3 l,u.oneCell'=true:=by
 intro u hu;unfold cells3 at hu;rw[List.mem_flatMap] at hu;obtain⟨x,_,hx⟩:=hu;rcases List.mem_cons.1 hx with rfl|hx
 ·rfl
 rcases List.mem_cons.1 hx with rfl|hx
 ·rfl
 rw[List.mem_singleton.1 hx];rfl
theorem mZ {S:Nat->Prop} {y:World} {v:Value} {l:List T3} (h:InV S y v l) (hl:l.length<=1000) (h0:0<l.length):∃ g cap w',(Builtin.append_ #[27,27] 27 #[.slice none 0 0,v]).run Tryz.prog y=.ok (.slice (some ⟨g,0,none⟩) l.length cap) w' /\
  HRow w' y.heap.size 32 3 (.slice (some ⟨g,0,none⟩) l.length cap) l.length (cells3 l)/\Below y.heap.size y w':=by
 obtain⟨p,cap,rfl,_,_,h4⟩:=h;obtain⟨b,off,rfl,hb2,_,hcell⟩:=h4 h0;obtain⟨i0,hi0,hz0,hz1,hz2⟩:=info_parts wL
 obtain⟨g,cap',w',h1,h2,h3,h4⟩:=aY (P:=Tryz.prog) y y.heap.size 27 27 32 i0 _ 3 32 Tryz.underlying27 hi0 hz0 hz1 hz2 rfl (by decide) (HRow.nil (w:=y) (base:=y.heap.size)) ⟨b,off,none⟩ l.length cap (cells3 l) (dR l) (fun j u hj=>by
  rw[Addr.add_lit];exact hcell j u hj) (xF l) h0 (by unfold maxLen;omega) (by omega) (Nat.le_refl _)
 rw[Nat.zero_add,List.nil_append] at *;exact⟨g,cap',w',h1,h2,h3.os,h3.tape,h3.output,h3.size,fun q hq=>h3.block q hq (by simp[Value.ownBlock])⟩
abbrev bspoilt:ByteArray:=⟨#[115,112,111,105,108,116]⟩
def cellsR (A:List R1) (vs:List Value):List Value:=(A.zip vs).flatMap fun p=>[.int .i64 p.1.1,p.2]
theorem xG {A:List R1} {vs:List Value} (h:vs.length=A.length):(cellsR A vs).length=A.length*2:=by
 unfold cellsR
 induction A generalizing vs with
 | nil=>simp
 | cons a A ih =>
  cases vs with
  | nil=>cases h
  | cons v vs =>
   simp only[List.zip_cons_cons,List.flatMap_cons,List.length_append,List.length_cons,List.length_nil];rw[ih (by simpa using h)];omega
theorem dI {A:List R1} {vs:List Value} (h:vs.length=A.length) {k:Nat} (hk:k<A.length):(cellsR A vs)[k*2]?=some (.int .i64 A[k].1)/\(cellsR A vs)[k*2+1]?=some (vs[k]'(by omega)):=by
 unfold cellsR
 induction A generalizing vs k with
 | nil=>cases hk
 | cons a A ih =>
  cases vs with
  | nil=>cases h
  | cons v vs =>
   cases k with
   | zero=>exact⟨rfl,rfl⟩
   | succ k =>
    have h2:=ih (vs:=vs) (by simpa using h) (k:=k) (by simpa using hk);simp only[List.zip_cons_cons,List.flatMap_cons];constructor
    ·rw[List.getElem?_append_right (by simp;omega)];have:(k+1)*2-([.int .i64 a.1,v]:List Value).length=k*2:=(by simp;omega);rw[this];exact h2.1
    ·rw[List.getElem?_append_right (by simp;omega)];have:(k+1)*2+1-([.int .i64 a.1,v]:List Value).length=k*2+1:=(by simp;omega);rw[this];exact h2.2
theorem lD {A:List R1} {vs:List Value} (h:vs.length=A.length) (a:R1) (v:Value):cellsR (A++[a]) (vs++[v])=cellsR A vs++[.int .i64 a.1,v]:=by
 unfold cellsR;rw[List.zip_append h.symm,List.flatMap_append]
 simp
theorem oV {A:List R1} (hs:A.Pairwise (fun a b=>a.1<b.1)) {k:Nat} (hk:k<A.length):without A A[k].1=A.eraseIdx k:=by
 unfold without
 induction A generalizing k with
 | nil=>cases hk
 | cons a A ih =>
  rw[List.pairwise_cons] at hs;cases k with
  | zero =>
   rw[List.filter_cons_of_neg (by simp)];show List.filter _ A=A;rw[List.filter_eq_self];intro c hc
   have:=hs.1 c hc
   simp;omega
  | succ k =>
   have hk':k<A.length:=by simpa using hk
   have:=hs.1 A[k] (List.getElem_mem hk')
   rw[List.filter_cons_of_pos (by simp;omega)];show a::List.filter _ A=a::A.eraseIdx k
   congr 1
   exact ih hs.2 hk'
theorem rE {A:List R1} {vs:List Value} (h:vs.length=A.length) {k:Nat} (hk:k<A.length):cellsR (A.eraseIdx k) (vs.eraseIdx k)=(cellsR A vs).take (k*2)++(cellsR A vs).drop ((k+1)*2):=by
 unfold cellsR
 induction A generalizing vs k with
 | nil=>cases hk
 | cons a A ih =>
  cases vs with
  | nil=>cases h
  | cons v vs =>
   cases k with
   | zero=>simp
   | succ k =>
    have hk':k<A.length:=(by simpa using hk);have h':vs.length=A.length:=(by simpa using h);simp only[List.eraseIdx_cons_succ,List.zip_cons_cons,List.flatMap_cons];rw[ih h' hk',show (k+1)*2=k*2+1+1 by omega,show (k+1+1)*2=(k+1)*2+1+1 by omega];simp[show (k+1)*2=k*2+1+1 by omega]
theorem HRow.apart {w:World} {base base':Nat} {e e':TypeId} {s s':Nat} {v v':Value} {n n':Nat} {xs xs':List Value} (h:HRow w base e s v n xs) (h':HRow w base' e' s' v' n' xs') (hne:e≠e') {q:Nat} (hq:v.ownBlock=some q):v'.ownBlock≠some q:=fun hq'=>by
 obtain⟨_,c1,h1⟩:=h.block q hq;obtain⟨_,c2,h2⟩:=h'.block q hq';rw[h1] at h2;simp at h2;exact hne h2.2
theorem eF {vs:List Value} {v:Value} {k:Nat} (hk:k<(vs++[v]).length):(∃ hk':k<vs.length,(vs++[v])[k]=vs[k])∨(k=vs.length/\(vs++[v])[k]=v):=by
 by_cases e:k<vs.length
 ·exact .inl ⟨e,List.getElem_append_left e⟩
 have e2:k=vs.length:=(by simp at hk;omega);subst e2;exact .inr ⟨rfl,by simp⟩
structure RT where
 rv:Value
 nx:Nat
 A:List R1
 vs:List Value
structure RTok (W:World) (t:T) (x:RT) (O:Nat->Nat) (j:Nat):Prop where
 rows:HRow W 0 99 2 x.rv x.A.length (cellsR x.A x.vs)
 n:x.vs.length=x.A.length
 vals:∀ k (h:k<x.A.length) (h':k<x.vs.length),HRow W 0 32 3 x.vs[k] x.A[k].2.length (cells3 x.A[k].2)
 sep:∀ k l (hk:k<x.vs.length) (hl:l<x.vs.length),k≠l->∀ q,x.vs[k].ownBlock=some q->x.vs[l].ownBlock≠some q
 len:∀ a∈x.A,a.2.length=t.cols.length
 srt:x.A.Pairwise (fun a b=>a.1<b.1)
 rng:∀ a∈x.A,a.1<(x.nx:Int)
 orv:∀ q,x.rv.ownBlock=some q->O q=5+2*j
 ovs:∀ k (h:k<x.vs.length) q,x.vs[k].ownBlock=some q->O q=6+2*j
theorem RTok.tn {S:Nat->Prop} {W W':World} {t:T} {x:RT} {O O':Nat->Nat} {j:Nat} (h:RTok W t x O j) (hk:Tn S W W') (hs:∀ q,S q->O q≠5+2*j/\O q≠6+2*j) (hO:∀ q,q<W.heap.size->O' q=O q):RTok W' t x O' j :=
 ⟨h.rows.of (fun q hq=>hk.chg.block q (HRow.lt h.rows q hq).2 (fun hS=>(hs q hS).1 (h.orv q hq))),h.n,fun k a b=>(h.vals k a b).of (fun q hq=>hk.chg.block q (HRow.lt (h.vals k a b) q hq).2 (fun hS=>(hs q hS).2 (h.ovs k b q hq))),h.sep,h.len,h.srt,h.rng,
  fun q hq=>(hO q (HRow.lt h.rows q hq).2).trans (h.orv q hq),fun k a q hq=>(hO q (HRow.lt (h.vals k (by rw[<- h.n];exact a) a) q hq).2).trans (h.ovs k a q hq)⟩
structure NI where
 sv:Value
 ov:Value
 nv:Value
 fs:List (Value×Value)
def cellsF (fs:List (Value×Value)) (ts:List T):List Value:=(fs.zip ts).flatMap fun p=>[.string p.2.nm,p.1.1,.string p.2.key,p.1.2]
theorem pK {fs:List (Value×Value)} {ts:List T} (h:fs.length=ts.length) {k:Nat} (hk:k<ts.length):(cellsF fs ts)[k*4]?=some (.string ts[k].nm)/\(cellsF fs ts)[k*4+1]?=some (fs[k]'(by omega)).1/\(cellsF fs ts)[k*4+2]?=some (.string ts[k].key)/\(cellsF fs ts)[k*4+3]?=some (fs[k]'(by omega)).2:=by
 unfold cellsF
 induction fs generalizing ts k with
 | nil=>simp at h;omega
 | cons f fs ih =>
  cases ts with
  | nil=>cases hk
  | cons t ts =>
   cases k with
   | zero=>exact⟨rfl,rfl,rfl,rfl⟩
   | succ k =>
    have h2:=ih (ts:=ts) (by simpa using h) (k:=k) (by simpa using hk);simp only[List.zip_cons_cons,List.flatMap_cons,List.getElem_cons_succ]
    have e:∀ r,([Value.string t.nm,f.1,.string t.key,f.2]++List.flatMap (fun p:(Value×Value)×T=>[Value.string p.2.nm,p.1.1,.string p.2.key,p.1.2]) (fs.zip ts))[(k+1)*4+r]?=(List.flatMap (fun p:(Value×Value)×T=>[Value.string p.2.nm,p.1.1,.string p.2.key,p.1.2]) (fs.zip ts))[k*4+r]?:=fun r=>by
     rw[List.getElem?_append_right (by simp;omega)]
     congr 1
     simp;omega
    exact⟨(e 0).trans h2.1,(e 1).trans h2.2.1,(e 2).trans h2.2.2.1,(e 3).trans h2.2.2.2⟩
structure DbN (W:World) (b:Nat) (ts:List T) (tt:List RT) (i:NI) (O:Nat->Nat):Prop where
 box:W.heap[b]?=some (.cells #[i.sv,i.ov,i.nv] 71)
 n:tt.length=ts.length
 fn:i.fs.length=ts.length
 form:HRow W 0 77 4 i.sv ts.length (cellsF i.fs ts)
 rd:∀ j (h:j<ts.length) (h':j<i.fs.length),RdT W i.fs[j].1 i.fs[j].2 ts[j]
 outer:HRow W 0 92 1 i.ov ts.length (tt.map (·.rv))
 nxs:HRow W 0 3 1 i.nv ts.length (tt.map fun x=>.int .i64 (x.nx:Int))
 tab:∀ j (h:j<ts.length) (h':j<tt.length),RTok W ts[j] tt[j] O j
 o1:O b=1
 o2:∀ q,i.sv.ownBlock=some q->O q=2
 o3:∀ q,i.ov.ownBlock=some q->O q=3
 o4:∀ q,i.nv.ownBlock=some q->O q=4
 lt:∀ q,O q≠0->q<W.heap.size
section
variable {W W':World} {b:Nat} {ts:List T} {tt:List RT} {i:NI} {O O':Nat->Nat} {S:Nat->Prop}
theorem DbN.tn (h:DbN W b ts tt i O) (hk:Tn S W W') (hs:∀ q,S q->O q=0):DbN W' b ts tt i O:=by
 have hb:∀ q,O q≠0->W'.heap[q]?=W.heap[q]?:=fun q hq=>hk.chg.block q (h.lt q hq) (fun hS=>hq (hs q hS))
 exact⟨(hb b (by rw[h.o1];decide)).trans h.box,h.n,h.fn,h.form.of (fun q hq=>hb q (by rw[h.o2 q hq];decide)),fun j a c=>(h.rd j a c).kp hk.kpX,h.outer.of (fun q hq=>hb q (by rw[h.o3 q hq];decide)),h.nxs.of (fun q hq=>hb q (by rw[h.o4 q hq];decide)),
  fun j a c=>(h.tab j a c).tn hk (fun q hq=>by rw[hs q hq];omega) (fun _ _=>rfl),h.o1,h.o2,h.o3,h.o4,fun q hq=>Nat.lt_of_lt_of_le (h.lt q hq) hk.size⟩
theorem DbN.later (h:DbN W b ts tt i O) (hb:Below W.heap.size W W'):DbN W' b ts tt i O:=h.tn (S:=fun _=>False) (Tn.of_below hb) (fun _ h=>h.elim)
theorem DbN.settab (h:DbN W b ts tt i O) {t:Nat} (ht:t<ts.length) (hk:Tn S W W') (hs:∀ q,S q->O q=0∨O q=3∨O q=5+2*t∨O q=6+2*t) {x:RT} (hO:∀ q,q<W.heap.size->O' q=O q) (hlt:∀ q,O' q≠0->q<W'.heap.size)
  (hx:RTok W' ts[t] x O' t) (hnx:∀ y,tt[t]?=some y->x.nx=y.nx) (ho:HRow W' 0 92 1 i.ov ts.length ((tt.set t x).map (·.rv))):DbN W' b ts (tt.set t x) i O':=by
 have hb:∀ q m,O q=m->m≠0->m≠3->m≠5+2*t->m≠6+2*t->W'.heap[q]?=W.heap[q]?:=(fun q m hq h0 h3 h5 h6=>hk.chg.block q (h.lt q (by omega)) (fun hS=>by have:=hs q hS;omega));have hbl:=aC h.box;have hn:=h.n;refine⟨(hb b 1 h.o1 (by decide) (by decide) (by omega) (by omega)).trans h.box,by rw[List.length_set];exact h.n,h.fn,h.form.of (fun q hq=>hb q 2 (h.o2 q hq) (by decide) (by decide) (by omega) (by omega)),fun j a c=>(h.rd j a c).kp hk.kpX,ho,?_,fun j a c=>?_,(hO b hbl).trans h.o1,fun q hq=>(hO q (HRow.lt h.form q hq).2).trans (h.o2 q hq),fun q hq=>(hO q (HRow.lt h.outer q hq).2).trans (h.o3 q hq),fun q hq=>(hO q (HRow.lt h.nxs q hq).2).trans (h.o4 q hq),hlt⟩
 ·have e:(tt.set t x).map (fun x=>Value.int .i64 (x.nx:Int))=tt.map (fun x=>Value.int .i64 (x.nx:Int)):=by
   refine List.ext_getElem? (fun k=>?_);rw[List.getElem?_map,List.getElem?_map,List.getElem?_set];by_cases e:t=k
   ·subst e;have htl:t<tt.length:=(by omega);rw[if_pos rfl,if_pos htl];rw[List.getElem?_eq_getElem htl];simp only[Option.map_some];rw[hnx _ (List.getElem?_eq_getElem htl)]
   rw[if_neg e]
  rw[e];exact h.nxs.of (fun q hq=>hb q 4 (h.o4 q hq) (by decide) (by decide) (by omega) (by omega))
 have hjl:j<tt.length:=(by omega);by_cases e:t=j
 ·subst e;simp only[List.getElem_set_self];exact hx
 simp only[List.getElem_set_ne e];exact (h.tab j a hjl).tn hk (fun q hq=>by have:=hs q hq;omega) hO
theorem DbN.setnx (h:DbN W b ts tt i O) {t:Nat} (ht:t<ts.length) (hk:Tn S W W') (hs:∀ q,S q->O q=0∨O q=4) {x:RT} (hx:∀ y,tt[t]?=some y->x.rv=y.rv/\x.A=y.A/\x.vs=y.vs/\y.nx<=x.nx) (ho:HRow W' 0 3 1 i.nv ts.length ((tt.set t x).map fun x=>.int .i64 (x.nx:Int))):DbN W' b ts (tt.set t x) i O:=by
 have hb:∀ q m,O q=m->m≠0->m≠4->W'.heap[q]?=W.heap[q]?:=(fun q m hq h0 h4=>hk.chg.block q (h.lt q (by omega)) (fun hS=>by have:=hs q hS;omega));have hn:=h.n;have htl:t<tt.length:=(by omega);refine⟨(hb b 1 h.o1 (by decide) (by decide)).trans h.box,by rw[List.length_set];exact h.n,h.fn,h.form.of (fun q hq=>hb q 2 (h.o2 q hq) (by decide) (by decide)),fun j a c=>(h.rd j a c).kp hk.kpX,?_,ho,fun j a c=>?_,h.o1,h.o2,h.o3,h.o4,fun q hq=>Nat.lt_of_lt_of_le (h.lt q hq) hk.size⟩
 ·have e:(tt.set t x).map (fun x=>x.rv)=tt.map (fun x=>x.rv):=by
   refine List.ext_getElem? (fun k=>?_);rw[List.getElem?_map,List.getElem?_map,List.getElem?_set];by_cases e:t=k
   ·subst e;rw[if_pos rfl,if_pos htl,List.getElem?_eq_getElem htl];simp only[Option.map_some];rw[(hx _ (List.getElem?_eq_getElem htl)).1]
   rw[if_neg e]
  rw[e];exact h.outer.of (fun q hq=>hb q 3 (h.o3 q hq) (by decide) (by decide))
 have hjl:j<tt.length:=(by omega);have k:=(h.tab j a hjl).tn (O':=O) hk (fun q hq=>by have:=hs q hq;omega) (fun _ _=>rfl);by_cases e:t=j
 ·subst e;simp only[List.getElem_set_self];obtain⟨e1,e2,e3,e4⟩:=hx _ (List.getElem?_eq_getElem hjl);obtain⟨rv,nx,A,vs⟩:=x;simp only at e1 e2 e3 e4;subst e1 e2 e3;exact⟨k.rows,k.n,k.vals,k.sep,k.len,k.srt,fun a ha=>by have:=k.rng a ha;show a.1<(nx:Int);omega,k.orv,k.ovs⟩
 simp only[List.getElem_set_ne e];exact k
end
section
variable {W w:World} {b:Nat} {ts:List T} {tt:List RT} {i:NI} {O:Nat->Nat} {t:Nat} {y:RT}
theorem DbN.at (h:DbN W b ts tt i O) (ht:t<ts.length):∃ y,tt[t]?=some y/\RTok W ts[t] y O t:=by
 have htl:t<tt.length:=(by rw[h.n];exact ht);exact⟨tt[t],List.getElem?_eq_getElem htl,h.tab t ht htl⟩
theorem DbN.ok (h:DbN W b ts tt i O) (ht:t<ts.length) (hy:tt[t]?=some y):RTok W ts[t] y O t:=by
 obtain⟨z,hz,hk⟩:=h.at ht;rw[hy] at hz;cases hz;exact hk
theorem nA {α:Type} (f:RT->α) (x:RT):(tt.set t x).map f=(tt.map f).set t (f x):=by rw[List.map_set]
theorem DbN.setnext (h:DbN W b ts tt i O) (ht:t<ts.length) (hy:tt[t]?=some y) {g c:Nat} (hg:i.nv=.slice (some ⟨g,0,none⟩) ts.length c):DbN (W.setCell ⟨g,t,none⟩ (.int .i64 ((y.nx:Int)+1))) b ts (tt.set t { y with nx:=y.nx+1 }) i O/\Tn (fun q=>O q≠0) W (W.setCell ⟨g,t,none⟩ (.int .i64 ((y.nx:Int)+1))):=by
 have hr:=h.nxs;rw[hg] at hr;obtain⟨h1,h2⟩:=hr.stored t (.int .i64 ((y.nx:Int)+1));have hl:O g=4:=h.o4 g (by rw[hg];rfl)
 have hty:Ty W g:=by
  obtain⟨_,cur,hb⟩:=hr.block g rfl;exact⟨cur,3,hb,rfl⟩
 generalize W.setCell ⟨g,t,none⟩ (.int .i64 ((y.nx:Int)+1))=w at h1 h2 ⊢;have hchg:Chg (fun q=>q=g) W w:=⟨h2.os,h2.tape,h2.output,h2.size,fun q hq hn=>h2.block q hq (fun e=>hn (by cases e;rfl))⟩;have htn:Tn (fun q=>q=g) W w:=Tn.of_chg hchg (fun q _ hq=>.inl (hq▸hty));refine⟨h.setnx ht htn (fun q hq=>.inr (by rw[hq,hl])) (fun z hz=>by rw[hy] at hz;cases hz;exact⟨rfl,rfl,rfl,Nat.le_succ _⟩) ?_,htn.mono (fun q _ hq=>by show O q≠0;rw[hq,hl];decide)⟩;rw[nA,hg];exact h1
theorem DbN.addrow (h:DbN W b ts tt i O) (ht:t<ts.length) (hy:tt[t]?=some y) {go co:Nat} (ho:i.ov=.slice (some ⟨go,0,none⟩) ts.length co) {id:Int} {vals:List T3} {v:Value} (hv:HRow w 0 32 3 v vals.length (cells3 vals)) (hlen:vals.length=ts[t].cols.length)
  {g cap:Nat} (hr:HRow w 0 99 2 (.slice (some ⟨g,0,none⟩) (y.A.length+1) cap) (y.A.length+1) (cellsR y.A y.vs++[.int .i64 id,v])) (hgr:W.grownBy w y.rv.ownBlock) (hg:y.rv.ownBlock=some g∨W.heap.size<=g)
  (hvb:∀ q,v.ownBlock=some q->W.heap.size<=q/\q≠g) (hid:∀ a∈y.A,a.1<id) (hnx:id<(y.nx:Int)) :
  ∃ O',DbN (w.setCell ⟨go,t,none⟩ (.slice (some ⟨g,0,none⟩) (y.A.length+1) cap)) b ts (tt.set t ⟨.slice (some ⟨g,0,none⟩) (y.A.length+1) cap,y.nx,y.A++[(id,vals)],y.vs++[v]⟩) i O'/\Ext W O O'/\Tn (fun q=>O q≠0) W (w.setCell ⟨go,t,none⟩ (.slice (some ⟨g,0,none⟩) (y.A.length+1) cap)):=by
 have hk:=h.ok ht hy;have hlo:O go=3:=h.o3 go (by rw[ho];rfl);have hgo:go<W.heap.size:=h.lt go (by rw[hlo];decide);have hrl:∀ q,y.rv.ownBlock=some q->O q=5+2*t:=hk.orv;have hgo3:y.rv.ownBlock≠some go:=fun e=>by have:=hrl go e;omega
 have hgg:go≠g:=fun e=>by
  rcases hg with h1|h1
  ·exact hgo3 (e▸h1)
  omega
 have hout:HRow w 0 92 1 (.slice (some ⟨go,0,none⟩) ts.length co) ts.length (tt.map (·.rv)):=by
  have:=h.outer
  rw[ho] at this;exact this.of (fun q hq=>by cases hq;exact hgr.block go hgo (fun e=>hgo3 e.symm))
 obtain⟨s1,s2⟩:=hout.stored t (.slice (some ⟨g,0,none⟩) (y.A.length+1) cap);generalize w.setCell ⟨go,t,none⟩ (.slice (some ⟨g,0,none⟩) (y.A.length+1) cap)=w2 at s1 s2 ⊢;have hz:W.heap.size<=w2.heap.size:=Nat.le_trans hgr.size s2.size;have hother:∀ q,q<w.heap.size->q≠go->w2.heap[q]?=w.heap[q]?:=fun q hq hn=>s2.block q hq (fun e=>hn (by cases e;rfl))
 have hchg:Chg (fun q=>q=go∨y.rv.ownBlock=some q) W w2:=⟨s2.os.trans hgr.os,s2.tape.trans hgr.tape,s2.output.trans hgr.output,hz,fun q hq hn=>by
  rw[hother q (Nat.lt_of_lt_of_le hq hgr.size) (fun e=>hn (.inl e)),hgr.block q hq (fun e=>hn (.inr e.symm))]⟩
 have htn:Tn (fun q=>q=go∨y.rv.ownBlock=some q) W w2:=Tn.of_chg hchg (fun q _ hq=>.inl (by
  rcases hq with rfl|hq
  ·obtain⟨_,cur,hb⟩:=h.outer.block q (by rw[ho];rfl);exact⟨cur,92,hb,rfl⟩
  obtain⟨_,cur,hb⟩:=hk.rows.block q hq;exact⟨cur,99,hb,rfl⟩))
 have hgw:=(HRow.lt hr g rfl).2;have hvl:∀ k (hk':k<y.vs.length) q,y.vs[k].ownBlock=some q->q<W.heap.size:=fun k hk' q hq=>h.lt q (by rw[hk.ovs k hk' q hq];omega)
 have hkeep:∀ q,O q=6+2*t->w2.heap[q]?=W.heap[q]?:=fun q hq=>hchg.block q (h.lt q (by omega)) (fun hS=>by
  rcases hS with rfl|hS
  ·omega
  have:=hrl q hS;omega)
 have hE:∀ q,q<W.heap.size->(if q<W.heap.size then O q else if q=g then 5+2*t else if v.ownBlock=some q then 6+2*t else 0)=O q:=(fun q hq=>if_pos hq);refine⟨fun q=>if q<W.heap.size then O q else if q=g then 5+2*t else if v.ownBlock=some q then 6+2*t else 0,h.settab ht htn (fun q hq=>?_) hE (fun q hq=>?_) ⟨?_,by simp[hk.n],fun k hkk hk'=>?_,fun j k hj hkk hne q hq=>?_,fun a ha=>?_,?_,fun a ha=>?_,fun q hq=>?_,fun k hkk q hq=>?_⟩ (fun z hz=>by rw[hy] at hz;cases hz;rfl) ?_,hE,htn.mono (fun q _ hq=>?_)⟩
 ·rcases hq with rfl|hq
  ·exact .inr (.inl hlo)
  exact .inr (.inr (.inl (hrl q hq)))
 ·have hq:(if q<W.heap.size then O q else if q=g then 5+2*t else if v.ownBlock=some q then 6+2*t else 0)≠0:=hq;by_cases e1:q<W.heap.size
  ·omega
  rw[if_neg e1] at hq;by_cases e2:q=g
  ·rw[e2];exact Nat.lt_of_lt_of_le hgw s2.size
  rw[if_neg e2] at hq;by_cases e3:v.ownBlock=some q
  ·exact Nat.lt_of_lt_of_le (HRow.lt hv q e3).2 s2.size
  rw[if_neg e3] at hq;exact absurd rfl hq
 ·show HRow w2 0 99 2 (.slice (some ⟨g,0,none⟩) (y.A.length+1) cap) (y.A++[(id,vals)]).length (cellsR (y.A++[(id,vals)]) (y.vs++[v]));rw[lD hk.n,List.length_append];exact hr.of (fun q hq=>by cases hq;exact hother g hgw (fun e=>hgg e.symm))
 ·rcases eF hk' with ⟨e1,e2⟩ | ⟨e1,e2⟩
  ·have hkA:k<y.A.length:=(by rw[<- hk.n];exact e1);show HRow w2 0 32 3 ((y.vs++[v])[k]) _ _;rw[e2,List.getElem_append_left hkA];exact (hk.vals k hkA e1).of (fun q hq=>hkeep q (hk.ovs k e1 q hq))
  show HRow w2 0 32 3 ((y.vs++[v])[k]) _ _;rw[e2];have hkA:k=y.A.length:=e1.trans hk.n;subst hkA;have e3:(y.A++[(id,vals)])[y.A.length]'hkk=(id,vals):=(by simp);rw[e3];exact hv.of (fun q hq=>hother q (HRow.lt hv q hq).2 (fun e=>by have:=(hvb q hq).1;omega))
 ·have hq:(y.vs++[v])[j].ownBlock=some q:=hq;show (y.vs++[v])[k].ownBlock≠some q;rcases eF hj with ⟨a1,a2⟩ | ⟨a1,a2⟩ <;> rcases eF hkk with ⟨b1,b2⟩ | ⟨b1,b2⟩
  ·rw[a2] at hq;rw[b2]
   exact hk.sep j k a1 b1 hne q hq
  ·rw[a2] at hq;rw[b2]
   intro e
   have:=hvl j a1 q hq
   have:=(hvb q e).1
   omega
  ·rw[a2] at hq;rw[b2]
   intro e
   have:=hvl k b1 q e
   have:=(hvb q hq).1
   omega
  omega
 ·rcases List.mem_append.1 ha with ha|ha
  ·exact hk.len a ha
  rw[List.mem_singleton.1 ha];exact hlen
 ·show (y.A++[(id,vals)]).Pairwise _;rw[List.pairwise_append];exact⟨hk.srt,List.pairwise_singleton _ _,fun a ha c hc=>by rw[List.mem_singleton.1 hc];exact hid a ha⟩
 ·rcases List.mem_append.1 ha with ha|ha
  ·exact hk.rng a ha
  rw[List.mem_singleton.1 ha];exact hnx
 ·cases hq;show (if g<W.heap.size then O g else if g=g then 5+2*t else _)=5+2*t;rcases hg with h1|h1
  ·rw[if_pos (h.lt g (by rw[hrl g h1];omega))];exact hrl g h1
  rw[if_neg (by omega),if_pos rfl]
 ·have hq:(y.vs++[v])[k].ownBlock=some q:=hq;show (if q<W.heap.size then O q else if q=g then 5+2*t else if v.ownBlock=some q then 6+2*t else 0)=6+2*t;rcases eF hkk with ⟨a1,a2⟩ | ⟨a1,a2⟩
  ·rw[a2] at hq;rw[if_pos (hvl k a1 q hq)];exact hk.ovs k a1 q hq
  rw[a2] at hq;obtain⟨c1,c2⟩:=hvb q hq;rw[if_neg (by omega),if_neg c2,if_pos hq]
 ·rw[nA,ho];exact s1
 show O q≠0;rcases hq with rfl|hq
 ·rw[hlo];decide
 rw[hrl q hq];omega
end
def atP (A:List R1) (x:Int):Int:=match A.findIdx? (fun a=>decide (a.1=x)) with
 | none=>-1
 | some k=>(k:Int)
theorem nB {A:List R1} {x:Int} (h:∀ j (hj:j<A.length),A[j].1≠x):atP A x=-1:=by
 have e:A.findIdx? (fun a=>decide (a.1=x))=none:=by
  rw[List.findIdx?_eq_none_iff];intro a ha;obtain⟨j,hj,rfl⟩:=List.getElem_of_mem ha;simp[h j hj]
 unfold atP;rw[e]
theorem nC {A:List R1} {x:Int} {k:Nat} (hk:k<A.length) (h1:A[k].1=x) (h:∀ j (hj:j<A.length),j<k->A[j].1≠x):atP A x=(k:Int):=by
 have e:A.findIdx? (fun a=>decide (a.1=x))=some k:=by
  rw[List.findIdx?_eq_some_iff_getElem];refine⟨hk,by simp[h1],fun j hj=>?_⟩;simp[h j (by omega) hj]
 unfold atP;rw[e]
structure NRn where
 gs:Nat
 cs:Nat
 go:Nat
 co:Nat
 gn:Nat
 cn:Nat
 pc:Option Addr
 kc:Nat
 pd:Option Addr
 kd:Nat
structure NR (w:World) (b:Nat) (m t:Nat) (T0:T) (y:RT) (x:NRn):Prop where
 b0:w.cell? ⟨b,0,none⟩=some (.slice (some ⟨x.gs,0,none⟩) m x.cs)
 b1:w.cell? ⟨b,1,none⟩=some (.slice (some ⟨x.go,0,none⟩) m x.co)
 b2:w.cell? ⟨b,2,none⟩=some (.slice (some ⟨x.gn,0,none⟩) m x.cn)
 s0:w.cell? ⟨x.gs,t*4,none⟩=some (.string T0.nm)
 s1:w.cell? ⟨x.gs,t*4+1,none⟩=some (.slice x.pc T0.cols.length x.kc)
 s2:w.cell? ⟨x.gs,t*4+2,none⟩=some (.string T0.key)
 s3:w.cell? ⟨x.gs,t*4+3,none⟩=some (.slice x.pd T0.deps.length x.kd)
 o0:w.cell? ⟨x.go,t,none⟩=some y.rv
 n0:w.cell? ⟨x.gn,t,none⟩=some (.int .i64 (y.nx:Int))
 bl:b<w.heap.size
 sl:x.gs<w.heap.size
 ol:x.go<w.heap.size
 nl:x.gn<w.heap.size
 nf:w.frozen? ⟨x.gn,t,none⟩=false
 oF:w.frozen? ⟨x.go,t,none⟩=false
 rd:RdC w (.slice x.pc T0.cols.length x.kc) T0.cols
 rt:RdT w (.slice x.pc T0.cols.length x.kc) (.slice x.pd T0.deps.length x.kd) T0
section
variable {W:World} {b:Nat} {ts:List T} {tt:List RT} {i:NI} {O:Nat->Nat} {t:Nat} {y:RT}
theorem DbN.reads (h:DbN W b ts tt i O) (ht:t<ts.length) (hy:tt[t]?=some y):∃ x,i.sv=.slice (some ⟨x.gs,0,none⟩) ts.length x.cs/\i.ov=.slice (some ⟨x.go,0,none⟩) ts.length x.co/\i.nv=.slice (some ⟨x.gn,0,none⟩) ts.length x.cn/\O x.go=3/\O x.gn=4/\O x.gs=2/\∀ w,Below W.heap.size W w->NR w b ts.length t ts[t] y x:=by
 have h0:0<ts.length:=(by omega);obtain⟨gs,cs,e1,_,_⟩:=h.form.slice h0;obtain⟨go,co,e2,_,_⟩:=h.outer.slice h0;obtain⟨gn,cn,e3,_,_⟩:=h.nxs.slice h0;have htf:t<i.fs.length:=(by rw[h.fn];exact ht);obtain⟨pc,kc,e4,_,_⟩:=(h.rd t ht htf).1.slice;obtain⟨pd,kd,e5,_,_⟩:=(h.rd t ht htf).2.slice;refine⟨⟨gs,cs,go,co,gn,cn,pc,kc,pd,kd⟩,e1,e2,e3,h.o3 go (by rw[e2];rfl),h.o4 gn (by rw[e3];rfl),h.o2 gs (by rw[e1];rfl),fun w hb=>?_⟩;have k:=h.later hb;have f:=k.form;have o:=k.outer;have n:=k.nxs;rw[e1] at f;rw[e2] at o;rw[e3] at n;obtain⟨c0,c1,c2,c3⟩:=pK h.fn ht;rw[e4] at c1;rw[e5] at c3;have hr:=k.rd t ht htf;rw[e4,e5] at hr;have k0:w.cell? ⟨b,0,none⟩=some i.sv:=aA k.box 0;have k1:w.cell? ⟨b,1,none⟩=some i.ov:=aA k.box 1;have k2:w.cell? ⟨b,2,none⟩=some i.nv:=aA k.box 2;rw[e1] at k0;rw[e2] at k1;rw[e3] at k2;exact⟨k0,k1,k2,f.cell c0,f.cell c1,f.cell c2,f.cell c3,o.cell (by rw[List.getElem?_map,hy];rfl),n.cell (by rw[List.getElem?_map,hy];rfl),aC k.box,(HRow.lt f gs rfl).2,(HRow.lt o go rfl).2,(HRow.lt n gn rfl).2,n.frozenAt t,o.frozenAt t,hr.1,hr⟩
theorem rF (h:DbN W b ts tt i O) (ht:t<ts.length) (hy:tt[t]?=some y) (hl:y.A.length<=100000) (x:Int):Calls Tryz.prog 75 #[.pointer (some ⟨b,0,none⟩),.int .i64 (t:Int),.int .i64 x] W fun e w'=>e=.returned (.int .i64 (atP y.A x))/\w'=W:=by
 obtain⟨⟨gs,cs,go,co,gn,cn,pc,kc,pd,kd⟩,_,_,_,_,_,_,hR⟩:=h.reads ht hy;have hR:=hR W (Below.refl _ _);have hk:=h.ok ht hy;obtain⟨pr,c2,hrv,_,_⟩:=hk.rows.isslice;obtain⟨n,hn⟩:∃ n,y.A.length=n:=⟨_,rfl⟩;obtain⟨m,hmm⟩:∃ m,ts.length=m:=⟨_,rfl⟩;have hn':(n:Int)<=100000:=(by omega);have hti:(t:Int)<(m:Int):=(by omega);have x1:W.cell? ⟨b,1,none⟩=some (.slice (some ⟨go,0,none⟩) m co):=(by rw[<- hmm];exact hR.b1);have xl:=hR.bl;have o0:W.cell? ⟨go,t,none⟩=some (.slice pr n c2):=by rw[<- hn,<- hrv];exact hR.o0
 have HR:Hid (∀ k (hk':k<y.A.length),∃ gr,pr=some ⟨gr,0,none⟩/\W.cell? ⟨gr,k*2,none⟩=some (.int .i64 y.A[k].1)):=qAq (fun k hk'=>by
  have hr:=hk.rows;obtain⟨gr,cr,e,_,_⟩:=hr.slice (by omega);rw[hrv] at e;cases e;rw[hrv] at hr;exact⟨gr,rfl,hr.cell (dI hk.n hk').1⟩)
 have HN:=qAq hn;clear h hrv hn hR hk hl hmm;go_enter Tryz.func75,Tryz.ntmps75;go_wp2_with fail;go_loopg [7] (n+1) (fun gh jv w=>∃ (j:Nat),jv=.int .i64 (j:Int)/\j<=n/\n+1<=j+gh/\(∀ k (hk:k<y.A.length),k<j->y.A[k].1≠x)/\w=W)
 case atStart=>exact⟨0,rfl,Nat.zero_le _,by omega,fun k _ h=>absurd h (Nat.not_lt_zero k),rfl⟩
 obtain⟨j,rfl,hj,hg,hx,rfl⟩:=hrel;by_cases hlt:j<n
 ·have hjl:j<y.A.length:=(by rw[HN.out];exact hlt);have hji:(j:Int)<(n:Int):=(by omega);obtain⟨gr,rfl,r0⟩:=HR.out j hjl;obtain⟨z,hz⟩:∃ z,y.A[j].1=z:=⟨_,rfl⟩;rw[hz] at r0;have HX:=qAq hx;have HY:=qAq hz;clear hx hz;by_cases e:z=x
  ·subst e;go_wp2_with fail;go_ret;exact⟨by rw[nC hjl HY.out HX.out];rfl,rfl⟩
  have e1:(z==x)=false:=(by simp[e]);go_wp2_with fail;go_roundg (n-j)
  case measure=>omega
  case rel=>exact⟨j+1,rfl,by omega,by omega,fun k hk hkj=>(by
   by_cases ek:k=j
   ·subst ek;rw[HY.out];exact e
   exact HX.out k hk (by omega)),rfl⟩
 obtain rfl:j=n:=(by omega);have HX:=qAq hx;clear hx;go_wp2_with fail;go_ret;exact⟨by rw[nB (fun k hk=>HX.out k hk (by rw[<- HN.out];exact hk))];rfl,rfl⟩
end
