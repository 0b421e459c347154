import Derived.Test.YthlccadnojnkaaaGreatZn23
import Derived.Test.YthlccadnojnkaaaGreatZn24
set_option maxHeartbeats 4000000
set_option maxRecDepth 100000
namespace Go.Proofs.YthlccadnojnkaaaGreat
open Go.Proofs.Tryz
open Go Go.RowKit Go.Proofs Co Co.S
abbrev bx:ByteArray:=⟨#[120]⟩
abbrev by':ByteArray:=⟨#[121]⟩
abbrev bz:ByteArray:=⟨#[122]⟩
abbrev bzone:ByteArray:=⟨#[122,111,110,101]⟩
abbrev bcity:ByteArray:=⟨#[99,105,116,121]⟩
abbrev bshop:ByteArray:=⟨#[115,104,111,112]⟩
abbrev A4:List R1:=[(1,[(1,8,e0),(2,0,by'),(2,0,bz),z3])]
theorem Ie:∀s,s∈[wd by']↔∃a∈A4,∃y,a.2[1]?=some y/\y.1=2/\wd y.2.2=s:=fun s=>⟨fun h=>⟨_,List.mem_singleton.2 rfl,_,rfl,rfl,(List.mem_singleton.1 h).symm⟩,fun⟨a,ha,y,hy,_,he⟩=>by
 obtain rfl:=List.mem_singleton.1 ha;cases hy;rw[<-he];exact List.mem_singleton.2 rfl⟩
theorem FT(nm key:ByteArray)(a b:Value)(w:World):(Instr.field 77 (.agg #[.string nm,a,.string key,b]) 0).run prog w=.ok (.string nm) w:=by kernel_rfl
theorem gF{l:List T3}(h:∀x∈l,x.2.2.size<=12):∀x∈l,x.2.2.size<=maxLen:=fun x a=>zw (h x a) (by unfold maxLen;omega)
theorem La(W:World):Calls prog 135 #[] W fun e d=>e=.returned (.bool true)/\Below W.heap.size W d:=by
 have i:=KX W;go_enter func135,ntmps135
 go_upto_region 11 with (first|(go_at_call 157;(with_reducible refine i.mono ?_);rintro e w1⟨cv,dv,rfl,hT,a0⟩;have L:=Hv hT a0;clear i hT a0)|(go_at_call 63;(with_reducible refine L.mono ?_);rintro e w2⟨tb,rfl,S2⟩;have l:=zU 7 bx w2;have S2:=aa S2;clear L)|(go_at_call 158;(with_reducible refine l.mono ?_);rintro e w3⟨rfl,hr,m⟩;have o:Calls prog 37 #[.pointer (some ⟨tb,0,none⟩),.slice (some ⟨w2.heap.size,0,none⟩) 4 4] w3 fun e d=>e=.returned (.tuple #[.int .i64 0,.int .i64 0])/\St W d tb 1 [(0,te 7 bx)]:=Dc S2.out m hr (by decide) (gF (by decide)) (by decide);clear l hr m)|(go_at_call 37;(with_reducible refine o.mono ?_);rintro e w4⟨rfl,S4⟩;have q:=zU 8 by' w4;have S4:=aa S4;clear o S2)|(go_at_call 158;(with_reducible refine q.mono ?_);rintro e w5⟨rfl,hr,m⟩;have r:Calls prog 37 #[.pointer (some ⟨tb,0,none⟩),.slice (some ⟨w4.heap.size,0,none⟩) 4 4] w5 fun e d=>e=.returned (.tuple #[.int .i64 1,.int .i64 0])/\St W d tb 2 [(0,te 7 bx),(1,te 8 by')]:=Dc S4.out m hr (by decide) (gF (by decide)) (by decide);clear q hr m)|(go_at_call 37;(with_reducible refine r.mono ?_);rintro e w6⟨rfl,S6⟩;have s:=Jr S6 (by decide);clear r S4 S6)|(go_at_call 37;(with_reducible refine s.mono ?_);rintro e w7⟨rfl,S7⟩;have M:Calls prog 39 #[.pointer (some ⟨tb,0,none⟩),.int .i64 0] w7 fun e d=>e=.returned (.bool true)/\St W d tb 2 [(1,te 8 by')]:=KB S7 (a:=(0,te 7 bx)) (by simp) (by decide);clear s S7)|(go_at_call 39;(with_reducible refine M.mono ?_);rintro e w8⟨rfl,S8⟩;have N:Calls prog 41 #[.pointer (some ⟨tb,0,none⟩),.int .i64 1,.string bzone,.agg #[.int .i64 2,.int .i64 0,.string bz]] w8 fun e d=>e=.returned (.int .i64 0)/\St W d tb 2 A4:=JX S8 (a:=(1,te 8 by')) (by simp) (by decide) (j:=2) (by decide) (by decide) 2 0 bz (by decide) (by decide);clear M S8)|(go_at_call 41;(with_reducible refine N.mono ?_);rintro e w9⟨rfl,S9⟩;have t:Calls prog 84 #[.pointer (some ⟨tb,0,none⟩),.int .i64 1] w9 _:=EX S9 (a:=(1,[(1,8,e0),(2,0,by'),(2,0,bz),z3])) (by simp);have S9:=aa S9;clear N)|(go_at_call 84;(with_reducible refine t.mono ?_);rintro e X⟨g,c,rfl,_,O⟩;have v:=S9.out.later O;have P:Calls prog 132 #[.pointer (some ⟨tb,0,none⟩),.int .i64 1,.string bzone] X fun e d=>e=.returned (.tuple #[.agg #[.int .i64 2,.int .i64 0,.string bz],.bool true])/\Below X.heap.size X d:=Im v (a:=(1,[(1,8,e0),(2,0,by'),(2,0,bz),z3])) (by simp) (k:=2) (by decide) (by decide) (u:=(2,0,bz)) rfl;have v:=aa v;clear t O S9)|(go_at_call 132;(with_reducible refine P.mono ?_);rintro e G⟨rfl,Q⟩;have a1:=aa (v.out.later Q);clear P Q v))
 have h:=a1.out.later (aD G (.cells #[.int .i64 2,.int .i64 0,.string bz] 32));have hV:=z7 G (.cells #[.int .i64 2,.int .i64 0,.string bz] 32);obtain⟨b5,R⟩:=ag (G.alloc (.cells #[.int .i64 2,.int .i64 0,.string bz] 32));obtain⟨V,a2⟩:=ag G.heap.size;rw[R]at h hV ⊢;rw[a2]at hV ⊢;clear R a2 a1;have w:=GR h (by decide);have h:=aa h;have hV:=aa hV
 go_wp2_with (first|(go_at_call 93;refine w.mono ?_;rintro e H⟨ob,rfl,I,x⟩;have y:=h.out.later x;have S:=aE x hV.out;have v2:=aA S 2;have a3:Calls prog 30 #[.pointer (some ⟨tb,0,none⟩)] H fun e d=>e=.returned (.int .i64 2)/\d=H:=rC y;have b6:Calls prog 30 #[.pointer (some ⟨ob,0,none⟩)] H fun e d=>e=.returned (.int .i64 2)/\d=H:=rC I;have z:=F7 y;have y:=aa y;have I:=aa I;clear w h x S)|(go_at_call 30;(with_reducible refine a3.mono ?_);rintro e a7⟨rfl,hw⟩;subst a7;clear a3)|(go_at_call 52;refine z.mono ?_;rintro e Y⟨p,n,cc,rfl,A,b⟩;have b:Calls prog 53 #[.agg #[.slice p n cc]] Y fun e w2=>e=.returned (.int .i64 1)/\Below Y.heap.size Y w2:=b;have a8:=aa (y.out.later A);have a9:=aa (I.out.later A);clear z A)|(go_at_call 53;refine b.mono ?_;rintro e Z⟨rfl,B⟩;have a4:=aa (a8.out.later B);have b0:=aa (a9.out.later B);have f:Calls prog 82 #[.pointer (some ⟨tb,0,none⟩),.string bcity] Z fun e d=>e=.returned (.int .i64 1)/\Below Z.heap.size Z d:=Eu a4.out (k:=1) (by decide) (by decide) [wd by'] (by simp) Ie;clear b B)|(go_at_call 82;refine f.mono ?_;rintro e a5⟨rfl,E⟩;have J:=a4.out.later E;have a6:Calls prog 30 #[.pointer (some ⟨ob,0,none⟩)] a5 fun e d=>e=.returned (.int .i64 2)/\d=a5:=rC (b0.out.later E);have F:=Fb J;have J:=aa J;clear f E)|(go_at_call 30;(with_reducible refine a6.mono ?_);rintro e b1⟨rfl,hw⟩;subst b1;clear a6)|(go_at_call 159;refine F.mono ?_;rintro e b2⟨p1,c1,p2,c2,ps,rfl,_,U⟩;have b3:=aa (J.out.later U);have b4:ez.nm=bshop:=rfl;rw[b4];have b7:=FT bshop ez.key (.slice p1 4 c1) (.slice p2 1 c2) b2;clear F U))
 go_ret;exact⟨rfl,b3.out.bel⟩
theorem xF(l:List T3):∀u∈cells3 l,u.oneCell'=true:=by
 intro u b;unfold cells3 at b;rw[List.mem_flatMap]at b;obtain⟨x,_,a⟩:=b;rcases List.mem_cons.1 a with rfl|a
 ·rfl
 rcases List.mem_cons.1 a with rfl|a
 ·rfl
 rw[List.mem_singleton.1 a];rfl
theorem mZ{S:Nat->Prop}{y:World}{v:Value}{l:List T3}(h:eb S y v l)(hl:l.length<=1000)(h0:0<l.length):∃g a d,(Builtin.append_ #[27,27] 27 #[.slice none 0 0,v]).run prog y=.ok (.slice (some ⟨g,0,none⟩) l.length a) d/\ac d y.heap.size 32 3 (.slice (some ⟨g,0,none⟩) l.length a) l.length (cells3 l)/\Below y.heap.size y d:=by
 obtain⟨p,a,rfl,_,_,r⟩:=h;obtain⟨b,i,rfl,s,_,c⟩:=r h0;obtain⟨t,k,m,n,o⟩:=info_parts wL
 obtain⟨g,e,d,x,z,f,r⟩:=aY (P:=prog) y y.heap.size 27 27 32 t _ 3 32 underlying27 k m n o rfl (by decide) (ac.nil (w:=y) (base:=y.heap.size)) ⟨b,i,none⟩ l.length a (cells3 l) (dR l) (fun j u A=>by
  rw[Addr.add_lit];exact c j u A) (xF l) h0 (by unfold maxLen;omega) (by omega) (zm _)
 rw[xq,uh]at *;exact⟨g,e,d,x,z,f.os,f.tape,f.output,f.size,fun q B=>f.block q B (by simp[Value.ownBlock])⟩
abbrev bspoilt:ByteArray:=⟨#[115,112,111,105,108,116]⟩
def az(A:List R1)(vs:List Value):List Value:=(A.zip vs).flatMap fun p=>[.int .i64 p.1.1,p.2]
theorem xG{A:List R1}{vs:List Value}(h:vs.length=A.length):(az A vs).length=A.length*2:=by
 unfold az
 induction A generalizing vs with
 | nil=>simp
 | cons a A ih =>
  cases vs with
  | nil=>cases h
  | cons v vs =>
   simp only[List.zip_cons_cons,vh,y8,xe,vp];rw[ih (by simpa using h)];omega
theorem dI{A:List R1}{vs:List Value}(h:vs.length=A.length){k:Nat}(hk:k<A.length):(az A vs)[k*2]?=some (.int .i64 A[k].1)/\(az A vs)[k*2+1]?=some (vs[k]'(by omega)):=by
 unfold az
 induction A generalizing vs k with
 | nil=>cases hk
 | cons a A ih =>
  cases vs with
  | nil=>cases h
  | cons v vs =>
   cases k with
   | zero=>exact⟨rfl,rfl⟩
   | succ k =>
    have b:=ih (vs:=vs) (by simpa using h) (k:=k) (by simpa using hk);simp only[List.zip_cons_cons,vh];constructor
    ·rw[ye (by simp;omega)];have:(k+1)*2-([.int .i64 a.1,v]:List Value).length=k*2:=(by simp;omega);rw[this];exact b.1
    ·rw[ye (by simp;omega)];have:(k+1)*2+1-([.int .i64 a.1,v]:List Value).length=k*2+1:=(by simp;omega);rw[this];exact b.2
theorem lD{A:List R1}{vs:List Value}(h:vs.length=A.length)(a:R1)(v:Value):az (A++[a]) (vs++[v])=az A vs++[.int .i64 a.1,v]:=by
 unfold az;rw[List.zip_append h.symm,List.flatMap_append]
 simp
theorem oV{A:List R1}(hs:A.Pairwise (fun a b=>a.1<b.1)){k:Nat}(hk:k<A.length):without A A[k].1=A.eraseIdx k:=by
 unfold without
 induction A generalizing k with
 | nil=>cases hk
 | cons a A ih =>
  rw[ww]at hs;cases k with
  | zero =>
   rw[List.filter_cons_of_neg (by simp)];show List.filter _ A=A;rw[List.filter_eq_self];intro c e
   have:=hs.1 c e
   simp;omega
  | succ k =>
   have d:k<A.length:=by simpa using hk
   have:=hs.1 A[k] (z8 d)
   rw[List.filter_cons_of_pos (by simp;omega)];show a::List.filter _ A=a::A.eraseIdx k
   congr 1
   exact ih hs.2 d
theorem rE{A:List R1}{vs:List Value}(h:vs.length=A.length){k:Nat}(hk:k<A.length):az (A.eraseIdx k) (vs.eraseIdx k)=(az A vs).take (k*2)++(az A vs).drop ((k+1)*2):=by
 unfold az
 induction A generalizing vs k with
 | nil=>cases hk
 | cons a A ih =>
  cases vs with
  | nil=>cases h
  | cons v vs =>
   cases k with
   | zero=>simp
   | succ k =>
    have b:k<A.length:=(by simpa using hk);have c:vs.length=A.length:=(by simpa using h);simp only[List.eraseIdx_cons_succ,List.zip_cons_cons,vh];rw[ih c b,show(k+1)*2=k*2+1+1 by omega,show(k+1+1)*2=(k+1)*2+1+1 by omega];simp[show(k+1)*2=k*2+1+1 by omega]
theorem ac.apart{w:World}{base base':Nat}{e e':TypeId}{s s':Nat}{v v':Value}{n n':Nat}{xs xs':List Value}(h:ac w base e s v n xs)(h':ac w base' e' s' v' n' xs')(hne:e≠e'){q:Nat}(hq:v.ownBlock=some q):v'.ownBlock≠some q:=fun a=>by
 obtain⟨_,c1,c⟩:=h.block q hq;obtain⟨_,c2,b⟩:=h'.block q a;rw[c]at b;simp at b;exact hne b.2
theorem eF{vs:List Value}{v:Value}{k:Nat}(hk:k<(vs++[v]).length):(∃a:k<vs.length,(vs++[v])[k]=vs[k])∨(k=vs.length/\(vs++[v])[k]=v):=by
 by_cases e:k<vs.length
 ·exact .inl ⟨e,xc e⟩
 have b:k=vs.length:=(by simp at hk;omega);subst b;exact .inr ⟨rfl,by simp⟩
structure RT where
 rv:Value
 nx:Nat
 A:List R1
 vs:List Value
structure ls (W:World) (t:T) (x:RT) (O:Nat->Nat) (j:Nat):Prop where
 rows:ac W 0 99 2 x.rv x.A.length (az x.A x.vs)
 n:x.vs.length=x.A.length
 vals:∀k (h:k<x.A.length) (h':k<x.vs.length),ac W 0 32 3 x.vs[k] x.A[k].2.length (cells3 x.A[k].2)
 sep:∀k l (hk:k<x.vs.length) (hl:l<x.vs.length),k≠l->∀q,x.vs[k].ownBlock=some q->x.vs[l].ownBlock≠some q
 len:∀a∈x.A,a.2.length=t.cols.length
 srt:x.A.Pairwise (fun a b=>a.1<b.1)
 rng:∀a∈x.A,a.1<(x.nx:Int)
 orv:∀q,x.rv.ownBlock=some q->O q=5+2*j
 ovs:∀k (h:k<x.vs.length) q,x.vs[k].ownBlock=some q->O q=6+2*j
theorem ls.tn{S:Nat->Prop}{W W':World}{t:T}{x:RT}{O O':Nat->Nat}{j:Nat}(h:ls W t x O j)(hk:Tn S W W')(hs:∀q,S q->O q≠5+2*j/\O q≠6+2*j)(hO:∀q,q<W.heap.size->O' q=O q):ls W' t x O' j:=
 ⟨h.rows.of (fun q c=>hk.chg.block q (ac.lt h.rows q c).2 (fun d=>(hs q d).1 (h.orv q c))),h.n,fun k a b=>(h.vals k a b).of (fun q c=>hk.chg.block q (ac.lt (h.vals k a b) q c).2 (fun d=>(hs q d).2 (h.ovs k b q c))),h.sep,h.len,h.srt,h.rng,
  fun q c=>(hO q (ac.lt h.rows q c).2).trans (h.orv q c),fun k a q c=>(hO q (ac.lt (h.vals k (by rw[<-h.n];exact a) a) q c).2).trans (h.ovs k a q c)⟩
structure NI where
 sv:Value
 ov:Value
 nv:Value
 fs:List (Value×Value)
def dx(fs:List (Value×Value))(ts:List T):List Value:=(fs.zip ts).flatMap fun p=>[.string p.2.nm,p.1.1,.string p.2.key,p.1.2]
theorem pK{fs:List (Value×Value)}{ts:List T}(h:fs.length=ts.length){k:Nat}(hk:k<ts.length):(dx fs ts)[k*4]?=some (.string ts[k].nm)/\(dx fs ts)[k*4+1]?=some (fs[k]'(by omega)).1/\(dx fs ts)[k*4+2]?=some (.string ts[k].key)/\(dx fs ts)[k*4+3]?=some (fs[k]'(by omega)).2:=by
 unfold dx
 induction fs generalizing ts k with
 | nil=>simp at h;omega
 | cons f fs ih =>
  cases ts with
  | nil=>cases hk
  | cons t ts =>
   cases k with
   | zero=>exact⟨rfl,rfl,rfl,rfl⟩
   | succ k =>
    have a:=ih (ts:=ts) (by simpa using h) (k:=k) (by simpa using hk);simp only[List.zip_cons_cons,vh,List.getElem_cons_succ]
    have e:∀r,([.string t.nm,f.1,.string t.key,f.2]++List.flatMap (fun p:(Value×Value)×T=>[.string p.2.nm,p.1.1,.string p.2.key,p.1.2]) (fs.zip ts))[(k+1)*4+r]?=(List.flatMap (fun p:(Value×Value)×T=>[.string p.2.nm,p.1.1,.string p.2.key,p.1.2]) (fs.zip ts))[k*4+r]?:=fun r=>by
     rw[ye (by simp;omega)]
     congr 1
     simp;omega
    exact⟨(e 0).trans a.1,(e 1).trans a.2.1,(e 2).trans a.2.2.1,(e 3).trans a.2.2.2⟩
structure ew (W:World) (b:Nat) (ts:List T) (tt:List RT) (i:NI) (O:Nat->Nat):Prop where
 box:W.heap[b]?=some (.cells #[i.sv,i.ov,i.nv] 71)
 n:tt.length=ts.length
 fn:i.fs.length=ts.length
 form:ac W 0 77 4 i.sv ts.length (dx i.fs ts)
 rd:∀j (h:j<ts.length) (h':j<i.fs.length),ey W i.fs[j].1 i.fs[j].2 ts[j]
 outer:ac W 0 92 1 i.ov ts.length (tt.map (·.rv))
 nxs:ac W 0 3 1 i.nv ts.length (tt.map fun x=>.int .i64 (x.nx:Int))
 tab:∀j (h:j<ts.length) (h':j<tt.length),ls W ts[j] tt[j] O j
 o1:O b=1
 o2:∀q,i.sv.ownBlock=some q->O q=2
 o3:∀q,i.ov.ownBlock=some q->O q=3
 o4:∀q,i.nv.ownBlock=some q->O q=4
 lt:∀q,O q≠0->q<W.heap.size
section
variable {W W':World}{b:Nat}{ts:List T}{tt:List RT}{i:NI}{O O':Nat->Nat}{S:Nat->Prop}
theorem ew.tn(h:ew W b ts tt i O)(hk:Tn S W W')(hs:∀q,S q->O q=0):ew W' b ts tt i O:=by
 have e:∀q,O q≠0->W'.heap[q]?=W.heap[q]?:=fun q d=>hk.chg.block q (h.lt q d) (fun f=>d (hs q f))
 exact⟨(e b (by rw[h.o1];decide)).trans h.box,h.n,h.fn,h.form.of (fun q d=>e q (by rw[h.o2 q d];decide)),fun j a c=>(h.rd j a c).kp hk.qu,h.outer.of (fun q d=>e q (by rw[h.o3 q d];decide)),h.nxs.of (fun q d=>e q (by rw[h.o4 q d];decide)),
  fun j a c=>(h.tab j a c).tn hk (fun q d=>by rw[hs q d];omega) (fun _ _=>rfl),h.o1,h.o2,h.o3,h.o4,fun q d=>z9 (h.lt q d) hk.size⟩
theorem ew.later(h:ew W b ts tt i O)(hb:Below W.heap.size W W'):ew W' b ts tt i O:=h.tn (S:=fun _=>False) (Tn.of_below hb) (fun _ h=>h.elim)
theorem ew.settab(h:ew W b ts tt i O){t:Nat}(ht:t<ts.length)(hk:Tn S W W')(hs:∀q,S q->O q=0∨O q=3∨O q=5+2*t∨O q=6+2*t){x:RT}(hO:∀q,q<W.heap.size->O' q=O q)(hlt:∀q,O' q≠0->q<W'.heap.size)(hx:ls W' ts[t] x O' t)(hnx:∀y,tt[t]?=some y->x.nx=y.nx)(ho:ac W' 0 92 1 i.ov ts.length ((tt.set t x).map (·.rv))):ew W' b ts (tt.set t x) i O':=by
 have g:∀q m,O q=m->m≠0->m≠3->m≠5+2*t->m≠6+2*t->W'.heap[q]?=W.heap[q]?:=(fun q m d r s u v=>hk.chg.block q (h.lt q (by omega)) (fun p=>by have:=hs q p;omega));have l:=aC h.box;have w:=h.n;refine⟨(g b 1 h.o1 (by decide) (by decide) (by omega) (by omega)).trans h.box,by rw[u7];exact h.n,h.fn,h.form.of (fun q d=>g q 2 (h.o2 q d) (by decide) (by decide) (by omega) (by omega)),fun j a c=>(h.rd j a c).kp hk.qu,ho,?_,fun j a c=>?_,(hO b l).trans h.o1,fun q d=>(hO q (ac.lt h.form q d).2).trans (h.o2 q d),fun q d=>(hO q (ac.lt h.outer q d).2).trans (h.o3 q d),fun q d=>(hO q (ac.lt h.nxs q d).2).trans (h.o4 q d),hlt⟩
 ·have e:(tt.set t x).map (fun x=>Value.int .i64 (x.nx:Int))=tt.map (fun x=>Value.int .i64 (x.nx:Int)):=by
   refine ug (fun k=>?_);rw[xm,xm,List.getElem?_set];by_cases e:t=k
   ·subst e;have f:t<tt.length:=(by omega);rw[zv rfl,zv f];rw[z6 f];simp only[Option.map_some];rw[hnx _ (z6 f)]
   rw[zq e]
  rw[e];exact h.nxs.of (fun q d=>g q 4 (h.o4 q d) (by decide) (by decide) (by omega) (by omega))
 have o:j<tt.length:=(by omega);by_cases e:t=j
 ·subst e;simp only[List.getElem_set_self];exact hx
 simp only[List.getElem_set_ne e];exact(h.tab j a o).tn hk (fun q d=>by have:=hs q d;omega) hO
theorem ew.setnx(h:ew W b ts tt i O){t:Nat}(ht:t<ts.length)(hk:Tn S W W')(hs:∀q,S q->O q=0∨O q=4){x:RT}(hx:∀y,tt[t]?=some y->x.rv=y.rv/\x.A=y.A/\x.vs=y.vs/\y.nx<=x.nx)(ho:ac W' 0 3 1 i.nv ts.length ((tt.set t x).map fun x=>.int .i64 (x.nx:Int))):ew W' b ts (tt.set t x) i O:=by
 have l:∀q m,O q=m->m≠0->m≠4->W'.heap[q]?=W.heap[q]?:=(fun q m d w z=>hk.chg.block q (h.lt q (by omega)) (fun s=>by have:=hs q s;omega));have B:=h.n;have f:t<tt.length:=(by omega);refine⟨(l b 1 h.o1 (by decide) (by decide)).trans h.box,by rw[u7];exact h.n,h.fn,h.form.of (fun q d=>l q 2 (h.o2 q d) (by decide) (by decide)),fun j a c=>(h.rd j a c).kp hk.qu,?_,ho,fun j a c=>?_,h.o1,h.o2,h.o3,h.o4,fun q d=>z9 (h.lt q d) hk.size⟩
 ·have e:(tt.set t x).map (fun x=>x.rv)=tt.map (fun x=>x.rv):=by
   refine ug (fun k=>?_);rw[xm,xm,List.getElem?_set];by_cases e:t=k
   ·subst e;rw[zv rfl,zv f,z6 f];simp only[Option.map_some];rw[(hx _ (z6 f)).1]
   rw[zq e]
  rw[e];exact h.outer.of (fun q d=>l q 3 (h.o3 q d) (by decide) (by decide))
 have g:j<tt.length:=(by omega);have k:=(h.tab j a g).tn (O':=O) hk (fun q d=>by have:=hs q d;omega) (fun _ _=>rfl);by_cases e:t=j
 ·subst e;simp only[List.getElem_set_self];obtain⟨o,p,r,u⟩:=hx _ (z6 g);obtain⟨rv,nx,A,vs⟩:=x;simp only at o p r u;subst o p r;exact⟨k.rows,k.n,k.vals,k.sep,k.len,k.srt,fun a v=>by have:=k.rng a v;show a.1<(nx:Int);omega,k.orv,k.ovs⟩
 simp only[List.getElem_set_ne e];exact k
end
section
variable {W w:World}{b:Nat}{ts:List T}{tt:List RT}{i:NI}{O:Nat->Nat}{t:Nat}{y:RT}
theorem ew.at(h:ew W b ts tt i O)(ht:t<ts.length):∃y,tt[t]?=some y/\ls W ts[t] y O t:=by
 have a:t<tt.length:=(by rw[h.n];exact ht);exact⟨tt[t],z6 a,h.tab t ht a⟩
theorem ew.ok(h:ew W b ts tt i O)(ht:t<ts.length)(hy:tt[t]?=some y):ls W ts[t] y O t:=by
 obtain⟨z,a,c⟩:=h.at ht;rw[hy]at a;cases a;exact c
theorem nA{α:Type}(f:RT->α)(x:RT):(tt.set t x).map f=(tt.map f).set t (f x):=by rw[List.map_set]
theorem ew.setnext(h:ew W b ts tt i O)(ht:t<ts.length)(hy:tt[t]?=some y){g c:Nat}(hg:i.nv=.slice (some ⟨g,0,none⟩) ts.length c):ew (W.setCell ⟨g,t,none⟩ (.int .i64 ((y.nx:Int)+1))) b ts (tt.set t { y with nx:=y.nx+1 }) i O/\Tn (fun q=>O q≠0) W (W.setCell ⟨g,t,none⟩ (.int .i64 ((y.nx:Int)+1))):=by
 have k:=h.nxs;rw[hg]at k;obtain⟨n,d⟩:=k.stored t (.int .i64 ((y.nx:Int)+1));have o:O g=4:=h.o4 g (by rw[hg];rfl)
 have l:Ty W g:=by
  obtain⟨_,m,r⟩:=k.block g rfl;exact⟨m,3,r,rfl⟩
 generalize W.setCell ⟨g,t,none⟩ (.int .i64 ((y.nx:Int)+1))=w at n d ⊢;have f:Chg (fun q=>q=g) W w:=⟨d.os,d.tape,d.output,d.size,fun q a s=>d.block q a (fun e=>s (by cases e;rfl))⟩;have j:Tn (fun q=>q=g) W w:=Tn.bq f (fun q _ a=>.inl (a▸l));refine⟨h.setnx ht j (fun q a=>.inr (by rw[a,o])) (fun z p=>by rw[hy]at p;cases p;exact⟨rfl,rfl,rfl,Nat.le_succ _⟩) ?_,j.mono (fun q _ a=>by show O q≠0;rw[a,o];decide)⟩;rw[nA,hg];exact n
theorem ew.addrow(h:ew W b ts tt i O)(ht:t<ts.length)(hy:tt[t]?=some y){go co:Nat}(ho:i.ov=.slice (some ⟨go,0,none⟩) ts.length co){id:Int}{vals:List T3}{v:Value}(hv:ac w 0 32 3 v vals.length (cells3 vals))(hlen:vals.length=ts[t].cols.length){g cap:Nat}(hr:ac w 0 99 2 (.slice (some ⟨g,0,none⟩) (y.A.length+1) cap) (y.A.length+1) (az y.A y.vs++[.int .i64 id,v]))(hgr:W.grownBy w y.rv.ownBlock)(hg:y.rv.ownBlock=some g∨W.heap.size<=g)(hvb:∀q,v.ownBlock=some q->W.heap.size<=q/\q≠g)(hid:∀a∈y.A,a.1<id)(hnx:id<(y.nx:Int)):∃O',ew (w.setCell ⟨go,t,none⟩ (.slice (some ⟨g,0,none⟩) (y.A.length+1) cap)) b ts (tt.set t ⟨.slice (some ⟨g,0,none⟩) (y.A.length+1) cap,y.nx,y.A++[(id,vals)],y.vs++[v]⟩) i O'/\Ext W O O'/\Tn (fun q=>O q≠0) W (w.setCell ⟨go,t,none⟩ (.slice (some ⟨g,0,none⟩) (y.A.length+1) cap)):=by
 have l:=h.ok ht hy;have E:O go=3:=h.o3 go (by rw[ho];rfl);have V:go<W.heap.size:=h.lt go (by rw[E];decide);have m:∀q,y.rv.ownBlock=some q->O q=5+2*t:=l.orv;have u:y.rv.ownBlock≠some go:=fun e=>by have:=m go e;omega
 have X:go≠g:=fun e=>by
  rcases hg with L|L
  ·exact u (e▸L)
  omega
 have N:ac w 0 92 1 (.slice (some ⟨go,0,none⟩) ts.length co) ts.length (tt.map (·.rv)):=by
  have:=h.outer
  rw[ho]at this;exact this.of (fun q d=>by cases d;exact hgr.block go V (fun e=>u e.symm))
 obtain⟨s1,s2⟩:=N.stored t (.slice (some ⟨g,0,none⟩) (y.A.length+1) cap);generalize w.setCell ⟨go,t,none⟩ (.slice (some ⟨g,0,none⟩) (y.A.length+1) cap)=w2 at s1 s2 ⊢;have R:W.heap.size<=w2.heap.size:=zw hgr.size s2.size;have f:∀q,q<w.heap.size->q≠go->w2.heap[q]?=w.heap[q]?:=fun q d S=>s2.block q d (fun e=>S (by cases e;rfl))
 have x:Chg (fun q=>q=go∨y.rv.ownBlock=some q) W w2:=⟨s2.os.trans hgr.os,s2.tape.trans hgr.tape,s2.output.trans hgr.output,R,fun q d S=>by
  rw[f q (z9 d hgr.size) (fun e=>S (.inl e)),hgr.block q d (fun e=>S (.inr e.symm))]⟩
 have P:Tn (fun q=>q=go∨y.rv.ownBlock=some q) W w2:=Tn.bq x (fun q _ d=>.inl (by
  rcases d with rfl|d
  ·obtain⟨_,F,Y⟩:=h.outer.block q (by rw[ho];rfl);exact⟨F,92,Y,rfl⟩
  obtain⟨_,F,Y⟩:=l.rows.block q d;exact⟨F,99,Y,rfl⟩))
 have Q:=(ac.lt hr g rfl).2;have G:∀k (r:k<y.vs.length) q,y.vs[k].ownBlock=some q->q<W.heap.size:=fun k r q d=>h.lt q (by rw[l.ovs k r q d];omega)
 have H:∀q,O q=6+2*t->w2.heap[q]?=W.heap[q]?:=fun q d=>x.block q (h.lt q (by omega)) (fun Z=>by
  rcases Z with rfl|Z
  ·omega
  have:=m q Z;omega)
 have hE:∀q,q<W.heap.size->(if q<W.heap.size then O q else if q=g then 5+2*t else if v.ownBlock=some q then 6+2*t else 0)=O q:=(fun q d=>zv d);refine⟨fun q=>if q<W.heap.size then O q else if q=g then 5+2*t else if v.ownBlock=some q then 6+2*t else 0,h.settab ht P (fun q d=>?_) hE (fun q d=>?_) ⟨?_,by simp[l.n],fun k p r=>?_,fun j k hj p a0 q d=>?_,fun a o=>?_,?_,fun a o=>?_,fun q d=>?_,fun k p q d=>?_⟩ (fun z R=>by rw[hy]at R;cases R;rfl) ?_,hE,P.mono (fun q _ d=>?_)⟩
 ·rcases d with rfl|d
  ·exact .inr (.inl E)
  exact .inr (.inr (.inl (m q d)))
 ·have d:(if q<W.heap.size then O q else if q=g then 5+2*t else if v.ownBlock=some q then 6+2*t else 0)≠0:=d;by_cases I:q<W.heap.size
  ·omega
  rw[zq I]at d;by_cases M:q=g
  ·rw[M];exact z9 Q s2.size
  rw[zq M]at d;by_cases U:v.ownBlock=some q
  ·exact z9 (ac.lt hv q U).2 s2.size
  rw[zq U]at d;exact absurd rfl d
 ·show ac w2 0 99 2 (.slice (some ⟨g,0,none⟩) (y.A.length+1) cap) (y.A++[(id,vals)]).length (az (y.A++[(id,vals)]) (y.vs++[v]));rw[lD l.n,y8];exact hr.of (fun q d=>by cases d;exact f g Q (fun e=>X e.symm))
 ·rcases eF r with ⟨I,M⟩ | ⟨I,M⟩
  ·have s:k<y.A.length:=(by rw[<-l.n];exact I);show ac w2 0 32 3 ((y.vs++[v])[k]) _ _;rw[M,xc s];exact(l.vals k s I).of (fun q d=>H q (l.ovs k I q d))
  show ac w2 0 32 3 ((y.vs++[v])[k]) _ _;rw[M];have s:k=y.A.length:=I.trans l.n;subst s;have U:(y.A++[(id,vals)])[y.A.length]'p=(id,vals):=(by simp);rw[U];exact hv.of (fun q d=>f q (ac.lt hv q d).2 (fun e=>by have:=(hvb q d).1;omega))
 ·have d:(y.vs++[v])[j].ownBlock=some q:=d;show(y.vs++[v])[k].ownBlock≠some q;rcases eF hj with ⟨J,B⟩ | ⟨J,B⟩ <;> rcases eF p with ⟨b1,b2⟩ | ⟨b1,b2⟩
  ·rw[B]at d;rw[b2]
   exact l.sep j k J b1 a0 q d
  ·rw[B]at d;rw[b2]
   intro e
   have:=G j J q d
   have:=(hvb q e).1
   omega
  ·rw[B]at d;rw[b2]
   intro e
   have:=G k b1 q e
   have:=(hvb q d).1
   omega
  omega
 ·rcases List.mem_append.1 o with o|o
  ·exact l.len a o
  rw[List.mem_singleton.1 o];exact hlen
 ·show(y.A++[(id,vals)]).Pairwise _;rw[ve];exact⟨l.srt,List.pairwise_singleton _ _,fun a o c hc=>by rw[List.mem_singleton.1 hc];exact hid a o⟩
 ·rcases List.mem_append.1 o with o|o
  ·exact l.rng a o
  rw[List.mem_singleton.1 o];exact hnx
 ·cases d;show(if g<W.heap.size then O g else if g=g then 5+2*t else _)=5+2*t;rcases hg with L|L
  ·rw[zv (h.lt g (by rw[m g L];omega))];exact m g L
  rw[zq (by omega),zv rfl]
 ·have d:(y.vs++[v])[k].ownBlock=some q:=d;show(if q<W.heap.size then O q else if q=g then 5+2*t else if v.ownBlock=some q then 6+2*t else 0)=6+2*t;rcases eF p with ⟨J,B⟩ | ⟨J,B⟩
  ·rw[B]at d;rw[zv (G k J q d)];exact l.ovs k J q d
  rw[B]at d;obtain⟨c1,c2⟩:=hvb q d;rw[zq (by omega),zq c2,zv d]
 ·rw[nA,ho];exact s1
 show O q≠0;rcases d with rfl|d
 ·rw[E];decide
 rw[m q d];omega
end
def Ab(A:List R1)(x:Int):Int:=match A.findIdx? (fun a=>decide (a.1=x))with
 | none=>-1
 | some k=>(k:Int)
theorem nB{A:List R1}{x:Int}(h:∀j (b:j<A.length),A[j].1≠x):Ab A x=-1:=by
 have e:A.findIdx? (fun a=>decide (a.1=x))=none:=by
  rw[List.findIdx?_eq_none_iff];intro a c;obtain⟨j,b,rfl⟩:=xz c;simp[h j b]
 unfold Ab;rw[e]
theorem nC{A:List R1}{x:Int}{k:Nat}(hk:k<A.length)(h1:A[k].1=x)(h:∀j (b:j<A.length),j<k->A[j].1≠x):Ab A x=(k:Int):=by
 have e:A.findIdx? (fun a=>decide (a.1=x))=some k:=by
  rw[List.findIdx?_eq_some_iff_getElem];refine⟨hk,by simp[h1],fun j b=>?_⟩;simp[h j (by omega) b]
 unfold Ab;rw[e]
structure Fz where
 gs:Nat
 cs:Nat
 go:Nat
 co:Nat
 gn:Nat
 cn:Nat
 pc:Option Addr
 kc:Nat
 pd:Option Addr
 kd:Nat
structure NR (w:World) (b:Nat) (m t:Nat) (T0:T) (y:RT) (x:Fz):Prop where
 b0:w.cell? ⟨b,0,none⟩=some (.slice (some ⟨x.gs,0,none⟩) m x.cs)
 b1:w.cell? ⟨b,1,none⟩=some (.slice (some ⟨x.go,0,none⟩) m x.co)
 b2:w.cell? ⟨b,2,none⟩=some (.slice (some ⟨x.gn,0,none⟩) m x.cn)
 s0:w.cell? ⟨x.gs,t*4,none⟩=some (.string T0.nm)
 s1:w.cell? ⟨x.gs,t*4+1,none⟩=some (.slice x.pc T0.cols.length x.kc)
 s2:w.cell? ⟨x.gs,t*4+2,none⟩=some (.string T0.key)
 s3:w.cell? ⟨x.gs,t*4+3,none⟩=some (.slice x.pd T0.deps.length x.kd)
 o0:w.cell? ⟨x.go,t,none⟩=some y.rv
 n0:w.cell? ⟨x.gn,t,none⟩=some (.int .i64 (y.nx:Int))
 bl:b<w.heap.size
 sl:x.gs<w.heap.size
 ol:x.go<w.heap.size
 nl:x.gn<w.heap.size
 nf:w.frozen? ⟨x.gn,t,none⟩=false
 oF:w.frozen? ⟨x.go,t,none⟩=false
 rd:fu w (.slice x.pc T0.cols.length x.kc) T0.cols
 rt:ey w (.slice x.pc T0.cols.length x.kc) (.slice x.pd T0.deps.length x.kd) T0
section
variable {W:World}{b:Nat}{ts:List T}{tt:List RT}{i:NI}{O:Nat->Nat}{t:Nat}{y:RT}
theorem ew.reads(h:ew W b ts tt i O)(ht:t<ts.length)(hy:tt[t]?=some y):∃x,i.sv=.slice (some ⟨x.gs,0,none⟩) ts.length x.cs/\i.ov=.slice (some ⟨x.go,0,none⟩) ts.length x.co/\i.nv=.slice (some ⟨x.gn,0,none⟩) ts.length x.cn/\O x.go=3/\O x.gn=4/\O x.gs=2/\∀w,Below W.heap.size W w->NR w b ts.length t ts[t] y x:=by
 have g:0<ts.length:=(by omega);obtain⟨gs,cs,c,_,_⟩:=h.form.slice g;obtain⟨go,co,d,_,_⟩:=h.outer.slice g;obtain⟨gn,cn,e,_,_⟩:=h.nxs.slice g;have a:t<i.fs.length:=(by rw[h.fn];exact ht);obtain⟨pc,kc,l,_,_⟩:=(h.rd t ht a).1.slice;obtain⟨pd,kd,m,_,_⟩:=(h.rd t ht a).2.slice;refine⟨⟨gs,cs,go,co,gn,cn,pc,kc,pd,kd⟩,c,d,e,h.o3 go (by rw[d];rfl),h.o4 gn (by rw[e];rfl),h.o2 gs (by rw[c];rfl),fun w s=>?_⟩;have k:=h.later s;have f:=k.form;have o:=k.outer;have n:=k.nxs;rw[c]at f;rw[d]at o;rw[e]at n;obtain⟨c0,c1,c2,c3⟩:=pK h.fn ht;rw[l]at c1;rw[m]at c3;have j:=k.rd t ht a;rw[l,m]at j;have p:w.cell? ⟨b,0,none⟩=some i.sv:=aA k.box 0;have q:w.cell? ⟨b,1,none⟩=some i.ov:=aA k.box 1;have r:w.cell? ⟨b,2,none⟩=some i.nv:=aA k.box 2;rw[c]at p;rw[d]at q;rw[e]at r;exact⟨p,q,r,f.cell c0,f.cell c1,f.cell c2,f.cell c3,o.cell (by rw[xm,hy];rfl),n.cell (by rw[xm,hy];rfl),aC k.box,(ac.lt f gs rfl).2,(ac.lt o go rfl).2,(ac.lt n gn rfl).2,n.frozenAt t,o.frozenAt t,j.1,j⟩
theorem rF(h:ew W b ts tt i O)(ht:t<ts.length)(hy:tt[t]?=some y)(hl:y.A.length<=100000)(x:Int):Calls prog 75 #[.pointer (some ⟨b,0,none⟩),.int .i64 (t:Int),.int .i64 x] W fun e E=>e=.returned (.int .i64 (Ab y.A x))/\E=W:=by
 obtain⟨⟨gs,cs,go,co,gn,cn,pc,kc,pd,kd⟩,_,_,_,_,_,_,d⟩:=h.reads ht hy;have d:=d W (zb _ _);have a:=h.ok ht hy;obtain⟨pr,c2,c,_,_⟩:=a.rows.isslice;obtain⟨n,q⟩:=ag y.A.length;obtain⟨m,f⟩:=ag ts.length;have F:(n:Int)<=100000:=(by omega);have G:(t:Int)<(m:Int):=(by omega);have P:W.cell? ⟨b,1,none⟩=some (.slice (some ⟨go,0,none⟩) m co):=(by rw[<-f];exact d.b1);have Q:=d.bl;have o0:W.cell? ⟨go,t,none⟩=some (.slice pr n c2):=by rw[<-q,<-c];exact d.o0
 have H:Hid (∀k (g:k<y.A.length),∃gr,pr=some ⟨gr,0,none⟩/\W.cell? ⟨gr,k*2,none⟩=some (.int .i64 y.A[k].1)):=aa (fun k g=>by
  have r:=a.rows;obtain⟨gr,cr,e,_,_⟩:=r.slice (by omega);rw[c]at e;cases e;rw[c]at r;exact⟨gr,rfl,r.cell (dI a.n g).1⟩)
 have v:=aa q;clear h c q d a hl f;go_enter func75,ntmps75;go_wp2_with fail;go_loopg [7] (n+1) (fun I J w=>∃(j:Nat),J=.int .i64 (j:Int)/\j<=n/\n+1<=j+I/\(∀k (a:k<y.A.length),k<j->y.A[k].1≠x)/\w=W)
 case atStart=>exact⟨0,rfl,zh _,by omega,fun k _ h=>absurd h (yo k),rfl⟩
 obtain⟨j,rfl,R,S,o,rfl⟩:=hrel;by_cases s:j<n
 ·have l:j<y.A.length:=(by rw[v.out];exact s);have L:(j:Int)<(n:Int):=(by omega);obtain⟨gr,rfl,r0⟩:=H.out j l;obtain⟨z,u⟩:=ag (y.A[j].1);rw[u]at r0;have p:=aa o;have B:=aa u;clear o u;by_cases e:z=x
  ·subst e;go_wp2_with fail;go_ret;exact⟨by rw[nC l B.out p.out];rfl,rfl⟩
  have U:(z==x)=false:=(by simp[e]);go_wp2_with fail;go_roundg (n-j)
  case measure=>omega
  case rel=>exact⟨j+1,rfl,by omega,by omega,fun k a M=>(by
   by_cases N:k=j
   ·subst N;rw[B.out];exact e
   exact p.out k a (by omega)),rfl⟩
 obtain rfl:j=n:=(by omega);have p:=aa o;clear o;go_wp2_with fail;go_ret;exact⟨by rw[nB (fun k a=>p.out k a (by rw[<-v.out];exact a))];rfl,rfl⟩
end
