import Derived.Test.YtkchgbjoeggdbaaGreatZn25
set_option maxHeartbeats 8000000
set_option maxRecDepth 100000
namespace Go.Proofs.YtkchgbjoeggdbaaGreat
open Go.Proofs.Tryz
open Go Go.RowKit Go.Proofs Co Co.S
theorem vQ(l:List T3):∀u∈cells3 l,u.oneCell'=true:=by
 intro u b;unfold cells3 at b;rw[List.mem_flatMap]at b;obtain⟨x,_,a⟩:=b;rcases List.mem_cons.1 a with rfl|a
 ·rfl
 rcases List.mem_cons.1 a with rfl|a
 ·rfl
 rw[List.mem_singleton.1 a];rfl
theorem sH{S:Nat->Prop}{y:World}{v:Value}{l:List T3}(h:fk S y v l)(hl:l.length<=1000)(h0:0<l.length):∃g a w',(Builtin.append_ #[35,35] 35 #[.slice none 0 0,v]).run prog y=.ok (.slice (some ⟨g,0,none⟩) l.length a) w'/\ac w' y.heap.size 32 3 (.slice (some ⟨g,0,none⟩) l.length a) l.length (cells3 l)/\Below y.heap.size y w':=by
 obtain⟨p,a,rfl,_,_,o⟩:=h;obtain⟨b,f,rfl,r,_,c⟩:=o h0;obtain⟨s,i,k,m,n⟩:=info_parts uW
 obtain⟨g,d,w',t,x,e,o⟩:=aS (P:=prog) y y.heap.size 35 35 32 s _ 3 32 underlying35 i k m n rfl (by decide) (ac.nil (w:=y) (base:=y.heap.size)) ⟨b,f,none⟩ l.length a (cells3 l) (lM l) (fun j u z=>by
  rw[Addr.add_lit];exact c j u z) (vQ l) h0 (by unfold maxLen;omega) (by omega) (zo _)
 rw[xj,IU]at *;exact⟨g,d,w',t,x,e.os,e.tape,e.output,e.size,fun q A=>e.block q A (by simp[Value.ownBlock])⟩
abbrev bspoilt:ByteArray:=⟨#[115,112,111,105,108,116]⟩
def jy(A:List R1)(vs:List Value):List Value:=(A.zip vs).flatMap fun p=>[.int .i64 p.1.1,p.2]
theorem oO{A:List R1}{vs:List Value}(h:vs.length=A.length){k:Nat}(hk:k<A.length):(jy A vs)[k*2]?=some (.int .i64 A[k].1)/\(jy A vs)[k*2+1]?=some (vs[k]'(by omega)):=by
 unfold jy
 induction A generalizing vs k with
 | nil=>cases hk
 | cons a A ih =>
  cases vs with
  | nil=>cases h
  | cons v vs =>
   cases k with
   | zero=>exact⟨rfl,rfl⟩
   | succ k =>
    have b:=ih (vs:=vs) (by simpa using h) (k:=k) (by simpa using hk);simp only[List.zip_cons_cons,wv];constructor
    ·rw[ya (by simp;omega)];have:(k+1)*2-([.int .i64 a.1,v]:List Value).length=k*2:=(by simp;omega);rw[this];exact b.1
    ·rw[ya (by simp;omega)];have:(k+1)*2+1-([.int .i64 a.1,v]:List Value).length=k*2+1:=(by simp;omega);rw[this];exact b.2
theorem sI{A:List R1}{vs:List Value}(h:vs.length=A.length)(a:R1)(v:Value):jy (A++[a]) (vs++[v])=jy A vs++[.int .i64 a.1,v]:=by
 unfold jy;rw[List.zip_append h.symm,List.flatMap_append]
 simp
theorem lC{vs:List Value}{v:Value}{k:Nat}(hk:k<(vs++[v]).length):(∃a:k<vs.length,(vs++[v])[k]=vs[k])∨(k=vs.length/\(vs++[v])[k]=v):=by
 by_cases e:k<vs.length
 ·exact .inl ⟨e,yx e⟩
 have b:k=vs.length:=(by simp at hk;omega);subst b;exact .inr ⟨rfl,by simp⟩
structure RT where
 rv:Value
 nx:Nat
 A:List R1
 vs:List Value
structure qd (W:World) (t:T) (x:RT) (O:Nat->Nat) (j:Nat):Prop where
 rows:ac W 0 161 2 x.rv x.A.length (jy x.A x.vs)
 n:x.vs.length=x.A.length
 vals:∀k (h:k<x.A.length) (h':k<x.vs.length),ac W 0 32 3 x.vs[k] x.A[k].2.length (cells3 x.A[k].2)
 sep:∀k l (hk:k<x.vs.length) (hl:l<x.vs.length),k≠l->∀q,x.vs[k].ownBlock=some q->x.vs[l].ownBlock≠some q
 len:∀a∈x.A,a.2.length=t.cols.length
 srt:x.A.Pairwise (fun a b=>a.1<b.1)
 rng:∀a∈x.A,a.1<(x.nx:Int)
 orv:∀q,x.rv.ownBlock=some q->O q=5+2*j
 ovs:∀k (h:k<x.vs.length) q,x.vs[k].ownBlock=some q->O q=6+2*j
theorem qd.tn{S:Nat->Prop}{W W':World}{t:T}{x:RT}{O O':Nat->Nat}{j:Nat}(h:qd W t x O j)(hk:Tn S W W')(hs:∀q,S q->O q≠5+2*j/\O q≠6+2*j)(hO:∀q,q<W.heap.size->O' q=O q):qd W' t x O' j:=
 ⟨h.rows.of (fun q c=>hk.chg.block q (ac.lt h.rows q c).2 (fun d=>(hs q d).1 (h.orv q c))),h.n,fun k a b=>(h.vals k a b).of (fun q c=>hk.chg.block q (ac.lt (h.vals k a b) q c).2 (fun d=>(hs q d).2 (h.ovs k b q c))),h.sep,h.len,h.srt,h.rng,
  fun q c=>(hO q (ac.lt h.rows q c).2).trans (h.orv q c),fun k a q c=>(hO q (ac.lt (h.vals k (by rw[<-h.n];exact a) a) q c).2).trans (h.ovs k a q c)⟩
structure NI where
 sv:Value
 ov:Value
 nv:Value
 fs:List (Value×Value)
def fp(fs:List (Value×Value))(ts:List T):List Value:=(fs.zip ts).flatMap fun p=>[.string p.2.nm,p.1.1,.string p.2.key,p.1.2]
theorem oP{fs:List (Value×Value)}{ts:List T}(h:fs.length=ts.length){k:Nat}(hk:k<ts.length):(fp fs ts)[k*4]?=some (.string ts[k].nm)/\(fp fs ts)[k*4+1]?=some (fs[k]'(by omega)).1/\(fp fs ts)[k*4+2]?=some (.string ts[k].key)/\(fp fs ts)[k*4+3]?=some (fs[k]'(by omega)).2:=by
 unfold fp
 induction fs generalizing ts k with
 | nil=>simp at h;omega
 | cons f fs ih =>
  cases ts with
  | nil=>cases hk
  | cons t ts =>
   cases k with
   | zero=>exact⟨rfl,rfl,rfl,rfl⟩
   | succ k =>
    have a:=ih (ts:=ts) (by simpa using h) (k:=k) (by simpa using hk);simp only[List.zip_cons_cons,wv,List.getElem_cons_succ]
    have e:∀r,([.string t.nm,f.1,.string t.key,f.2]++List.flatMap (fun p:(Value×Value)×T=>[.string p.2.nm,p.1.1,.string p.2.key,p.1.2]) (fs.zip ts))[(k+1)*4+r]?=(List.flatMap (fun p:(Value×Value)×T=>[.string p.2.nm,p.1.1,.string p.2.key,p.1.2]) (fs.zip ts))[k*4+r]?:=fun r=>by
     rw[ya (by simp;omega)]
     congr 1
     simp;omega
    exact⟨(e 0).trans a.1,(e 1).trans a.2.1,(e 2).trans a.2.2.1,(e 3).trans a.2.2.2⟩
structure im (W:World) (b:Nat) (ts:List T) (tt:List RT) (i:NI) (O:Nat->Nat):Prop where
 box:W.heap[b]?=some (.cells #[i.sv,i.ov,i.nv] 125)
 n:tt.length=ts.length
 fn:i.fs.length=ts.length
 form:ac W 0 60 4 i.sv ts.length (fp i.fs ts)
 rd:∀j (h:j<ts.length) (h':j<i.fs.length),dw W i.fs[j].1 i.fs[j].2 ts[j]
 outer:ac W 0 159 1 i.ov ts.length (tt.map (·.rv))
 nxs:ac W 0 3 1 i.nv ts.length (tt.map fun x=>.int .i64 (x.nx:Int))
 tab:∀j (h:j<ts.length) (h':j<tt.length),qd W ts[j] tt[j] O j
 o1:O b=1
 o2:∀q,i.sv.ownBlock=some q->O q=2
 o3:∀q,i.ov.ownBlock=some q->O q=3
 o4:∀q,i.nv.ownBlock=some q->O q=4
 lt:∀q,O q≠0->q<W.heap.size
section
variable{W W':World}{b:Nat}{ts:List T}{tt:List RT}{i:NI}{O O':Nat->Nat}{S:Nat->Prop}
theorem im.tn(h:im W b ts tt i O)(hk:Tn S W W')(hs:∀q,S q->O q=0):im W' b ts tt i O:=by
 have e:∀q,O q≠0->W'.heap[q]?=W.heap[q]?:=fun q d=>hk.chg.block q (h.lt q d) (fun f=>d (hs q f))
 exact⟨(e b (by rw[h.o1];decide)).trans h.box,h.n,h.fn,h.form.of (fun q d=>e q (by rw[h.o2 q d];decide)),fun j a c=>(h.rd j a c).kp hk.qu,h.outer.of (fun q d=>e q (by rw[h.o3 q d];decide)),h.nxs.of (fun q d=>e q (by rw[h.o4 q d];decide)),
  fun j a c=>(h.tab j a c).tn hk (fun q d=>by rw[hs q d];omega) (fun _ _=>rfl),h.o1,h.o2,h.o3,h.o4,fun q d=>z9 (h.lt q d) hk.size⟩
theorem im.later(h:im W b ts tt i O)(hb:Below W.heap.size W W'):im W' b ts tt i O:=h.tn (S:=fun _=>False) (Tn.of_below hb) (fun _ h=>h.elim)
theorem im.settab(h:im W b ts tt i O){t:Nat}(ht:t<ts.length)(hk:Tn S W W')(hs:∀q,S q->O q=0∨O q=3∨O q=5+2*t∨O q=6+2*t){x:RT}(hO:∀q,q<W.heap.size->O' q=O q)(hlt:∀q,O' q≠0->q<W'.heap.size)(hx:qd W' ts[t] x O' t)(hnx:∀y,tt[t]?=some y->x.nx=y.nx)(ho:ac W' 0 159 1 i.ov ts.length ((tt.set t x).map (·.rv))):im W' b ts (tt.set t x) i O':=by
 have g:∀q m,O q=m->m≠0->m≠3->m≠5+2*t->m≠6+2*t->W'.heap[q]?=W.heap[q]?:=(fun q m d r s u v=>hk.chg.block q (h.lt q (by omega)) (fun p=>by have:=hs q p;omega));have l:=aB h.box;have w:=h.n;refine⟨(g b 1 h.o1 (by decide) (by decide) (by omega) (by omega)).trans h.box,by rw[vp];exact h.n,h.fn,h.form.of (fun q d=>g q 2 (h.o2 q d) (by decide) (by decide) (by omega) (by omega)),fun j a c=>(h.rd j a c).kp hk.qu,ho,?_,fun j a c=>?_,(hO b l).trans h.o1,fun q d=>(hO q (ac.lt h.form q d).2).trans (h.o2 q d),fun q d=>(hO q (ac.lt h.outer q d).2).trans (h.o3 q d),fun q d=>(hO q (ac.lt h.nxs q d).2).trans (h.o4 q d),hlt⟩
 ·have e:(tt.set t x).map (fun x=>Value.int .i64 (x.nx:Int))=tt.map (fun x=>Value.int .i64 (x.nx:Int)):=by
   refine IQ (fun k=>?_);rw[xe,xe,List.getElem?_set];by_cases e:t=k
   ·subst e;have f:t<tt.length:=(by omega);rw[zw rfl,zw f];rw[z6 f];simp only[Option.map_some];rw[hnx _ (z6 f)]
   rw[zu e]
  rw[e];exact h.nxs.of (fun q d=>g q 4 (h.o4 q d) (by decide) (by decide) (by omega) (by omega))
 have o:j<tt.length:=(by omega);by_cases e:t=j
 ·subst e;simp only[List.getElem_set_self];exact hx
 simp only[List.getElem_set_ne e];exact(h.tab j a o).tn hk (fun q d=>by have:=hs q d;omega) hO
theorem im.setnx(h:im W b ts tt i O){t:Nat}(ht:t<ts.length)(hk:Tn S W W')(hs:∀q,S q->O q=0∨O q=4){x:RT}(hx:∀y,tt[t]?=some y->x.rv=y.rv/\x.A=y.A/\x.vs=y.vs/\y.nx<=x.nx)(ho:ac W' 0 3 1 i.nv ts.length ((tt.set t x).map fun x=>.int .i64 (x.nx:Int))):im W' b ts (tt.set t x) i O:=by
 have l:∀q m,O q=m->m≠0->m≠4->W'.heap[q]?=W.heap[q]?:=(fun q m d w z=>hk.chg.block q (h.lt q (by omega)) (fun s=>by have:=hs q s;omega));have B:=h.n;have f:t<tt.length:=(by omega);refine⟨(l b 1 h.o1 (by decide) (by decide)).trans h.box,by rw[vp];exact h.n,h.fn,h.form.of (fun q d=>l q 2 (h.o2 q d) (by decide) (by decide)),fun j a c=>(h.rd j a c).kp hk.qu,?_,ho,fun j a c=>?_,h.o1,h.o2,h.o3,h.o4,fun q d=>z9 (h.lt q d) hk.size⟩
 ·have e:(tt.set t x).map (fun x=>x.rv)=tt.map (fun x=>x.rv):=by
   refine IQ (fun k=>?_);rw[xe,xe,List.getElem?_set];by_cases e:t=k
   ·subst e;rw[zw rfl,zw f,z6 f];simp only[Option.map_some];rw[(hx _ (z6 f)).1]
   rw[zu e]
  rw[e];exact h.outer.of (fun q d=>l q 3 (h.o3 q d) (by decide) (by decide))
 have g:j<tt.length:=(by omega);have k:=(h.tab j a g).tn (O':=O) hk (fun q d=>by have:=hs q d;omega) (fun _ _=>rfl);by_cases e:t=j
 ·subst e;simp only[List.getElem_set_self];obtain⟨o,p,r,u⟩:=hx _ (z6 g);obtain⟨rv,nx,A,vs⟩:=x;simp only at o p r u;subst o p r;exact⟨k.rows,k.n,k.vals,k.sep,k.len,k.srt,fun a v=>by have:=k.rng a v;show a.1<(nx:Int);omega,k.orv,k.ovs⟩
 simp only[List.getElem_set_ne e];exact k
end
section
variable{W w:World}{b:Nat}{ts:List T}{tt:List RT}{i:NI}{O:Nat->Nat}{t:Nat}{y:RT}
theorem im.at(h:im W b ts tt i O)(ht:t<ts.length):∃y,tt[t]?=some y/\qd W ts[t] y O t:=by
 have a:t<tt.length:=(by rw[h.n];exact ht);exact⟨tt[t],z6 a,h.tab t ht a⟩
theorem im.ok(h:im W b ts tt i O)(ht:t<ts.length)(hy:tt[t]?=some y):qd W ts[t] y O t:=by
 obtain⟨z,a,c⟩:=h.at ht;rw[hy]at a;cases a;exact c
theorem sJ{α:Type}(f:RT->α)(x:RT):(tt.set t x).map f=(tt.map f).set t (f x):=by rw[List.map_set]
theorem im.setnext(h:im W b ts tt i O)(ht:t<ts.length)(hy:tt[t]?=some y){g c:Nat}(hg:i.nv=.slice (some ⟨g,0,none⟩) ts.length c):im (W.setCell ⟨g,t,none⟩ (.int .i64 ((y.nx:Int)+1))) b ts (tt.set t { y with nx:=y.nx+1 }) i O/\Tn (fun q=>O q≠0) W (W.setCell ⟨g,t,none⟩ (.int .i64 ((y.nx:Int)+1))):=by
 have k:=h.nxs;rw[hg]at k;obtain⟨n,d⟩:=k.stored t (.int .i64 ((y.nx:Int)+1));have o:O g=4:=h.o4 g (by rw[hg];rfl)
 have l:Ty W g:=by
  obtain⟨_,m,r⟩:=k.block g rfl;exact⟨m,3,r,rfl⟩
 generalize W.setCell ⟨g,t,none⟩ (.int .i64 ((y.nx:Int)+1))=w at n d ⊢;have f:Chg (fun q=>q=g) W w:=⟨d.os,d.tape,d.output,d.size,fun q a s=>d.block q a (fun e=>s (by cases e;rfl))⟩;have j:Tn (fun q=>q=g) W w:=Tn.bt f (fun q _ a=>.inl (a▸l));refine⟨h.setnx ht j (fun q a=>.inr (by rw[a,o])) (fun z p=>by rw[hy]at p;cases p;exact⟨rfl,rfl,rfl,Nat.le_succ _⟩) ?_,j.mono (fun q _ a=>by show O q≠0;rw[a,o];decide)⟩;rw[sJ,hg];exact n
theorem im.addrow(h:im W b ts tt i O)(ht:t<ts.length)(hy:tt[t]?=some y){go co:Nat}(ho:i.ov=.slice (some ⟨go,0,none⟩) ts.length co){id:Int}{vals:List T3}{v:Value}(hv:ac w 0 32 3 v vals.length (cells3 vals))(hlen:vals.length=ts[t].cols.length){g cap:Nat}(hr:ac w 0 161 2 (.slice (some ⟨g,0,none⟩) (y.A.length+1) cap) (y.A.length+1) (jy y.A y.vs++[.int .i64 id,v]))(hgr:W.grownBy w y.rv.ownBlock)(hg:y.rv.ownBlock=some g∨W.heap.size<=g)(hvb:∀q,v.ownBlock=some q->W.heap.size<=q/\q≠g)(hid:∀a∈y.A,a.1<id)(hnx:id<(y.nx:Int)):∃O',im (w.setCell ⟨go,t,none⟩ (.slice (some ⟨g,0,none⟩) (y.A.length+1) cap)) b ts (tt.set t ⟨.slice (some ⟨g,0,none⟩) (y.A.length+1) cap,y.nx,y.A++[(id,vals)],y.vs++[v]⟩) i O'/\Ext W O O'/\Tn (fun q=>O q≠0) W (w.setCell ⟨go,t,none⟩ (.slice (some ⟨g,0,none⟩) (y.A.length+1) cap)):=by
 have l:=h.ok ht hy;have E:O go=3:=h.o3 go (by rw[ho];rfl);have V:go<W.heap.size:=h.lt go (by rw[E];decide);have m:∀q,y.rv.ownBlock=some q->O q=5+2*t:=l.orv;have u:y.rv.ownBlock≠some go:=fun e=>by have:=m go e;omega
 have X:go≠g:=fun e=>by
  rcases hg with L|L
  ·exact u (e▸L)
  omega
 have N:ac w 0 159 1 (.slice (some ⟨go,0,none⟩) ts.length co) ts.length (tt.map (·.rv)):=by
  have:=h.outer
  rw[ho]at this;exact this.of (fun q d=>by cases d;exact hgr.block go V (fun e=>u e.symm))
 obtain⟨s1,s2⟩:=N.stored t (.slice (some ⟨g,0,none⟩) (y.A.length+1) cap);generalize w.setCell ⟨go,t,none⟩ (.slice (some ⟨g,0,none⟩) (y.A.length+1) cap)=w2 at s1 s2 ⊢;have R:W.heap.size<=w2.heap.size:=zx hgr.size s2.size;have f:∀q,q<w.heap.size->q≠go->w2.heap[q]?=w.heap[q]?:=fun q d S=>s2.block q d (fun e=>S (by cases e;rfl))
 have x:Chg (fun q=>q=go∨y.rv.ownBlock=some q) W w2:=⟨s2.os.trans hgr.os,s2.tape.trans hgr.tape,s2.output.trans hgr.output,R,fun q d S=>by
  rw[f q (z9 d hgr.size) (fun e=>S (.inl e)),hgr.block q d (fun e=>S (.inr e.symm))]⟩
 have P:Tn (fun q=>q=go∨y.rv.ownBlock=some q) W w2:=Tn.bt x (fun q _ d=>.inl (by
  rcases d with rfl|d
  ·obtain⟨_,F,Y⟩:=h.outer.block q (by rw[ho];rfl);exact⟨F,159,Y,rfl⟩
  obtain⟨_,F,Y⟩:=l.rows.block q d;exact⟨F,161,Y,rfl⟩))
 have Q:=(ac.lt hr g rfl).2;have G:∀k (r:k<y.vs.length) q,y.vs[k].ownBlock=some q->q<W.heap.size:=fun k r q d=>h.lt q (by rw[l.ovs k r q d];omega)
 have H:∀q,O q=6+2*t->w2.heap[q]?=W.heap[q]?:=fun q d=>x.block q (h.lt q (by omega)) (fun Z=>by
  rcases Z with rfl|Z
  ·omega
  have:=m q Z;omega)
 have hE:∀q,q<W.heap.size->(if q<W.heap.size then O q else if q=g then 5+2*t else if v.ownBlock=some q then 6+2*t else 0)=O q:=(fun q d=>zw d);refine⟨fun q=>if q<W.heap.size then O q else if q=g then 5+2*t else if v.ownBlock=some q then 6+2*t else 0,h.settab ht P (fun q d=>?_) hE (fun q d=>?_) ⟨?_,by simp[l.n],fun k p r=>?_,fun j k hj p a0 q d=>?_,fun a o=>?_,?_,fun a o=>?_,fun q d=>?_,fun k p q d=>?_⟩ (fun z R=>by rw[hy]at R;cases R;rfl) ?_,hE,P.mono (fun q _ d=>?_)⟩
 ·rcases d with rfl|d
  ·exact .inr (.inl E)
  exact .inr (.inr (.inl (m q d)))
 ·have d:(if q<W.heap.size then O q else if q=g then 5+2*t else if v.ownBlock=some q then 6+2*t else 0)≠0:=d;by_cases I:q<W.heap.size
  ·omega
  rw[zu I]at d;by_cases M:q=g
  ·rw[M];exact z9 Q s2.size
  rw[zu M]at d;by_cases U:v.ownBlock=some q
  ·exact z9 (ac.lt hv q U).2 s2.size
  rw[zu U]at d;exact absurd rfl d
 ·show ac w2 0 161 2 (.slice (some ⟨g,0,none⟩) (y.A.length+1) cap) (y.A++[(id,vals)]).length (jy (y.A++[(id,vals)]) (y.vs++[v]));rw[sI l.n,y6];exact hr.of (fun q d=>by cases d;exact f g Q (fun e=>X e.symm))
 ·rcases lC r with ⟨I,M⟩ | ⟨I,M⟩
  ·have s:k<y.A.length:=(by rw[<-l.n];exact I);show ac w2 0 32 3 ((y.vs++[v])[k]) _ _;rw[M,yx s];exact(l.vals k s I).of (fun q d=>H q (l.ovs k I q d))
  show ac w2 0 32 3 ((y.vs++[v])[k]) _ _;rw[M];have s:k=y.A.length:=I.trans l.n;subst s;have U:(y.A++[(id,vals)])[y.A.length]'p=(id,vals):=(by simp);rw[U];exact hv.of (fun q d=>f q (ac.lt hv q d).2 (fun e=>by have:=(hvb q d).1;omega))
 ·have d:(y.vs++[v])[j].ownBlock=some q:=d;show(y.vs++[v])[k].ownBlock≠some q;rcases lC hj with ⟨J,B⟩ | ⟨J,B⟩ <;> rcases lC p with ⟨b1,b2⟩ | ⟨b1,b2⟩
  ·rw[B]at d;rw[b2]
   exact l.sep j k J b1 a0 q d
  ·rw[B]at d;rw[b2]
   intro e
   have:=G j J q d
   have:=(hvb q e).1
   omega
  ·rw[B]at d;rw[b2]
   intro e
   have:=G k b1 q e
   have:=(hvb q d).1
   omega
  omega
 ·rcases List.mem_append.1 o with o|o
  ·exact l.len a o
  rw[List.mem_singleton.1 o];exact hlen
 ·show(y.A++[(id,vals)]).Pairwise _;rw[List.pairwise_append];exact⟨l.srt,List.pairwise_singleton _ _,fun a o c hc=>by rw[List.mem_singleton.1 hc];exact hid a o⟩
 ·rcases List.mem_append.1 o with o|o
  ·exact l.rng a o
  rw[List.mem_singleton.1 o];exact hnx
 ·cases d;show(if g<W.heap.size then O g else if g=g then 5+2*t else _)=5+2*t;rcases hg with L|L
  ·rw[zw (h.lt g (by rw[m g L];omega))];exact m g L
  rw[zu (by omega),zw rfl]
 ·have d:(y.vs++[v])[k].ownBlock=some q:=d;show(if q<W.heap.size then O q else if q=g then 5+2*t else if v.ownBlock=some q then 6+2*t else 0)=6+2*t;rcases lC p with ⟨J,B⟩ | ⟨J,B⟩
  ·rw[B]at d;rw[zw (G k J q d)];exact l.ovs k J q d
  rw[B]at d;obtain⟨c1,c2⟩:=hvb q d;rw[zu (by omega),zu c2,zw d]
 ·rw[sJ,ho];exact s1
 show O q≠0;rcases d with rfl|d
 ·rw[E];decide
 rw[m q d];omega
end
def BM(A:List R1)(x:Int):Int:=match A.findIdx? (fun a=>decide (a.1=x))with
 | none=>-1
 | some k=>(k:Int)
structure Fx where
 gs:Nat
 cs:Nat
 go:Nat
 co:Nat
 gn:Nat
 cn:Nat
 pc:Option Addr
 kc:Nat
 pd:Option Addr
 kd:Nat
structure NR (w:World) (b:Nat) (m t:Nat) (T0:T) (y:RT) (x:Fx):Prop where
 b0:w.cell? ⟨b,0,none⟩=some (.slice (some ⟨x.gs,0,none⟩) m x.cs)
 b1:w.cell? ⟨b,1,none⟩=some (.slice (some ⟨x.go,0,none⟩) m x.co)
 b2:w.cell? ⟨b,2,none⟩=some (.slice (some ⟨x.gn,0,none⟩) m x.cn)
 s0:w.cell? ⟨x.gs,t*4,none⟩=some (.string T0.nm)
 s1:w.cell? ⟨x.gs,t*4+1,none⟩=some (.slice x.pc T0.cols.length x.kc)
 s2:w.cell? ⟨x.gs,t*4+2,none⟩=some (.string T0.key)
 s3:w.cell? ⟨x.gs,t*4+3,none⟩=some (.slice x.pd T0.deps.length x.kd)
 o0:w.cell? ⟨x.go,t,none⟩=some y.rv
 n0:w.cell? ⟨x.gn,t,none⟩=some (.int .i64 (y.nx:Int))
 bl:b<w.heap.size
 sl:x.gs<w.heap.size
 ol:x.go<w.heap.size
 nl:x.gn<w.heap.size
 nf:w.frozen? ⟨x.gn,t,none⟩=false
 oF:w.frozen? ⟨x.go,t,none⟩=false
 rd:fj w (.slice x.pc T0.cols.length x.kc) T0.cols
 rt:dw w (.slice x.pc T0.cols.length x.kc) (.slice x.pd T0.deps.length x.kd) T0
section
variable{W:World}{b:Nat}{ts:List T}{tt:List RT}{i:NI}{O:Nat->Nat}{t:Nat}{y:RT}
theorem im.reads(h:im W b ts tt i O)(ht:t<ts.length)(hy:tt[t]?=some y):∃x,i.sv=.slice (some ⟨x.gs,0,none⟩) ts.length x.cs/\i.ov=.slice (some ⟨x.go,0,none⟩) ts.length x.co/\i.nv=.slice (some ⟨x.gn,0,none⟩) ts.length x.cn/\O x.go=3/\O x.gn=4/\O x.gs=2/\∀w,Below W.heap.size W w->NR w b ts.length t ts[t] y x:=by
 have g:0<ts.length:=(by omega);obtain⟨gs,cs,c,_,_⟩:=h.form.slice g;obtain⟨go,co,d,_,_⟩:=h.outer.slice g;obtain⟨gn,cn,e,_,_⟩:=h.nxs.slice g;have a:t<i.fs.length:=(by rw[h.fn];exact ht);obtain⟨pc,kc,l,_,_⟩:=(h.rd t ht a).1.slice;obtain⟨pd,kd,m,_,_⟩:=(h.rd t ht a).2.slice;refine⟨⟨gs,cs,go,co,gn,cn,pc,kc,pd,kd⟩,c,d,e,h.o3 go (by rw[d];rfl),h.o4 gn (by rw[e];rfl),h.o2 gs (by rw[c];rfl),fun w s=>?_⟩;have k:=h.later s;have f:=k.form;have o:=k.outer;have n:=k.nxs;rw[c]at f;rw[d]at o;rw[e]at n;obtain⟨c0,c1,c2,c3⟩:=oP h.fn ht;rw[l]at c1;rw[m]at c3;have j:=k.rd t ht a;rw[l,m]at j;have p:w.cell? ⟨b,0,none⟩=some i.sv:=aA k.box 0;have q:w.cell? ⟨b,1,none⟩=some i.ov:=aA k.box 1;have r:w.cell? ⟨b,2,none⟩=some i.nv:=aA k.box 2;rw[c]at p;rw[d]at q;rw[e]at r;exact⟨p,q,r,f.cell c0,f.cell c1,f.cell c2,f.cell c3,o.cell (by rw[xe,hy];rfl),n.cell (by rw[xe,hy];rfl),aB k.box,(ac.lt f gs rfl).2,(ac.lt o go rfl).2,(ac.lt n gn rfl).2,n.frozenAt t,o.frozenAt t,j.1,j⟩
end
theorem mP(k n1:Int)(s:ByteArray)(c:C)(W:World)(hs:s.size<=maxLen):Calls prog 94 #[.agg #[.int .i64 k,.int .i64 n1,.string s],.agg #[.string c.nm,.int .i64 c.kd,.bool c.mu,.string c.tgt]] W fun e w'=>e=.returned (.bool (lq c.kd (k,n1,s)))/\Below W.heap.size W w':=by
 have j:=aD W (.cells #[.int .i64 k,.int .i64 n1,.string s] 32);have f:=z7 W (.cells #[.int .i64 k,.int .i64 n1,.string s] 32);have d:=aD (W.alloc (.cells #[.int .i64 k,.int .i64 n1,.string s] 32)) (.cells #[.string c.nm,.int .i64 c.kd,.bool c.mu,.string c.tgt] 107);have l:=z7 (W.alloc (.cells #[.int .i64 k,.int .i64 n1,.string s] 32)) (.cells #[.string c.nm,.int .i64 c.kd,.bool c.mu,.string c.tgt] 107);have f:=aE d f;have a:=(fun y=>xH k n1 s y hs);have d:=aC j d;obtain⟨t,g⟩:=ae ((W.alloc (.cells #[.int .i64 k,.int .i64 n1,.string s] 32)).alloc (.cells #[.string c.nm,.int .i64 c.kd,.bool c.mu,.string c.tgt] 107));obtain⟨B,o⟩:=ae W.heap.size;rw[zm]at l;rw[g]at f l d;rw[o]at f l;have h:=aa (ab g o);have i:=aa (ab f (ab l d));unfold lq;simp only;obtain⟨p,m⟩:=ae (jh k n1 s.data.toList);rw[m]at a ⊢;have w:=aA f 0;have x:=aA f 1;have z:=aA f 2;have a:=a t;clear g o j d f l m;cases p with
 | false =>
  simp only[Bool.false_and];go_enter func94,ntmps94;go_upto_region 1 with fail;rw[h.1,h.2];go_wp2_with (go_at_call 124;refine a.mono ?_;rintro e r⟨rfl,b⟩;have n:=aa (aC i.2.2 b);clear b a);go_ret;exact⟨rfl,n.out⟩
 | true =>
  by_cases q:k=0
  ·subst q;go_enter func94,ntmps94;go_upto_region 1 with fail;rw[h.1,h.2];go_wp2_with (go_at_call 124;refine a.mono ?_;rintro e r⟨rfl,b⟩;have n:=aa (aC i.2.2 b);have u:=aA (aE b i.1) 0;clear b a);go_ret;exact⟨by simp,n.out⟩
  ·have e0:(k==0)=false:=(by simp[q]);go_enter func94,ntmps94;go_upto_region 1 with fail;rw[h.1,h.2];go_wp2_with (go_at_call 124;refine a.mono ?_;rintro e r⟨rfl,b⟩;have n:=aa (aC i.2.2 b);have u:=aA (aE b i.1) 0;have A:=aA (aE b i.2.1) 1;clear b a);go_ret;refine⟨?_,n.out⟩;have v:(k==c.kd)=decide (k=c.kd):=(by rw[wu];simp);show Ending.returned (.bool (k==c.kd))=_;rw[yp q,v]
   simp
theorem Db:(prog.info? 161).map (fun i=>(i.zero,i.size,i.bytes))=some (some (.agg #[.int .i64 0,.slice none 0 0]),2,32):=by kernel_rfl
theorem Di(y:World){v:Value}{m:Nat}{xs:List Value}(hr:ac y 0 161 2 v m xs)(hm:m+1<=1000000)(id:Int)(u:Value)(hu:u.oneCell'=true):∃g a w',(Builtin.append_ #[159,159] 159 #[v,.slice (some ⟨y.heap.size,0,none⟩) 1 1]).run prog (y.alloc (.cells #[.int .i64 id,u] 161))=.ok (.slice (some ⟨g,0,none⟩) (m+1) a) w'/\ac w' 0 161 2 (.slice (some ⟨g,0,none⟩) (m+1) a) (m+1) (xs++[.int .i64 id,u])/\y.grownBy w' v.ownBlock/\(v.ownBlock=some g∨y.heap.size<=g):=
 lj underlying159 Db rfl (by decide) (by decide) y 0 hr hm (zj _) #[.int .i64 id,u] rfl (by
  intro x b;rcases List.mem_cons.1 b with rfl|b
  ·rfl
  ·rw[List.mem_singleton.1 b];exact hu)
namespace Par
theorem fq{P:Program}{ops:Array Oper}{A:Act}{R:Value->World->Prop}{o:Oper}{w w':World}{vs vx v':Value}(hgd:o.guard=none)(s x:Operand)(t u:TypeId)(ho:o.op=.call { callee:=.builtin .append,args:=#[s,x],argTypes:=#[t,u] })(hs:A.eval s=vs)(hx:A.eval x=vx)(hr:(Builtin.append_ #[t,u] o.type #[vs,vx]).run P w=.ok v' w')(h:R v' w'):af P ops A R o w:=by
 have a:Region.wanted o (yielded ops A.tmps)=true:=(by simp[Region.wanted,hgd]);unfold af;rw[zw a];unfold execOp;simp only[ho,resolve,invoke,builtin,Sem.run_bind,Sem.run_pure,Result.andThen_ok,List.map_toArray,List.map_cons,List.map_nil,hs,hx,hr];exact h
end Par
structure IJ (W0:World) (E:Nat->Value) (rv:Value) (n:Nat) (xs:List Value) (id:Int) (vals:List T3) (l:Nat->Bool) (vs:Nat->Value) (w:World):Prop where
 gb:W0.grownBy w rv.ownBlock
 f0:l 17=false->Below W0.heap.size W0 w
 ev:∀j,j<14∨j=18->l j=true->vs j=E j
 f14:l 14=true->∃g c,vs 14=.slice (some ⟨g,0,none⟩) vals.length c/\ac w 0 32 3 (.slice (some ⟨g,0,none⟩) vals.length c) vals.length (cells3 vals)/\W0.heap.size<=g
 f15:l 15=true->vs 15=.agg #[.int .i64 id,vs 14]
 f16:l 16=true->l 17=false->∃y,w=y.alloc (.cells #[.int .i64 id,vs 14] 161)/\vs 16=.slice (some ⟨y.heap.size,0,none⟩) 1 1/\Below W0.heap.size W0 y/\∀q,(vs 14).ownBlock=some q->q<y.heap.size
 f17:l 17=true->∃g cap,vs 17=.slice (some ⟨g,0,none⟩) (n+1) cap/\ac w 0 161 2 (.slice (some ⟨g,0,none⟩) (n+1) cap) (n+1) (xs++[.int .i64 id,vs 14])/\(rv.ownBlock=some g∨W0.heap.size<=g)/\∀q,(vs 14).ownBlock=some q->q≠g
theorem jL{W0 w:World}{o:Option Nat}(h:Below W0.heap.size W0 w):W0.grownBy w o:=⟨h.os,h.tape,h.output,h.size,fun q a _=>h.block q a⟩
section
open Par
variable{W0 w w':World}{E:Nat->Value}{rv:Value}{n:Nat}{xs:List Value}{id:Int}{vals:List T3}{l:Nat->Bool}{vs:Nat->Value}
theorem IJ.up(h:IJ W0 E rv n xs id vals l vs w)(i:Nat)(hi:i<14∨i=18):IJ W0 E rv n xs id vals (fg l i) (ef vs i (E i)) w:=by
 have k:∀j,j=14∨j=15∨j=16∨j=17->fg l i j=l j/\ef vs i (E i) j=vs j:=(fun j b=>⟨aL (by omega),aO (by omega)⟩);refine⟨h.gb,fun a=>h.f0 ((k 17 (by simp)).1▸a),fun j b a=>?_,fun a=>?_,fun a=>?_,fun c d=>?_,fun a=>?_⟩
 ·by_cases e:j=i
  ·subst e;rw[bI]
  rw[aO e];rw[aL e]at a;exact h.ev j b a
 ·rw[(k 14 (by simp)).1]at a;rw[(k 14 (by simp)).2];exact h.f14 a
 ·rw[(k 15 (by simp)).1]at a;rw[(k 15 (by simp)).2,(k 14 (by simp)).2];exact h.f15 a
 ·rw[(k 16 (by simp)).1]at c;rw[(k 17 (by simp)).1]at d;rw[(k 16 (by simp)).2,(k 14 (by simp)).2];exact h.f16 c d
 rw[(k 17 (by simp)).1]at a;rw[(k 17 (by simp)).2,(k 14 (by simp)).2];exact h.f17 a
theorem IJ.CM(h:IJ W0 E rv n xs id vals l vs w)(h15:l 15=false)(h16:l 16=false)(h17:l 17=false){g c:Nat}(hr:ac w' w.heap.size 32 3 (.slice (some ⟨g,0,none⟩) vals.length c) vals.length (cells3 vals))(hb:Below w.heap.size w w'):IJ W0 E rv n xs id vals (fg l 14) (ef vs 14 (.slice (some ⟨g,0,none⟩) vals.length c)) w':=by
 have b:=aC (h.f0 h17) hb;refine⟨jL b,fun _=>b,fun j d a=>?_,fun _=>⟨g,c,bI,ac.mono hr (zj _),zx (h.f0 h17).size (ac.lt hr g rfl).1⟩,fun a=>?_,fun a=>?_,fun a=>?_⟩
 ·rw[aO (by omega)];rw[aL (by omega)]at a;exact h.ev j d a
 ·rw[aL (by decide),h15]at a;cases a
 ·rw[aL (by decide),h16]at a;cases a
 rw[aL (by decide),h17]at a;cases a
theorem IJ.s15(h:IJ W0 E rv n xs id vals l vs w)(h16:l 16=false)(h17:l 17=false):IJ W0 E rv n xs id vals (fg l 15) (ef vs 15 (.agg #[.int .i64 id,vs 14])) w:=by
 refine⟨h.gb,fun _=>h.f0 h17,fun j b a=>?_,fun a=>?_,fun _=>?_,fun a=>?_,fun a=>?_⟩
 ·rw[aO (by omega)];rw[aL (by omega)]at a;exact h.ev j b a
 ·rw[aL (by decide)]at a;rw[aO (by decide)];exact h.f14 a
 ·rw[bI,aO (by decide)]
 ·rw[aL (by decide),h16]at a;cases a
 rw[aL (by decide),h17]at a;cases a
theorem IJ.s16(h:IJ W0 E rv n xs id vals l vs w)(h14:l 14=true)(h17:l 17=false):IJ W0 E rv n xs id vals (fg l 16) (ef vs 16 (.slice (some ⟨w.heap.size,0,none⟩) 1 1)) (w.alloc (.cells #[.int .i64 id,vs 14] 161)):=by
 have b:=aC (h.f0 h17) (aD w (.cells #[.int .i64 id,vs 14] 161));obtain⟨g,c,e,d,i⟩:=h.f14 h14;refine⟨jL b,fun _=>b,fun j k a=>?_,fun a=>?_,fun a=>?_,fun _ _=>⟨w,?_,bI,h.f0 h17,fun q f=>?_⟩,fun a=>?_⟩
 ·rw[aO (by omega)];rw[aL (by omega)]at a;exact h.ev j k a
 ·rw[aO (by decide)];exact⟨g,c,e,d.later (aD _ _),i⟩
 ·rw[aL (by decide)]at a;rw[aO (by decide),aO (by decide)];exact h.f15 a
 ·rw[aO (by decide)]
 ·rw[aO (by decide),e]at f;exact(ac.lt d q f).2
 rw[aL (by decide),h17]at a;cases a
theorem IJ.Cy(h:IJ W0 E rv n xs id vals l vs w)(h14:l 14=true)(hW:ac W0 0 161 2 rv n xs){y:World}{v:Value}(h16:w=y.alloc (.cells #[.int .i64 id,vs 14] 161))(hy:Below W0.heap.size W0 y)(h14y:∀q,(vs 14).ownBlock=some q->q<y.heap.size){g cap:Nat}(hv:v=.slice (some ⟨g,0,none⟩) (n+1) cap)(hr:ac w' 0 161 2 (.slice (some ⟨g,0,none⟩) (n+1) cap) (n+1) (xs++[.int .i64 id,vs 14]))(hg:y.grownBy w' rv.ownBlock)(ho:rv.ownBlock=some g∨y.heap.size<=g):IJ W0 E rv n xs id vals (fg l 17) (ef vs 17 v) w':=by
 obtain⟨a,c,e,p,r⟩:=h.f14 h14;have i:∀q,rv.ownBlock=some q->q<W0.heap.size:=(fun q d=>(ac.lt hW q d).2);have f:a<y.heap.size:=h14y a (by rw[e];rfl);have m:W0.grownBy w' rv.ownBlock:=⟨hg.os.trans hy.os,hg.tape.trans hy.tape,hg.output.trans hy.output,zx hy.size hg.size,fun q d s=>(hg.block q (z9 d hy.size) s).trans (hy.block q d)⟩;refine⟨m,fun b=>?_,fun j t b=>?_,fun b=>?_,fun b=>?_,fun _ b=>?_,fun _=>⟨g,cap,bI.trans hv,?_,ho.imp (fun h=>h) (fun h=>zx hy.size h),fun q d u=>?_⟩⟩
 ·rw[cJ]at b;cases b
 ·rw[aO (by omega)];rw[aL (by omega)]at b;exact h.ev j t b
 ·rw[aO (by decide)];refine⟨a,c,e,p.of (fun k x=>?_),r⟩;cases x;rw[hg.block a f (fun e=>by have:=i a e.symm;omega),h16];exact(aD y _).block a f |>.symm
 ·rw[aL (by decide)]at b;rw[aO (by decide),aO (by decide)];exact h.f15 b
 ·rw[cJ]at b;cases b
 ·rw[aO (by decide)];exact hr
 rw[aO (by decide),e]at d;cases d;subst u;rcases ho with o|o
 ·have:=i a o;omega
 exact absurd f (Nat.not_lt.2 o)
end
section
variable{W:World}{b:Nat}{ts:List T}{tt:List RT}{i:NI}{O:Nat->Nat}{t:Nat}{y:RT}
theorem Ds{S:Nat->Prop}{vv:Value}{vals:List T3}(h:im W b ts tt i O)(ht:t<ts.length)(hy:tt[t]?=some y)(hv:fk S W vv vals)(hs:∀x∈vals,x.2.2.size<=maxLen)(hc:ts[t].cols.length<=1000)(hl:vals.length<=1000000)(hno:ei ts[t] vals≠0):Calls prog 58 #[.pointer (some ⟨b,0,none⟩),.int .i64 (t:Int),vv] W fun e w'=>e=.returned (.tuple #[.int .i64 0,.int .i64 (ei ts[t] vals)])/\Below W.heap.size W w':=by
 obtain⟨⟨gs,cs,go,co,gn,cn,pc,kc,pd,a2⟩,_,_,_,_,_,_,f⟩:=h.reads ht hy;obtain⟨o,F⟩:=ae (ts[t]'ht);simp only[F]at f hc hno ⊢;obtain⟨s,G⟩:=ae ts.length;have a3:(t:Int)<(s:Int):=(by omega);have a4:t<s:=by omega
 have X:∀w,Below W.heap.size W w->w.cell? ⟨b,0,none⟩=some (.slice (some ⟨gs,0,none⟩) s cs)/\w.cell? ⟨gs,t*4+1,none⟩=some (.slice pc o.cols.length kc)/\b<w.heap.size/\gs<w.heap.size/\fj w (.slice pc o.cols.length kc) o.cols:=fun w l=>by
  have k:=f w l;exact⟨by rw[<-G];exact k.b0,k.s1,k.bl,k.sl,k.rd⟩
 obtain⟨p,a0,rfl,_,_⟩:=hv.slice;obtain⟨n,P⟩:=ae vals.length;obtain⟨nc,H⟩:=ae o.cols.length;have a5:(n:Int)<=1000000:=(by omega);have a1:(nc:Int)<=1000:=(by omega);obtain⟨d1,d2,d3,d4,_⟩:=X W (zg _ _);rw[H]at d2;by_cases I:vals.length=o.cols.length
 ·have q:ft o vals=false:=by
   cases h1:ft o vals with
   | false=>rfl
   | true=>exact absurd (by unfold ei;rw[zu (by omega),h1];rfl) hno
  have Q:ei o vals=4:=(by unfold ei;rw[zu (by omega),q];rfl);rw[Q,P];obtain rfl:n=nc:=(by omega);have HF:=aa X;have HV:=aa hv;have HS:=aa hs;have R:=aa (ab P (ab H q));clear h X hv hs hno Q q P hc hl I hy G f F;go_enter func58,ntmps58;go_wp2_with fail;go_loopg [8] (n+1) (fun gh jv w=>∃(j:Nat),jv=.int .i64 (j:Int)/\j<=n/\n+1<=j+gh/\(∀m,m<j->AC o vals m=true)/\Below W.heap.size W w)
  case atStart=>exact⟨0,rfl,zj _,by omega,fun m hm=>absurd hm (yh m),zg _ _⟩
  obtain⟨j,rfl,hj,hg,hA,Y⟩:=hrel;by_cases U:j<n
  ·have a6:(j:Int)<(n:Int):=(by omega);have V:j<o.cols.length:=(by rw[R.2.1];exact U);have J:j<vals.length:=(by rw[R.1];exact U);obtain⟨b1,o1,rfl,_,y⟩:=(HV.out.later Y).val J;obtain⟨e1,e2,e3,e4,e5⟩:=HF.out wr Y;obtain⟨b2,o2,rfl,_,z⟩:=fj.col e5 V;obtain⟨u,hu⟩:=ae (vals[j]);obtain⟨c,L⟩:=ae (o.cols[j]);have M:=HS.out _ (z8 J);rw[hu]at y M;rw[L]at z;rw[R.2.1]at e2;have E:AC o vals j=lq c.kd u:=(by rw[qE V J,hu,L]);have g:∀w,Below wr.heap.size wr w->∀{a:Addr} {v:Value},wr.cell? a=some v->w.cell? a=some v:=fun w l {a v} h=>(ze (w:=wr) (l.block _ (xh _ _ h))).trans h
   have r:Hid (∀w,Below wr.heap.size wr w->(w.cell? ⟨b1,o1+j*3,none⟩=some (.int .i64 u.1)/\w.cell? ⟨b1,o1+j*3+1,none⟩=some (.int .i64 u.2.1)/\w.cell? ⟨b1,o1+j*3+2,none⟩=some (.string u.2.2))/\(w.cell? ⟨b,0,none⟩=some (.slice (some ⟨gs,0,none⟩) s cs)/\w.cell? ⟨gs,t*4+1,none⟩=some (.slice (some ⟨b2,o2,none⟩) n kc))/\(b<w.heap.size/\gs<w.heap.size)/\(w.cell? ⟨b2,o2+j*4,none⟩=some (.string c.nm)/\w.cell? ⟨b2,o2+j*4+1,none⟩=some (.int .i64 c.kd)/\w.cell? ⟨b2,o2+j*4+2,none⟩=some (.bool c.mu)/\w.cell? ⟨b2,o2+j*4+3,none⟩=some (.string c.tgt))):=aa (fun w l =>
    ⟨⟨g w l y.1,g w l y.2.1,g w l y.2.2⟩,⟨g w l e1,g w l e2⟩,⟨z9 e3 l.size,z9 e4 l.size⟩,⟨g w l z.1,g w l z.2.1,g w l z.2.2.1,g w l z.2.2.2⟩⟩)
   have d:=(fun w=>mP u.1 u.2.1 u.2.2 c w M);have Z:=aa (ab Y (ab hA E));clear Y hA y z e1 e2 e3 e4 e5 hu L M g E d1 d2 d3 d4;go_upto_region 6 with fail;refine Par.ag 15 [.slice (some ⟨b1,o1,none⟩) n a0,.int .i64 (j:Int),.pointer (some ⟨b1,o1+j*3,none⟩),.agg #[.int .i64 u.1,.int .i64 u.2.1,.string u.2.2],.pointer (some ⟨b,0,none⟩),.pointer (some ⟨b,0,none⟩),.pointer (some ⟨b,0,none⟩),.slice (some ⟨gs,0,none⟩) s cs,.int .i64 (t:Int),.pointer (some ⟨gs,t*4,none⟩),.pointer (some ⟨gs,t*4+1,none⟩),.slice (some ⟨b2,o2,none⟩) n kc,.int .i64 (j:Int),.pointer (some ⟨b2,o2+j*4,none⟩),.agg #[.string c.nm,.int .i64 c.kd,.bool c.mu,.string c.tgt]] (fun w=>Below wr.heap.size wr w) ?A1 ?hm1 ?hB1 ?hA1 (aG wr) ?hop1 ?hT1
   case hm1=>kernel_rfl
   case hB1=>kernel_rfl
   case hA1 =>
    simp only[Par.am,Par.ai,Act.put,eh,ez,dz,eo,ew,ey,ed,ic,gy];rfl
   case hop1 =>
    simp only[en,zh,Par.ah,yo];and_intros<;>intro w' f<;>have N:=aa f
    rotate_left 3;have x0:=(r.out w' f).1.1;have x1:=(r.out w' f).1.2.1;have x2:=(r.out w' f).1.2.2;rotate_left 2;have zl:=(r.out w' f).2.2.1.1;rotate_left;have zl:=(r.out w' f).2.2.1.1;rotate_left;have x0:=(r.out w' f).2.1.1;rotate_left 3;have zl:=(r.out w' f).2.2.1.2;rotate_left;have x0:=(r.out w' f).2.1.2;rotate_left 3;have x0:=(r.out w' f).2.2.2.1;have x1:=(r.out w' f).2.2.2.2.1;have x2:=(r.out w' f).2.2.2.2.2.1;have x3:=(r.out w' f).2.2.2.2.2.2;rotate_left
    all_goals(clear f;simp only[Par.Gives];go_simp;all_goals exact N.out)
   intro w' f;simp only[ex,ye];have N:=aa f;have d:=d w';clear f;cases A:lq c.kd u
   ·rw[show(u.1,u.2.1,u.2.2)=u from rfl,A]at d;clear A;go_wp2_with (go_at_call 94;refine d.mono ?_;rintro e w4⟨rfl,B⟩;have H4:=aa (aC Z.1 (N.out.trans (B.mono N.out.size)));clear d B);go_ret2;exact⟨rfl,H4.out⟩
   rw[show(u.1,u.2.1,u.2.2)=u from rfl,A]at d;have HI:=aa A;clear A;go_wp2_with (go_at_call 94;refine d.mono ?_;rintro e w4⟨rfl,B⟩;have H4:=aa (aC Z.1 (N.out.trans (B.mono N.out.size)));clear d B);go_roundg (n-j)
   case measure=>omega
   case rel=>exact⟨j+1,rfl,by omega,by omega,fun m hm=>(by
    by_cases em:m=j
    ·rw[em,Z.2.2];exact HI.out
    exact Z.2.1 m (by omega)),H4.out⟩
  exfalso;have q:=R.2.2;have:ft o vals=true:=(jJ fun m hm=>hA m (by have:=R.2.1;omega));rw[this]at q;cases q
 have Q:ei o vals=1:=(by unfold ei;rw[zw I]);have hd:((n:Int) != (nc:Int))=true:=(by simp;omega);rw[Q,P];clear h X hv hs hno Q P H I hc hl hy G f F;go_enter func58,ntmps58;go_wp2_with fail;go_ret2;exact⟨rfl,zg _ _⟩
theorem DS{S:Nat->Prop}{vv:Value}{vals:List T3}(h:im W b ts tt i O)(ht:t<ts.length)(hy:tt[t]?=some y)(hv:fk S W vv vals)(hS:∀q,S q->O q=0)(hs:∀x∈vals,x.2.2.size<=maxLen)(hc:ts[t].cols.length<=1000)(h0:0<ts[t].cols.length)(hl:vals.length<=1000000)(b7:y.A.length<=100000)(hnx:y.nx<=100000)(hyes:ei ts[t] vals=0):Calls prog 58 #[.pointer (some ⟨b,0,none⟩),.int .i64 (t:Int),vv] W fun e w'=>e=.returned (.tuple #[.int .i64 (y.nx:Int),.int .i64 0])/\∃x O',im w' b ts (tt.set t x) i O'/\x.nx=y.nx+1/\x.A=y.A++[((y.nx:Int),vals)]/\Ext W O O'/\Tn (fun q=>O q≠0) W w':=by
 obtain⟨⟨gs,cs,go,co,gn,cn,pc,kc,pd,j5⟩,_,o1,n1,a3,g9,h3,F⟩:=h.reads ht hy;obtain⟨T0,b8⟩:=ae (ts[t]'ht);simp only[b8]at F hc h0 hyes;obtain⟨B,a0⟩:=ae ts.length;have j6:(t:Int)<(B:Int):=(by omega);have j7:t<B:=by omega
 have hF:∀w,Below W.heap.size W w->w.cell? ⟨b,0,none⟩=some (.slice (some ⟨gs,0,none⟩) B cs)/\w.cell? ⟨gs,t*4+1,none⟩=some (.slice pc T0.cols.length kc)/\b<w.heap.size/\gs<w.heap.size/\fj w (.slice pc T0.cols.length kc) T0.cols:=fun w H=>by
  have k:=F w H;exact⟨by rw[<-a0];exact k.b0,k.s1,k.bl,k.sl,k.rd⟩
 have e7:Hid (∀w,Below W.heap.size W w->w.cell? ⟨b,2,none⟩=some (.slice (some ⟨gn,0,none⟩) B cn)/\w.cell? ⟨gn,t,none⟩=some (.int .i64 (y.nx:Int))/\w.frozen? ⟨gn,t,none⟩=false/\gn<w.heap.size):=aa (fun w H=>by
  have k:=F w H;exact⟨by rw[<-a0];exact k.b2,k.n0,k.nf,k.nl⟩)
 obtain⟨o,s⟩:=ae y.nx;simp only[s]at e7;obtain⟨p,b9,rfl,_,_⟩:=hv.slice;obtain⟨n,hn⟩:=ae vals.length;obtain⟨nc,e8⟩:=ae T0.cols.length;have j8:(n:Int)<=1000000:=(by omega);have j3:(nc:Int)<=1000:=(by omega);obtain⟨d1,d2,d3,d4,_⟩:=hF W (zg _ _);rw[e8]at d2
 have h4:vals.length=T0.cols.length:=by
  by_cases e:vals.length=T0.cols.length
  ·exact e
  unfold ei at hyes;rw[zw e]at hyes;cases hyes
 have e9:ft T0 vals=true:=by
  unfold ei at hyes;rw[zu (by omega)]at hyes;cases h1:ft T0 vals with
  | true=>rfl
  | false=>rw[h1]at hyes;cases hyes
 rw[hn];obtain rfl:n=nc:=(by omega);have HF:=aa hF;have HV:=aa (ab hv hS);have h5:=aa hs;have HN:=aa (ab hn (ab e8 e9));have HD:=aa (ab h (ab hc (ab h0 (ab b7 (ab o1 (ab n1 (ab a3 (ab a0 (ab hy s)))))))));have HT:=aa ht;have h6:=aa b8;have j4:(o:Int)<=100000:=(by omega);rw[s];clear h hF hv hs hyes e9 hn hc hl h4 hS h0 b7 F hy o1 n1 hnx h3 a3 g9 a0 s b8;go_enter func58,ntmps58;go_wp2_with fail;go_loopg [8] (n+1) (fun gh jv w=>∃(j:Nat),jv=.int .i64 (j:Int)/\j<=n/\n+1<=j+gh/\Below W.heap.size W w)
 case atStart=>exact⟨0,rfl,zj _,by omega,zg _ _⟩
 obtain⟨j,rfl,hj,hg,hB⟩:=hrel;by_cases f1:j<n
 ·have j9:(j:Int)<(n:Int):=(by omega);have c0:j<T0.cols.length:=(by rw[HN.2.1];exact f1);have c1:j<vals.length:=(by rw[HN.1];exact f1);obtain⟨b1,o1,rfl,_,y⟩:=(HV.1.later hB).val c1;obtain⟨e1,e2,e3,e4,e5⟩:=HF.out wr hB;obtain⟨b2,o2,rfl,_,z⟩:=fj.col e5 c0;obtain⟨u,hu⟩:=ae (vals[j]);obtain⟨c,c2⟩:=ae (T0.cols[j]);have c3:=h5.out _ (z8 c1);rw[hu]at y c3;rw[c2]at z;rw[HN.2.1]at e2
  have b4:lq c.kd u=true:=by
   have h1:=qE c0 c1;rw[hu,c2]at h1;rw[<-h1];have h2:=HN.2.2;unfold ft at h2;exact List.all_eq_true.1 h2 j (List.mem_range.2 c0)
  have G:∀w,Below wr.heap.size wr w->∀{a:Addr} {v:Value},wr.cell? a=some v->w.cell? a=some v:=fun w H {a v} h=>(ze (w:=wr) (H.block _ (xh _ _ h))).trans h
  have HC:Hid (∀w,Below wr.heap.size wr w->(w.cell? ⟨b1,o1+j*3,none⟩=some (.int .i64 u.1)/\w.cell? ⟨b1,o1+j*3+1,none⟩=some (.int .i64 u.2.1)/\w.cell? ⟨b1,o1+j*3+2,none⟩=some (.string u.2.2))/\(w.cell? ⟨b,0,none⟩=some (.slice (some ⟨gs,0,none⟩) B cs)/\w.cell? ⟨gs,t*4+1,none⟩=some (.slice (some ⟨b2,o2,none⟩) n kc))/\(b<w.heap.size/\gs<w.heap.size)/\(w.cell? ⟨b2,o2+j*4,none⟩=some (.string c.nm)/\w.cell? ⟨b2,o2+j*4+1,none⟩=some (.int .i64 c.kd)/\w.cell? ⟨b2,o2+j*4+2,none⟩=some (.bool c.mu)/\w.cell? ⟨b2,o2+j*4+3,none⟩=some (.string c.tgt))):=aa (fun w H =>
   ⟨⟨G w H y.1,G w H y.2.1,G w H y.2.2⟩,⟨G w H e1,G w H e2⟩,⟨z9 e3 H.size,z9 e4 H.size⟩,⟨G w H z.1,G w H z.2.1,G w H z.2.2.1,G w H z.2.2.2⟩⟩)
  have I:=(fun w=>mP u.1 u.2.1 u.2.2 c w c3);rw[show(u.1,u.2.1,u.2.2)=u from rfl,b4]at I;have HB:=aa hB;clear hB y z e1 e2 e3 e4 e5 hu c2 c3 G b4 d1 d2 d3 d4;go_upto_region 6 with fail;refine Par.ag 15 [.slice (some ⟨b1,o1,none⟩) n b9,.int .i64 (j:Int),.pointer (some ⟨b1,o1+j*3,none⟩),.agg #[.int .i64 u.1,.int .i64 u.2.1,.string u.2.2],.pointer (some ⟨b,0,none⟩),.pointer (some ⟨b,0,none⟩),.pointer (some ⟨b,0,none⟩),.slice (some ⟨gs,0,none⟩) B cs,.int .i64 (t:Int),.pointer (some ⟨gs,t*4,none⟩),.pointer (some ⟨gs,t*4+1,none⟩),.slice (some ⟨b2,o2,none⟩) n kc,.int .i64 (j:Int),.pointer (some ⟨b2,o2+j*4,none⟩),.agg #[.string c.nm,.int .i64 c.kd,.bool c.mu,.string c.tgt]] (fun w=>Below wr.heap.size wr w) ?A2 ?hm2 ?hB2 ?hA2 (aG wr) ?hop2 ?hT2
  case hm2=>kernel_rfl
  case hB2=>kernel_rfl
  case hA2 =>
   simp only[Par.am,Par.ai,Act.put,eh,ez,dz,eo,ew,ey,ed,ic,gy];rfl
  case hop2 =>
   simp only[en,zh,Par.ah,yo];and_intros<;>intro w' F<;>have HR:=aa F
   rotate_left 3;have x0:=(HC.out w' F).1.1;have x1:=(HC.out w' F).1.2.1;have x2:=(HC.out w' F).1.2.2;rotate_left 2;have zl:=(HC.out w' F).2.2.1.1;rotate_left;have zl:=(HC.out w' F).2.2.1.1;rotate_left;have x0:=(HC.out w' F).2.1.1;rotate_left 3;have zl:=(HC.out w' F).2.2.1.2;rotate_left;have x0:=(HC.out w' F).2.1.2;rotate_left 3;have x0:=(HC.out w' F).2.2.2.1;have x1:=(HC.out w' F).2.2.2.2.1;have x2:=(HC.out w' F).2.2.2.2.2.1;have x3:=(HC.out w' F).2.2.2.2.2.2;rotate_left
   all_goals(clear F;simp only[Par.Gives];go_simp;all_goals exact HR.out)
  intro w' F;simp only[ex,ye];have HR:=aa F;have I:=I w';clear F;go_wp2_with (go_at_call 94;refine I.mono ?_;rintro e w4⟨rfl,f2⟩;have H4:=aa (aC HB.out (HR.out.trans (f2.mono HR.out.size)));clear I f2);go_roundg (n-j)
  case measure=>omega
  exact⟨j+1,rfl,by omega,by omega,H4.out⟩
 obtain rfl:j=n:=(by omega);obtain⟨hD,hc,h0,b7,o1,n1,a3,a0,hy,s⟩:=HD.out;have ht:=HT.out;have hD:=hD.later hB;obtain⟨n4,n3,n5,n6⟩:=e7.out wr hB;have n1:i.nv=.slice (some ⟨gn,0,none⟩) ts.length cn:=n1;obtain⟨P,a1⟩:=hD.setnext ht hy n1;rw[s]at P a1;have xl:=aB hD.box;have c5:=(HV.1.later hB).tn a1 (fun q hq=>fun h=>h (HV.2 q hq));have c6:=a1.size;have HB:=aa hB;clear hD n1 d1 d2 d3 d4 hB;go_upto_region 10 with fail;obtain⟨w5,c8⟩:=ae (wr.setCell ⟨gn,t,none⟩ (.int .i64 ((o:Int)+1)));rw[c8]at P a1 c5 c6;rw[c8];clear c8 n3 n4 n5 n6 xl;have h7:t<tt.length:=(by have:=(List.getElem?_eq_some_iff.1 hy).1;omega);have a8:(tt.set t { y with nx:=o+1 })[t]?=some { y with nx:=o+1 }:=(by rw[List.getElem?_set,zw rfl,zw h7]);obtain⟨Q,_,p1,_,_,_,_,J⟩:=P.reads ht a8;have J:=J w5 (zg _ _);have a9:i.ov=.slice (some ⟨go,0,none⟩) ts.length co:=o1;rw[a9]at p1;obtain⟨rfl,rfl⟩:go=Q.go/\co=Q.co:=(by injection p1 with p1 _ p2;injection p1 with p1;injection p1 with p1;exact⟨p1,p2⟩);have o3:w5.cell? ⟨Q.go,t,none⟩=some y.rv:=J.o0;have o4:w5.cell? ⟨b,1,none⟩=some (.slice (some ⟨Q.go,0,none⟩) B Q.co):=(by rw[<-a0];exact J.b1);have o2:=J.ol;have xl:=J.bl;have b3:=P.ok ht a8;have f3:ac w5 0 161 2 y.rv y.A.length (jy y.A y.vs):=b3.rows;have c9:∀q,y.rv.ownBlock=some q->O q=5+2*t:=b3.orv;have h8:O Q.go=3:=a3;have h9:=P.o1;have b5:=J.oF
 have L:Hid (∀w,w5.grownBy w y.rv.ownBlock->w.cell? ⟨Q.go,t,none⟩=some y.rv/\w.cell? ⟨b,1,none⟩=some (.slice (some ⟨Q.go,0,none⟩) B Q.co)/\b<w.heap.size/\Q.go<w.heap.size/\w.frozen? ⟨Q.go,t,none⟩=false):=aa (fun w hg=>by
  have f4:=hg.block Q.go o2 (fun e=>by have:=c9 Q.go e.symm;omega);exact⟨(ze (w:=w5) f4).trans o3,(ze (w:=w5) (hg.block b xl (fun e=>by have:=c9 b e.symm;omega))).trans o4,z9 xl hg.size,z9 o2 hg.size,(wq (w:=w5) f4).trans b5⟩)
 obtain⟨go,f5⟩:=ae Q.go;obtain⟨co,f6⟩:=ae Q.co;rw[f5,f6]at L a9;have i0:=aa c5;have f7:=b3.rng;have e6:=(HD.1.ok ht hy).rng;have M:=aa (ab P (ab a1 (ab c6 (ab f3 (ab a9 (ab a8 e6))))));clear P a1 c5 c6 o1 o2 o3 o4 f3 c9 h8 h9 xl b5 b3 J p1 a9 f7 f5 f6 a8 a3;refine Par.bo 19 (IJ w5 (fun i2=>[.pointer (some ⟨b,0,none⟩),.pointer (some ⟨b,0,none⟩),.pointer (some ⟨b,1,none⟩),.slice (some ⟨go,0,none⟩) B co,.int .i64 (t:Int),.pointer (some ⟨b,0,none⟩),.pointer (some ⟨b,0,none⟩),.pointer (some ⟨b,1,none⟩),.slice (some ⟨go,0,none⟩) B co,.int .i64 (t:Int),.pointer (some ⟨go,t,none⟩),y.rv,.int .i64 (o:Int),.slice p j b9,undef,undef,undef,undef,.pointer (some ⟨go,t,none⟩)].getD i2 undef) y.rv y.A.length (jy y.A y.vs) (o:Int) vals) ?AA ?hmA ?hBA ?hAA ?hJA ?hopA ?hTA
 case hmA=>kernel_rfl
 case hBA=>kernel_rfl
 case hAA =>
  intro vs;simp only[Par.am,Par.ai,Act.put,eh,ez,dz,eo,ew,ey,ed];rfl
 case hJA =>
  intro vs;have m:=aG w5;exact⟨jL m,fun _=>m,fun _ _ h=>(by cases h),fun h=>(by cases h),fun h=>(by cases h),fun h=>(by cases h),fun h=>(by cases h)⟩
 case hopA =>
  simp only[en,zh,Par.ce,yo];and_intros<;>intro l vs w d hl m f
  ·have r:=aa d;obtain⟨U,V,X,Y,Z⟩:=L.out w d.gb;clear d m f;simp only[Par.af];go_simp;all_goals exact r.out.up 0 (by decide)
  ·have r:=aa d;obtain⟨U,V,X,Y,Z⟩:=L.out w d.gb;have d0:vs 0=.pointer (some ⟨b,0,none⟩):=d.ev 0 (by decide) (m 0 (by kernel_rfl));clear d m f;simp only[Par.af,d0];go_simp;all_goals exact r.out.up 1 (by decide)
  ·have r:=aa d;obtain⟨U,V,X,Y,Z⟩:=L.out w d.gb;have d1:vs 1=.pointer (some ⟨b,0,none⟩):=d.ev 1 (by decide) (m 1 (by kernel_rfl));clear d m f;simp only[Par.af,d1];go_simp;all_goals exact r.out.up 2 (by decide)
  ·have r:=aa d;obtain⟨U,V,X,Y,Z⟩:=L.out w d.gb;have d2:vs 2=.pointer (some ⟨b,1,none⟩):=d.ev 2 (by decide) (m 2 (by kernel_rfl));clear d m f;simp only[Par.af,d2];go_simp;all_goals exact r.out.up 3 (by decide)
  ·have r:=aa d;obtain⟨U,V,X,Y,Z⟩:=L.out w d.gb;clear d m f;simp only[Par.af];go_simp;all_goals exact r.out.up 4 (by decide)
  ·have r:=aa d;obtain⟨U,V,X,Y,Z⟩:=L.out w d.gb;clear d m f;simp only[Par.af];go_simp;all_goals exact r.out.up 5 (by decide)
  ·have r:=aa d;obtain⟨U,V,X,Y,Z⟩:=L.out w d.gb;have d5:vs 5=.pointer (some ⟨b,0,none⟩):=d.ev 5 (by decide) (m 5 (by kernel_rfl));clear d m f;simp only[Par.af,d5];go_simp;all_goals exact r.out.up 6 (by decide)
  ·have r:=aa d;obtain⟨U,V,X,Y,Z⟩:=L.out w d.gb;have d6:vs 6=.pointer (some ⟨b,0,none⟩):=d.ev 6 (by decide) (m 6 (by kernel_rfl));clear d m f;simp only[Par.af,d6];go_simp;all_goals exact r.out.up 7 (by decide)
  ·have r:=aa d;obtain⟨U,V,X,Y,Z⟩:=L.out w d.gb;have d7:vs 7=.pointer (some ⟨b,1,none⟩):=d.ev 7 (by decide) (m 7 (by kernel_rfl));clear d m f;simp only[Par.af,d7];go_simp;all_goals exact r.out.up 8 (by decide)
  ·have r:=aa d;obtain⟨U,V,X,Y,Z⟩:=L.out w d.gb;clear d m f;simp only[Par.af];go_simp;all_goals exact r.out.up 9 (by decide)
  ·have r:=aa d;obtain⟨U,V,X,Y,Z⟩:=L.out w d.gb;have d8:vs 8=.slice (some ⟨go,0,none⟩) B co:=d.ev 8 (by decide) (m 8 (by kernel_rfl));have d9:vs 9=.int .i64 (t:Int):=d.ev 9 (by decide) (m 9 (by kernel_rfl));clear d m f;simp only[Par.af,d8,d9];go_simp;all_goals exact r.out.up 10 (by decide)
  ·have r:=aa d;obtain⟨U,V,X,Y,Z⟩:=L.out w d.gb;have i3:vs 10=.pointer (some ⟨go,t,none⟩):=d.ev 10 (by decide) (m 10 (by kernel_rfl));clear d m f;simp only[Par.af,i3];go_simp;all_goals exact r.out.up 11 (by decide)
  ·have r:=aa d;obtain⟨U,V,X,Y,Z⟩:=L.out w d.gb;clear d m f;simp only[Par.af];go_simp;all_goals exact r.out.up 12 (by decide)
  ·have r:=aa d;obtain⟨U,V,X,Y,Z⟩:=L.out w d.gb;clear d m f;simp only[Par.af];go_simp;all_goals exact r.out.up 13 (by decide)
  ·have a4:l 15=false:=(by cases h:l 15 with|false=>rfl|true=>exact absurd (f 15 14 (by kernel_rfl) h) (by simp[hl]));have N:l 16=false:=(by cases h:l 16 with|false=>rfl|true=>exact absurd (f 16 15 (by kernel_rfl) h) (by simp[a4]));have a2:l 17=false:=(by cases h:l 17 with|false=>rfl|true=>exact absurd (f 17 16 (by kernel_rfl) h) (by simp[N]));have i4:vs 13=.slice p vals.length b9:=(by rw[HN.1];exact d.ev 13 (by decide) (m 13 (by kernel_rfl)));obtain⟨g1,k1,w6,a5,i5,i6⟩:=sH (i0.out.later (d.f0 a2)) (by rw[HN.1,<-HN.2.1];exact hc) (by rw[HN.1,<-HN.2.1];exact h0);exact Par.fq rfl (.const (.slice none 0 0)) (.tmp 74) 35 35 rfl rfl i4 a5 (d.CM a4 N a2 i5 i6)
  ·have N:l 16=false:=(by cases h:l 16 with|false=>rfl|true=>exact absurd (f 16 15 (by kernel_rfl) h) (by simp[hl]));have a2:l 17=false:=(by cases h:l 17 with|false=>rfl|true=>exact absurd (f 17 16 (by kernel_rfl) h) (by simp[N]));have i7:vs 12=.int .i64 (o:Int):=d.ev 12 (by decide) (m 12 (by kernel_rfl));obtain⟨g4,c4,E,R,a6⟩:=d.f14 (m 14 (by kernel_rfl));have r:=aa (d.s15 N a2);rw[E]at r;clear d m f R;simp only[Par.af,i7,E];go_simp;all_goals exact r.out
  ·have a2:l 17=false:=(by cases h:l 17 with|false=>rfl|true=>exact absurd (f 17 16 (by kernel_rfl) h) (by simp[hl]));have a4:=m 15 (by kernel_rfl);have f8:=d.f15 a4;have a7:=f 15 14 (by kernel_rfl) a4;obtain⟨g4,c4,E,R,a6⟩:=d.f14 a7;have r:=aa (d.s16 a7 a2);rw[E]at r f8;clear d m f R;simp only[Par.af,f8];go_simp;all_goals exact r.out
  ·have N:=m 16 (by kernel_rfl);have a7:=f 15 14 (by kernel_rfl) (f 16 15 (by kernel_rfl) N);obtain⟨y0,rfl,i8,f9,g0⟩:=d.f16 N hl;obtain⟨g4,c4,E,R,a6⟩:=d.f14 a7;have i9:vs 11=y.rv:=d.ev 11 (by decide) (m 11 (by kernel_rfl));obtain⟨g,cg,w6,a5,j0,j1,j2⟩:=Di y0 (M.2.2.2.1.later f9) (by omega) (o:Int) (vs 14) (by rw[E];rfl);refine Par.fq rfl (.tmp 72) (.tmp 77) 159 159 rfl i9 i8 a5 (d.Cy a7 M.2.2.2.1 rfl f9 g0 rfl j0 j1 j2)
  have r:=aa d;obtain⟨U,V,X,Y,Z⟩:=L.out w d.gb;have d3:vs 3=.slice (some ⟨go,0,none⟩) B co:=d.ev 3 (by decide) (m 3 (by kernel_rfl));have d4:vs 4=.int .i64 (t:Int):=d.ev 4 (by decide) (m 4 (by kernel_rfl));clear d m f;simp only[Par.af,d3,d4];go_simp;all_goals exact r.out.up 18 (by decide)
 intro l vs w4 hl d;simp only[ex,ye];have g2:vs 18=.pointer (some ⟨go,t,none⟩):=d.ev 18 (by decide) (hl 18 (by decide));obtain⟨g4,c4,E,R,a6⟩:=d.f14 (hl 14 (by decide));obtain⟨g7,c7,g3,g5,g6,g8⟩:=d.f17 (hl 17 (by decide));obtain⟨x1,x2,x3,x4,xf⟩:=L.out w4 d.gb;have b6:=M.1.addrow HT.out M.2.2.2.2.2.1 M.2.2.2.2.1 (id:=(o:Int)) (vals:=vals) R (by rw[h6.out,HN.1,HN.2.1]) (E▸g5) d.gb g6 (fun q hq=>⟨by cases hq;exact a6,g8 q (by rw[E];exact hq)⟩) (fun a ha=>by have:=M.2.2.2.2.2.2 a ha;rw[s]at this;exact this) (by show(o:Int)<((o+1:Nat):Int);omega);have HA:=aa b6;simp only[g2,g3,E];clear b6 d hl E R a6 g5 g6 g8 g2 g3 x2;go_wp2_with fail;go_ret2;obtain⟨O',q1,q2,q3⟩:=HA.out;refine⟨rfl,_,O',by rw[List.set_set]at q1;exact q1,rfl,rfl,fun q hq=>q2 q (by have:=HB.out.size;have:=M.2.2.1;omega),?_⟩;exact((Tn.of_below (S:=fun q=>O q≠0) HB.out).trans M.2.1 (fun _ _ h=>h) (fun _ _ h=>h)).trans q3 (fun _ _ h=>h) (fun _ _ h=>h)
end
