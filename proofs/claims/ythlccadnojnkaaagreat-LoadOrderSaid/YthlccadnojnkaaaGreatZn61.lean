import Derived.Test.YthlccadnojnkaaaGreatZn39
namespace Go.Proofs.YthlccadnojnkaaaGreat
open Go.Proofs.Tryz
open Go Go.RowKit Go.Proofs Co Co.S
theorem D'{t e:TypeId}{z:Value}{size bytes:Nat}(ht:prog.underlying t=some (.slice e))(hinf:(prog.info? e).map (fun i=>(i.zero,i.size,i.bytes))=some (some z,size,bytes))(hzs:z.cells.size=size)(hsz:0<size)(hby:bytes<=80)(y:World){v:Value}{n:Nat}{xs:List Value}{base:Nat}(hr:ac y base e size v n xs)(h0:0<n)(hn:n<=1000000)(h1:∀u∈xs,u.oneCell'=true):∃l w',(Builtin.append_ #[t,t] t #[.slice none 0 0,v]).run prog y=.ok l w'/\ac w' y.heap.size e size l n xs/\Below y.heap.size y w':=by
 obtain⟨m,d,f,h,k⟩:=info_parts hinf;obtain⟨g,c,rfl,_,_⟩:=hr.slice h0
 have a:(0+n)*bytes<=140737488355328:=by
  have:(0+n)*bytes<=1000000*80:=Nat.mul_le_mul (by omega) hby
  omega
 obtain⟨A,o,w',p,r,b,_⟩:=aY (P:=prog) y y.heap.size t t e m z size bytes ht d f h k hzs hsz (ac.nil (w:=y) (base:=y.heap.size)) ⟨g,0,none⟩ n c xs hr.1 (fun j u s=>hr.ri s) h1 h0 (by unfold maxLen;omega) a (zm _);rw[xq,uh]at *;exact⟨_,w',p,r,b.os,b.tape,b.output,b.size,fun q x=>b.block q x (by simp[Value.ownBlock])⟩
structure r6 (W w:World) (O:Nat) (ts:List T) (tt:List RT) (fs:List (Value×Value)) (sv ov nv:Value) (lab:Nat->Nat) (cs:List RT):Prop where
 bl:Below W.heap.size W w
 lo:∀q,lab q≠0->W.heap.size<=q/\q<w.heap.size
 box:w.heap[O]?=some (.cells #[sv,ov,nv] 71)
 form:ac w 0 77 4 sv ts.length (dx fs ts)
 nxs:ac w 0 3 1 nv ts.length (tt.map fun x=>.int .i64 (x.nx:Int))
 outer:ac w 0 92 1 ov cs.length (cs.map (·.rv))
 tab:∀j (h:j<ts.length) (h':j<cs.length),ls w ts[j] cs[j] lab j
 key:cs.map bo=(tt.take cs.length).map bo
 o1:lab O=1
 o2:∀q,sv.ownBlock=some q->lab q=2
 o3:∀q,ov.ownBlock=some q->lab q=3
 o4:∀q,nv.ownBlock=some q->lab q=4
section
variable {W w w':World}{O:Nat}{ts:List T}{tt cs:List RT}{fs:List (Value×Value)}{sv ov nv lv:Value}{lab lab':Nat->Nat}{S:Nat->Prop}
theorem r6.tn(h:r6 W w O ts tt fs sv ov nv lab cs)(hk:Tn S w w')(hs:∀q,S q->lab q=0∨5+2*cs.length<=lab q)(hs2:∀q,S q->W.heap.size<=q)(hO:∀q,q<w.heap.size->lab' q=lab q)(hn:∀q,w.heap.size<=q->lab' q≠0->q<w'.heap.size):r6 W w' O ts tt fs sv ov nv lab' cs:=by
 have d:∀q m,lab q=m->m≠0->m<5+2*cs.length->w'.heap[q]?=w.heap[q]?:=(fun q m b i k=>hk.chg.block q (h.lo q (by omega)).2 (fun f=>by have:=hs q f;omega));have g:∀{u:Value} {q m:Nat},u.ownBlock=some q->(∀q,u.ownBlock=some q->lab q=m)->m≠0->lab' q=m:=fun{u q m} b hu i=>(hO q (h.lo q (by rw[hu q b];exact i)).2).trans (hu q b)
 refine⟨h.bl.trans ⟨hk.chg.os,hk.chg.tape,hk.chg.output,hk.chg.size,fun q b=>hk.chg.block q (z9 b h.bl.size) (fun f=>by have:=hs2 q f;omega)⟩,fun q b=>?_,(d O 1 h.o1 (by decide) (by omega)).trans h.box,h.form.of (fun q b=>d q 2 (h.o2 q b) (by decide) (by omega)),h.nxs.of (fun q b=>d q 4 (h.o4 q b) (by decide) (by omega)),h.outer.of (fun q b=>d q 3 (h.o3 q b) (by decide) (by omega)),
  fun j a c=>(h.tab j a c).tn hk (fun q b=>by have:=hs q b;omega) hO,h.key,(hO O (aC h.box)).trans h.o1,fun q b=>g b h.o2 (by decide),fun q b=>g b h.o3 (by decide),fun q b=>g b h.o4 (by decide)⟩
 by_cases e:q<w.heap.size
 ·rw[hO q e]at b;exact⟨(h.lo q b).1,z9 e hk.chg.size⟩
 exact⟨zw h.bl.size (by omega),hn q (by omega) b⟩
theorem r6.round(h:r6 W w O ts tt fs sv ov nv lab cs){t:T}{nx m:Nat}{B:List R1}{vl:List Value}(hm:cs.length=m)(hk:ls w t ⟨lv,nx,B,vl⟩ lab m){a:R1}{v:Value}(hv:ac w' 0 32 3 v a.2.length (cells3 a.2))(hlen:a.2.length=t.cols.length){g cap:Nat}(hr:ac w' 0 99 2 (.slice (some ⟨g,0,none⟩) (B.length+1) cap) (B.length+1) (az B vl++[.int .i64 a.1,v]))(hgr:w.grownBy w' lv.ownBlock)(hg:lv.ownBlock=some g∨w.heap.size<=g)(hvb:∀q,v.ownBlock=some q->w.heap.size<=q/\q≠g)(hid:∀x∈B,x.1<a.1)(hnx:a.1<(nx:Int)):∃lab',r6 W w' O ts tt fs sv ov nv lab' cs/\ls w' t ⟨.slice (some ⟨g,0,none⟩) (B.length+1) cap,nx,B++[a],vl++[v]⟩ lab' m:=by
 have f:∀q,lv.ownBlock=some q->lab q=5+2*m:=hk.orv;have p:Chg (fun q=>lv.ownBlock=some q) w w':=⟨hgr.os,hgr.tape,hgr.output,hgr.size,fun q b r=>hgr.block q b (fun e=>r e.symm)⟩
 have G:Tn (fun q=>lv.ownBlock=some q) w w':=Tn.bq p (fun q _ b=>.inl (by
  obtain⟨_,H,M⟩:=hk.rows.block q b;exact⟨H,99,M,rfl⟩))
 have I:=(ac.lt hr g rfl).2;have u:∀k (l:k<vl.length) q,vl[k].ownBlock=some q->q<w.heap.size:=(fun k l q b=>(h.lo q (by rw[hk.ovs k l q b];omega)).2);have y:∀q,lab q=6+2*m->w'.heap[q]?=w.heap[q]?:=(fun q b=>p.block q (h.lo q (by omega)).2 (fun N=>by have:=f q N;omega));have P:∀q,q<w.heap.size->(if q<w.heap.size then lab q else if q=g then 5+2*m else if v.ownBlock=some q then 6+2*m else 0)=lab q:=(fun q b=>zv b);refine⟨fun q=>if q<w.heap.size then lab q else if q=g then 5+2*m else if v.ownBlock=some q then 6+2*m else 0,h.tn G (fun q b=>.inr (by rw[f q b,hm];exact zm _)) (fun q b=>(h.lo q (by rw[f q b];omega)).1) P (fun q b r=>?_),⟨?_,by simp[hk.n],fun k i l=>?_,fun j k Q i J q b=>?_,fun x d=>?_,?_,fun x d=>?_,fun q b=>?_,fun k i q b=>?_⟩⟩
 ·have r:(if q<w.heap.size then lab q else if q=g then 5+2*m else if v.ownBlock=some q then 6+2*m else 0)≠0:=r;rw[zq (by omega)]at r;by_cases A:q=g
  ·rw[A];exact I
  rw[zq A]at r;by_cases F:v.ownBlock=some q
  ·exact(ac.lt hv q F).2
  rw[zq F]at r;exact absurd rfl r
 ·show ac w' 0 99 2 (.slice (some ⟨g,0,none⟩) (B.length+1) cap) (B++[a]).length (az (B++[a]) (vl++[v]));rw[show B++[a]=B++[(a.1,a.2)]from rfl,lD hk.n,y8];exact hr
 ·rcases eF l with ⟨E,A⟩ | ⟨E,A⟩
  ·have o:k<B.length:=(by rw[<-hk.n];exact E);show ac w' 0 32 3 ((vl++[v])[k]) _ _;rw[A,xc o];exact(hk.vals k o E).of (fun q b=>y q (hk.ovs k E q b))
  show ac w' 0 32 3 ((vl++[v])[k]) _ _;rw[A];have o:k=B.length:=E.trans hk.n;subst o;have F:(B++[a])[B.length]'i=a:=(by simp);rw[F];exact hv
 ·have b:(vl++[v])[j].ownBlock=some q:=b;show(vl++[v])[k].ownBlock≠some q;rcases eF Q with ⟨z,s⟩ | ⟨z,s⟩ <;> rcases eF i with ⟨b1,b2⟩ | ⟨b1,b2⟩
  ·rw[s]at b;rw[b2]
   exact hk.sep j k z b1 J q b
  ·rw[s]at b;rw[b2]
   intro e
   have:=u j z q b
   have:=(hvb q e).1
   omega
  ·rw[s]at b;rw[b2]
   intro e
   have:=u k b1 q e
   have:=(hvb q b).1
   omega
  omega
 ·rcases List.mem_append.1 d with d|d
  ·exact hk.len x d
  rw[List.mem_singleton.1 d];exact hlen
 ·show(B++[a]).Pairwise _;rw[ve];exact⟨hk.srt,List.pairwise_singleton _ _,fun x d c R=>by rw[List.mem_singleton.1 R];exact hid x d⟩
 ·rcases List.mem_append.1 d with d|d
  ·exact hk.rng x d
  rw[List.mem_singleton.1 d];exact hnx
 ·cases b;show(if g<w.heap.size then lab g else if g=g then 5+2*m else _)=5+2*m;rcases hg with L|L
  ·rw[zv (h.lo g (by rw[f g L];omega)).2];exact f g L
  rw[zq (by omega),zv rfl]
 have b:(vl++[v])[k].ownBlock=some q:=b;show(if q<w.heap.size then lab q else if q=g then 5+2*m else if v.ownBlock=some q then 6+2*m else 0)=6+2*m;rcases eF i with ⟨z,s⟩ | ⟨z,s⟩
 ·rw[s]at b;rw[zv (u k z q b)];exact hk.ovs k z q b
 rw[s]at b;obtain⟨c1,c2⟩:=hvb q b;rw[zq (by omega),zq c2,zv b]
theorem r6.more(h:r6 W w O ts tt fs sv ov nv lab cs)(hct:cs.length<ts.length)(hct2:cs.length<tt.length){x:RT}(hx:ls w (ts[cs.length]'hct) x lab cs.length)(hkey:bo x=bo (tt[cs.length]'hct2)){g cap:Nat}(hr:ac w' 0 92 1 (.slice (some ⟨g,0,none⟩) (cs.length+1) cap) (cs.length+1) (cs.map (·.rv)++[x.rv]))(hgr:w.grownBy w' ov.ownBlock)(hg:ov.ownBlock=some g∨w.heap.size<=g):∃lab',r6 W (w'.setCell ⟨O,1,none⟩ (.slice (some ⟨g,0,none⟩) (cs.length+1) cap)) O ts tt fs sv (.slice (some ⟨g,0,none⟩) (cs.length+1) cap) nv lab' (cs++[x]):=by
 have p:=aC h.box;have k:ov.ownBlock≠some O:=fun e=>by have:=h.o3 O e;rw[h.o1]at this;cases this
 have B:O≠g:=fun e=>by
  rcases hg with l|l
  ·exact k (e▸l)
  omega
 have n:w'.heap[O]?=some (.cells #[sv,ov,nv] 71):=(hgr.block O p (fun e=>k e.symm)).trans h.box;have H:=y9 w' O 1 _ _ (.slice (some ⟨g,0,none⟩) (cs.length+1) cap) n;have f:∀q,q≠O->(w'.setCell ⟨O,1,none⟩ (.slice (some ⟨g,0,none⟩) (cs.length+1) cap)).heap[q]?=w'.heap[q]?:=(fun q b=>yd _ ⟨O,1,none⟩ q _ b);have o:(w'.setCell ⟨O,1,none⟩ (.slice (some ⟨g,0,none⟩) (cs.length+1) cap)).heap.size=w'.heap.size:=(by simp);have r:(w'.setCell ⟨O,1,none⟩ (.slice (some ⟨g,0,none⟩) (cs.length+1) cap)).os=w'.os:=rfl;have s:(w'.setCell ⟨O,1,none⟩ (.slice (some ⟨g,0,none⟩) (cs.length+1) cap)).tape=w'.tape:=rfl;have t:(w'.setCell ⟨O,1,none⟩ (.slice (some ⟨g,0,none⟩) (cs.length+1) cap)).output=w'.output:=rfl;generalize w'.setCell ⟨O,1,none⟩ (.slice (some ⟨g,0,none⟩) (cs.length+1) cap)=w2 at H f o r s t ⊢
 have d:Chg (fun q=>q=O∨ov.ownBlock=some q) w w2:=⟨r.trans hgr.os,s.trans hgr.tape,t.trans hgr.output,by rw[o];exact hgr.size,fun q b I=>by
  rw[f q (fun e=>I (.inl e)),hgr.block q b (fun e=>I (.inr e.symm))]⟩
 have v:Tn (fun q=>q=O∨ov.ownBlock=some q) w w2:=Tn.bq d (fun q _ b=>.inl (by
  rcases b with rfl|b
  ·exact⟨_,71,h.box,rfl⟩
  obtain⟨_,E,y⟩:=h.outer.block q b;exact⟨E,92,y,rfl⟩))
 have F:=(ac.lt hr g rfl).2;have z:∀q,q<w.heap.size->(if q<w.heap.size then lab q else if q=g then 3 else 0)=lab q:=fun q b=>zv b
 have i:∀q,q=O∨ov.ownBlock=some q->lab q=1∨lab q=3:=fun q b=>by
  rcases b with rfl|b
  ·exact .inl h.o1
  exact .inr (h.o3 q b)
 have y:∀q m,lab q=m->m≠0->m≠1->m≠3->w2.heap[q]?=w.heap[q]?:=(fun q m b J l M=>d.block q (h.lo q (by omega)).2 (fun G=>by have:=i q G;omega));have L:∀{u:Value} {q m:Nat},u.ownBlock=some q->(∀q,u.ownBlock=some q->lab q=m)->m≠0->(if q<w.heap.size then lab q else if q=g then 3 else 0)=m:=fun{u q m} b hu J=>(z q (h.lo q (by rw[hu q b];exact J)).2).trans (hu q b)
 refine⟨fun q=>if q<w.heap.size then lab q else if q=g then 3 else 0,h.bl.trans ⟨d.os,d.tape,d.output,d.size,fun q b=>d.block q (z9 b h.bl.size) (fun G=>by
   have l:=i q G
   have:=(h.lo q (by omega)).1;omega)⟩,fun q b=>?_,H,h.form.of (fun q b=>y q 2 (h.o2 q b) (by decide) (by decide) (by decide)),h.nxs.of (fun q b=>y q 4 (h.o4 q b) (by decide) (by decide) (by decide)),?_,
  fun j a c=>?_,?_,(z O p).trans h.o1,fun q b=>L b h.o2 (by decide),fun q b=>?_,fun q b=>L b h.o4 (by decide)⟩
 ·have b:(if q<w.heap.size then lab q else if q=g then 3 else 0)≠0:=b;by_cases e:q<w.heap.size
  ·rw[zv e]at b;exact⟨(h.lo q b).1,z9 e d.size⟩
  rw[zq e]at b;by_cases A:q=g
  ·subst A;exact⟨zw h.bl.size (by omega),by rw[o];exact F⟩
  rw[zq A]at b;exact absurd rfl b
 ·rw[y8,uc];exact hr.of (fun q b=>by cases b;exact f g (fun e=>B e.symm))
 ·by_cases e:j<cs.length
  ·rw[xc e];exact(h.tab j a e).tn v (fun q b=>by have:=i q b;omega) z
  have A:j=cs.length:=(by rw[y8]at c;simp at c;omega);subst A;rw[vu (zm _)];simp only[Nat.sub_self,List.getElem_cons_zero];exact hx.tn v (fun q b=>by have:=i q b;omega) z
 ·rw[y8,uc,h.key];show _=(tt.take (cs.length+1)).map bo;rw[List.take_add_one,z6 hct2,uc];show _++[bo x]=_++[bo _];rw[hkey]
 cases b;show(if g<w.heap.size then lab g else if g=g then 3 else 0)=3;rcases hg with l|l
 ·rw[zv (h.lo g (by rw[h.o3 g l];decide)).2];exact h.o3 g l
 rw[zq (by omega),zv rfl]
theorem r6.fin{b:Nat}{i:NI}{Ob:Nat->Nat}(hd:ew W b ts tt i Ob)(h:r6 W w O ts tt i.fs sv ov nv lab cs)(hn:cs.length=ts.length):ew w O ts cs ⟨sv,ov,nv,i.fs⟩ lab/\cs.map bo=tt.map bo:=by
 have d:cs.map bo=tt.map bo:=(by rw[h.key,yy (by rw[hd.n,hn];exact zm _)]);refine⟨⟨h.box,hn,hd.fn,h.form,fun j a c=>(hd.rd j a c).kp (Tn.of_below (S:=fun _=>False) h.bl).qu,hn▸h.outer,?_,h.tab,h.o1,h.o2,h.o3,h.o4,fun q g=>(h.lo q g).2⟩,d⟩
 have e:cs.map (fun x=>Value.int .i64 (x.nx:Int))=tt.map (fun x=>Value.int .i64 (x.nx:Int)):=by
  have f:∀l:List RT,l.map (fun x=>Value.int .i64 (x.nx:Int))=(l.map bo).map (fun x=>Value.int .i64 (x.1:Int)):=(fun l=>by rw[List.map_map];rfl);rw[f,f,d]
 show ac w 0 3 1 nv ts.length _;rw[e];exact h.nxs
end
structure KJ (W0:World) (E:Nat->Value) (rv:Value) (n:Nat) (xs:List Value) (id:Int) (vals:List T3) (l:Nat->Bool) (vs:Nat->Value) (w:World):Prop where
 gb:W0.grownBy w rv.ownBlock
 f0:l 26=false->Below W0.heap.size W0 w
 ev:∀j,j<23->l j=true->vs j=E j
 f23:l 23=true->∃g c,vs 23=.slice (some ⟨g,0,none⟩) vals.length c/\ac w 0 32 3 (.slice (some ⟨g,0,none⟩) vals.length c) vals.length (cells3 vals)/\W0.heap.size<=g
 f24:l 24=true->vs 24=.agg #[.int .i64 id,vs 23]
 f25:l 25=true->l 26=false->∃y,w=y.alloc (.cells #[.int .i64 id,vs 23] 99)/\vs 25=.slice (some ⟨y.heap.size,0,none⟩) 1 1/\Below W0.heap.size W0 y/\∀q,(vs 23).ownBlock=some q->q<y.heap.size
 f26:l 26=true->∃g cap,vs 26=.slice (some ⟨g,0,none⟩) (n+1) cap/\ac w 0 99 2 (.slice (some ⟨g,0,none⟩) (n+1) cap) (n+1) (xs++[.int .i64 id,vs 23])/\(rv.ownBlock=some g∨W0.heap.size<=g)/\∀q,(vs 23).ownBlock=some q->q≠g
section
open Par
variable {W0 w w':World}{E:Nat->Value}{rv:Value}{n:Nat}{xs:List Value}{id:Int}{vals:List T3}{l:Nat->Bool}{vs:Nat->Value}
theorem KJ.up(h:KJ W0 E rv n xs id vals l vs w)(i:Nat)(hi:i<23):KJ W0 E rv n xs id vals (fq l i) (fk vs i (E i)) w:=by
 have k:∀j,j=23∨j=24∨j=25∨j=26->fq l i j=l j/\fk vs i (E i) j=vs j:=(fun j b=>⟨aI (by omega),aJ (by omega)⟩);refine⟨h.gb,fun a=>h.f0 ((k 26 (by simp)).1▸a),fun j b a=>?_,fun a=>?_,fun a=>?_,fun c d=>?_,fun a=>?_⟩
 ·by_cases e:j=i
  ·subst e;rw[aS]
  rw[aJ e];rw[aI e]at a;exact h.ev j b a
 ·rw[(k 23 (by simp)).1]at a;rw[(k 23 (by simp)).2];exact h.f23 a
 ·rw[(k 24 (by simp)).1]at a;rw[(k 24 (by simp)).2,(k 23 (by simp)).2];exact h.f24 a
 ·rw[(k 25 (by simp)).1]at c;rw[(k 26 (by simp)).1]at d;rw[(k 25 (by simp)).2,(k 23 (by simp)).2];exact h.f25 c d
 rw[(k 26 (by simp)).1]at a;rw[(k 26 (by simp)).2,(k 23 (by simp)).2];exact h.f26 a
theorem KJ.Hc(h:KJ W0 E rv n xs id vals l vs w)(h15:l 24=false)(h16:l 25=false)(h17:l 26=false){g c:Nat}(hr:ac w' w.heap.size 32 3 (.slice (some ⟨g,0,none⟩) vals.length c) vals.length (cells3 vals))(hb:Below w.heap.size w w'):KJ W0 E rv n xs id vals (fq l 23) (fk vs 23 (.slice (some ⟨g,0,none⟩) vals.length c)) w':=by
 have b:=aB (h.f0 h17) hb;refine⟨cZ b,fun _=>b,fun j d a=>?_,fun _=>⟨g,c,aS,ac.mono hr (zh _),zw (h.f0 h17).size (ac.lt hr g rfl).1⟩,fun a=>?_,fun a=>?_,fun a=>?_⟩
 ·rw[aJ (by omega)];rw[aI (by omega)]at a;exact h.ev j d a
 ·rw[aI (by decide),h15]at a;cases a
 ·rw[aI (by decide),h16]at a;cases a
 rw[aI (by decide),h17]at a;cases a
theorem KJ.s24(h:KJ W0 E rv n xs id vals l vs w)(h16:l 25=false)(h17:l 26=false):KJ W0 E rv n xs id vals (fq l 24) (fk vs 24 (.agg #[.int .i64 id,vs 23])) w:=by
 refine⟨h.gb,fun _=>h.f0 h17,fun j b a=>?_,fun a=>?_,fun _=>?_,fun a=>?_,fun a=>?_⟩
 ·rw[aJ (by omega)];rw[aI (by omega)]at a;exact h.ev j b a
 ·rw[aI (by decide)]at a;rw[aJ (by decide)];exact h.f23 a
 ·rw[aS,aJ (by decide)]
 ·rw[aI (by decide),h16]at a;cases a
 rw[aI (by decide),h17]at a;cases a
theorem KJ.Cp(h:KJ W0 E rv n xs id vals l vs w)(h14:l 23=true)(h17:l 26=false):KJ W0 E rv n xs id vals (fq l 25) (fk vs 25 (.slice (some ⟨w.heap.size,0,none⟩) 1 1)) (w.alloc (.cells #[.int .i64 id,vs 23] 99)):=by
 have b:=aB (h.f0 h17) (aD w (.cells #[.int .i64 id,vs 23] 99));obtain⟨g,c,e,d,i⟩:=h.f23 h14;refine⟨cZ b,fun _=>b,fun j k a=>?_,fun a=>?_,fun a=>?_,fun _ _=>⟨w,?_,aS,h.f0 h17,fun q f=>?_⟩,fun a=>?_⟩
 ·rw[aJ (by omega)];rw[aI (by omega)]at a;exact h.ev j k a
 ·rw[aJ (by decide)];exact⟨g,c,e,d.later (aD _ _),i⟩
 ·rw[aI (by decide)]at a;rw[aJ (by decide),aJ (by decide)];exact h.f24 a
 ·rw[aJ (by decide)]
 ·rw[aJ (by decide),e]at f;exact(ac.lt d q f).2
 rw[aI (by decide),h17]at a;cases a
theorem KJ.G4(h:KJ W0 E rv n xs id vals l vs w)(h14:l 23=true)(hW:ac W0 0 99 2 rv n xs){y:World}{v:Value}(h16:w=y.alloc (.cells #[.int .i64 id,vs 23] 99))(hy:Below W0.heap.size W0 y)(h14y:∀q,(vs 23).ownBlock=some q->q<y.heap.size){g cap:Nat}(hv:v=.slice (some ⟨g,0,none⟩) (n+1) cap)(hr:ac w' 0 99 2 (.slice (some ⟨g,0,none⟩) (n+1) cap) (n+1) (xs++[.int .i64 id,vs 23]))(hg:y.grownBy w' rv.ownBlock)(ho:rv.ownBlock=some g∨y.heap.size<=g):KJ W0 E rv n xs id vals (fq l 26) (fk vs 26 v) w':=by
 obtain⟨a,c,e,p,r⟩:=h.f23 h14;have i:∀q,rv.ownBlock=some q->q<W0.heap.size:=(fun q d=>(ac.lt hW q d).2);have f:a<y.heap.size:=h14y a (by rw[e];rfl);have m:W0.grownBy w' rv.ownBlock:=⟨hg.os.trans hy.os,hg.tape.trans hy.tape,hg.output.trans hy.output,zw hy.size hg.size,fun q d s=>(hg.block q (z9 d hy.size) s).trans (hy.block q d)⟩;refine⟨m,fun b=>?_,fun j t b=>?_,fun b=>?_,fun b=>?_,fun _ b=>?_,fun _=>⟨g,cap,aS.trans hv,?_,ho.imp (fun h=>h) (fun h=>zw hy.size h),fun q d u=>?_⟩⟩
 ·rw[bW]at b;cases b
 ·rw[aJ (by omega)];rw[aI (by omega)]at b;exact h.ev j t b
 ·rw[aJ (by decide)];refine⟨a,c,e,p.of (fun k x=>?_),r⟩;cases x;rw[hg.block a f (fun e=>by have:=i a e.symm;omega),h16];exact(aD y _).block a f |>.symm
 ·rw[aI (by decide)]at b;rw[aJ (by decide),aJ (by decide)];exact h.f24 b
 ·rw[bW]at b;cases b
 ·rw[aJ (by decide)];exact hr
 rw[aJ (by decide),e]at d;cases d;subst u;rcases ho with o|o
 ·have:=i a o;omega
 exact absurd f (Nat.not_lt.2 o)
end
structure RJ (W:World) (E:Nat->Value) (n:Nat) (xs ys:List Value) (l:Nat->Bool) (vs:Nat->Value) (w:World):Prop where
 bl:Below W.heap.size W w
 ev:∀j,j≠4->j≠9->j≠10->l j=true->vs j=E j
 f4:l 4=true->ac w W.heap.size 77 4 (vs 4) n xs
 f9:l 9=true->ac w W.heap.size 3 1 (vs 9) n ys
 f10:l 10=true->vs 10=.agg #[vs 4,.slice none 0 0,vs 9]
section
open Par
variable {W w w':World}{E:Nat->Value}{n:Nat}{xs ys:List Value}{l:Nat->Bool}{vs:Nat->Value}
theorem RJ.v4(h:RJ W E n xs ys l vs w)(h4:l 4=true):∃p c,vs 4=.slice p n c:=by
 obtain⟨p,c,e,_⟩:=(h.f4 h4).isslice;exact⟨p,c,e⟩
theorem RJ.v9(h:RJ W E n xs ys l vs w)(h4:l 9=true):∃p c,vs 9=.slice p n c:=by
 obtain⟨p,c,e,_⟩:=(h.f9 h4).isslice;exact⟨p,c,e⟩
theorem RJ.up(h:RJ W E n xs ys l vs w)(i:Nat)(hi:i≠4/\i≠9/\i≠10):RJ W E n xs ys (fq l i) (fk vs i (E i)) w:=by
 have e:∀j,j=4∨j=9∨j=10->fq l i j=l j/\fk vs i (E i) j=vs j:=(fun j f=>⟨aI (by omega),aJ (by omega)⟩);refine⟨h.bl,fun j a b c d=>?_,fun d=>?_,fun d=>?_,fun d=>?_⟩
 ·by_cases e:j=i
  ·subst e;rw[aS]
  rw[aJ e];rw[aI e]at d;exact h.ev j a b c d
 ·rw[(e 4 (by simp)).1]at d;rw[(e 4 (by simp)).2];exact h.f4 d
 ·rw[(e 9 (by simp)).1]at d;rw[(e 9 (by simp)).2];exact h.f9 d
 rw[(e 10 (by simp)).1]at d;rw[(e 10 (by simp)).2,(e 4 (by simp)).2,(e 9 (by simp)).2];exact h.f10 d
theorem RJ.s4(h:RJ W E n xs ys l vs w)(h10:l 10=false){v:Value}(hr:ac w' w.heap.size 77 4 v n xs)(hb:Below w.heap.size w w'):RJ W E n xs ys (fq l 4) (fk vs 4 v) w':=by
 refine⟨aB h.bl hb,fun j a b c d=>?_,fun d=>?_,fun d=>?_,fun d=>?_⟩
 ·rw[aJ a];rw[aI a]at d;exact h.ev j a b c d
 ·rw[aS];exact ac.mono hr h.bl.size
 ·rw[aI (by decide)]at d;rw[aJ (by decide)];exact(h.f9 d).later hb
 rw[aI (by decide),h10]at d;cases d
theorem RJ.s9(h:RJ W E n xs ys l vs w)(h10:l 10=false){v:Value}(hr:ac w' w.heap.size 3 1 v n ys)(hb:Below w.heap.size w w'):RJ W E n xs ys (fq l 9) (fk vs 9 v) w':=by
 refine⟨aB h.bl hb,fun j a b c d=>?_,fun d=>?_,fun d=>?_,fun d=>?_⟩
 ·rw[aJ b];rw[aI b]at d;exact h.ev j a b c d
 ·rw[aI (by decide)]at d;rw[aJ (by decide)];exact(h.f4 d).later hb
 ·rw[aS];exact ac.mono hr h.bl.size
 rw[aI (by decide),h10]at d;cases d
theorem RJ.s10(h:RJ W E n xs ys l vs w):RJ W E n xs ys (fq l 10) (fk vs 10 (.agg #[vs 4,.slice none 0 0,vs 9])) w:=by
 refine⟨h.bl,fun j a b c d=>?_,fun d=>?_,fun d=>?_,fun d=>?_⟩
 ·rw[aJ c];rw[aI c]at d;exact h.ev j a b c d
 ·rw[aI (by decide)]at d;rw[aJ (by decide)];exact h.f4 d
 ·rw[aI (by decide)]at d;rw[aJ (by decide)];exact h.f9 d
 rw[aS,aJ (by decide),aJ (by decide)]
end
