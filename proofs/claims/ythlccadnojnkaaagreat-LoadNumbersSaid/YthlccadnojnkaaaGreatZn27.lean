import Derived.Test.YthlccadnojnkaaaGreatZn26
set_option maxHeartbeats 8000000
set_option maxRecDepth 100000
namespace Go.Proofs.YthlccadnojnkaaaGreat
open Go.Proofs.Tryz
open Go Go.RowKit Go.Proofs Co Co.S
section
variable {W w:World}{b:Nat}{ts:List T}{tt:List RT}{i:NI}{O:Nat->Nat}{t:Nat}{y:RT}
theorem ew.delrow(h:ew W b ts tt i O)(ht:t<ts.length)(hy:tt[t]?=some y){go co:Nat}(ho:i.ov=.slice (some ⟨go,0,none⟩) ts.length co){k:Nat}(r:k<y.A.length){rv:Value}(hr:ac w 0 99 2 rv (y.A.length-1) ((az y.A y.vs).take (k*2)++(az y.A y.vs).drop ((k+1)*2)))(o:Below W.heap.size W w)(hf:∀q,rv.ownBlock=some q->W.heap.size<=q):∃X,ew (w.setCell ⟨go,t,none⟩ rv) b ts (tt.set t ⟨rv,y.nx,without y.A y.A[k].1,y.vs.eraseIdx k⟩) i X/\Ext W O X/\Tn (fun q=>O q≠0) W (w.setCell ⟨go,t,none⟩ rv):=by
 have g:=h.ok ht hy;rw[oV g.srt r];have E:k<y.vs.length:=(by rw[g.n];exact r);have v:O go=3:=h.o3 go (by rw[ho];rfl);have a0:go<W.heap.size:=h.lt go (by rw[v];decide)
 have F:ac w 0 92 1 (.slice (some ⟨go,0,none⟩) ts.length co) ts.length (tt.map (·.rv)):=by
  have:=(h.later o).outer
  rw[ho]at this;exact this
 obtain⟨s1,s2⟩:=F.stored t rv;generalize w.setCell ⟨go,t,none⟩ rv=w2 at s1 s2 ⊢;have L:W.heap.size<=w2.heap.size:=zw o.size s2.size;have f:∀q,q<w.heap.size->q≠go->w2.heap[q]?=w.heap[q]?:=fun q d N=>s2.block q d (fun e=>N (by cases e;rfl))
 have s:Chg (fun q=>q=go) W w2:=⟨s2.os.trans o.os,s2.tape.trans o.tape,s2.output.trans o.output,L,fun q d N=>by
  rw[f q (z9 d o.size) N,o.block q d]⟩
 have G:Tn (fun q=>q=go) W w2:=Tn.bq s (fun q _ d=>.inl (by
  obtain⟨_,P,o⟩:=h.outer.block q (by rw[ho,d];rfl);exact⟨P,92,o,rfl⟩))
 have H:∀q,rv.ownBlock=some q->q<w.heap.size:=(fun q d=>(ac.lt hr q d).2);have Q:∀k (r:k<y.vs.length) q,y.vs[k].ownBlock=some q->q<W.heap.size:=(fun k r q d=>h.lt q (by rw[g.ovs k r q d];omega));have x:∀q,O q=6+2*t->w2.heap[q]?=W.heap[q]?:=fun q d=>s.block q (h.lt q (by omega)) (fun hS=>by rw[hS]at d;omega)
 have p:∀j (l:j<(y.vs.eraseIdx k).length),∃m,∃u:m<y.vs.length,(y.vs.eraseIdx k)[j]=y.vs[m]/\(∀(Y:j<(y.A.eraseIdx k).length),∃I:m<y.A.length,(y.A.eraseIdx k)[j]=y.A[m])/\m=if j<k then j else j+1:=fun j l=>by
  have a1:(y.vs.eraseIdx k).length=y.vs.length-1:=List.length_eraseIdx_of_lt E;by_cases e:j<k
  ·refine⟨j,by omega,by rw[List.getElem_eraseIdx_of_lt _ e],fun Y=>⟨by omega,by rw[List.getElem_eraseIdx_of_lt _ e]⟩,by rw[zv e]⟩
  refine⟨j+1,by omega,by rw[List.getElem_eraseIdx_of_ge _ (by omega)],fun Y=>⟨by have:=g.n;omega,by rw[List.getElem_eraseIdx_of_ge _ (by omega)]⟩,by rw[zq e]⟩
 have Z:∀q,q<W.heap.size->(if q<W.heap.size then O q else if rv.ownBlock=some q then 5+2*t else 0)=O q:=(fun q d=>zv d);refine⟨fun q=>if q<W.heap.size then O q else if rv.ownBlock=some q then 5+2*t else 0,h.settab ht G (fun q d=>.inr (.inl (by rw[d];exact v))) Z (fun q d=>?_) ⟨?_,?_,fun j l R=>?_,fun j m l u S q d=>?_,fun a J=>g.len a (List.mem_of_mem_eraseIdx J),g.srt.sublist (List.eraseIdx_sublist _ _),fun a J=>g.rng a (List.mem_of_mem_eraseIdx J),fun q d=>?_,fun j l q d=>?_⟩ (fun z L=>by rw[hy]at L;cases L;rfl) ?_,Z,G.mono (fun q _ d=>by show O q≠0;rw[d,v];decide)⟩
 ·have d:(if q<W.heap.size then O q else if rv.ownBlock=some q then 5+2*t else 0)≠0:=d;by_cases B:q<W.heap.size
  ·omega
  rw[zq B]at d;by_cases M:rv.ownBlock=some q
  ·exact z9 (H q M) s2.size
  rw[zq M]at d;exact absurd rfl d
 ·show ac w2 0 99 2 rv (y.A.eraseIdx k).length (az (y.A.eraseIdx k) (y.vs.eraseIdx k));rw[rE g.n r,List.length_eraseIdx_of_lt r];exact hr.of (fun q d=>f q (H q d) (fun e=>by have:=hf q d;omega))
 ·show(y.vs.eraseIdx k).length=(y.A.eraseIdx k).length;rw[List.length_eraseIdx_of_lt r,List.length_eraseIdx_of_lt E,g.n]
 ·obtain⟨m,u,B,U,_⟩:=p j R;obtain⟨I,U⟩:=U l;show ac w2 0 32 3 ((y.vs.eraseIdx k)[j]) _ _;have V:(y.A.eraseIdx k)[j]'l=y.A[m]:=U;rw[B];show ac w2 0 32 3 y.vs[m] ((y.A.eraseIdx k)[j]'l).2.length (cells3 ((y.A.eraseIdx k)[j]'l).2);rw[V];exact(g.vals m I u).of (fun q d=>x q (g.ovs m u q d))
 ·obtain⟨a,J,B,_,M⟩:=p j l;obtain⟨c,hc,e4,_,e5⟩:=p m u;have d:(y.vs.eraseIdx k)[j].ownBlock=some q:=d;show(y.vs.eraseIdx k)[m].ownBlock≠some q;rw[B]at d;rw[e4];refine g.sep a c J hc (fun e=>S ?_) q d;rw[M,e5]at e;split at e <;> split at e <;> omega
 ·have d:rv.ownBlock=some q:=d;show(if q<W.heap.size then O q else if rv.ownBlock=some q then 5+2*t else 0)=5+2*t;rw[zq (by have:=hf q d;omega),zv d]
 ·obtain⟨m,u,B,_,_⟩:=p j l;have d:(y.vs.eraseIdx k)[j].ownBlock=some q:=d;rw[B]at d;show(if q<W.heap.size then O q else _)=6+2*t;rw[zv (Q m u q d)];exact g.ovs m u q d
 rw[nA,ho];exact s1
end
theorem tH(y:World)(base:Nat){v:Value}{n:Nat}{xs:List Value}(hr:ac y base 99 2 v n xs){q:Option Addr}{m d:Nat}{ys:List Value}(hlen:ys.length=m*2)(hc:0<m->∃b a,q=some ⟨b,a,none⟩/\∀j u,ys[j]?=some u->y.cell? ⟨b,a+j,none⟩=some u)(h1:∀u∈ys,u.oneCell'=true)(hnm:n+m<=1000000)(hb:base<=y.heap.size):∃r w',(Builtin.append_ #[92,92] 92 #[v,.slice q m d]).run prog y=.ok r w'/\ac w' base 99 2 r (n+m) (xs++ys)/\y.grownBy w' v.ownBlock:=by
 obtain⟨s,h,i,k,l⟩:=info_parts zY;obtain⟨p,c,rfl,o,_⟩:=hr.isslice;rcases Nat.eq_zero_or_pos m with rfl|e
 ·have:ys=[]:=wk (by omega);subst this;exact⟨_,y,tG underlying92 h o,by rw[List.append_nil];exact hr,⟨rfl,rfl,rfl,zm _,fun _ _ _=>rfl⟩⟩
 obtain⟨b,a,rfl,f⟩:=hc e
 obtain⟨g,t,w',w,x,z,_⟩:=aY (P:=prog) y base 92 92 99 s _ 2 32 underlying92 h i k l rfl (by decide) hr ⟨b,a,none⟩ m d ys hlen (fun j u A=>by
  rw[Addr.add_lit];exact f j u A) h1 e (by unfold maxLen;omega) (by omega) hb
 exact⟨_,w',w,x,z⟩
structure EJ (W0:World) (E:Nat->Value) (k m:Nat) (xs ys:List Value) (l:Nat->Bool) (vs:Nat->Value) (w:World):Prop where
 bl:Below W0.heap.size W0 w
 ev:∀j,j≠14->j≠24->j≠25->l j=true->vs j=E j
 f14:l 14=true->l 25=false->ac w W0.heap.size 99 2 (vs 14) k xs
 f24:l 24=true->∃q d,vs 24=.slice q m d/\(0<m->∃b off,q=some ⟨b,off,none⟩/\∀j u,ys[j]?=some u->W0.cell? ⟨b,off+j,none⟩=some u)
 f25:l 25=true->ac w W0.heap.size 99 2 (vs 25) (k+m) (xs++ys)
section
open Par
variable {W0 w w':World}{E:Nat->Value}{k m:Nat}{xs ys:List Value}{l:Nat->Bool}{vs:Nat->Value}
theorem EJ.up(h:EJ W0 E k m xs ys l vs w)(i:Nat)(hi:i≠14/\i≠24/\i≠25):EJ W0 E k m xs ys (fq l i) (fk vs i (E i)) w:=by
 have e:∀j,j=14∨j=24∨j=25->fq l i j=l j/\fk vs i (E i) j=vs j:=(fun j n=>⟨aI (by omega),aJ (by omega)⟩);refine⟨h.bl,fun j a b c d=>?_,fun f g=>?_,fun d=>?_,fun d=>?_⟩
 ·by_cases e:j=i
  ·subst e;rw[aS]
  rw[aJ e];rw[aI e]at d;exact h.ev j a b c d
 ·rw[(e 14 (by simp)).1]at f;rw[(e 25 (by simp)).1]at g;rw[(e 14 (by simp)).2];exact h.f14 f g
 ·rw[(e 24 (by simp)).1]at d;rw[(e 24 (by simp)).2];exact h.f24 d
 rw[(e 25 (by simp)).1]at d;rw[(e 25 (by simp)).2];exact h.f25 d
theorem EJ.Bl(h:EJ W0 E k m xs ys l vs w)(h25:l 25=false){v:Value}(hr:ac w' W0.heap.size 99 2 v k xs)(hb:Below w.heap.size w w'):EJ W0 E k m xs ys (fq l 14) (fk vs 14 v) w':=by
 refine⟨aB h.bl hb,fun j a b c d=>?_,fun e f=>?_,fun d=>?_,fun d=>?_⟩
 ·rw[aJ a];rw[aI a]at d;exact h.ev j a b c d
 ·rw[aS];exact hr
 ·rw[aI (by decide)]at d;rw[aJ (by decide)];exact h.f24 d
 rw[aI (by decide),h25]at d;cases d
theorem EJ.s24(h:EJ W0 E k m xs ys l vs w)(h25:l 25=false){q:Option Addr}{d:Nat}(hq:0<m->∃b f,q=some ⟨b,f,none⟩/\∀j u,ys[j]?=some u->W0.cell? ⟨b,f+j,none⟩=some u):EJ W0 E k m xs ys (fq l 24) (fk vs 24 (.slice q m d)) w:=by
 refine⟨h.bl,fun j a b c e=>?_,fun g i=>?_,fun e=>?_,fun e=>?_⟩
 ·rw[aJ b];rw[aI b]at e;exact h.ev j a b c e
 ·rw[aI (by decide)]at g;rw[aJ (by decide)];exact h.f14 g h25
 ·exact⟨q,d,aS,hq⟩
 rw[aI (by decide),h25]at e;cases e
theorem EJ.Cp(h:EJ W0 E k m xs ys l vs w)(h14:ac w W0.heap.size 99 2 (vs 14) k xs){v:Value}(hr:ac w' W0.heap.size 99 2 v (k+m) (xs++ys))(hg:w.grownBy w' (vs 14).ownBlock):EJ W0 E k m xs ys (fq l 25) (fk vs 25 v) w':=by
 refine⟨h.bl.trans ⟨hg.os,hg.tape,hg.output,hg.size,fun q g=>hg.block q (z9 g h.bl.size) (fun e=>by have:=(ac.lt h14 q e.symm).1;omega)⟩,fun j a b c d=>?_,fun i f=>?_,fun d=>?_,fun d=>?_⟩
 ·rw[aJ c];rw[aI c]at d;exact h.ev j a b c d
 ·rw[bW]at f;cases f
 ·rw[aI (by decide)]at d;rw[aJ (by decide)];exact h.f24 d
 rw[aS];exact hr
end
section
variable {W:World}{b:Nat}{ts:List T}{tt:List RT}{i:NI}{O:Nat->Nat}{t:Nat}{y:RT}
theorem G8(h:ew W b ts tt i O)(ht:t<ts.length)(hy:tt[t]?=some y)(hl:y.A.length<=100000){x:Int}(hno:∀a∈y.A,a.1≠x):Calls prog 40 #[.pointer (some ⟨b,0,none⟩),.int .i64 (t:Int),.int .i64 x] W fun e w'=>e=.returned (.bool false)/\w'=W:=by
 have c:=rF h ht hy hl x;rw[nB (fun j d=>hno _ (z8 d))]at c;clear h hno hy ht;go_enter func40,ntmps40;go_wp2_with (go_at_call 75;refine c.mono ?_;rintro e f⟨rfl,g⟩;subst f;clear c);go_ret;exact⟨rfl,rfl⟩
theorem Ki(h:ew W b ts tt i O)(ht:t<ts.length)(hy:tt[t]?=some y)(Q:y.A.length<=100000){k:Nat}(hk:k<y.A.length):Calls prog 40 #[.pointer (some ⟨b,0,none⟩),.int .i64 (t:Int),.int .i64 y.A[k].1] W fun e w'=>e=.returned (.bool true)/\∃x O',ew w' b ts (tt.set t x) i O'/\x.nx=y.nx/\x.A=without y.A y.A[k].1/\Ext W O O'/\Tn (fun q=>O q≠0) W w':=by
 have S:=rF h ht hy Q y.A[k].1;have H:=h.ok ht hy;rw[nC hk rfl (fun j G a5=>Int.ne_of_lt (List.pairwise_iff_getElem.1 H.srt j k G hk a5))]at S;obtain⟨⟨gs,cs,go,co,gn,cn,pc,kc,pd,e6⟩,_,o1,_,a6,_,_,hR⟩:=h.reads ht hy;have hR:=hR W (zb _ _);obtain⟨F,a2⟩:=ag ts.length;have e7:(t:Int)<(F:Int):=(by omega);have e8:t<F:=(by omega);obtain⟨x,hx⟩:=ag (y.A[k].1);obtain⟨n,hn⟩:=ag y.A.length;obtain⟨gr,cr,a0,a7,a8⟩:=H.rows.slice (by omega);have o1:i.ov=.slice (some ⟨go,0,none⟩) ts.length co:=o1;have o2:go<W.heap.size:=hR.ol;have o3:W.cell? ⟨go,t,none⟩=some y.rv:=hR.o0;have o4:W.cell? ⟨b,1,none⟩=some (.slice (some ⟨go,0,none⟩) F co):=(by rw[<-a2];exact hR.b1);have xl:=aC h.box;have U:=H.rows
 have Y:∀u∈az y.A y.vs,u.oneCell'=true:=xH y.A y.vs (fun v hv=>by
  obtain⟨j,G,rfl⟩:=xz hv;obtain⟨p,c,e,_⟩:=(H.vals j (by rw[<-H.n];exact G) G).isslice;rw[e];rfl)
 have V:=xG H.n;rw[a0]at o3 U;have L:∀j u,(az y.A y.vs)[j]?=some u->W.cell? ⟨gr,j,none⟩=some u:=(fun j u G=>U.cell G);have R:=aa (ab h (ab o1 (ab a0 (ab U (ab Y (ab V L))))));have HT:=aa (ab ht hy);rw[hx]at S ⊢;rw[hn]at o3 a7;have HN:=aa (ab hn (ab hx hk));have e9:(k:Int)<(n:Int):=(by omega);have f0:(k:Int)<=(cr:Int):=(by omega);have e2:(n:Int)<=(cr:Int):=(by omega);have e3:(cr:Int)<=9223372036854775807:=(by unfold maxLen at a8;omega);have f1:(k:Int)<=100000:=(by omega);have f2:¬ (k:Int)<0:=(by omega);have f3:(n:Int)<=100000:=(by omega);have f4:(0:Int)<=(k:Int)+1:=(by omega);have e4:(k:Int)+1<=(n:Int):=by omega
 have r:Hid (∀w,Below W.heap.size W w->w.cell? ⟨go,t,none⟩=some (.slice (some ⟨gr,0,none⟩) n cr)/\w.cell? ⟨b,1,none⟩=some (.slice (some ⟨go,0,none⟩) F co)/\b<w.heap.size/\go<w.heap.size):=aa (fun w hg =>
  ⟨(za (w:=W) (hg.block go o2)).trans o3,(za (w:=W) (hg.block b xl)).trans o4,z9 xl hg.size,z9 o2 hg.size⟩)
 clear h hn U Y V L a0 o1 o2 o3 o4 xl Q hR H a2 a6;go_enter func40,ntmps40;go_upto_region 4 with (go_at_call 75;(with_reducible refine S.mono ?_);rintro e w2⟨rfl,hw⟩;subst w2;clear S)
 refine Par.ay 27 (EJ W (fun a9=>[.pointer (some ⟨b,0,none⟩),.pointer (some ⟨b,0,none⟩),.pointer (some ⟨b,1,none⟩),.slice (some ⟨go,0,none⟩) F co,.int .i64 (t:Int),.pointer (some ⟨b,0,none⟩),.pointer (some ⟨b,0,none⟩),.pointer (some ⟨b,1,none⟩),.slice (some ⟨go,0,none⟩) F co,.int .i64 (t:Int),.pointer (some ⟨go,t,none⟩),.slice (some ⟨gr,0,none⟩) n cr,.int .i64 (k:Int),.slice (some ⟨gr,0,none⟩) k cr,undef,
  (.pointer (some ⟨b,0,none⟩)),.pointer (some ⟨b,0,none⟩),.pointer (some ⟨b,1,none⟩),.slice (some ⟨go,0,none⟩) F co,.int .i64 (t:Int),.pointer (some ⟨go,t,none⟩),.slice (some ⟨gr,0,none⟩) n cr,.int .i64 (k:Int),.int .i64 ((k:Int)+1),undef,undef,.pointer (some ⟨go,t,none⟩)].getD a9 undef) k (n-(k+1)) ((az y.A y.vs).take (k*2)) ((az y.A y.vs).drop ((k+1)*2))) ?AA ?hmA ?hBA ?hAA ?hJA ?hopA ?hTA
 case hmA=>kernel_rfl
 case hBA=>kernel_rfl
 case hAA =>
  intro vs;simp only[Par.am,Par.ai,Act.put,cy,db,bt,cp,dc,da,bu];rfl
 case hJA =>
  intro vs;exact⟨aF W,fun _ _ _ _ h=>(by cases h),fun h=>(by cases h),fun h=>(by cases h),fun h=>(by cases h)⟩
 case hopA =>
  simp only[ce,ze,Par.br,yu];and_intros<;>intro l vs w a Q g f
  ·have o:=aa a;obtain⟨s,z,B,E⟩:=r.out w a.bl;clear a g f;simp only[Par.af];go_simp;all_goals exact o.out.up 0 (by decide)
  ·have o:=aa a;obtain⟨s,z,B,E⟩:=r.out w a.bl;have d0:vs 0=.pointer (some ⟨b,0,none⟩):=a.ev 0 (by decide) (by decide) (by decide) (g 0 (by kernel_rfl));clear a g f;simp only[Par.af,d0];go_simp;all_goals exact o.out.up 1 (by decide)
  ·have o:=aa a;obtain⟨s,z,B,E⟩:=r.out w a.bl;have d1:vs 1=.pointer (some ⟨b,0,none⟩):=a.ev 1 (by decide) (by decide) (by decide) (g 1 (by kernel_rfl));clear a g f;simp only[Par.af,d1];go_simp;all_goals exact o.out.up 2 (by decide)
  ·have o:=aa a;obtain⟨s,z,B,E⟩:=r.out w a.bl;have d2:vs 2=.pointer (some ⟨b,1,none⟩):=a.ev 2 (by decide) (by decide) (by decide) (g 2 (by kernel_rfl));clear a g f;simp only[Par.af,d2];go_simp;all_goals exact o.out.up 3 (by decide)
  ·have o:=aa a;obtain⟨s,z,B,E⟩:=r.out w a.bl;clear a g f;simp only[Par.af];go_simp;all_goals exact o.out.up 4 (by decide)
  ·have o:=aa a;obtain⟨s,z,B,E⟩:=r.out w a.bl;clear a g f;simp only[Par.af];go_simp;all_goals exact o.out.up 5 (by decide)
  ·have o:=aa a;obtain⟨s,z,B,E⟩:=r.out w a.bl;have d5:vs 5=.pointer (some ⟨b,0,none⟩):=a.ev 5 (by decide) (by decide) (by decide) (g 5 (by kernel_rfl));clear a g f;simp only[Par.af,d5];go_simp;all_goals exact o.out.up 6 (by decide)
  ·have o:=aa a;obtain⟨s,z,B,E⟩:=r.out w a.bl;have d6:vs 6=.pointer (some ⟨b,0,none⟩):=a.ev 6 (by decide) (by decide) (by decide) (g 6 (by kernel_rfl));clear a g f;simp only[Par.af,d6];go_simp;all_goals exact o.out.up 7 (by decide)
  ·have o:=aa a;obtain⟨s,z,B,E⟩:=r.out w a.bl;have d7:vs 7=.pointer (some ⟨b,1,none⟩):=a.ev 7 (by decide) (by decide) (by decide) (g 7 (by kernel_rfl));clear a g f;simp only[Par.af,d7];go_simp;all_goals exact o.out.up 8 (by decide)
  ·have o:=aa a;obtain⟨s,z,B,E⟩:=r.out w a.bl;clear a g f;simp only[Par.af];go_simp;all_goals exact o.out.up 9 (by decide)
  ·have o:=aa a;obtain⟨s,z,B,E⟩:=r.out w a.bl;have d8:vs 8=.slice (some ⟨go,0,none⟩) F co:=a.ev 8 (by decide) (by decide) (by decide) (g 8 (by kernel_rfl));have d9:vs 9=.int .i64 (t:Int):=a.ev 9 (by decide) (by decide) (by decide) (g 9 (by kernel_rfl));clear a g f;simp only[Par.af,d8,d9];go_simp;all_goals exact o.out.up 10 (by decide)
  ·have o:=aa a;obtain⟨s,z,B,E⟩:=r.out w a.bl;have b0:vs 10=.pointer (some ⟨go,t,none⟩):=a.ev 10 (by decide) (by decide) (by decide) (g 10 (by kernel_rfl));clear a g f;simp only[Par.af,b0];go_simp;all_goals exact o.out.up 11 (by decide)
  ·have o:=aa a;obtain⟨s,z,B,E⟩:=r.out w a.bl;clear a g f;simp only[Par.af];go_simp;all_goals exact o.out.up 12 (by decide)
  ·have o:=aa a;obtain⟨s,z,B,E⟩:=r.out w a.bl;have b2:vs 11=.slice (some ⟨gr,0,none⟩) n cr:=a.ev 11 (by decide) (by decide) (by decide) (g 11 (by kernel_rfl));have b3:vs 12=.int .i64 (k:Int):=a.ev 12 (by decide) (by decide) (by decide) (g 12 (by kernel_rfl));clear a g f;simp only[Par.af,b2,b3];go_simp;all_goals exact o.out.up 13 (by decide)
  ·have a1:l 25=false:=(by cases h:l 25 with|false=>rfl|true=>exact absurd (f 25 14 (by kernel_rfl) h) (by simp[Q]));have b4:vs 13=.slice (some ⟨gr,0,none⟩) k cr:=a.ev 13 (by decide) (by decide) (by decide) (g 13 (by kernel_rfl));have hk:=HN.2.2;have V:=R.2.2.2.2.2.1
   obtain⟨v',w6,M,X,I⟩:=tH w W.heap.size (ac.nil (w:=w) (base:=W.heap.size)) (q:=some ⟨gr,0,none⟩) (m:=k) (d:=cr) (ys:=(az y.A y.vs).take (k*2)) (by rw[we];omega) (fun _=>⟨gr,0,rfl,fun j u G=>by
    rw[xq]
    have b5:(az y.A y.vs)[j]?=some u:=by
     rw[List.getElem?_take]at G;split at G
     ·exact G
     cases G
    have hc:=R.2.2.2.2.2.2 j u b5;exact(za (w:=W) (a.bl.block _ (xn _ _ hc))).trans hc⟩) (fun u hu=>R.2.2.2.2.1 u (ue hu)) (by omega) a.bl.size
   rw[xq,uh]at X;exact Par.bf rfl (.const (.slice none 0 0)) (.tmp 27) 92 92 rfl rfl b4 M (a.Bl a1 X ⟨I.os,I.tape,I.output,I.size,fun q hq=>I.block q hq (by simp[Value.ownBlock])⟩)
  ·have o:=aa a;obtain⟨s,z,B,E⟩:=r.out w a.bl;clear a g f;simp only[Par.af];go_simp;all_goals exact o.out.up 15 (by decide)
  ·have o:=aa a;obtain⟨s,z,B,E⟩:=r.out w a.bl;have b6:vs 15=.pointer (some ⟨b,0,none⟩):=a.ev 15 (by decide) (by decide) (by decide) (g 15 (by kernel_rfl));clear a g f;simp only[Par.af,b6];go_simp;all_goals exact o.out.up 16 (by decide)
  ·have o:=aa a;obtain⟨s,z,B,E⟩:=r.out w a.bl;have b7:vs 16=.pointer (some ⟨b,0,none⟩):=a.ev 16 (by decide) (by decide) (by decide) (g 16 (by kernel_rfl));clear a g f;simp only[Par.af,b7];go_simp;all_goals exact o.out.up 17 (by decide)
  ·have o:=aa a;obtain⟨s,z,B,E⟩:=r.out w a.bl;have b8:vs 17=.pointer (some ⟨b,1,none⟩):=a.ev 17 (by decide) (by decide) (by decide) (g 17 (by kernel_rfl));clear a g f;simp only[Par.af,b8];go_simp;all_goals exact o.out.up 18 (by decide)
  ·have o:=aa a;obtain⟨s,z,B,E⟩:=r.out w a.bl;clear a g f;simp only[Par.af];go_simp;all_goals exact o.out.up 19 (by decide)
  ·have o:=aa a;obtain⟨s,z,B,E⟩:=r.out w a.bl;have b9:vs 18=.slice (some ⟨go,0,none⟩) F co:=a.ev 18 (by decide) (by decide) (by decide) (g 18 (by kernel_rfl));have c0:vs 19=.int .i64 (t:Int):=a.ev 19 (by decide) (by decide) (by decide) (g 19 (by kernel_rfl));clear a g f;simp only[Par.af,b9,c0];go_simp;all_goals exact o.out.up 20 (by decide)
  ·have o:=aa a;obtain⟨s,z,B,E⟩:=r.out w a.bl;have c1:vs 20=.pointer (some ⟨go,t,none⟩):=a.ev 20 (by decide) (by decide) (by decide) (g 20 (by kernel_rfl));clear a g f;simp only[Par.af,c1];go_simp;all_goals exact o.out.up 21 (by decide)
  ·have o:=aa a;obtain⟨s,z,B,E⟩:=r.out w a.bl;clear a g f;simp only[Par.af];go_simp;all_goals exact o.out.up 22 (by decide)
  ·have o:=aa a;obtain⟨s,z,B,E⟩:=r.out w a.bl;have c4:vs 22=.int .i64 (k:Int):=a.ev 22 (by decide) (by decide) (by decide) (g 22 (by kernel_rfl));clear a g f;simp only[Par.af,c4];go_simp;have hw:IntKind.i64.wrap ((k:Int)+1)=(k:Int)+1:=(by rw[IntKind.wrap_i64];omega);rw[hw];exact o.out.up 23 (by decide)
  ·have a1:l 25=false:=(by cases h:l 25 with|false=>rfl|true=>exact absurd (f 25 24 (by kernel_rfl) h) (by simp[Q]));have c6:vs 21=.slice (some ⟨gr,0,none⟩) n cr:=a.ev 21 (by decide) (by decide) (by decide) (g 21 (by kernel_rfl));have c7:vs 23=.int .i64 ((k:Int)+1):=a.ev 23 (by decide) (by decide) (by decide) (g 23 (by kernel_rfl));have o:=aa a;clear a g f;simp only[Par.af,c6,c7];go_simp;all_goals exact o.out.s24 a1 (fun hm=>⟨gr,(k+1)*2,zq (by omega),fun j u G=>by rw[List.getElem?_drop]at G;exact R.2.2.2.2.2.2 _ u G⟩)
  ·have a3:=a.f14 (g 14 (by kernel_rfl)) Q;obtain⟨q,d,c8,hq⟩:=a.f24 (g 24 (by kernel_rfl));have V:=R.2.2.2.2.2.1;have f5:=HN.2.2;have f6:=HN.1
   obtain⟨v',w6,M,X,I⟩:=tH w W.heap.size a3 (q:=q) (m:=n-(k+1)) (d:=d) (ys:=(az y.A y.vs).drop ((k+1)*2)) (by rw[ua];omega) (fun hm=>by
    obtain⟨b',e1,e,hc⟩:=hq hm;exact⟨b',e1,e,fun j u G=>(za (w:=W) (a.bl.block _ (xn _ _ (hc j u G)))).trans (hc j u G)⟩) (fun u hu=>R.2.2.2.2.1 u (List.mem_of_mem_drop hu)) (by omega) a.bl.size
   exact Par.bf rfl (.tmp 28) (.tmp 38) 92 92 rfl rfl c8 M (a.Cp a3 X I)
  have o:=aa a;obtain⟨s,z,B,E⟩:=r.out w a.bl;have d3:vs 3=.slice (some ⟨go,0,none⟩) F co:=a.ev 3 (by decide) (by decide) (by decide) (g 3 (by kernel_rfl));have d4:vs 4=.int .i64 (t:Int):=a.ev 4 (by decide) (by decide) (by decide) (g 4 (by kernel_rfl));clear a g f;simp only[Par.af,d3,d4];go_simp;all_goals exact o.out.up 26 (by decide)
 intro l vs w4 Q a;simp only[cw,ym];have a4:vs 26=.pointer (some ⟨go,t,none⟩):=a.ev 26 (by decide) (by decide) (by decide) (Q 26 (by decide));have N:=a.f25 (Q 25 (by decide));obtain⟨x1,x2,x3,x4⟩:=r.out w4 a.bl;have Z:k+(n-(k+1))=y.A.length-1:=by have:=HN.1;have:=HN.2.2;omega
 have xf:w4.frozen? ⟨go,t,none⟩=false:=by
  have ho:=(R.1.later a.bl).outer;rw[R.2.1]at ho;exact ho.frozenAt t
 obtain⟨f7,J⟩:=ag (vs 25);rw[J]at N;have P:=R.1.delrow HT.1 HT.2 R.2.1 HN.2.2 (Z▸ac.mono N (zh _)) a.bl (fun q hq=>(ac.lt N q hq).1);obtain⟨p5,c5,e5,_,_⟩:=N.isslice;rw[HN.2.1,e5]at P;rw[e5]at J;have HA:=aa P;simp only[a4,J];clear P a Q N e5 a4 J x2 Z;go_wp2_with fail;go_ret;obtain⟨O',q1,q2,q3⟩:=HA.out;exact⟨rfl,_,O',q1,rfl,rfl,q2,q3⟩
end
