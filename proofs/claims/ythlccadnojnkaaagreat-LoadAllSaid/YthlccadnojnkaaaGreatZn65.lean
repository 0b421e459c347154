import Derived.Test.YthlccadnojnkaaaGreatZn3
import Derived.Test.YthlccadnojnkaaaGreatZn64
set_option maxHeartbeats 8000000
set_option maxRecDepth 100000
namespace Go.Proofs.YthlccadnojnkaaaGreat
open Go.Proofs.Tryz
open Go Go.Deep Go.ChangeShapes Go.WideShapes Go.ChangeAt Go.RowKit Co Co.S
def Cz(W:World)(v:Value)(n k:Nat)(xs:List Value):Prop:=xs.length=n*k/\∃p cap,v=.slice p n cap/\n<=cap/\cap<=maxLen/\(0<n->∃b off,p=some ⟨b,off,none⟩/\b<W.heap.size/\∀j u,xs[j]?=some u->W.cell? ⟨b,off+j,none⟩=some u)
theorem lY{k:Nat}{α:Type}:∀(L:List (α×List Value)),(∀x∈L,x.2.length=k)->∀i r,r<k->(L.flatMap (·.2))[i*k+r]?=(L[i]?).bind (fun x=>x.2[r]?)
 | [],_,i,r,_=>by simp
 | x::L,h,0,r,hr=>by
  have a:x.2.length=k:=h x (by simp);rw[vh,Nat.zero_mul,xq,wf (by omega)];rfl
 | x::L,h,i+1,r,hr=>by
  have a:x.2.length=k:=h x (by simp);have e:(i+1)*k+r=k+(i*k+r):=(by rw[Nat.add_mul];omega);rw[vh,e,ye (by omega),a,Nat.add_sub_cancel_left,lY L (fun y b=>h y (by simp[b])) i r hr];rfl
theorem oK{k:Nat}{α:Type}:∀(L:List (α×List Value)),(∀x∈L,x.2.length=k)->(L.flatMap (·.2)).length=L.length*k
 | [],_=>by simp
 | x::L,h=>by
  rw[vh,y8,h x (by simp),oK L (fun y a=>h y (by simp[a])),xe,Nat.add_mul];omega
theorem oL{α:Type}{f:α->List Value}:∀(L:List (α×List Value)),(∀x∈L,x.2=f x.1)->L.flatMap (·.2)=(L.map (·.1)).flatMap f
 | [],_=>rfl
 | x::L,h=>by
  rw[vh,List.map_cons,vh,h x (by simp),oL L (fun y a=>h y (by simp[a]))]
theorem II{H:Type}{enc:TypeId×Value->H}{P:Program}{w:World}{base:Nat}{spare:Nat->Bool}{held:Bool}{t:TypeId}{f0 f1 f2 f3 f4:Field}{fuel:Nat}{cs:List Value}{x:DataW H×List MemPlace}(ht:P.underlying t=some (.struct #[f0,f1,f2,f3,f4]))(h:DataW.trod enc P w base spare held fuel t cs=some x):∃b c d e f n,cs.length=P.cellsOf t/\DataW.trod enc P w base spare held n f0.type ((cs.drop f0.offset).take (P.cellsOf f0.type))=some b/\DataW.trod enc P w base spare held n f1.type ((cs.drop f1.offset).take (P.cellsOf f1.type))=some c/\DataW.trod enc P w base spare held n f2.type ((cs.drop f2.offset).take (P.cellsOf f2.type))=some d/\DataW.trod enc P w base spare held n f3.type ((cs.drop f3.offset).take (P.cellsOf f3.type))=some e/\DataW.trod enc P w base spare held n f4.type ((cs.drop f4.offset).take (P.cellsOf f4.type))=some f:=by
 obtain⟨g,n,_,_,i,j,a⟩:=DataW.trod_struct ht h
 match g,j,a with
 | [b,c,d,e,f],_,a=>exact⟨b,c,d,e,f,n,i,a 0 f0 rfl,a 1 f1 rfl,a 2 f2 rfl,a 3 f3 rfl,a 4 f4 rfl⟩
section
variable {H:Type}{enc:TypeId×Value->H}{W:World}
theorem oM{t e:TypeId}{fuel k:Nat}{cs:List Value}{x:DataW H×List MemPlace}{α:Type}{P:α->List Value->Prop}(ht:prog.underlying t=some (.slice e))(hk:prog.cellsOf e=k)(h0:0<k)(h:DataW.trod enc prog W 0 (fun _=>true) true fuel t cs=some x)(hone:∀n f y,f.length=k->DataW.trod enc prog W 0 (fun _=>true) true n e f=some y->∃u:α,P u f):∃v,cs=[v]/\∃L:List (α×List Value),(∀x∈L,P x.1 x.2/\x.2.length=k)/\Cz W v L.length k (L.flatMap (·.2)):=by
 rcases Go.Deep.open_slice ht h with ⟨rfl,_⟩ | ⟨a,len,p,m,n,D,Z,rfl,hb,G,S,q,d,s⟩
 ·exact⟨_,rfl,[],by simp,(Nat.zero_mul k).symm,none,0,rfl,zm _,zh _,fun h=>absurd h (ub _)⟩
 have U:len<=m:=by rw[q];simpa using G
 have o:∀i,i<len->∃x:α×List Value,P x.1 x.2/\x.2.length=k/\∀r,r<k->W.cell? ((a.add (i*k)).add r)=x.2[r]?:=by
  intro i l;obtain⟨f,I,V⟩:=s i (by omega);rw[hk]at I;obtain⟨_,J,X⟩:=World.cells?_some I;obtain⟨u,Y⟩:=hone _ _ _ J V;exact⟨(u,f),Y,J,X⟩
 obtain⟨L,M,d⟩:=DJ len o
 have c:∀x∈L,P x.1 x.2/\x.2.length=k:=fun x w=>by
  obtain⟨i,l,rfl⟩:=xz w;exact⟨(d i l).1,(d i l).2.1⟩
 refine⟨_,rfl,L,c,oK L (fun x d=>(c x d).2),some a,p,by rw[M],by rw[M];exact G,S,fun N=>?_⟩;obtain⟨b,z,spot⟩:=a;have A:=(d 0 N).2.2 0 h0;have B:=(d 0 N).2.1;rw[z6 (by omega)]at A;have g:spot=none:=(by simpa [Addr.add]using World.cell?_spot A);subst g;refine⟨b,z,rfl,?_,fun j u E=>?_⟩
 ·have:=xn _ _ A
  simpa [Addr.add]using this
 have F:j<L.length*k:=by
  rw[<-oK L (fun x d=>(c x d).2)];rcases v6 j (L.flatMap (·.2)).length with h|h
  ·exact h
  rw[u6 h]at E;cases E
 have l:j / k<L.length:=Nat.div_lt_of_lt_mul (by rw[Nat.mul_comm];exact F);have O:j % k<k:=Nat.mod_lt _ h0;have e:j / k*k+j % k=j:=(by rw[Nat.mul_comm];exact Nat.div_add_mod j k);have Q:=lY L (fun x d=>(c x d).2) (j / k) (j % k) O;rw[e,E,z6 l]at Q;have R:=(d (j / k) l).2.2 (j % k) O;rw[tR,tR,Nat.add_assoc,e]at R;rw[R];exact Q.symm
theorem Hr{fuel:Nat}{cs:List Value}{x:DataW H×List MemPlace}{t:TypeId}{f0 f1 f2:Field}(ht:prog.underlying t=some (.struct #[f0,f1,f2]))(h:DataW.trod enc prog W 0 (fun _=>true) true fuel t cs=some x):∃b c d n,cs.length=prog.cellsOf t/\DataW.trod enc prog W 0 (fun _=>true) true n f0.type ((cs.drop f0.offset).take (prog.cellsOf f0.type))=some b/\DataW.trod enc prog W 0 (fun _=>true) true n f1.type ((cs.drop f1.offset).take (prog.cellsOf f1.type))=some c/\DataW.trod enc prog W 0 (fun _=>true) true n f2.type ((cs.drop f2.offset).take (prog.cellsOf f2.type))=some d:=by
 obtain⟨e,n,_,_,f,g,a⟩:=DataW.trod_struct ht h
 match e,g,a with
 | [b,c,d],_,a=>exact⟨b,c,d,n,f,a 0 f0 rfl,a 1 f1 rfl,a 2 f2 rfl⟩
theorem c9:prog.cellsOf 9=1:=by kernel_rfl
theorem c3:prog.cellsOf 3=1:=by kernel_rfl
theorem c2:prog.cellsOf 2=1:=by kernel_rfl
theorem Lc:prog.cellsOf 27=1:=by kernel_rfl
theorem c85:prog.cellsOf 29=5:=by kernel_rfl
theorem GE:prog.cellsOf 32=3:=by kernel_rfl
theorem FB{fuel:Nat}{cs:List Value}{x:DataW H×List MemPlace}(h:DataW.trod enc prog W 0 (fun _=>true) true fuel 27 cs=some x):∃v l,cs=[v]/\eb (fun q=>q<W.heap.size) W v l/\∀x∈l,x.2.2.size<=maxLen:=by
 obtain⟨v,rfl,L,o,F⟩:=oM (α:=T3) (P:=fun u a=>a=[.int .i64 u.1,.int .i64 u.2.1,.string u.2.2]/\u.2.2.size<=maxLen) underlying27 GE (by decide) h (fun n a y r d=>by
  obtain⟨M,N,O,m,_,t,w,z⟩:=Hr underlying32 d
  match a,r with
  | [x0,x1,x2],_ =>
   simp only[c9,c3,c2,ym,cw,ce,ze]at t w z;obtain⟨k,e0,_,_⟩:=DataW.trod_int underlying3 t;obtain⟨G,A,_,_⟩:=DataW.trod_int underlying2 w;obtain⟨s,c,_,I⟩:=DataW.trod_string underlying9 z;simp only[List.cons.injEq,yu]at e0 A c;subst e0 A c;exact⟨(k,G,s),rfl,I⟩)
 refine⟨v,L.map (·.1),rfl,?_,fun x g=>?_⟩
 ·obtain⟨r,p,i,e,c1,c2,c3⟩:=F;refine⟨p,i,by rw[yh];exact e,by rw[yh];exact c1,c2,fun B=>?_⟩;obtain⟨b,j,c,E,J⟩:=c3 (by rw[yh]at B;exact B);refine⟨b,j,c,E,E,?_⟩
  have:cells3 (L.map (·.1))=L.flatMap (·.2):=by
   rw[oL (f:=fun u:T3=>[.int .i64 u.1,.int .i64 u.2.1,.string u.2.2]) L (fun x g=>(o x g).1.1)];rfl
  rw[this];exact J
 obtain⟨y,d,rfl⟩:=List.mem_map.1 g;exact(o y d).1.2
theorem qI{fuel:Nat}{cs:List Value}{x:DataW H×List MemPlace}(hf:DataW.trod enc prog W 0 (fun _=>true) true fuel 35 cs=some x):∃(q:Option Addr) (L:List cx) (c:Nat),cs=[.slice q L.length c]/\qi W q L/\L.length<=maxLen/\∀o∈L,kj o.id:=by
 obtain⟨v,e,L,t,U⟩:=oM (α:=cx×Value) (P:=fun u d=>d=opC u.1 u.2/\eb (fun q=>q<W.heap.size) W u.2 u.1.vals/\kj u.1.id/\u.1.tbl.size<=maxLen/\u.1.col.size<=maxLen/\∀x∈u.1.vals,x.2.2.size<=maxLen) underlying35 c85 (by decide) hf (fun n d y g V=>by
  obtain⟨y0,y1,y2,y3,y4,m,_,G,I,J,M,N⟩:=II underlying29 V
  match d,g with
  | [x0,x1,x2,x3,x4],_ =>
   simp only[c9,c3,Lc,ym,cw,ce,ze]at G I J M N;obtain⟨k,e0,_,_⟩:=DataW.trod_int underlying3 G;obtain⟨tb,O,_,w⟩:=DataW.trod_string underlying9 I;obtain⟨i,h,_,Q⟩:=DataW.trod_int underlying3 J;obtain⟨s,p,_,z⟩:=DataW.trod_string underlying9 M;obtain⟨vv,l,R,A,g⟩:=FB N;simp only[List.cons.injEq,yu]at e0 O h p R;subst e0 O h p R;exact⟨(⟨k,tb,i,s,l⟩,x4),rfl,A,bounds_i64 Q,w,z,g⟩)
 subst e;obtain⟨g,q,B,e,c1,c2,c3⟩:=U;refine⟨q,L.map (fun x=>x.1.1),B,by rw[yh,e],fun j S=>?_,by rw[yh];omega,fun o X=>?_⟩
 ·rw[yh]at S;obtain⟨b,E,h,Y,f⟩:=c3 (by omega);obtain⟨⟨p,A,Q,w,z,Z⟩,a0⟩:=t L[j] (z8 _);have a:=(fun r hr=>lY L (fun x F=>(t x F).2) j r hr);simp only[z6 S,cp,p]at a;rw[xa];exact⟨b,E,L[j].1.2,h,Y,f _ _ (a 0 (by decide)),f _ _ (a 1 (by decide)),f _ _ (a 2 (by decide)),f _ _ (a 3 (by decide)),f _ _ (a 4 (by decide)),A,w,z,Z⟩
 obtain⟨x,F,rfl⟩:=List.mem_map.1 X;exact(t x F).1.2.2.1
theorem vQ{v:Value}{d:DataW H}{p:List MemPlace}(hv:∃a l c,v=.slice a l c)(h:DataW.Trod enc prog W 0 (fun _=>true) true 35 v d p):∃(q:Option Addr) (L:List cx) (c:Nat),v=.slice q L.length c/\qi W q L/\L.length<=maxLen/\∀o∈L,kj o.id:=by
 obtain⟨j,b,f,rfl⟩:=hv;obtain⟨g,i⟩:=h;obtain⟨q,L,c,e,h⟩:=qI i;simp[Value.cells]at e;exact⟨q,L,c,by rw[e.1,e.2.1,e.2.2],h⟩
def si(W:World)(q:Option Addr)(LL:List (List cx)):Prop:=∀j (hj:j<LL.length),∃b off q2 c,q=some ⟨b,off,none⟩/\b<W.heap.size/\W.cell? ⟨b,off+j,none⟩=some (.slice q2 LL[j].length c)/\qi W q2 LL[j]/\LL[j].length<=maxLen/\∀o∈LL[j],kj o.id
theorem Fk:prog.cellsOf 35=1:=by kernel_rfl
theorem fK{v:Value}{d:DataW H}{p:List MemPlace}(hv:∃a l c,v=.slice a l c)(h:DataW.Trod enc prog W 0 (fun _=>true) true 49 v d p):∃(q:Option Addr) (LL:List (List cx)) (c:Nat),v=.slice q LL.length c/\si W q LL/\LL.length<=maxLen:=by
 obtain⟨O,r,s,rfl⟩:=hv;obtain⟨t,A⟩:=h
 obtain⟨v,e,L,w,B⟩:=oM (α:=List cx×Option Addr×Nat) (P:=fun u f=>f=[.slice u.2.1 u.1.length u.2.2]/\qi W u.2.1 u.1/\u.1.length<=maxLen/\∀o∈u.1,kj o.id) underlying49 Fk (by decide) A (fun n f y E F=>by
  obtain⟨q,l,c,e,i⟩:=qI F;exact⟨(l,q,c),e,i⟩)
 simp[Value.cells]at e;subst e;obtain⟨E,q,k,e,c1,c2,c3⟩:=B;refine⟨q,L.map (fun x=>x.1.1),k,by rw[yh];exact e,fun j z=>?_,by rw[yh];omega⟩;rw[yh]at z;obtain⟨b,m,G,I,J⟩:=c3 (by omega);obtain⟨⟨M,i⟩,_⟩:=w L[j] (z8 _);have g:=lY L (fun x N=>(w x N).2) j 0 (by decide);rw[z6 z,Option.bind_some,M,Nat.mul_one,Nat.add_zero]at g;rw[xa];exact⟨b,m,L[j].1.2.1,L[j].1.2.2,G,I,J _ _ g,i⟩
end
end Go.Proofs.YthlccadnojnkaaaGreat
namespace Go.Proofs.YthlccadnojnkaaaGreat
open Go.Proofs.Tryz
open Go Go.RowKit Go.Proofs Co Co.S
theorem si.later{W w:World}{q:Option Addr}{LL:List (List cx)}(h:si W q LL)(hb:Below W.heap.size W w):si w q LL:=fun j f=>by
 obtain⟨b,a,g,c,e,d,i,k,l⟩:=h j f;exact⟨b,a,g,c,e,z9 d hb.size,(za (w:=W) (hb.block _ d)).trans i,iN k hb,l⟩
theorem oN{L:List PT}{ops:List cx}(h:(dn L ops).1=0):(ak (pre 4) L ops).err=0/\(au (pre 4) ((ak (pre 4) L ops).rows.map (·.2))).1=0:=by
 unfold dn at h;by_cases a:(ak (pre 4) L ops).err=0
 ·rw[zv a]at h;by_cases b:(au (pre 4) ((ak (pre 4) L ops).rows.map (·.2))).1=0
  ·exact⟨a,b⟩
  rw[zq b]at h;exact absurd h b
 rw[zq a]at h;exact absurd h a
theorem Ef{W:World}{p:Option Addr}{c:Nat}{L:List cx}(M:Nat)(hM:M<=1000)(h:qi W p L)(hL:L.length<=maxLen):Calls prog 23 #[.slice p L.length c,.int .i64 (M:Int)] W fun e a=>∃g n k,e=.returned (.slice g n k)/\((L.take M).map fe).length=n/\ga (fun q=>q<a.heap.size) a (.slice g n k) ((L.take M).map fe)/\Below W.heap.size W a:=by
 refine(C9 M hM h hL).mono ?_;rintro e a⟨j,rfl,d,f⟩;have b:=ga.of d (fun q _ i=>i);obtain⟨g,k,rfl⟩:=b.sl;exact⟨g,_,k,rfl,rfl,b,f⟩
theorem iP{W:World}{q:Option Addr}{cq:Nat}{LL:List (List cx)}(hB:si W q LL)(hm:LL.length<=maxLen){N:Nat}(hN:N<=12):Calls prog 22 #[.slice q LL.length cq,.int .i64 (N:Int)] W fun e z=>∃d b L,e=.returned (.tuple #[.pointer (some ⟨d,0,none⟩),.pointer (some ⟨b,0,none⟩)])/\kt z d L/\mz z b L/\(∀x∈L,dw (42*N) x)/\(au (pre 4) (L.map (·.2))).1=0/\Below W.heap.size W z:=by
 have A:=cP W;obtain⟨n,hn⟩:=ag LL.length;have d4:(n:Int)<=9223372036854775807:=(by unfold maxLen at hm;omega);have HX:=aa (ab hB (ab hn hN));rw[hn];clear hB hm hn;go_enter func22,ntmps22;go_upto_region 2 with (go_at_call 13;refine A.mono ?_;rintro e w1⟨d,b,ps,rfl,hP⟩;have HA:=aa (ab hP.Ac (ab hP.AY (hP.bel (zb _ _) (fun q hq=>hq))));clear A hP);go_wp2_with fail;go_loopg [6,7,8] (N+1) (fun gh dv bv iv w=>∃(i d b:Nat) (L:List PT),iv=.int .i64 (i:Int)/\i<=n/\i<=N/\N+1<=i+gh/\dv=.pointer (some ⟨d,0,none⟩)/\bv=.pointer (some ⟨b,0,none⟩)/\kt w d L/\mz w b L/\(∀x∈L,dw (42*i) x)/\(au (pre 4) (L.map (·.2))).1=0/\Below W.heap.size W w)
 case atStart=>exact⟨0,d,b,Lz,rfl,zh _,zh _,by omega,rfl,rfl,HA.1,HA.2.1,cD,by rw[DF],HA.2.2⟩
 obtain⟨i,d,b,L,rfl,d5,d6,hg,rfl,rfl,hA,b5,b7,b8,a7⟩:=hrel;have j:=aa (ab hA (ab b5 (ab b7 (ab b8 a7))));clear hA b5 b7 b8 a7;by_cases B:i<n/\i<N
 ·obtain⟨B,d7⟩:=B;have d8:(i:Int)<(n:Int):=(by omega);have d3:(i:Int)<(N:Int):=(by omega);obtain⟨g,d9,q2,c2,rfl,gl,gc,E,a8,a9⟩:=(HX.1.later j.2.2.2.2) i (by rw[HX.2.1];exact B);obtain⟨Li,b9⟩:=ag (LL[i]'(by rw[HX.2.1];exact B));rw[b9]at gc E a8 a9;have hO:Calls prog 23 #[.slice q2 Li.length c2,.int .i64 42] wr _:=Ef (c:=c2) 42 (by decide) E a8;obtain⟨nl,k⟩:=ag Li.length;rw[k]at gc hO;have b0:=yB a9 42;have F:((Li.take 42).map fe).length<=42:=(by rw[yh,we];omega);obtain⟨v,G⟩:=ag ((Li.take 42).map fe);rw[G]at hO b0 F;have HO:=aa (ab b0 F);clear b0 F E a8 a9 b9 k G;go_upto_region 6 with (go_at_call 23;refine hO.mono ?_;rintro e w2⟨po,no,co,rfl,c0,hK,c4⟩;have H2:=aa (ab c0 (ab hK c4));clear hO c0 hK c4);clear gl gc;have H:42*i+v.length<=590:=(by have h1:=HO.2;have h2:=HX.2.2;omega);have u:=bN (j.1.later H2.2.2) H2.2.1 j.2.2.1 H HO.1;by_cases h0:(dn L v).1=0
  ·obtain⟨R,hR⟩:=ag ((ak (pre 4) L v).rows);obtain⟨I,hI⟩:=ag ((ak (pre 4) L v).ids);obtain⟨nI,c5⟩:=ag I.length;have J:=u.mono (fun e z h=>cF h h0 hR hI c5)
   have c6:∀x∈R,dw (42*(i+1)) x:=fun x hx=>by
    rw[<-hR]at hx;exact(eV j.2.2.1 x hx).mono (by have:=HO.2;omega)
   have c7:(au (pre 4) (R.map (·.2))).1=0:=by rw[<-hR];exact(oN h0).2
   have c8:I.length<=1000:=by
    rw[<-hI];have h1:=yS (ts:=pre 4) (L:=L) (l:=v);have h2:=HO.2;omega
   have V:=aa (ab c6 (ab c7 (ab c8 (ab c5 (ab h0 (ab hR hI))))));clear u c6 c7 c8 h0 hR hI H;go_upto_region 7 with (go_at_call 24;refine J.mono ?_;rintro e Y⟨x,p1,c1,rfl,hX,d0,M⟩;have H3:=aa (ab hX (ab d0 M));clear J hX d0 M);have b4:=aD Y (.cells zF 39);have Z:=z7 Y (.cells zF 39);obtain⟨w4,o⟩:=ag (Y.alloc (.cells zF 39));obtain⟨F1,p⟩:=ag Y.heap.size;rw[o]at b4 Z;rw[p]at Z
   try rw[o]
   try rw[p]
   have O:=aa (ab (aB H3.2.2 b4) (ab Z b4));clear b4 Z o p;have k:=(kR ((j.2.1.later H2.2.2).later O.1) (H2.2.1.later O.1) j.2.2.1 (by have h1:=HO.2;have h2:=HX.2.2;omega) HO.1).mono (fun e z h=>cF h V.2.2.2.2.1 V.2.2.2.2.2.1 V.2.2.2.2.2.2 V.2.2.2.1);go_upto_region 8 with (go_at_call 26;refine k.mono ?_;rintro e w5⟨y,p2,c2,rfl,hY,d1,P⟩;have H5:=aa (ab hY (ab d1 P));clear k hY d1 P);have b6:=aD w5 (.cells zF 39);have k6:=z7 w5 (.cells zF 39);obtain⟨w6,r⟩:=ag (w5.alloc (.cells zF 39));obtain⟨F2,s⟩:=ag w5.heap.size;rw[r]at b6 k6;rw[s]at k6
   try rw[r]
   try rw[s]
   have a:=aB H5.2.2 b6;have f:=aa (ab (aB O.1 a) (ab (aE a O.2.1) k6));have a5:=aa (ab ((H3.1.later O.2.2).later a) (ab (H5.1.later b6) (ab (((H3.2.1.later O.2.2).later a).mono (zh _)) ((H5.2.1.later b6).mono (zh _)))));clear b6 k6 r s a;have a0:=aA f.2.1 0;have a1:=aA f.2.1 1;have a2:=aA f.2.1 2;have a3:=aA f.2.1 3;have a4:=aA f.2.1 4;have al:=aC f.2.1;have f0:=aA f.2.2 0;have f1:=aA f.2.2 1;have f2:=aA f.2.2 2;have f3:=aA f.2.2 3;have f4:=aA f.2.2 4;have fl:=aC f.2.2;have Q:Calls prog 19 #[.agg #[.int .i64 0,.int .i64 0,.string e0,.int .i64 0,.string e0],.agg #[.int .i64 0,.int .i64 0,.string e0,.int .i64 0,.string e0]] w6 fun x z=>x=.returned (.bool true)/\Below w6.heap.size w6 z:=bR 0 0 0 e0 e0 w6
   go_wp2_with (first|(go_at_call 19;refine Q.mono ?_;rintro e w7⟨rfl,t⟩;have H7:=aa t;have m:=nX (a5.2.2.1.later t) (a5.2.2.2.later t) V.2.2.1;clear Q t)|(go_at_call 54;refine m.mono ?_;rintro e w8⟨rfl,S⟩;have H8:=aa (aB H7.out S);clear m S))
   go_roundg (N-i)
   case measure=>omega
   exact⟨i+1,x,y,R,by go_num,by omega,by omega,by omega,rfl,rfl,a5.1.later H8.out,a5.2.1.later H8.out,V.1,V.2.1,aB j.2.2.2.2 (aB H2.2.2 (aB f.1 H8.out))⟩
  obtain⟨⟨X,e2,e3,e4,e5⟩,a6⟩:∃x,dn L v=x:=⟨_,rfl⟩;have b1:X≠0:=(by rw[a6]at h0;exact h0);have J:=u.mono (fun e z h=>dF h a6 b1);have V:=aa (ab a6 b1);clear u h0 b1 a6 H;go_upto_region 7 with (go_at_call 24;refine J.mono ?_;rintro e Y⟨rfl,M⟩;have H3:=aa M;clear J M);have b4:=aD Y (.cells #[.int .i64 X,.int .i64 e2,.string e3,.int .i64 e4,.string e5] 39);have Z:=z7 Y (.cells #[.int .i64 X,.int .i64 e2,.string e3,.int .i64 e4,.string e5] 39);obtain⟨w4,o⟩:=ag (Y.alloc (.cells #[.int .i64 X,.int .i64 e2,.string e3,.int .i64 e4,.string e5] 39));obtain⟨F1,p⟩:=ag Y.heap.size;rw[o]at b4 Z;rw[p]at Z
  try rw[o]
  try rw[p]
  have O:=aa (ab (aB H3.out b4) Z);clear b4 Z o p;have k:=(kR ((j.2.1.later H2.2.2).later O.1) (H2.2.1.later O.1) j.2.2.1 (by have h1:=HO.2;have h2:=HX.2.2;omega) HO.1).mono (fun e z h=>dF h V.1 V.2);go_upto_region 8 with (go_at_call 26;refine k.mono ?_;rintro e w5⟨rfl,P⟩;have H5:=aa P;clear k P);have b6:=aD w5 (.cells #[.int .i64 X,.int .i64 e2,.string e3,.int .i64 e4,.string e5] 39);have k6:=z7 w5 (.cells #[.int .i64 X,.int .i64 e2,.string e3,.int .i64 e4,.string e5] 39);obtain⟨w6,r⟩:=ag (w5.alloc (.cells #[.int .i64 X,.int .i64 e2,.string e3,.int .i64 e4,.string e5] 39));obtain⟨F2,s⟩:=ag w5.heap.size;rw[r]at b6 k6;rw[s]at k6
  try rw[r]
  try rw[s]
  have a:=aB H5.out b6;have f:=aa (ab (aB O.1 a) (ab (aE a O.2) k6));clear b6 k6 r s a;have a0:=aA f.2.1 0;have a1:=aA f.2.1 1;have a2:=aA f.2.1 2;have a3:=aA f.2.1 3;have a4:=aA f.2.1 4;have al:=aC f.2.1;have f0:=aA f.2.2 0;have f1:=aA f.2.2 1;have f2:=aA f.2.2 2;have f3:=aA f.2.2 3;have f4:=aA f.2.2 4;have fl:=aC f.2.2;have Q:Calls prog 19 #[.agg #[.int .i64 X,.int .i64 e2,.string e3,.int .i64 e4,.string e5],.agg #[.int .i64 X,.int .i64 e2,.string e3,.int .i64 e4,.string e5]] w6 fun x z=>x=.returned (.bool true)/\Below w6.heap.size w6 z:=bR X e2 e4 e3 e5 w6
  go_wp2_with (first|(go_at_call 19;refine Q.mono ?_;rintro e w7⟨rfl,t⟩;have H7:=aa t;have m:Calls prog 54 #[.slice none 0 0,.slice none 0 0] w7 _:=nX (xs:=[]) ac.nil ac.nil (by decide);clear Q t)|(go_at_call 54;refine m.mono ?_;rintro e w8⟨rfl,S⟩;have H8:=aa (aB H7.out S);clear m S))
  have b2:=aB H2.2.2 (aB f.1 H8.out);go_roundg (N-i)
  case measure=>omega
  exact⟨i+1,d,b,L,by go_num,by omega,by omega,by omega,rfl,rfl,j.1.later b2,j.2.1.later b2,fun x hx=>(j.2.2.1 x hx).mono (by omega),j.2.2.2.1,aB j.2.2.2.2 b2⟩
 have U:=(BK j.1 j.2.1).same j.2.2.1 (by have h2:=HX.2.2;omega);have b3:¬ (i:Int)<(n:Int)∨((i:Int)<(n:Int)/\¬ (i:Int)<(N:Int)):=(by omega);clear hg;rcases b3 with hs|⟨hs,e6⟩
 all_goals
  clear B;go_wp2_with (go_at_call 25;refine U.mono ?_;rintro e w9⟨rfl,d2⟩;have H9:=aa d2;clear U d2);go_ret2;exact⟨d,b,L,rfl,j.1.later H9.out,j.2.1.later H9.out,fun x hx=>(j.2.2.1 x hx).mono (by omega),j.2.2.2.1,aB j.2.2.2.2 H9.out⟩
