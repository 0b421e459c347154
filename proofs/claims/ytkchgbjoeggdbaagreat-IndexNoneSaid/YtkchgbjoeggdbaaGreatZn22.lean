import Derived.Test.YtkchgbjoeggdbaaGreatZn21
set_option maxHeartbeats 4000000
set_option maxRecDepth 100000
namespace Go.Proofs.YtkchgbjoeggdbaaGreat
open Go.Proofs.Tryz
open Go Go.RowKit Go.Proofs Co Co.S
def AC(t:T)(vals:List T3)(k:Nat):Bool:=match t.cols[k]?,vals[k]? with
 | some c,some x=>lq c.kd x
 | _,_=>false
def ft(t:T)(vals:List T3):Bool:=(List.range t.cols.length).all (AC t vals)
theorem jJ{n:Nat}{f:Nat->Bool}(h:∀j,j<n->f j=true):(List.range n).all f=true:=by
 rw[xi];intro x a;exact h x (List.mem_range.1 a)
theorem F7{n:Nat}{f:Nat->Bool}(j:Nat)(hj:j<n)(h:f j=false):(List.range n).all f=false:=by
 rw[List.all_eq_false];exact⟨j,List.mem_range.2 hj,by simp[h]⟩
theorem qE{t:T}{vals:List T3}{k:Nat}(hk:k<t.cols.length)(hv:k<vals.length):AC t vals k=lq t.cols[k].kd vals[k]:=by
 unfold AC;rw[z6 hk,z6 hv]
theorem zX{t:T}{vals:List T3}(h:ft t vals=true){k:Nat}(hk:k<t.cols.length)(hv:k<vals.length):lq t.cols[k].kd vals[k]=true:=by
 rw[<-qE hk hv];exact List.all_eq_true.1 h k (List.mem_range.2 hk)
def AI(t:T)(next:Nat)(vals:List T3):Int:=if next=65536 then 5 else if vals.length≠t.cols.length then 1 else if ft t vals then 0 else 4
theorem bD{n b:Nat}{A x:World}(h:Below n A x)(hb:n<=b)(a c d:Value):Below n A (((x.setCell ⟨b,0,none⟩ a).setCell ⟨b,1,none⟩ c).setCell ⟨b,2,none⟩ d):=
 ((h.setCell (p:=⟨b,0,none⟩) hb a).setCell (p:=⟨b,1,none⟩) hb c).setCell (p:=⟨b,2,none⟩) hb d
section
variable{W W':World}{tb next:Nat}{t:T}{i:In}{lab:Nat->Nat}
theorem rX{S:Nat->Prop}{vv:Value}{vals:List T3}(h:ec W tb t next i lab)(hv:fk S W vv vals)(hn:next<=65536)(hc:t.cols.length<=1000)(hs:∀x∈vals,x.2.2.size<=maxLen)(hl:vals.length<=1000000):Calls prog 92 #[.pointer (some ⟨tb,0,none⟩),vv] W fun e w'=>e=.returned (.int .i64 (AI t next vals))/\Below W.heap.size W w':=by
 obtain⟨p,a0,rfl,Q,R⟩:=hv.slice;obtain⟨pc,cc,r,z,A⟩:=h.cols.isslice;have c4:=h.cells.2.2.2.2.1;have c9:=h.cells.2.2.2.2.2.2.2.2.2;have zl:=h.tlt;rw[r]at c4;obtain⟨n,d⟩:=ae t.cols.length;obtain⟨m,f⟩:=ae vals.length;rw[d]at c4 hc;rw[f]at hv Q hl ⊢;unfold maxLen at R;have U:=aa (ab h (ab hv hs));have N:=aa (ab d f);unfold AI;rw[d,f];by_cases X:next=65536
 ·subst X;rw[zw rfl];clear h hv r d f z A hs;go_enter func92,ntmps92;go_wp2_with fail;go_ret;exact⟨rfl,zg _ _⟩
 rw[zu X];have a1:((next:Int)==65536)=false:=(by simp;omega);by_cases Y:m=n
 ·subst Y;rw[zu (fun h=>h rfl)];obtain⟨E,q⟩:=ae (if ft t vals=true then(0:Int)else 4);rw[q];have Z:=aa q;clear q;clear h hv r d f z A hs;go_enter func92,ntmps92;go_wp2_with fail;go_loopg [27] (m+1) (fun gh jv w=>∃(j:Nat),jv=.int .i64 (j:Int)/\j<=m/\m+1<=j+gh/\(∀k,k<j->AC t vals k=true)/\Below W.heap.size W w)
  case atStart=>exact⟨0,rfl,zj _,by omega,fun k L=>absurd L (yh k),zg _ _⟩
  obtain⟨j,rfl,hj,hg,s,I⟩:=hrel;by_cases B:j<m
  ·have F:j<vals.length:=(by rw[N.2];exact B);have M:j<t.cols.length:=(by rw[N.1];exact B);obtain⟨b,a2,rfl,hb,v0,v1,v2⟩:=(U.2.1.later I).val F;have v:=U.2.2 _ (z8 F);have G:=qE M F;obtain⟨u,hu⟩:=ae (vals[j]);rw[hu]at v0 v1 v2 v G;obtain⟨O,un,P⟩:=u;simp only at v0 v1 v2 v;have y:=aD wr (.cells #[.int .i64 O,.int .i64 un,.string P] 32);have g:=z7 wr (.cells #[.int .i64 O,.int .i64 un,.string P] 32);obtain⟨w2,H⟩:=ae (wr.alloc (.cells #[.int .i64 O,.int .i64 un,.string P] 32));rw[H]at y g;have a:=gI (U.1.later (aC I y)) j M O un P v;rw[<-G]at a;obtain⟨ok,l⟩:=ae (AC t vals j);rw[l]at a;have J:=aa (ab s (aC I y));have HW:=aa H;have HO:=aa l;have x0:=aA g 0;have x1:=aA g 1;have x2:=aA g 2;have xl:=aB g;have a3:(j:Int)<(m:Int):=(by omega);clear s I y g H G hu l v hb;go_upto_region 10 with fail;rw[HW.out];cases ok with
   | true =>
    go_wp2_with (go_at_call 96;refine a.mono ?_;rintro e w3⟨rfl,o⟩;have V:=aa o;clear o);go_roundg (m-j)
    case measure=>omega
    case rel=>exact⟨j+1,by go_num,by omega,by omega,fun k L=>by
     by_cases e:k=j
     ·rw[e];exact HO.out
     ·exact J.1 k (by omega),aC J.2 V.out⟩
   | false =>
    go_wp2_with (go_at_call 96;refine a.mono ?_;rintro e w3⟨rfl,o⟩;have V:=aa o;clear o);go_ret;have c:ft t vals=false:=F7 j (by rw[N.1];exact B) HO.out;have q:=Z.out;rw[c]at q;rw[<-q];exact⟨rfl,aC J.2 V.out⟩
  obtain rfl:j=m:=(by omega);have c:ft t vals=true:=jJ (fun k L=>s k (by rw[N.1]at L;exact L));have q:=Z.out;rw[c]at q;have J:=aa (ab I q);clear s I c q;go_wp2_with fail;go_ret;rw[<-J.2];exact⟨rfl,J.1⟩
 rw[zw Y];have a4:((m:Int) != (n:Int))=true:=(by simp;omega);clear h hv r d f z A hs;go_enter func92,ntmps92;go_wp2_with fail;go_ret;exact⟨rfl,zg _ _⟩
end
def bu(l:List T3)(p:Nat)(x:T3):List T3:=if p<l.length then l.set p x else l++[x]
def spot(i:In):Nat:=(i.free.getLast?).getD i.np
def lz(W:World)(tb:Nat)(t:T)(next:Nat)(i:In)(lab:Nat->Nat)(id:Int)(at':Nat)(vals:List T3)(j:Nat)(w:World):Prop:=
 ∃i2 lab2,ec w tb t next i2 lab2/\i2.f=sy i.f id at'/\i2.np=i.np+1/\i2.free=i.free.dropLast/\i2.late=i.late/\i2.G=i.G/\(∀k,k<t.cols.length->i2.cl k=if k<j then bu (i.cl k) at' (vals.getD k z3)else i.cl k)/\Ext W lab lab2/\Tn (fun b=>lab b≠0) W w/\i2.cv=i.cv/\i2.cb=i.cb/\i2.m<=i.m+1
section
variable{W W' w w':World}{tb next:Nat}{t:T}{i:In}{lab lab':Nat->Nat}{id:Int}{at' j:Nat}{vals:List T3}
theorem dM(h:Ext W lab lab'):∀b,b<W.heap.size->lab' b≠0->lab b≠0:=fun b a c=>by rw[<-h b a];exact c
theorem lz.Bs(h:lz W tb t next i lab id at' vals j w):Tn (fun b=>lab b≠0) W w:=by
 obtain⟨g,a,k,l,m,n,o,p,q,r,c,d,e,f⟩:=h;exact c
theorem lz.ptr(h:lz W tb t next i lab id at' vals j w){g n c k:Nat}(hcv:i.cv=.slice (some ⟨g,0,none⟩) n c)(hk:k<t.cols.length):g<w.heap.size/\w.cell? ⟨g,k,none⟩=some (.pointer (some ⟨i.cb k,0,none⟩)):=by
 obtain⟨p,d,l,q,r,s,u,v,x,y,z,a,b,m⟩:=h;obtain⟨A,B,e,_,_,o,f⟩:=l.ptr hk;rw[a,hcv]at e;cases e;rw[b]at f;exact⟨o,f⟩
theorem lz.col(h:lz W tb t next i lab id at' vals j w)(hj:j<t.cols.length)(hv:j<vals.length)(hin:lq t.cols[j].kd vals[j]=true)(hs:vals[j].2.2.size<=maxLen)(hl:(i.cl j).length+1<=900)(hat:at'<=(i.cl j).length):(at'<(i.cl j).length->Calls prog 64 #[.pointer (some ⟨i.cb j,0,none⟩),.int .i64 (at':Int),.agg #[.int .i64 (vals[j].1),.int .i64 (vals[j].2.1),.string (vals[j].2.2)]] w fun e w'=>e=.returned (.bool true)/\lz W tb t next i lab id at' vals (j+1) w'/\Tn (fun b=>lab b≠0) W w')/\(at'=(i.cl j).length->Calls prog 64 #[.pointer (some ⟨i.cb j,0,none⟩),.int .i64 (at':Int),.agg #[.int .i64 (vals[j].1),.int .i64 (vals[j].2.1),.string (vals[j].2.2)]] w fun e w'=>e=.returned (.bool false)/\Below w.heap.size w w')/\(at'=(i.cl j).length->∀z,Below w.heap.size w z->Calls prog 123 #[.pointer (some ⟨i.cb j,0,none⟩),.agg #[.int .i64 (vals[j].1),.int .i64 (vals[j].2.1),.string (vals[j].2.2)]] z fun e w'=>e=.returned (.bool true)/\lz W tb t next i lab id at' vals (j+1) w'):=by
 obtain⟨d,l,E,U,V,X,Y,Z,N,O,P,f,m,F⟩:=h;rw[<-m];have G:d.cl j=i.cl j:=(by rw[N j hj,zu (vu j)]);have H:vals.getD j z3=vals[j]:=by rw[zv,z6 hv];rfl
 have c:∀(n w':World) (A:List T3) (B:Value),ec n tb t next d l->Tn (fun b=>lab b≠0) W n->A=bu (i.cl j) at' vals[j]->Col (d.cb j) t.cols[j].kd A B w'->Chg (fun b=>b=d.cb j∨(d.v j).ownBlock=some b) n w'->(∀q,B.ownBlock=some q->(d.v j).ownBlock=some q∨n.heap.size<=q)->lz W tb t next i lab id at' vals (j+1) w':=by
  intro n w' A B hT o I a p r;obtain⟨s,u,x,J⟩:=hT.setcol hj a p r;refine⟨_,s,u,U,V,X,Y,Z,fun k hk=>?_,O.trans o.size x,o.trans J (fun _ _ h=>h) (dM O),f,m,F⟩;show ns d.cl j A k=_;by_cases e:k=j
  ·subst e;rw[bJ,I,zw (IW k),H]
  rw[aW _ _ e,N k hk];by_cases Q:k<j
  ·rw[zw Q,zw (by omega)]
  rw[zu Q,zu (by omega)]
 have a:=E.col j hj;rw[G]at a;refine⟨fun y=>?_,fun L=>?_,fun L z g=>?_⟩
 ·refine(pU a (by omega) at' y vals[j] hs hin).mono ?_;rintro e w'⟨rfl,u,x⟩;have R:=c w w' _ _ E P (by unfold bu;rw[zw y]) u x (fun q hq=>.inl hq);have M:=R;obtain⟨_,_,_,_,_,_,_,_,_,_,f,_⟩:=M;exact⟨rfl,R,f⟩
 ·exact uZ a at' vals[j] hs (.inl (by omega))
 refine(DG (a.later g) (by omega) vals[j] hs hin).mono ?_;rintro e w'⟨rfl,B,u,x,J⟩;refine⟨rfl,c z w' _ _ (E.later g) (P.trans (Tn.of_below (S:=fun _=>False) g) (fun _ _ h=>h) (fun _ _ h=>h.elim)) (by unfold bu;rw[zu (by omega)]) u J x⟩
theorem rY{S:Nat->Prop}{vv:Value}(h:ec W tb t next i lab)(hid:lg id)(hf:i.f id=none)(hv:fk S W vv vals)(hS:∀b,S b->lab b=0)(hlen:vals.length=t.cols.length)(hok:ft t vals=true)(hs:∀x∈vals,x.2.2.size<=maxLen)(U:i.np<=800)(V:i.free.length<=800)(hfb:∀p∈i.free,p<=800)(hcl:∀k,k<t.cols.length->(i.cl k).length+1<=900/\spot i<=(i.cl k).length)(hm:i.m+1<=next)(hnx:next<=65536):Calls prog 93 #[.pointer (some ⟨tb,0,none⟩),.int .i64 id,vv] W fun e w'=>e=.returned (.tuple #[])/\lz W tb t next i lab id (spot i) vals t.cols.length w':=by
 obtain⟨p,b8,rfl,b9,c0⟩:=hv.slice;obtain⟨n,hn⟩:=ae t.cols.length;obtain⟨R,a3⟩:=ae (spot i);have X:=aa a3;have zl:=h.tlt;have a4:=h.place;have c5:=h.cells.2.2.2.2.2.1
 obtain⟨r,hr⟩:∃r,i.pv=.map r:=by
  rcases a4 with ⟨e,_⟩ | ⟨b,e,_⟩
  ·exact⟨_,e⟩
  exact⟨_,e⟩
 rw[hr]at c5;have E:=(fun w=>run_eql_map_nil (P:=prog) w 103 3 3 r underlying103);obtain⟨nb,Y⟩:=ae r.isNone
 try rw[Y]at E
 have f5:=h.fz 5;have J:=(fun x=>(show i.f x=none->True from fun _=>trivial));have HH:=aa (ab h (ab hv (ab hS hs)));have Z:=aa (ab hn (ab hlen (ab hok hf)));have HB:=aa (ab U (ab V (ab hfb (ab hcl (ab hm hnx)))));rw[hlen,hn]at b9;rw[hlen,hn,a3];unfold maxLen at c0;clear a3;clear h hv hS hs hlen hok hf U V hfb hcl hm J;go_enter func93,ntmps93
 go_upto_if 14 with fail
 go_cut []from 15 to 18 (fun w=>∃b m1 a,ec w tb t next { i with pv:=.map (some b),m:=m1 } a/\m1<=i.m/\Ext W lab a/\Tn (fun b=>lab b≠0) W w)
 case first =>
  cases nb with
  | true =>
   have c1:r=none:=Option.isNone_iff_eq_none.1 Y;subst c1;rcases a4 with ⟨z,d,a9⟩ | ⟨b,z,b0⟩
   ·obtain⟨a,F,k2,k3⟩:=HH.1.setmap d a9;have L:=World.setCell_alloc_past (w:=W) (.map #[] 0) tb 5 (.map (some W.heap.size)) zl;rw[L]at F k3;have HK:=aa (ab F (ab k2 k3));clear F k2 k3 a9 L;have d8:=@run_makeMap prog;go_wp2_with fail;go_meet;exact⟨_,0,a,HK.1,zj _,HK.2.1,HK.2.2⟩
   ·rw[hr]at z;cases z
  | false =>
   rcases a4 with ⟨z,_⟩ | ⟨b,z,b0⟩
   ·rw[hr]at z;cases z;cases Y
   ·clear b0;have HP:=aa z;clear z hr;go_wp2_with fail;go_meet;exact⟨b,i.m,lab,by rw[<-HP.out];exact HH.1,zo _,Ext.refl _ _,Tn.refl _ _⟩
 obtain⟨b,m1,a,F,k2,k3,k4⟩:=hcut;have K:=aa (ab F (ab k2 (ab k3 k4)));clear c5 E hr f5 Y zl;have zl:=F.tlt;have c5:=F.cells.2.2.2.2.2.1;have c6:=F.cells.2.2.2.2.2.2.1;have f6:=F.fz 6;have G:=F.place.len 3;have o:=F.free;simp only at c5 c6 G o;obtain⟨pf,cf,a5,c2,c3⟩:=o.isslice;rw[a5]at c6 o;unfold maxLen at c3;have U:=HB.1;have V:=HB.2.1;obtain⟨nf,J⟩:=ae i.free.length;rw[J]at c6 o c2 V;have M:=aa (ab a5 J);clear J;obtain⟨np,d⟩:=ae i.np;rw[d]at G U;have c4:=aa d;clear F k2 k3 k4 a5
 go_upto_if 31 with (at_len;refine rR rfl (.tmp 28) 103 rfl rfl G ?_)
 go_cut [6,7]from 23 to 47 (fun _ av w=>av=.int .i64 (R:Int)/\∃fv,ec w tb t next { i with pv:=.map (some b),m:=m1,fv:=fv,free:=i.free.dropLast } a/\Tn (fun b=>lab b≠0) W w)
 case first =>
  by_cases hz:nf=0
  ·have l:i.free=[]:=wg (by rw[M.2];exact hz);have A:R=np:=(by rw[<-X.out,<-c4.out];unfold spot;rw[l];rfl);have d9:¬ (1:Int)<=(nf:Int):=(by omega);have HZ:=aa (ab l A);clear l A hz o c5 c6 G d;go_wp2_with fail;go_meet;refine⟨by rw[HZ.2],i.fv,?_,K.2.2.2⟩
   have:=K.1
   rw[show i.free.dropLast=i.free by rw[HZ.1];rfl];exact this
  obtain⟨fr,p0,l⟩:∃fr p0,i.free=fr++[p0]:=by
   rcases List.eq_nil_or_concat i.free with h0|⟨fr,p0,h0⟩
   ·rw[<-M.2,h0]at hz;exact absurd rfl hz
   exact⟨fr,p0,by rw[h0];simp⟩
  obtain⟨q,hq⟩:=ae fr.length;have b1:nf=q+1:=(by rw[<-M.2,l,<-hq];simp);have A:R=p0:=(by rw[<-X.out];unfold spot;rw[l];simp);have e3:p0<=800:=HB.2.2.1 p0 (by rw[l];simp);obtain⟨g,e4,c7,_,_⟩:=o.slice (by omega);cases c7
  have c8:wc.cell? ⟨g,q,none⟩=some (.int .i64 (R:Int)):=by
   rw[A];exact o.cell (by rw[l,xe,ya (by omega),hq];simp)
  have e5:=(o.lt g rfl).2;have N:=K.1.setfree (g:=g) (n:=nf) (c:=cf) (fr:=fr) (p:=p0) (by rw[<-M.2];exact M.1) l (by rw[hq];exact b1.symm);rw[hq]at N;have HZ:=aa (ab N (ab l hq));clear N l hq hz o A G d;subst b1;have e6:((q+1:Nat):Int)-1=(q:Int):=(by omega);go_wp2_with fail;go_meet;refine⟨rfl,.slice (some ⟨g,0,none⟩) q cf,?_,K.2.2.2.trans HZ.1.2 (fun _ _ h=>h) (dM K.2.2.1)⟩
  have:=HZ.1.1
  rw[show i.free.dropLast=fr by rw[HZ.2.1];simp];exact this
 obtain⟨rfl,fv,q1,q2⟩:=hcut
 have d6:R<=800:=by
  rw[<-X.out];unfold spot;cases hg:i.free.getLast? with
  | none=>exact HB.1
  | some q=>exact HB.2.2.1 q (List.mem_of_getLast? hg)
 obtain⟨w3,b2,r1,r2⟩:=q1.setput rfl (p:=R) hid (by omega) Z.2.2.2 (by have:=HB.2.2.2.2.1;have:=K.2.1;show m1+1<=next;omega) (by have:=HB.2.2.2.2.2;omega);have a2:lz W tb t next i lab id R vals 0 w3:=⟨_,a,r1,rfl,rfl,rfl,rfl,rfl,fun k hk=>by rw[zu (yh k)],K.2.2.1,q2.trans r2 (fun _ _ h=>h) (dM K.2.2.1),rfl,rfl,by have:=K.2.1;show m1+1<=i.m+1;omega⟩;have d4:=r1.cells.2.2.2.2.1;have d5:=q1.cells.2.2.2.2.2.1;have dl:=q1.tlt;have e7:=r1.tlt;simp only at d4 d5;obtain⟨pc,cc,O,c9,d0⟩:=r1.cols.isslice;simp only at O;rw[Z.1]at O c9;rw[O]at d4;have HP:=aa (ab a2 O);unfold maxLen at d0;clear q1 q2 r1 r2 a2 O c5 c6 f6 G o d zl;go_wp2_with (at_mapUpdate;refine eK rfl (.tmp 51) (.tmp 52) (.tmp 53) 103 rfl rfl rfl rfl b2 ?_);go_loopg [59] (n+1) (fun gh jv w=>∃(j:Nat),jv=.int .i64 (j:Int)/\j<=n/\n+1<=j+gh/\lz W tb t next i lab id R vals j w)
 case atStart=>exact⟨0,rfl,zj _,by omega,HP.1⟩
 obtain⟨j,rfl,hj,hg,B⟩:=hrel;by_cases d1:j<n
 ·have H:j<t.cols.length:=(by rw[Z.1];exact d1);have a0:j<vals.length:=(by rw[Z.2.1];exact H);have a6:=zX Z.2.2.1 H a0;have a7:=HH.2.2.2 _ (z8 a0);have s:=HB.2.2.2.1 j H;rw[X.out]at s;obtain⟨v,I,y⟩:=B.col H a0 a6 a7 s.1 s.2
  obtain⟨gc,a1,d2,_,_⟩:∃gc a1,Value.slice pc n cc=.slice (some ⟨gc,0,none⟩) n a1/\n<=a1/\a1<=maxLen:=by
   have b3:=B;obtain⟨i2,d7,h1,_,_,_,_,_,_,_,_,d3,_⟩:=b3;obtain⟨g',c',e,e1,e2,F,k2⟩:=h1.ptr H;rw[d3,HP.2,Z.1]at e;exact⟨g',c',e,by rw[<-Z.1];exact e1,e2⟩
  cases d2;obtain⟨gl,gp⟩:=B.ptr HP.2 H
  have Q:fk S wr (.slice p n b8) vals:=by
   have:=HH.2.1.tn B.Bs (fun b hb hn=>hn (HH.2.2.1 b hb))
   rw[Z.2.1,Z.1]at this;exact this
  obtain⟨bv,ov,rfl,bl,v0,v1,v2⟩:=Q.val a0;obtain⟨u,hu⟩:=ae (vals[j]);rw[hu]at v0 v1 v2 v I y;obtain⟨uk,un,us⟩:=u;simp only at v0 v1 v2 v I y;have e8:(j:Int)<(n:Int):=(by omega);obtain⟨cb,a8⟩:=ae (i.cb j);rw[a8]at gp v I y;have HV:Hid (∀w',Below wr.heap.size wr w'->bv<w'.heap.size/\w'.cell? ⟨bv,ov+j*3,none⟩=some (.int .i64 uk)/\w'.cell? ⟨bv,ov+j*3+1,none⟩=some (.int .i64 un)/\w'.cell? ⟨bv,ov+j*3+2,none⟩=some (.string us)):=aa (fun w' hb=>⟨z9 bl hb.size,(ze (w:=wr) (hb.block bv bl)).trans v0,(ze (w:=wr) (hb.block bv bl)).trans v1,(ze (w:=wr) (hb.block bv bl)).trans v2⟩);by_cases b4:R<(i.cl j).length
  ·have kS:=v b4;clear v I y B Q a6 a7 s hu a8;go_wp2_with (go_at_call 64;refine kS.mono ?_;rintro e w4⟨rfl,b5,_⟩;have H4:=aa b5;clear b5 kS);go_roundg (n-j)
   case measure=>omega
   exact⟨j+1,by go_num,by omega,by omega,H4.out⟩
  have E:R=(i.cl j).length:=(by have:=s.2;omega);have kN:=I E;have kA:=y E;clear v I y B Q a6 a7 s hu a8 E b4
  go_wp2_with (first|(go_at_call 64;refine kN.mono ?_;rintro e w4⟨rfl,s⟩;have b6:=kA w4 s;obtain⟨y3,y0,y1,y2⟩:=HV.out w4 s;clear kA kN s)|(go_at_call 123;refine b6.mono ?_;rintro e w5⟨rfl,b7⟩;have H5:=aa b7;clear b7 b6))
  go_roundg (n-j)
  case measure=>omega
  exact⟨j+1,by go_num,by omega,by omega,H5.out⟩
 obtain rfl:j=n:=(by omega);have HF:=aa B;clear B;go_wp2_with fail
 go_end0
 exact⟨rfl,HF.out⟩
end
def Tb(W:World)(tb:Nat)(t:T)(next:Nat)(A:List R1)(lab:Nat->Nat):Prop:=∃i,ec W tb t next i lab/\Inv t.cols.length next i A
section
variable{W W':World}{tb next:Nat}{t:T}{A:List R1}{lab:Nat->Nat}
theorem Tb.tn{S:Nat->Prop}(h:Tb W tb t next A lab)(hk:Tn S W W')(hs:∀b,S b->lab b=0):Tb W' tb t next A lab:=by
 obtain⟨i,a,c⟩:=h;exact⟨i,a.tn hk hs,c⟩
theorem Tb.later(h:Tb W tb t next A lab)(hb:Below W.heap.size W W'):Tb W' tb t next A lab:=by
 obtain⟨i,a,b⟩:=h;exact⟨i,a.later hb,b⟩
theorem Tb.lt(h:Tb W tb t next A lab):∀b,lab b≠0->b<W.heap.size:=by
 obtain⟨i,a,c⟩:=h;exact a.lt
end
section
variable{W W':World}{tb next:Nat}{t:T}{i:In}{A:List R1}{lab:Nat->Nat}
theorem ec.setnext(h:ec W tb t next i lab):ec (W.setCell ⟨tb,9,none⟩ (.int .i64 ((next:Int)+1))) tb t (next+1) i lab/\Tn (fun b=>lab b≠0) W (W.setCell ⟨tb,9,none⟩ (.int .i64 ((next:Int)+1))):=by
 have c:=Tn.own h 9 (.int .i64 ((next:Int)+1));have a:=h.toug.tn c (fun b d=>.inr d);exact⟨⟨⟨a.form,a.cols,a.col,a.place,Nat.le_succ_of_le a.pm,a.free,a.gone,a.late,a.l1,a.l2,a.l3,a.l4,a.l6,a.l7,a.lt⟩,y7 _ tb 9 _ _ _ h.box⟩,c.mono (fun b _ d=>by show lab b≠0;rw[show lab b=1 from d];decide)⟩
theorem Inv.sx{n:Nat}(h:Inv n next i A):∀p∈i.free,p<=A.length+i.free.length:=fun p a=>Nat.le_of_lt (h.fre p a).1
theorem lz.inv{n:Nat}{W0 w:World}{nx:Nat}{vals:List T3}(hn:t.cols.length=n)(h:Inv n next i A)(hv:vals.length=n)(hnx:next+1<=65536)(hP:lz W0 tb t nx i lab (next:Int) (spot i) vals n w):∃o l,ec w tb t nx o l/\Inv n (next+1) o (A++[((next:Int),vals)])/\Ext W0 lab l/\Tn (fun b=>lab b≠0) W0 w:=by
 obtain⟨o,l,s,B,L,M,N,O,u,Q,R,S,U⟩:=hP;rw[hn]at u;refine⟨o,l,s,?_,Q,R⟩;have v:∀k,k<n->some (vals.getD k z3)=vals[k]?:=(fun k c=>by rw[zv,z6 (by omega)];rfl);rcases List.eq_nil_or_concat i.free with g|⟨E,p,g⟩
 ·have F:spot i=A.length:=(by unfold spot;rw[g,<-h.np];rfl);rw[F]at B u;have d:=h.lens;have f:o.free=[]:=(by rw[M,g];rfl);rw[g]at d;simp only[vc,Nat.add_zero]at d
  have j:∀k,k<n->o.cl k=i.cl k++[vals.getD k z3]:=fun k c=>by
   rw[u k c,zw c];unfold bu;rw[zu (by rw[d k c];omega)]
  refine h.ins (p:=A.length) hv hnx L B N O (fun x V=>?_) (fun q=>by rw[f,g];simp) (by rw[f];exact List.nodup_nil) (fun q=>by rw[f,g];simp;omega) (by rw[f];have:=h.few;simp;omega) (fun k c=>?_) (fun k c=>?_) (fun k c q m=>?_)
  ·obtain⟨a,_,_,P,_⟩:=h.BM V;rw[g]at P;simp at P
  ·rw[j k c,f,y6,d k c];rfl
  ·rw[j k c,ya (by rw[d k c];exact zo _),d k c,<-v k c]
   simp
  rw[j k c];rcases wm q A.length with s|s
  ·rw[xu (by rw[d k c];exact s)]
  rw[vn (by rw[y6,d k c];simp;omega),vn (by rw[d k c];exact s)]
 have g:i.free=E++[p]:=(by rw[g];simp);have F:spot i=p:=(by unfold spot;rw[g];simp);rw[F]at B u;have f:o.free=E:=(by rw[M,g];simp);have G:p∈i.free:=(by rw[g];simp);obtain⟨y,H,W⟩:=h.fre p G;have r:=h.fnd;rw[g,List.nodup_append]at r;have I:p ∉ E:=(fun X=>r.2.2 p X p (by simp) rfl);have z:i.free.length=E.length+1:=by rw[g];simp
 have j:∀k,k<n->o.cl k=(i.cl k).set p (vals.getD k z3):=fun k c=>by
  rw[u k c,zw c];unfold bu;rw[zw (by rw[h.lens k c];exact y)]
 refine h.ins (p:=p) hv hnx L B N O H (fun q=>?_) (by rw[f];exact r.1) (fun q=>by rw[f,z];constructor <;> omega) (by rw[f];have:=h.few;omega) (fun k c=>?_) (fun k c=>?_) (fun k c q m=>?_)
 ·rw[f,g];constructor
  ·intro m;exact⟨by simp[m],fun e=>I (e▸m)⟩
  rintro⟨m,J⟩;rcases List.mem_append.1 m with m|m
  ·exact m
  exact absurd (List.mem_singleton.1 m) J
 ·rw[j k c,vp,h.lens k c,f,z];omega
 ·rw[j k c,List.getElem?_set_self (by rw[h.lens k c];exact y),v k c]
 rw[j k c,List.getElem?_set_ne (fun e=>m e.symm)]
def ei(t:T)(vals:List T3):Int:=if vals.length≠t.cols.length then 1 else if ft t vals then 0 else 4
theorem xW{vals:List T3}(h:next≠65536):AI t next vals=ei t vals:=zu h
theorem oJ{S:Nat->Prop}{vv:Value}{vals:List T3}(h:Tb W tb t next A lab)(hv:fk S W vv vals)(hn:next<65536)(hc:t.cols.length<=1000)(hs:∀x∈vals,x.2.2.size<=maxLen)(hl:vals.length<=1000000)(hno:ei t vals≠0):Calls prog 57 #[.pointer (some ⟨tb,0,none⟩),vv] W fun e w'=>e=.returned (.tuple #[.int .i64 0,.int .i64 (ei t vals)])/\Below W.heap.size W w':=by
 obtain⟨i,b,c⟩:=h;have a:=rX b hv (by omega) hc hs hl;rw[xW (by omega)]at a;generalize ei t vals=E at a hno ⊢;have d:(E != 0)=true:=(by simp[hno]);clear b c hv hs hl;go_enter func57,ntmps57;go_wp2_with (go_at_call 92;refine a.mono ?_;rintro e g⟨rfl,f⟩);go_ret2;exact⟨rfl,f⟩
theorem mI{S:Nat->Prop}{vv:Value}{vals:List T3}(h:Tb W tb t next A lab)(hv:fk S W vv vals)(hS:∀b,S b->lab b=0)(B:next<=590)(hc:t.cols.length<=1000)(hs:∀x∈vals,x.2.2.size<=maxLen)(hl:vals.length<=1000000)(hyes:ei t vals=0):Calls prog 57 #[.pointer (some ⟨tb,0,none⟩),vv] W fun e w'=>e=.returned (.tuple #[.int .i64 (next:Int),.int .i64 0])/\∃lab',Tb w' tb t (next+1) (A++[((next:Int),vals)]) lab'/\Ext W lab lab'/\Tn (fun b=>lab b≠0) W w':=by
 obtain⟨i,r,d⟩:=h;have s:=rX r hv (by omega) hc hs hl;rw[xW (by omega),hyes]at s
 have c:vals.length=t.cols.length:=by
  unfold ei at hyes;by_cases e:vals.length=t.cols.length
  ·exact e
  rw[zw e]at hyes;cases hyes
 have l:ft t vals=true:=by
  unfold ei at hyes;rw[zu (fun h=>h c)]at hyes;by_cases e:ft t vals=true
  ·exact e
  rw[zu e]at hyes;cases hyes
 have G:Hid (∀w,Below W.heap.size W w->w.cell? ⟨tb,9,none⟩=some (.int .i64 (next:Int))/\tb<w.heap.size/\w.frozen? ⟨tb,9,none⟩=false/\Calls prog 93 #[.pointer (some ⟨tb,0,none⟩),.int .i64 (next:Int),vv] (w.setCell ⟨tb,9,none⟩ (.int .i64 ((next:Int)+1))) fun e w'=>e=.returned (.tuple #[])/\∃lab',Tb w' tb t (next+1) (A++[((next:Int),vals)]) lab'/\Ext W lab lab'/\Tn (fun b=>lab b≠0) W w'):=aa (fun w o=>by
  have m:=r.later o;obtain⟨E,u⟩:=m.setnext;have F:=d.few;have v:i.f (next:Int)=none:=d.no _ (fun a H e=>by have:=(d.rng a H).2;omega);have y:=(hv.later o).tn u (fun b j B=>B (hS b j))
  have z:∀k,k<t.cols.length->(i.cl k).length+1<=900/\spot i<=(i.cl k).length:=fun k I=>by
   rw[d.lens k I];refine⟨by omega,?_⟩;unfold spot;cases J:i.free.getLast? with
   | none=>show i.np<=_;rw[d.np];omega
   | some q=>exact d.sx q (List.mem_of_getLast? J)
  refine⟨m.cells.2.2.2.2.2.2.2.2.2,m.tlt,m.fz 9,(rY E (id:=(next:Int)) (by constructor <;> omega) v y hS c l hs (by rw[d.np];omega) (by omega) (fun p L=>by have:=d.sx p L;omega) z (by have:=E.pm;have:=m.pm;omega) (by omega)).mono ?_⟩;rintro e w'⟨rfl,M⟩;obtain⟨N,n,O,P,Q,R⟩:=lz.inv rfl d c (by omega) M;exact⟨rfl,n,⟨N,O,P⟩,fun b j=>Q b (z9 j (zx o.size u.size)),((Tn.of_below (S:=fun _=>False) o).trans u (fun _ _ h=>h.elim) (fun _ _ h=>h)).trans R (fun _ _ h=>h) (fun _ _ h=>h)⟩)
 have U:IntKind.i64.wrap ((next:Int)+1)=(next:Int)+1:=(by rw[IntKind.wrap_i64];omega);clear r d hv hS hs hl hyes c l;go_enter func57,ntmps57
 go_wp2_with (first|(go_at_call 92;refine s.mono ?_;rintro e V⟨rfl,j⟩;obtain⟨Y,Z,f9,g⟩:=G.out V j;clear s j)|(go_at_call 93;refine g.mono ?_;rintro e w3⟨rfl,hT⟩;have X:=aa hT;clear hT g))
 go_ret2;exact⟨rfl,X.out⟩
end
theorem Gz(kind:Int):lq kind z3=true:=by simp[lq,jh]
def tj(W:World)(tb:Nat)(t:T)(next:Nat)(i:In)(lab:Nat->Nat)(p j:Nat)(w:World):Prop:=
 ∃cl lab2,ec w tb t next { i with cl:=cl } lab2/\(∀k,k<t.cols.length->cl k=if k<j then(i.cl k).set p z3 else i.cl k)/\Ext W lab lab2/\Tn (fun b=>lab b≠0) W w
section
variable{W W' w w':World}{tb next:Nat}{t:T}{i:In}{lab lab':Nat->Nat}{p j:Nat}
theorem Hy{α:Type}(f:Nat->α)(k:Nat):ns f k (f k)=f:=funext fun j=>by unfold ns;split <;> simp_all
theorem tj.col(h:tj W tb t next i lab p j w)(hj:j<t.cols.length)(hl:(i.cl j).length<=900)(hp:p<(i.cl j).length):Calls prog 64 #[.pointer (some ⟨i.cb j,0,none⟩),.int .i64 (p:Int),.agg #[.int .i64 0,.int .i64 0,.string (⟨#[]⟩)]] w fun e w'=>e=.returned (.bool true)/\tj W tb t next i lab p (j+1) w':=by
 obtain⟨cl,d,f,g,l,m⟩:=h;have c:cl j=i.cl j:=(by rw[g j hj,zu (vu j)]);have a:=f.col j hj;simp only at a;rw[c]at a;refine(pU a hl p hp z3 (by decide) (Gz _)).mono ?_;rintro e w'⟨rfl,r,s⟩;obtain⟨b,n,u,v⟩:=f.setcol (l':=(i.cl j).set p z3) hj r s (fun q x=>.inl x);simp only[Hy]at n;refine⟨rfl,_,b,n,fun k y=>?_,l.trans m.size u,m.trans v (fun _ _ h=>h) (dM l)⟩;show ns cl j _ k=_;by_cases e:k=j
 ·subst e;rw[bJ,zw (IW k)]
 rw[aW _ _ e,g k y];by_cases o:k<j
 ·rw[zw o,zw (by omega)]
 rw[zu o,zu (by omega)]
theorem tj.ptr(h:tj W tb t next i lab p j w){g n c k:Nat}(hcv:i.cv=.slice (some ⟨g,0,none⟩) n c)(hk:k<t.cols.length):g<w.heap.size/\w.cell? ⟨g,k,none⟩=some (.pointer (some ⟨i.cb k,0,none⟩)):=by
 obtain⟨cl,a,d,l,m,o⟩:=h;obtain⟨q,r,e,_,_,f,b⟩:=d.ptr hk;simp only at e b;rw[hcv]at e;cases e;exact⟨f,b⟩
theorem ec.setdel(h:ec W tb t next i lab){x:Int}{q:Nat}(hx:lg x)(hf:i.f x=some q)(ty:TypeId):∃w',(Builtin.delete_ #[103,3] ty #[i.pv,.int .i64 x]).run prog W=.ok (.tuple #[]) w'/\ec w' tb t next { i with f:=qo i.f x,np:=i.np-1 } lab/\Tn (fun b=>lab b≠0) W w':=by
 obtain⟨b,l,o⟩:∃b,i.pv=.map (some b)/\Mi W b i.f i.np i.m:=by
  rcases h.place with ⟨e,_,w⟩ | ⟨y,e,z⟩
  ·rw[w x]at hf;cases hf
  exact⟨y,e,z⟩
 obtain⟨A,B,p⟩:=o.isMap;obtain⟨w',r,u,E⟩:=o.del hx hf ty;have s:lab b=2:=h.l2 b (by rw[l];rfl);have a:Tn (fun c=>c=b) W w':=Tn.bt ((Chg.refl (fun c=>c=b) W).grown E (fun k F _=>by cases F;rfl)) (fun c _ g=>.inr ⟨A,B,by rw[g];exact p⟩);have n:∀c q,lab c=q->q≠2->c≠b:=(fun c q e G H=>G (by rw[<-e,H];exact s));have d:∀c q,lab c=q->q≠0->q≠2->w'.heap[c]?=W.heap[c]?:=fun c q e I J=>a.chg.block c (h.lt c (by rw[e];exact I)) (n c q e J)
 refine⟨w',by rw[l];exact r,⟨⟨h.form.tn a,h.cols.tn a rfl,fun j v=>(h.col j v).tn a (n _ _ (h.l6 j v) (by omega)) (fun c g=>n _ _ (h.l7 j v c g) (by omega)),.inr ⟨b,l,u⟩,h.pm,h.free.of (fun c g=>d c 3 (h.l3 c g) (by decide) (by decide)),h.gone.tn a,
  h.late.of (fun c g=>d c 4 (h.l4 c g) (by decide) (by decide)),h.l1,h.l2,h.l3,h.l4,h.l6,h.l7,fun c g=>z9 (h.lt c g) a.size⟩,(d tb 1 h.l1 (by decide) (by decide)).trans h.box⟩,a.mono (fun c _ g=>by show lab c≠0;rw[show c=b from g,s];decide)⟩
theorem ec.addfree(h:ec W tb t next i lab)(p:Nat)(hl:i.free.length<=10000):∃g f l,(Builtin.append_ #[40,40] 40 #[i.fv,.slice (some ⟨W.heap.size,0,none⟩) 1 1]).run prog (W.alloc (.cells #[.int .i64 (p:Int)] 3))=.ok (.slice (some ⟨g,0,none⟩) (i.free.length+1) f) l/\tb<l.heap.size/\l.frozen? ⟨tb,6,none⟩=false/\(∃u,l.cell? ⟨tb,6,none⟩=some u)/\∃lab',ec (l.setCell ⟨tb,6,none⟩ (.slice (some ⟨g,0,none⟩) (i.free.length+1) f)) tb t next { i with fv:=.slice (some ⟨g,0,none⟩) (i.free.length+1) f,free:=i.free++[p] } lab'/\Ext W lab lab'/\Tn (fun b=>lab b≠0) W (l.setCell ⟨tb,6,none⟩ (.slice (some ⟨g,0,none⟩) (i.free.length+1) f)):=by
 have E:Ro W 0 i.fv (i.free.map fun q:Nat=>(q:Int)):=by
  have:=h.free
  rw[show i.free.map ivn=(i.free.map fun q:Nat=>(q:Int)).map iv by simp]at this;have e:(i.free.map fun q:Nat=>(q:Int)).length=i.free.length:=(by simp);show ac W 0 3 1 i.fv (i.free.map fun q:Nat=>(q:Int)).length _;rw[e];exact this
 obtain⟨g,f,l,z,O,P,own⟩:=kW 40 underlying40 W 0 (n:=i.free.length) (by simp) E (by omega) (zj _) (p:Int)
 have F:∀b,i.fv.ownBlock=some b->Ty W b:=fun b a=>by
  obtain⟨_,G,r⟩:=h.free.block b a;exact⟨G,3,r,rfl⟩
 have s:Chg (fun b=>i.fv.ownBlock=some b) W l:=(Chg.refl _ W).grown P (fun k Q _=>Q);have o:Tn (fun b=>i.fv.ownBlock=some b) W l:=Tn.bt s (fun b _ a=>.inl (F b a));have x:∀c q,lab c=q->q≠3->¬ i.fv.ownBlock=some c:=(fun c q e H I=>H (by rw[<-e];exact h.l3 c I));have m:∀c q,lab c=q->q≠0->q≠3->l.heap[c]?=W.heap[c]?:=fun c q e R r=>s.block c (h.lt c (by rw[e];exact R)) (x c q e r)
 have v:Ext W lab (gu lab (some g) 3):=fP (fun b a=>by
  cases a;rcases own with r|r
  ·exact .inl (h.l3 g r)
  exact .inr r)
 have J:=iK h.lt v;have e:∀b q,lab b=q->q≠0->gu lab (some g) 3 b=q:=fun b q r H=>by rw[J b (by rw[r];exact H),r]
 have A:ac l 0 3 1 (.slice (some ⟨g,0,none⟩) (i.free.length+1) f) (i.free.length+1) ((i.free++[p]).map ivn):=by
  have I:(i.free++[p]).map ivn=((i.free.map fun q:Nat=>(q:Int))++[(p:Int)]).map iv:=(by simp);rw[I];have L:((i.free.map fun q:Nat=>(q:Int))++[(p:Int)]).length=i.free.length+1:=by simp
  have:=O
  unfold Ro at this;rw[L]at this;exact this
 have d:=(m tb 1 h.l1 (by decide) (by decide)).trans h.box
 have M:ug l tb t next { i with fv:=.slice (some ⟨g,0,none⟩) (i.free.length+1) f,free:=i.free++[p] } (gu lab (some g) 3):=by
  refine⟨h.form.tn o,h.cols.tn o rfl,fun j y=>(h.col j y).tn o (x _ _ (h.l6 j y) (by omega)) (fun c B=>x _ _ (h.l7 j y c B) (by omega)),h.place.of (fun c B=>m c 2 (h.l2 c B) (by decide) (by decide)),h.pm,?_,h.gone.tn o,h.late.of (fun c B=>m c 4 (h.l4 c B) (by decide) (by decide)),
   e _ _ h.l1 (by decide),fun b a=>e _ _ (h.l2 b a) (by decide),fun b a=>?_,fun b a=>e _ _ (h.l4 b a) (by decide),fun j y=>e _ _ (h.l6 j y) (by omega),fun j y b a=>e _ _ (h.l7 j y b a) (by omega),iM h.lt o.size (fun b a=>by cases a;exact(A.lt g rfl).2)⟩
  ·have L:(i.free++[p]).length=i.free.length+1:=(by simp);show ac l 0 3 1 _ (i.free++[p]).length _;rw[L];exact A
  cases a;exact fQ g rfl
 have N:gu lab (some g) 3 tb=1:=e _ _ h.l1 (by decide);have w:Tn (fun b=>b=tb) l (l.setCell ⟨tb,6,none⟩ (.slice (some ⟨g,0,none⟩) (i.free.length+1) f)):=Tn.bt ((Chg.refl (fun b=>b=tb) l).setCell (p:=⟨tb,6,none⟩) (fun _=>rfl) _) (fun b _ a=>.inl (by rw[a];exact⟨_,105,d,rfl⟩));have S:=M.tn w (fun b a=>.inr (by rw[a];exact N));refine⟨g,f,l,z,aB d,zq l tb 6 _ _ d,⟨_,aA d 6⟩,_,⟨S,y7 _ tb 6 _ _ _ d⟩,v,o.trans w (fun b _ a=>by show lab b≠0;rw[h.l3 b a];decide) (fun b _ a=>by show lab b≠0;rw[show b=tb from a,h.l1];decide)⟩
theorem ec.addlate(h:ec W tb t next i lab)(x:Int)(hl:i.late.length<=10000):∃g f l,(Builtin.append_ #[40,40] 40 #[i.lv,.slice (some ⟨W.heap.size,0,none⟩) 1 1]).run prog (W.alloc (.cells #[.int .i64 x] 3))=.ok (.slice (some ⟨g,0,none⟩) (i.late.length+1) f) l/\tb<l.heap.size/\l.frozen? ⟨tb,8,none⟩=false/\(∃u,l.cell? ⟨tb,8,none⟩=some u)/\∃lab',ec (l.setCell ⟨tb,8,none⟩ (.slice (some ⟨g,0,none⟩) (i.late.length+1) f)) tb t next { i with lv:=.slice (some ⟨g,0,none⟩) (i.late.length+1) f,late:=i.late++[x] } lab'/\Ext W lab lab'/\Tn (fun b=>lab b≠0) W (l.setCell ⟨tb,8,none⟩ (.slice (some ⟨g,0,none⟩) (i.late.length+1) f)):=by
 obtain⟨g,f,l,A,N,O,own⟩:=kW 40 underlying40 W 0 (n:=i.late.length) rfl h.late (by omega) (zj _) x
 have F:∀b,i.lv.ownBlock=some b->Ty W b:=fun b a=>by
  obtain⟨_,G,r⟩:=h.late.block b a;exact⟨G,3,r,rfl⟩
 have s:Chg (fun b=>i.lv.ownBlock=some b) W l:=(Chg.refl _ W).grown O (fun k P _=>P);have o:Tn (fun b=>i.lv.ownBlock=some b) W l:=Tn.bt s (fun b _ a=>.inl (F b a));have y:∀c q,lab c=q->q≠4->¬ i.lv.ownBlock=some c:=(fun c q e H Q=>H (by rw[<-e];exact h.l4 c Q));have m:∀c q,lab c=q->q≠0->q≠4->l.heap[c]?=W.heap[c]?:=fun c q e R r=>s.block c (h.lt c (by rw[e];exact R)) (y c q e r)
 have v:Ext W lab (gu lab (some g) 4):=fP (fun b a=>by
  cases a;rcases own with r|r
  ·exact .inl (h.l4 g r)
  exact .inr r)
 have I:=iK h.lt v;have e:∀b q,lab b=q->q≠0->gu lab (some g) 4 b=q:=(fun b q r H=>by rw[I b (by rw[r];exact H),r]);have M:(i.late++[x]).length=i.late.length+1:=by simp
 have B:ac l 0 3 1 (.slice (some ⟨g,0,none⟩) (i.late.length+1) f) (i.late.length+1) ((i.late++[x]).map iv):=by
  have:=N
  unfold Ro at this;rw[M]at this;exact this
 have d:=(m tb 1 h.l1 (by decide) (by decide)).trans h.box
 have J:ug l tb t next { i with lv:=.slice (some ⟨g,0,none⟩) (i.late.length+1) f,late:=i.late++[x] } (gu lab (some g) 4):=by
  refine⟨h.form.tn o,h.cols.tn o rfl,fun j z=>(h.col j z).tn o (y _ _ (h.l6 j z) (by omega)) (fun c E=>y _ _ (h.l7 j z c E) (by omega)),h.place.of (fun c E=>m c 2 (h.l2 c E) (by decide) (by decide)),h.pm,h.free.of (fun c E=>m c 3 (h.l3 c E) (by decide) (by decide)),h.gone.tn o,?_,
   e _ _ h.l1 (by decide),fun b a=>e _ _ (h.l2 b a) (by decide),fun b a=>e _ _ (h.l3 b a) (by decide),fun b a=>?_,fun j z=>e _ _ (h.l6 j z) (by omega),fun j z b a=>e _ _ (h.l7 j z b a) (by omega),iM h.lt o.size (fun b a=>by cases a;exact(B.lt g rfl).2)⟩
  ·show ac l 0 3 1 _ (i.late++[x]).length _;rw[M];exact B
  cases a;exact fQ g rfl
 have L:gu lab (some g) 4 tb=1:=e _ _ h.l1 (by decide);have w:Tn (fun b=>b=tb) l (l.setCell ⟨tb,8,none⟩ (.slice (some ⟨g,0,none⟩) (i.late.length+1) f)):=Tn.bt ((Chg.refl (fun b=>b=tb) l).setCell (p:=⟨tb,8,none⟩) (fun _=>rfl) _) (fun b _ a=>.inl (by rw[a];exact⟨_,105,d,rfl⟩));have S:=J.tn w (fun b a=>.inr (by rw[a];exact L));refine⟨g,f,l,A,aB d,zq l tb 8 _ _ d,⟨_,aA d 8⟩,_,⟨S,y7 _ tb 8 _ _ _ d⟩,v,o.trans w (fun b _ a=>by show lab b≠0;rw[h.l4 b a];decide) (fun b _ a=>by show lab b≠0;rw[show b=tb from a,h.l1];decide)⟩
theorem ec.setgone(h:ec W tb t next i lab){p:Option Addr}{n c:Nat}{P:Int->Bool}(hv:Vm W (.slice p n c) P):ec ((W.setCell ⟨tb,7,none⟩ (.slice p n c)).setCell ⟨tb,8,none⟩ (.slice none 0 0)) tb t next { i with gv:=.slice p n c,G:=P,lv:=.slice none 0 0,late:=[] } lab/\Tn (fun b=>lab b≠0) W ((W.setCell ⟨tb,7,none⟩ (.slice p n c)).setCell ⟨tb,8,none⟩ (.slice none 0 0)):=by
 have g:=Tn.own h 7 (.slice p n c);have a:=h.toug.tn g (fun b e=>.inr e);have j:ec (W.setCell ⟨tb,7,none⟩ (.slice p n c)) tb t next { i with gv:=.slice p n c,G:=P } lab:=⟨⟨a.form,a.cols,a.col,a.place,a.pm,a.free,hv.tn g,a.late,a.l1,a.l2,a.l3,a.l4,a.l6,a.l7,a.lt⟩,y7 _ tb 7 _ _ _ h.box⟩;have f:=Tn.own j 8 (.slice none 0 0);have d:=j.toug.tn f (fun b e=>.inr e);refine⟨⟨⟨d.form,d.cols,d.col,d.place,d.pm,d.free,d.gone,ac.nil,d.l1,d.l2,d.l3,fun b e=>(by cases e),d.l6,d.l7,d.lt⟩,y7 _ tb 8 _ _ _ j.box⟩,g.trans f (fun b _ e=>by show lab b≠0;rw[show lab b=1 from e];decide) (fun b _ e=>by show lab b≠0;rw[show lab b=1 from e];decide)⟩
end
theorem jK(l:List C)(x:ByteArray):fx l x=-1∨∃(j:Nat) (_:j<l.length),fx l x=(j:Int):=by
 unfold fx;cases h:l.findIdx? (mw x)with
 | none=>exact .inl rfl
 | some j =>
  obtain⟨a,_⟩:=List.findIdx?_eq_some_iff_getElem.1 h;exact .inr ⟨j,a,rfl⟩
section
variable{W W':World}{tb next:Nat}{t:T}{A:List R1}{lab:Nat->Nat}
theorem zY(h:Tb W tb t next A lab){x:Int}(hx:lg x)(hno:∀a∈A,a.1≠x):Calls prog 24 #[.pointer (some ⟨tb,0,none⟩),.int .i64 x] W fun e w'=>e=.returned (.bool false)/\w'=W:=by
 obtain⟨i,b,c⟩:=h;have d:=eL b hx;rw[c.no x hno]at d;clear b c hno hx;go_enter func24,ntmps24;go_wp2_with (go_at_call 63;refine d.mono ?_;rintro e f⟨rfl,g⟩;subst f);go_ret;exact⟨rfl,rfl⟩
theorem mJ(h:Tb W tb t next A lab){a:R1}(ha:a∈A)(hn:next<=800)(hc:t.cols.length<=1000):Calls prog 24 #[.pointer (some ⟨tb,0,none⟩),.int .i64 a.1] W fun e w'=>e=.returned (.bool true)/\∃lab',Tb w' tb t next (without A a.1) lab'/\Ext W lab lab'/\Tn (fun b=>lab b≠0) W w':=by
 obtain⟨i,l,N⟩:=h;obtain⟨p,hp,a1,_⟩:=N.pl a ha;have a2:=N.rng a ha;have hx:lg a.1:=(by constructor <;> omega);have B:=eL l hx;rw[hp]at B;simp only[Option.getD_some,Option.isSome_some]at B;obtain⟨pc,cc,O,c0,b0⟩:=l.cols.isslice;obtain⟨n,E⟩:=ae t.cols.length;have c4:=l.cells.2.2.2.2.1;have zl:=l.tlt;rw[O,E]at c4;rw[E]at hc;have L:=N.few;have u:=N.lens;have m:=aa (ab l (ab N (ab hp (ab ha (ab hx a2)))));have s:=aa (ab E (ab O a1));have HL:=aa (ab L u);unfold maxLen at b0;obtain⟨x,P⟩:=ae a.1;rw[P]at B m ⊢;have HA:=aa P;have c1:p<=800:=(by omega);clear l N hp ha hx a2 E O a1 L u P;go_enter func24,ntmps24;go_wp2_with (go_at_call 63;refine B.mono ?_;rintro e w2⟨rfl,hw⟩;subst w2);go_loopg [22] (n+1) (fun gh jv w=>∃(j:Nat),jv=.int .i64 (j:Int)/\j<=n/\n+1<=j+gh/\tj W tb t next i lab p j w)
 case atStart=>exact⟨0,rfl,zj _,by omega,i.cl,lab,m.1,fun k _=>by rw[zu (yh k)],Ext.refl _ _,Tn.refl _ _⟩
 obtain⟨j,rfl,hj,hg,hD⟩:=hrel;by_cases b1:j<n
 ·have F:j<t.cols.length:=(by rw[s.1];exact b1);have a3:=HL.2 j F;have o:=hD.col F (by have:=HL.1;omega) (by rw[a3];exact s.2.2)
  obtain⟨gc,H,b2,_,_⟩:∃gc H,Value.slice pc n cc=.slice (some ⟨gc,0,none⟩) n H/\n<=H/\H<=maxLen:=by
   obtain⟨g',c',e,Q,e2,k1,k2⟩:=m.1.ptr F;rw[s.2.1,s.1]at e;exact⟨g',c',e,by rw[<-s.1];exact Q,e2⟩
  cases b2;obtain⟨gl,gp⟩:=hD.ptr (n:=n) (c:=cc) (by rw[s.2.1,s.1]) F;obtain⟨cb,a4⟩:=ae (i.cb j);rw[a4]at gp o;have c2:(j:Int)<(n:Int):=(by omega);clear hD a3 a4;go_wp2_with (go_at_call 64;refine o.mono ?_;rintro e w4⟨rfl,a5⟩;have H4:=aa a5;clear a5 o);go_roundg (n-j)
  case measure=>omega
  exact⟨j+1,by go_num,by omega,by omega,H4.out⟩
 obtain rfl:j=n:=(by omega);obtain⟨cl,b8,d1,d2,d3,d4⟩:=hD
 obtain⟨r,hr⟩:∃r,i.pv=.map r:=by
  rcases d1.place with ⟨e,_⟩ | ⟨b,e,_⟩
  ·exact⟨_,e⟩
  exact⟨_,e⟩
 obtain⟨w1,q,Q,e2⟩:=d1.setdel m.2.2.2.2.1 m.2.2.1 0;have c5:=d1.cells.2.2.2.2.2.1;simp only at c5 q;rw[hr]at c5 q;have zr:=d1.tlt;have z1:=Q.tlt;have c6:=Q.cells.2.2.2.2.2.2.1;simp only at c6;obtain⟨g,b3,w2,d,y1,y2,⟨y3,y4⟩,b9,R,e4,e5⟩:=Q.addfree p (by show i.free.length<=10000;have:=HL.1;omega);simp only at d;obtain⟨pf,cf,U,_,_⟩:=Q.free.isslice;simp only at U;rw[U]at c6 d;obtain⟨nf,I⟩:=ae i.free.length;simp only[I]at R e5;rw[I]at c6 d;have HD:=aa (ab d2 (ab (d3.trans d4.size (Ext.refl _ _)) (d4.trans e2 (fun _ _ h=>h) (dM d3))));obtain⟨w3,V⟩:=ae (w2.setCell ⟨tb,6,none⟩ (.slice (some ⟨g,0,none⟩) (nf+1) b3));rw[V]at R e5;have HT:=aa (ab (HD.2.1.trans (HD.2.2.size) e4) (HD.2.2.trans e5 (fun _ _ h=>h) (dM HD.2.1)));have z3:=R.tlt;have c8:=R.cells.2.2.2.2.2.2.2.2.1;simp only at c8;obtain⟨g',a6,w4,f,v1,v2,⟨v3,v4⟩,M,e6,e7,e8⟩:=R.addlate x (by show i.late.length<=10000;have:=m.2.1.lat;omega);simp only at f;obtain⟨pl,c3,X,_,_⟩:=R.late.isslice;simp only at X;rw[X]at c8 f;obtain⟨nl,v⟩:=ae i.late.length;simp only[v]at e6 e8;rw[v]at c8 f;obtain⟨w5,Y⟩:=ae (w4.setCell ⟨tb,8,none⟩ (.slice (some ⟨g',0,none⟩) (nl+1) a6));rw[Y]at e6 e8;have HU:=aa (ab (HT.1.trans HT.2.size e7) (HT.2.trans e8 (fun _ _ h=>h) (dM HT.1)));have z5:=e6.tlt;have b4:=e6.cells.2.2.2.2.2.2.2.2.1;simp only at b4;have a7:=m.2.1.lat;rw[v]at a7;have HE:=aa (ab e6 (ab v I));have b5:=aa V;have b6:=aa Y;clear d1 d2 d3 d4 Q e2 R e4 e5 e6 e7 e8 hr U X v I V Y;go_upto_region 10 with (at_delete;refine vJ rfl (.tmp 34) (.tmp 35) 103 3 rfl rfl rfl q ?_);go_upto_region 11 with (at_builtin;refine aT rfl (.tmp 40) (.tmp 42) 40 rfl rfl rfl d ?_);rw[b5.out];clear q d y1 y2 y4 c5 c6;go_upto_region 12 with (at_builtin;refine aT rfl (.tmp 50) (.tmp 52) 40 rfl rfl rfl f ?_);rw[b6.out];clear f v1 v2 v4 c8;by_cases c7:nl+1=64
 ·obtain rfl:nl=63:=(by omega);have Z:=jI HE.1 (by show(i.late++[x]).length<=100;rw[y6,HE.2.1];simp);go_wp2_with (go_at_call 42;refine Z.mono ?_;rintro e w6⟨p6,n6,c9,rfl,a8,a0⟩;have h6:=HE.1.later a0;have x7:=h6.cells.2.2.2.2.2.2.2.1;have x8:=h6.cells.2.2.2.2.2.2.2.2.1;have f7:=h6.fz 7;have f8:=h6.fz 8;have l6:=h6.tlt;have H6:=aa (ab h6 (ab a8 a0));clear h6 a8 a0);obtain⟨s1,s2⟩:=H6.1.setgone H6.2.1;have HS:=aa (ab s1 s2);clear s1 s2;go_ret;refine⟨rfl,M,⟨_,HS.1,?_⟩,HU.1,(HU.2.trans (Tn.of_below (S:=fun _=>False) H6.2.2) (fun _ _ h=>h) (fun _ _ h=>h.elim)).trans HS.2 (fun _ _ h=>h) (dM HU.1)⟩;rw[<-HA.out];refine m.2.1.del m.2.2.2.1 (by rw[HA.out];exact m.2.2.1) rfl rfl rfl (fun y=>?_) (by show([]:List Int).length<=63;decide) (fun k J=>?_)
  ·show((i.G y || ry (i.late++[a.1]) y)=true∨y∈([]:List Int))↔_
   have b7:∀z,z∈i.late->qg z=true:=fun z hz=>by
    obtain⟨z1,z2,_⟩:=(m.2.1.gone z).1 (.inr hz)
    have:=m.2.1.lim
    unfold qg
    simp;omega
   have a9:qg a.1=true:=by
    have:=m.2.2.2.2.2
    rw[<-HA.out]at this;unfold qg
    simp;omega
   unfold ry;simp only[vk,or_false,wh,zy,xz,List.mem_append,zz];constructor
   ·rintro(l|⟨l|l,N⟩)
    ·exact .inl (.inl l)
    ·exact .inl (.inr l)
    exact .inr l
   rintro((l|l) | l)
   ·exact .inl l
   ·exact .inr ⟨.inl l,b7 y l⟩
   exact .inr ⟨.inr l,by rw[l];exact a9⟩
  show cl k=_;rw[HD.1 k (by rw[s.1];rw[s.1]at J;exact J),zw (by rw[s.1]at J;exact J)]
 have d0:((nl:Int)+1==64)=false:=(by simp;omega);go_wp2_with fail;go_ret;refine⟨rfl,M,⟨_,HE.1,?_⟩,HU.1,HU.2⟩;rw[<-HA.out];refine m.2.1.del m.2.2.2.1 (by rw[HA.out];exact m.2.2.1) rfl rfl rfl (fun y=>?_) ?_ (fun k J=>?_)
 ·show(i.G y=true∨y∈i.late++[a.1])↔_;rw[List.mem_append,zz,or_assoc]
 ·show(i.late++[a.1]).length<=63;rw[y6,HE.2.1];simp;omega
 show cl k=_;rw[HD.1 k (by rw[s.1];rw[s.1]at J;exact J),zw (by rw[s.1]at J;exact J)]
def pu(t:T)(A:List R1)(x:Int)(y:ByteArray)(v:T3):Int:=if A.any (fun a=>decide (a.1=x))then(if 0<=fx t.cols y then(if lq ((t.cols[(fx t.cols y).toNat]?).getD ⟨e0,0,false,e0⟩).kd v then 0 else 4)else 3)else 6
theorem kY{A:List R1}{x:Int}:A.any (fun a=>decide (a.1=x))=true↔∃a∈A,a.1=x:=by simp
theorem zZ(h:Tb W tb t next A lab){x:Int}(hx:lg x)(y:ByteArray)(k n1:Int)(s:ByteArray)(hs:s.size<=maxLen)(hno:pu t A x y (k,n1,s)≠0):Calls prog 60 #[.pointer (some ⟨tb,0,none⟩),.int .i64 x,.string y,.agg #[.int .i64 k,.int .i64 n1,.string s]] W fun e w'=>e=.returned (.int .i64 (pu t A x y (k,n1,s)))/\Below W.heap.size W w':=by
 obtain⟨i,I,r⟩:=h;have u:=aD W (.cells #[.int .i64 k,.int .i64 n1,.string s] 32);have v:=z7 W (.cells #[.int .i64 k,.int .i64 n1,.string s] 32);have n:=I.later u;have c:=eL n hx;have J:=aa (ab u v);unfold pu at hno ⊢;cases l:i.f x with
 | none =>
  have o:¬ A.any (fun a=>decide (a.1=x))=true:=fun e=>by
   rw[kY,<-r.is,l]at e;cases e
  rw[zu o];rw[l]at c;clear I r n u v hno o l;go_enter func60,ntmps60;go_wp2_with (go_at_call 63;refine c.mono ?_;rintro e B⟨rfl,E⟩;subst B);go_ret;exact⟨rfl,J.1⟩
 | some p =>
  have o:A.any (fun a=>decide (a.1=x))=true:=(by rw[kY,<-r.is,l];rfl);rw[zw o]at hno ⊢;rw[l]at c;simp only[Option.getD_some,Option.isSome_some]at c;have b:=fB n y;by_cases q:0<=fx t.cols y
  ·rw[zw q]at hno ⊢;rcases jK t.cols y with e|⟨j,M,e⟩
   ·rw[e]at q;omega
   ·rw[e]at hno b ⊢;have F:decide (0<=(j:Int))=true:=(by simp);rw[F]at b;rw[wo,z6 M]at hno ⊢;simp only[Option.getD_some]at hno ⊢
    have m:lq t.cols[j].kd (k,n1,s)=false:=by
     cases O:lq t.cols[j].kd (k,n1,s)
     ·rfl
     ·rw[zw O]at hno;exact absurd rfl hno
    rw[zu (by rw[m];exact Bool.false_ne_true)]
    have P:Hid (∀w,Below (W.alloc (.cells #[.int .i64 k,.int .i64 n1,.string s] 32)).heap.size (W.alloc (.cells #[.int .i64 k,.int .i64 n1,.string s] 32)) w->w.heap[W.heap.size]?=some (.cells #[.int .i64 k,.int .i64 n1,.string s] 32)/\Calls prog 96 #[.pointer (some ⟨tb,0,none⟩),.int .i64 (j:Int),.agg #[.int .i64 k,.int .i64 n1,.string s]] w fun e w'=>e=.returned (.bool false)/\Below w.heap.size w w'):=aa (fun w E=>by
     have:=gI (n.later E) j M k n1 s hs
     rw[m]at this;exact⟨aE E v,this⟩)
    clear I r n u v hno o l F m q e;go_enter func60,ntmps60
    go_wp2_with (first|(go_at_call 63;refine c.mono ?_;rintro e B⟨rfl,E⟩;subst B)|(go_at_call 83;refine b.mono ?_;rintro e N⟨rfl,d⟩;obtain⟨g,G⟩:=P.out N d;have R:=aA g 0;have S:=aA g 1;have U:=aA g 2;have V:=aB g;have L:=aa d;clear g d b)|(go_at_call 96;refine G.mono ?_;rintro e X⟨rfl,H⟩;have Q:=aa H;clear H G))
    go_ret;exact⟨rfl,aC (aC J.1 L.out) Q.out⟩
  ·rw[zu q];have F:decide (0<=fx t.cols y)=false:=yp q;rw[F]at b;generalize fx t.cols y=z at b;clear I r n u v hno o l F q;go_enter func60,ntmps60
   go_wp2_with (first|(go_at_call 63;refine c.mono ?_;rintro e B⟨rfl,E⟩;subst B)|(go_at_call 83;refine b.mono ?_;rintro e N⟨rfl,d⟩;have L:=aa d;clear d b))
   go_ret;exact⟨rfl,aC J.1 L.out⟩
end
section
variable{W W':World}{tb next:Nat}{t:T}{A:List R1}{lab:Nat->Nat}
theorem mK(h:Tb W tb t next A lab){a:R1}(ha:a∈A)(hn:next<=800){y:ByteArray}{j:Nat}(hj:j<t.cols.length)(hy:fx t.cols y=(j:Int))(k n1:Int)(s:ByteArray)(hs:s.size<=maxLen)(hin:lq t.cols[j].kd (k,n1,s)=true):Calls prog 60 #[.pointer (some ⟨tb,0,none⟩),.int .i64 a.1,.string y,.agg #[.int .i64 k,.int .i64 n1,.string s]] W fun e w'=>e=.returned (.int .i64 0)/\∃lab',Tb w' tb t next (ph A a.1 j (k,n1,s)) lab'/\Ext W lab lab'/\Tn (fun b=>lab b≠0) W w':=by
 obtain⟨i,X,z⟩:=h;obtain⟨p,Y,Z,_⟩:=z.pl a ha;have a0:=z.rng a ha;have hx:lg a.1:=(by have:=z.lim;constructor <;> omega);have M:=aD W (.cells #[.int .i64 k,.int .i64 n1,.string s] 32);have U:=z7 W (.cells #[.int .i64 k,.int .i64 n1,.string s] 32);have N:=X.later M;have o:=eL N hx;rw[Y]at o;simp only[Option.getD_some,Option.isSome_some]at o;have f:=fB N y;rw[hy]at f;have hd:decide (0<=(j:Int))=true:=(by simp);rw[hd]at f;obtain⟨g,c,E,a1,a2,_⟩:=X.ptr hj;obtain⟨n,F⟩:=ae t.cols.length;obtain⟨w1,G⟩:=ae (W.alloc (.cells #[.int .i64 k,.int .i64 n1,.string s] 32));obtain⟨B,H⟩:=ae W.heap.size;rw[G]at N U M o f;rw[H]at U;have O:=z.few;obtain⟨x,I⟩:=ae a.1
 have HX:Hid (∀w,Below w1.heap.size w1 w->w.heap[B]?=some (.cells #[.int .i64 k,.int .i64 n1,.string s] 32)/\w.cell? ⟨tb,4,none⟩=some (.slice (some ⟨g,0,none⟩) n c)/\w.cell? ⟨g,j,none⟩=some (.pointer (some ⟨i.cb j,0,none⟩))/\tb<w.heap.size/\g<w.heap.size/\(Calls prog 96 #[.pointer (some ⟨tb,0,none⟩),.int .i64 (j:Int),.agg #[.int .i64 k,.int .i64 n1,.string s]] w fun e w'=>e=.returned (.bool true)/\Below w.heap.size w w')/\(Calls prog 64 #[.pointer (some ⟨i.cb j,0,none⟩),.int .i64 (p:Int),.agg #[.int .i64 k,.int .i64 n1,.string s]] w fun e w'=>e=.returned (.bool true)/\∃lab',Tb w' tb t next (ph A x j (k,n1,s)) lab'/\Ext W lab lab'/\Tn (fun b=>lab b≠0) W w')):=aa (fun w V=>by
  have L:=N.later V;have P:=aC M V;obtain⟨g',c',e,_,_,k1,k2⟩:=L.ptr hj;rw[E]at e;cases e;have r:=gI L j hj k n1 s hs;rw[hin]at r;refine⟨aE V U,by rw[<-F,<-E];exact L.cells.2.2.2.2.1,k2,L.tlt,k1,r,?_⟩;have hl:=z.lens j hj;refine(pU (L.col j hj) (by omega) p (by omega) (k,n1,s) hs hin).mono ?_;rintro e w'⟨rfl,q1,q2⟩;obtain⟨Q,s1,s2,s3⟩:=L.setcol hj q1 q2 (fun q hq=>.inl hq);refine⟨rfl,Q,⟨_,s1,?_⟩,fun b a3=>s2 b (z9 a3 P.size),(Tn.of_below (S:=fun _=>False) P).trans s3 (fun _ _ h=>h.elim) (fun _ _ h=>h)⟩;rw[<-I];refine z.set ha hj Y rfl rfl rfl rfl rfl (fun k' a8=>?_);show ns i.cl j _ k'=_;by_cases e:k'=j
  ·subst e;rw[bJ,zw rfl]
  ·rw[aW _ _ e,zu e])
 rw[I]at o ⊢;have HB:=aa (show Below W.heap.size W w1 from M);have HW:=aa (ab G H);rw[F]at a1 hj;have a9:(j:Int)<(n:Int):=(by omega);unfold maxLen at a2;generalize i.cb j=cb at HX;clear X z N Y Z a0 hx M U hy hd E F G H O I hin hs;go_enter func60,ntmps60;go_upto_region 1 with fail;rw[HW.1,HW.2]
 go_upto_region 9 with (first|(go_at_call 63;(with_reducible refine o.mono ?_);rintro e w2⟨rfl,V⟩;subst w2)|(go_at_call 83;(with_reducible refine f.mono ?_);rintro e w3⟨rfl,J⟩;obtain⟨u,y4,yj,yt,yg,r,_⟩:=HX.out w3 J;have z0:=aA u 0;have z1:=aA u 1;have z2:=aA u 2;have zl:=aB u;have H3:=aa J;clear u J f)|(go_at_call 96;(with_reducible refine r.mono ?_);rintro e w4⟨rfl,R⟩;have H4:=aa (aC H3.out R);clear R r))
 obtain⟨v,a4,a5,a6,a7,_,l⟩:=HX.out w4.drew (aC H4.out (aG w4));have HC:=aa l;have q0:=aA v 0;have q1:=aA v 1;have q2:=aA v 2;have ql:=aB v;clear l v z0 z1 z2 zl y4 yj yt yg;refine Par.ag 9 [.pointer (some ⟨tb,0,none⟩),.pointer (some ⟨tb,0,none⟩),.pointer (some ⟨tb,4,none⟩),.slice (some ⟨g,0,none⟩) n c,.int .i64 (j:Int),.pointer (some ⟨g,j,none⟩),.pointer (some ⟨cb,0,none⟩),.int .i64 (p:Int),.agg #[.int .i64 k,.int .i64 n1,.string s]] (fun w=>w=w4.drew) ?A1 ?hm1 ?hB1 ?hA1 (rfl) ?hop1 ?hT1
 case hm1=>kernel_rfl
 case hB1=>kernel_rfl
 case hA1 =>
  simp only[Par.am,Par.ai,Act.put,eh,ez,dz,eo,ew,ey,ed,ic,gy];rfl
 case hop1 =>
  simp only[en,zh,Par.ah,yo];and_intros<;>intro w' d
  ·have m:=aa d;obtain rfl:=d;simp only[Par.Gives];go_simp;all_goals exact m.out
  ·have m:=aa d;obtain rfl:=d;simp only[Par.Gives];go_simp;all_goals exact m.out
  ·have m:=aa d;obtain rfl:=d;simp only[Par.Gives];go_simp;all_goals exact m.out
  ·have m:=aa d;obtain rfl:=d;simp only[Par.Gives];go_simp;all_goals exact m.out
  ·have m:=aa d;obtain rfl:=d;simp only[Par.Gives];go_simp;all_goals exact m.out
  ·have m:=aa d;obtain rfl:=d;simp only[Par.Gives];go_simp;all_goals exact m.out
  ·have m:=aa d;obtain rfl:=d;simp only[Par.Gives];go_simp;all_goals exact m.out
  ·have m:=aa d;obtain rfl:=d;simp only[Par.Gives];go_simp;all_goals exact m.out
  have m:=aa d;obtain rfl:=d;simp only[Par.Gives];go_simp;all_goals exact m.out
 intro w' d;simp only[ex,ye];obtain rfl:=d;have l:=HC.out;clear q0 q1 q2 ql a4 a5 a6 a7;go_wp2_with (go_at_call 64;refine l.mono ?_;rintro e w5⟨rfl,hT⟩;have H5:=aa hT;clear hT l);go_ret;exact⟨rfl,H5.out⟩
theorem Tb.f64{i:In}{n:Nat}(h2:Inv n next i A){a:R1}(ha:a∈A):lg a.1:=by have:=h2.rng a ha;have:=h2.lim;constructor <;> omega
theorem gJ(h:Tb W tb t next A lab){a:R1}(ha:a∈A)(hc:t.cols.length<=1000)(h0:0<t.cols.length):Calls prog 191 #[.pointer (some ⟨tb,0,none⟩),.int .i64 a.1] W fun e w'=>∃g c,e=.returned (.tuple #[.slice (some ⟨g,0,none⟩) t.cols.length c,.bool true])/\W.heap.size<=g/\ac w' W.heap.size 32 3 (.slice (some ⟨g,0,none⟩) t.cols.length c) t.cols.length (cells3 a.2)/\Below W.heap.size W w':=by
 obtain⟨i,f,b⟩:=h;obtain⟨p,j,d,l⟩:=b.pl a ha
 have:=Ha f (Tb.f64 b ha) j (fun k m=>by rw[b.lens k m];exact d) hc h0
 rw[<-l]at this;exact this
theorem Tb.len(h:Tb W tb t next A lab):∀a∈A,a.2.length=t.cols.length:=fun a b=>by
 obtain⟨i,f,c⟩:=h;obtain⟨p,g,d,e⟩:=c.pl a b;rw[e,bV]
theorem Tb.srt(h:Tb W tb t next A lab):A.Pairwise (fun a b=>a.1<b.1):=by
 obtain⟨i,d,c⟩:=h;exact c.srt
theorem Tb.ok(h:Tb W tb t next A lab):∀a∈A,∀k (b:k<t.cols.length) x,a.2[k]?=some x->lq t.cols[k].kd x=true:=fun a f k b x d=>by
 obtain⟨i,g,e⟩:=h;obtain⟨p,l,c,j⟩:=e.pl a f;rw[j,cC _ b,z6 (by rw[e.lens k b];exact c)]at d;cases d;exact(g.col k b).ok _ (z8 _)
theorem gK(h:Tb W tb t next A lab){a:R1}(ha:a∈A){y:ByteArray}{k:Nat}(hk:k<t.cols.length)(hy:fx t.cols y=(k:Int)){u:T3}(hu:a.2[k]?=some u):Calls prog 45 #[.pointer (some ⟨tb,0,none⟩),.int .i64 a.1,.string y] W fun e w'=>e=.returned (.tuple #[.agg #[.int .i64 u.1,.int .i64 u.2.1,.string u.2.2],.bool true])/\Below W.heap.size W w':=by
 obtain⟨i,f,c⟩:=h;obtain⟨p,g,d,j⟩:=c.pl a ha;have b:p<(i.cl k).length:=(by rw[c.lens k hk];exact d);rw[j,cC _ hk,z6 b]at hu;exact FR f (Tb.f64 c ha) g hk hy b (by rw[z6 b];exact hu)
theorem D7(h:Tb W tb t next A lab){x:Int}(hx:lg x){y:ByteArray}(hno:(∀a∈A,a.1≠x)∨fx t.cols y=-1):Calls prog 45 #[.pointer (some ⟨tb,0,none⟩),.int .i64 x,.string y] W fun e w'=>e=.returned (.tuple #[.agg #[.int .i64 0,.int .i64 0,.string (⟨#[]⟩)],.bool false])/\Below W.heap.size W w':=by
 obtain⟨i,b,c⟩:=h;exact GN b hx (hno.imp (c.no x) id)
theorem xX(h:Tb W tb t next A lab):Calls prog 230 #[.pointer (some ⟨tb,0,none⟩)] W fun e w'=>e=.returned (.int .i64 (next:Int))/\w'=W:=by
 obtain⟨i,a,b⟩:=h;exact zU a
def oi(A:List R1):Int->Bool:=fun x=>A.any fun a=>decide (a.1=x)
theorem mL{x:Int}:oi A x=true↔∃a∈A,a.1=x:=kY
theorem Vm.congr{w:World}{v:Value}{P Q:Int->Bool}(h:Vm w v P)(e:∀x,P x=Q x):Vm w v Q:=by
 obtain⟨l,a,b,c⟩:=h;exact⟨l,a,b,fun x=>by rw[<-e x];exact c x⟩
theorem eM(h:Tb W tb t next A lab):Calls prog 15 #[.pointer (some ⟨tb,0,none⟩)] W (rq (oi A) W):=by
 obtain⟨i,m,d⟩:=h;refine(zV m (by have:=d.lat;omega)).mono ?_;rintro e w'⟨p,n,c,g,o,q⟩;refine⟨p,n,c,g,o.congr (fun x=>?_),q⟩;have l:=d.lim;rw[wu,mL];have j:=d.gone x;unfold notP jf ry;simp only[zy,xz,Bool.not_eq_true',Bool.or_eq_false_iff,Bool.and_eq_false_iff,ww];constructor
 ·rintro⟨⟨r,s,y⟩,b1,b2⟩;apply Classical.byContradiction;intro k;rcases j.2 ⟨r,s,fun a b g=>k ⟨a,b,g⟩⟩with f|f
  ·rw[b1]at f;cases f
  rcases b2 with b2|b2
  ·exact b2 f
  unfold qg at b2;simp at b2;omega
 rintro⟨a,b,rfl⟩;obtain⟨r1,u⟩:=d.rng a b;refine⟨⟨r1,u,by omega⟩,?_,.inl (fun v=>(j.1 (.inr v)).2.2 a b rfl)⟩;cases w:i.G a.1
 ·rfl
 exact absurd rfl ((j.1 (.inl w)).2.2 a b)
theorem rZ(h:Tb W tb t next A lab){x:ByteArray}{k:Nat}(hk:k<t.cols.length)(hx:fx t.cols x=(k:Int))(m:List (K 12))(hm:m.Nodup)(hs:∀s,s∈m↔∃a∈A,∃y,a.2[k]?=some y/\y.1=2/\wd y.2.2=s):Calls prog 193 #[.pointer (some ⟨tb,0,none⟩),.string x] W fun e w'=>e=.returned (.int .i64 (m.length:Int))/\Below W.heap.size W w':=by
 obtain⟨i,b,c⟩:=h;exact vO b hk hx m hm (fun s=>(hs s).trans (c.texts hk s).symm)
end
theorem fw.mono{w:World}{b b':Nat}{cv dv:Value}{t:T}{ps:List Value}(h:fw w b cv dv t ps)(hb:b'<=b):fw w b' cv dv t ps:=⟨ac.mono h.c hb,h.n,ac.mono h.d hb,fun j x y=>ac.mono (h.l j x y) hb⟩
def Cc(t:T)(W:World)(e:Ending)(w':World):Prop:=∃p1 c1 p2 c2 ps,e=.returned (.agg #[.string t.nm,.slice p1 t.cols.length c1,.string t.key,.slice p2 t.deps.length c2])/\fw w' W.heap.size (.slice p1 t.cols.length c1) (.slice p2 t.deps.length c2) t ps/\Below W.heap.size W w'
section
variable{W W':World}{tb next:Nat}{t:T}{i:In}{A:List R1}{lab:Nat->Nat}
theorem Dh(h:ec W tb t next i lab)(hf:Few t):Calls prog 231 #[.pointer (some ⟨tb,0,none⟩)] W (Cc t W):=by
 have p:=aD W (ar e0 (.slice none 0 0) e0 (.slice none 0 0));have r:=z7 W (ar e0 (.slice none 0 0) e0 (.slice none 0 0));have k:=h.later p;obtain⟨pc,kc,l,y,z⟩:=k.form.rd.1.slice;obtain⟨pd,kd,m,A,E⟩:=k.form.rd.2.slice;have b:=mB k.form.rd hf;obtain⟨c0,c1,c2,c3,_⟩:=k.cells;have H:=k.tlt;rw[l]at c1 b;rw[m]at c3 b;obtain⟨I,d⟩:=ae (W.alloc (ar e0 (.slice none 0 0) e0 (.slice none 0 0)));obtain⟨B,f⟩:=ae W.heap.size;rw[d]at p r c0 c1 c2 c3 H b;rw[f]at r;have g:I.heap.size=B+1:=(by rw[<-d,zm,f]);rw[g]at b;have s:=aa (ab p (ab r g));have u:=aa (ab d f);clear h k p r d f l m y z A E g hf;go_enter func231,ntmps231;go_upto_region 1 with fail;rw[u.1,u.2];go_wp2_with (go_at_call 80;refine b.mono ?_;rintro e F⟨w,d1,x,d2,ps,rfl,n,j⟩;have a:=aE (s.2.2▸j) s.2.1;have P:=aA a 0;have Q:=aA a 1;have R:=aA a 2;have z3:=aA a 3;have S:=fun i=>zq F B i _ _ a;have J:=aB a;have G:=aa (ab n (ab j a));clear n j a b);have c:=mn G.2.2 (.string t.nm) (.slice w t.cols.length d1) (.string t.key) (.slice x t.deps.length d2);have o:=bB (aC s.1 (s.2.2▸G.2.1)) (xn u.2) (.string t.nm) (.slice w t.cols.length d1) (.string t.key) (.slice x t.deps.length d2);have n:=G.1.of (fun q U=>cA F B q (by omega) (.string t.nm) (.slice w t.cols.length d1) (.string t.key) (.slice x t.deps.length d2));generalize (((F.setCell _ _).setCell _ _).setCell _ _).setCell _ _=wz at c o n ⊢;have L:=aA c 0;have M:=aA c 1;have N:=aA c 2;have O:=aA c 3;refine y8 (v:=.agg #[.string t.nm,(.slice w t.cols.length d1),.string t.key,(.slice x t.deps.length d2)]) (by simp[results,results231,go_sem,L,M,N,O]) rfl ?_;exact⟨_,_,_,_,ps,rfl,n.mono (by have:=u.2;omega),o⟩
theorem If(h:Tb W tb t next A lab)(hf:Few t):Calls prog 231 #[.pointer (some ⟨tb,0,none⟩)] W (Cc t W):=by
 obtain⟨i,a,b⟩:=h;exact Dh a hf
end
theorem DR(k:Int)(hk:k=1∨k=2)(W:World):Calls prog 81 #[.int .i64 k] W fun e w'=>e=.returned (.pointer (some ⟨W.heap.size,0,none⟩))/\Col W.heap.size k [] (.slice none 0 0) w'/\Below W.heap.size W w':=by
 have a:=E8 k hk W;clear hk;go_enter func81,ntmps81;go_wp2_with (go_at_call 112;refine a.mono ?_;rintro e f⟨rfl,b,c⟩;have d:=aa (ab b c);clear b c a);go_ret;exact⟨rfl,d.out⟩
theorem Gy:(prog.info? 137).map (fun i=>(i.zero,i.size,i.bytes))=some (some (.pointer none),1,8):=by kernel_rfl
structure qc (W:World) (t:T) (T0:Nat) (fc fd:Value) (ps:List Value) (j:Nat) (cv:Value) (cb:Nat->Nat) (w:World):Prop where
 box:w.heap[T0]?=some (.cells #[.string t.nm,fc,.string t.key,fd,cv,.map none,.slice none 0 0,.slice none 0 0,.slice none 0 0,.int .i64 0] 105)
 form:fw w 0 fc fd t ps
 row:ac w (T0+1) 137 1 cv j (ptrs cb j)
 col:∀k (_:k<j) (h:k<t.cols.length),Col (cb k) t.cols[k].kd [] (.slice none 0 0) w
 gt:∀k,k<j->T0<cb k
 inj:∀k l,k<j->l<j->cb k=cb l->k=l
 low:W.heap.size<=T0
 below:Below W.heap.size W w
section
variable{W w w':World}{t:T}{T0 j:Nat}{fc fd cv:Value}{ps:List Value}{cb:Nat->Nat}
theorem qc.later(h:qc W t T0 fc fd ps j cv cb w)(hb:Below w.heap.size w w'):qc W t T0 fc fd ps j cv cb w':=
 ⟨aE hb h.box,h.form.later hb,h.row.later hb,fun k a b=>(h.col k a b).later hb,h.gt,h.inj,h.low,aC h.below hb⟩
theorem E6(cb:Nat->Nat)(j c:Nat):ptrs cb j++[.pointer (some ⟨c,0,none⟩)]=ptrs (ns cb j c) (j+1):=by
 unfold ptrs;rw[List.range_succ,vw,List.map_singleton,bJ]
 congr 1
 apply List.map_congr_left;intro k a;rw[aW _ _ (by have:=List.mem_range.1 a;omega)]
theorem qc.add(h:qc W t T0 fc fd ps j cv cb w){c:Nat}(hj:j<t.cols.length)(hjm:j<=1000)(hc:Col c t.cols[j].kd [] (.slice none 0 0) w)(hgt:T0<c)(hnew:∀k,k<j->cb k≠c):∃g s f,(Builtin.append_ #[102,102] 102 #[cv,.slice (some ⟨w.heap.size,0,none⟩) 1 1]).run prog (w.alloc (.cells #[.pointer (some ⟨c,0,none⟩)] 137))=.ok (.slice (some ⟨g,0,none⟩) (j+1) s) f/\T0<f.heap.size/\f.frozen? ⟨T0,4,none⟩=false/\(∃u,f.cell? ⟨T0,4,none⟩=some u)/\qc W t T0 fc fd ps (j+1) (.slice (some ⟨g,0,none⟩) (j+1) s) (ns cb j c) (f.setCell ⟨T0,4,none⟩ (.slice (some ⟨g,0,none⟩) (j+1) s)):=by
 have hT:=aB h.box;obtain⟨g,s,f,J,r3,z,own⟩:=lj (ty:=102) underlying102 Gy rfl (by decide) (by decide) w (T0+1) h.row (by omega) (by omega) #[.pointer (some ⟨c,0,none⟩)] rfl (by simp[Value.oneCell'])
 have M:∀b,cv.ownBlock=some b->b≠T0/\∃i,w.heap[b]?=some (.cells i 137):=fun b r=>by
  obtain⟨N,i,E⟩:=h.row.block b r;exact⟨by omega,i,E⟩
 have a:f.heap[T0]?=_:=(z.block T0 hT (fun e=>(M T0 e.symm).1 rfl)).trans h.box;have V:Ty f T0:=⟨_,105,a,rfl⟩
 have o:∀(b:Nat) (i:Array Value) (e:TypeId) (m:Nat×Nat),w.heap[b]?=some (.cells i e m)->e≠137->f.heap[b]?=w.heap[b]?:=fun b i e m r X=>z.block b (aB r) (fun N=>by
  obtain⟨_,a3,E⟩:=M b N.symm;rw[r]at E;cases E;exact X rfl)
 have A:∀{base:Nat} {e:TypeId} {size:Nat} {v:Value} {n:Nat} {xs:List Value},ac w base e size v n xs->e≠137->ac f base e size v n xs:=fun R X=>R.of (fun k G=>by
  obtain⟨_,i,r⟩:=R.block k G;exact o k _ _ _ r X)
 have Y:fw f 0 fc fd t ps:=⟨A h.form.c (by decide),h.form.n,A h.form.d (by decide),fun q x y=>A (h.form.l q x y) (by decide)⟩
 have B:∀{cb0:Nat} {kind:Int} {l:List T3} {v:Value},Col cb0 kind l v w->Col cb0 kind l v f:=fun{cb0 kind l v} hc=>by
  obtain⟨O,P⟩:=hc.ty;obtain⟨⟨L,W0,I,Z⟩,R,ho⟩:=hc;have Q:∀b,Ty w b->f.heap[b]?=w.heap[b]?:=(fun b⟨cs,ty,N,E⟩=>o b cs ty _ N (fun e=>by rw[e]at E;cases E));have e:=Q cb0 O;obtain⟨a0,m,q⟩:=I.dm.mp;obtain⟨tt,p,r1,r2,a1⟩:=m.rt
  exact⟨⟨L,W0,⟨(ze (w:=w) e).trans I.c0,(ze (w:=w) e).trans I.c1,⟨⟨a0,⟨m.dm,(ze (w:=w) e).trans m.c0,⟨tt,p,(ze (w:=w) e).trans r1,Tr.lw (fun b cs r=>o b cs 227 _ r (by decide)) r2,a1⟩,fun j=>(wq (w:=w) e).trans (m.fz j),m.srt,
   m.bel.trans ⟨z.os,z.tape,z.output,z.size,fun k G=>absurd G (yh _)⟩,m.ty.of e⟩,q⟩,I.dm.pos,I.dm.len⟩,(ze (w:=w) e).trans I.c4⟩,Z⟩,R.of (fun k a2=>Q k (P k a2)),ho⟩
 have F:Tn (fun b=>b=T0) f (f.setCell ⟨T0,4,none⟩ (.slice (some ⟨g,0,none⟩) (j+1) s)):=Tn.bt ((Chg.refl (fun b=>b=T0) f).setCell (p:=⟨T0,4,none⟩) (fun _=>rfl) _) (fun b _ r=>.inl (by rw[r];exact V));have H:Below W.heap.size W f:=h.below.trans ⟨z.os,z.tape,z.output,z.size,fun k G=>z.block k (z9 G h.below.size) (fun e=>by have:=(h.row.lt k e.symm).1;have:=h.low;omega)⟩;refine⟨g,s,f,J,aB a,zq f T0 4 _ _ a,⟨_,aA a 4⟩,y7 _ T0 4 _ _ _ a,Y.tn F,?_,fun k N E=>?_,fun k G=>?_,fun k l G hl e=>?_,h.low,H.setCell (p:=⟨T0,4,none⟩) h.low _⟩
 ·rw[<-E6];exact r3.tn F rfl
 ·by_cases e:k=j
  ·subst e;rw[bJ];exact(B hc).tn F (by omega) (fun b r=>by cases r)
  rw[aW _ _ e];exact(B (h.col k (by omega) E)).tn F (by have:=h.gt k (by omega);omega) (fun b r=>by cases r)
 ·by_cases e:k=j
  ·subst e;rw[bJ];exact hgt
  rw[aW _ _ e];exact h.gt k (by omega)
 by_cases S:k=j <;> by_cases U:l=j
 ·rw[S,U]
 ·rw[S,bJ,aW _ _ U]at e;exact absurd e.symm (hnew l (by omega))
 ·rw[U,bJ,aW _ _ S]at e;exact absurd e (hnew k (by omega))
 rw[aW _ _ S,aW _ _ U]at e;exact h.inj k l (by omega) (by omega) e
theorem qc.tb(h:qc W t T0 fc fd ps t.cols.length cv cb w):∃lab,Tb w T0 t 0 [] lab/\∀b,lab b≠0->W.heap.size<=b:=by
 classical
 obtain⟨lab,d⟩:∃lab:Nat->Nat,lab=fun b=>if b=T0 then 1 else if f:∃k,k<t.cols.length/\cb k=b then 6+2*Classical.choose f else 0:=⟨_,rfl⟩
 have m:lab T0=1:=by rw[d];simp
 have n:∀k,k<t.cols.length->lab (cb k)=6+2*k:=fun k g=>by
  have o:cb k≠T0:=(by have:=h.gt k g;omega);have f:∃l,l<t.cols.length/\cb l=cb k:=⟨k,g,rfl⟩;rw[d];simp only;rw[zu o,dif_pos f]
  have:=Classical.choose_spec f
  rw[h.inj _ k this.1 g this.2]
 have i:∀b,lab b≠0->b=T0∨∃k,k<t.cols.length/\cb k=b:=fun b c=>by
  apply Classical.byContradiction;intro j;apply c;rw[d];simp only;rw[zu (fun e=>j (.inl e)),dif_neg (fun e=>j (.inr e))]
 refine⟨lab,⟨⟨fc,fd,cv,.map none,.slice none 0 0,.slice none 0 0,.slice none 0 0,ps,cb,fun _=>.slice none 0 0,fun _=>none,0,0,[],[],fun _=>false,fun _=>[]⟩,⟨⟨h.form,ac.mono h.row (zj _),fun k g=>h.col k g g,.inl ⟨rfl,rfl,fun _=>rfl⟩,zo _,ac.nil,⟨[],Mv.nil _,Nrm.nil,fun x=>⟨fun e=>absurd e (eE x),fun e=>by cases e⟩⟩,ac.nil,m,fun b c=>(by cases c),fun b c=>(by cases c),fun b c=>(by cases c),n,fun k _ b c=>(by cases c),fun b c=>?_⟩,h.box⟩,?_⟩,fun b c=>?_⟩
 ·rcases i b c with rfl|⟨k,g,rfl⟩
  ·exact aB h.box
  exact(h.col k g g).lt
 ·exact⟨rfl,fun _ _=>rfl,List.Pairwise.nil,fun a q=>(by cases q),fun a q=>(by cases q),fun _ _=>rfl,fun _ _ _ f=>(by cases f),fun p r=>(by cases r),List.nodup_nil,fun p r=>absurd r (yh p),fun x=>⟨fun f=>(by rcases f with f|f <;> cases f),fun⟨h1,h2,_⟩=>by omega⟩,zo _,zj _,zj _⟩
 rcases i b c with rfl|⟨k,g,rfl⟩
 ·exact h.low
 have:=h.gt k g;have:=h.low;omega
def Cg(kd:Int)(base:Nat):Par.VW:=⟨fun v w=>∃c,v=.pointer (some ⟨c,0,none⟩)/\base<=c/\Col c kd [] (.slice none 0 0) w,fun _ _ _⟨c,h1,h2,h3⟩ hb=>⟨c,h1,h2,h3.later hb⟩⟩
def Bd(t:T)(W:World)(e:Ending)(w':World):Prop:=∃tb lab,e=.returned (.pointer (some ⟨tb,0,none⟩))/\Tb w' tb t 0 [] lab/\(∀b,lab b≠0->W.heap.size<=b)/\Below W.heap.size W w'
theorem mM{cv0 dv0:Value}(h:dw W cv0 dv0 t)(hf:Few t)(v:∀c∈t.cols,c.kd=1∨c.kd=2):Calls prog 39 #[.agg #[.string t.nm,cv0,.string t.key,dv0]] W (Bd t W):=by
 obtain⟨pc,kc,a7,a8,a9⟩:=h.1.slice;obtain⟨pd,kd,b0,b1,b2⟩:=h.2.slice;subst a7 b0;have hb:=aD W (ar t.nm (.slice pc t.cols.length kc) t.key (.slice pd t.deps.length kd));have a:=z7 W (ar t.nm (.slice pc t.cols.length kc) t.key (.slice pd t.deps.length kd));have y:=h.later hb;have p:=mB y hf;obtain⟨n,Z⟩:=ae t.cols.length;obtain⟨nd,z⟩:=ae t.deps.length;obtain⟨w1,o⟩:=ae (W.alloc (ar t.nm (.slice pc t.cols.length kc) t.key (.slice pd t.deps.length kd)));obtain⟨B,A⟩:=ae W.heap.size;rw[o]at hb a p y;rw[A]at a;have a0:w1.heap.size=B+1:=(by rw[<-o,zm,A]);rw[Z]at a8;obtain⟨nm,E⟩:=ae t.nm;obtain⟨key,m⟩:=ae t.key;rw[Z,z]at p y a o;rw[Z,z];rw[E,m]at p a o;rw[E,m];have z0:=aA a 0;have z1:=aA a 1;have z2:=aA a 2;have z3:=aA a 3;have zl:=aB a;have HB:=aa (ab hb (ab a (ab a0 y)));have HW:=aa (ab o A);have N:=aa (ab Z (ab z (ab E (ab m (ab v hf)))));unfold maxLen at a9;have HR:=aa h;clear h y hb a o A Z z E m a0 hf v b1 b2;go_enter func39,ntmps39;go_upto_region 1 with fail;rw[HW.1,HW.2];go_upto_region 2 with (go_at_call 80;(with_reducible refine p.mono ?_);rintro e w2⟨q1,d1,q2,d2,ps,rfl,hO,a1⟩;have H2:=aa (ab hO a1);clear hO a1 p z0 z1 z2 z3 zl);have q:=aD w2 (.cells #[.string nm,.slice q1 n d1,.string key,.slice q2 nd d2,.slice none 0 0,.map none,.slice none 0 0,.slice none 0 0,.slice none 0 0,.int .i64 0] 105);have F:=z7 w2 (.cells #[.string nm,.slice q1 n d1,.string key,.slice q2 nd d2,.slice none 0 0,.map none,.slice none 0 0,.slice none 0 0,.slice none 0 0,.int .i64 0] 105);obtain⟨w3,a2⟩:=ae (w2.alloc (.cells #[.string nm,.slice q1 n d1,.string key,.slice q2 nd d2,.slice none 0 0,.map none,.slice none 0 0,.slice none 0 0,.slice none 0 0,.int .i64 0] 105));obtain⟨T0,O⟩:=ae w2.heap.size;rw[a2]at q F ⊢;rw[O]at F ⊢;have r:Below W.heap.size W w2:=aC HB.1 H2.2
 have a3:qc W t T0 (.slice q1 n d1) (.slice q2 nd d2) ps 0 (.slice none 0 0) (fun _=>0) w3:=
  ⟨by rw[N.2.2.1,N.2.2.2.1];exact F,(H2.1.mono (zj _)).later q,ac.nil,fun k v=>absurd v (yh k),fun k v=>absurd v (yh k),fun k l v=>absurd v (yh k),by rw[<-O];exact r.size,aC r q⟩
 have P:=aE (aC H2.2 q) HB.2.1;have z1:=aA P 1;have zl:=aB P;have b3:=aa a3;clear q F a2 O r a3 P;go_wp2_with fail;go_loopg [13] (n+1) (fun gh jv w=>∃(j:Nat) (cv:Value) (cb:Nat->Nat),jv=.int .i64 (j:Int)/\j<=n/\n+1<=j+gh/\qc W t T0 (.slice q1 n d1) (.slice q2 nd d2) ps j cv cb w)
 case atStart=>exact⟨0,_,_,rfl,zj _,by omega,b3.out⟩
 obtain⟨j,cv,cb,rfl,hj,hg,f⟩:=hrel;clear z1 zl;by_cases b4:j<n
 ·have Q:j<t.cols.length:=(by rw[N.1];exact b4);have R:=(HR.out.later f.below).1;rw[N.1]at R;obtain⟨bc,oc,rfl,b5,c0,c1,c2,c3⟩:=fj.col R Q;obtain⟨pv,kv,rfl,_,_⟩:=f.row.isslice;have S:=N.2.2.2.2.1 _ (z8 Q);have b6:j<=1000:=(by have:=N.2.2.2.2.2.1;omega);obtain⟨d,hd⟩:=ae (t.cols[j]);rw[hd]at c0 c1 c2 c3 S;obtain⟨x,i,mu,tg⟩:=d;simp only at c0 c1 c2 c3 S;have G:=aD wr (.cells #[.string x,.int .i64 i,.bool mu,.string tg] 107);have s:=z7 wr (.cells #[.string x,.int .i64 i,.bool mu,.string tg] 107);have H:=f.later G;obtain⟨C0,U⟩:=ae wr.heap.size;obtain⟨Y,V⟩:=ae (wr.alloc (.cells #[.string x,.int .i64 i,.bool mu,.string tg] 107));rw[V]at G s H;rw[U]at s;have I:=aa (ab hd (ab s (ab H (ab V (ab U G)))));have H5:=aa f;have b8:(j:Int)<(n:Int):=(by omega);have b9:=aB H.box;have c4:=aB s;clear R b5 hd G s H V U f;go_upto_region 5 with fail;rw[I.2.2.2.1,I.2.2.2.2.1]
  have a4:Calls prog 81 #[.int .i64 i] Y.drew fun e w'=>∃c,e=.returned (.pointer (some ⟨c,0,none⟩))/\Y.heap.size<=c/\Col c i [] (.slice none 0 0) w'/\Below Y.heap.size Y w':=
   (DR i S Y.drew).mono (fun e c5⟨y,h2,h3⟩=>⟨_,y,zo _,h2,(aG Y).trans h3⟩)
  have X:=enters_of func81 (by kernel_rfl) rfl;have k4:=aA I.2.2.1.box 4;have k1:=aA I.2.1 1
  go_region_law (first|(refine bM X [.int .i64 i] (by simp[Act.eval]) ?_;(with_reducible refine Calls.mono a4 ?_);rintro e y2⟨c7,rfl,b7,M,J⟩;have L:=I.2.2.1.later J;have r4:=aA L.box 4;have r1:=aA (aE J I.2.1) 1;have rt:=aB L.box;have rc:=aB (aE J I.2.1);have u:Col c7 t.cols[j].kd [] (.slice none 0 0) y2:=(by rw[I.1];exact M);obtain⟨g,c6,w6,a5,y1,c8,⟨y3,y4⟩,a6⟩:=L.add Q b6 u (by omega) (fun k v e=>(by have:=(H5.out.col k v (by omega)).lt;have:=I.2.2.2.2.2.size;omega));have H6:=aa a6;clear a6 M u b7 L J a4;refine⟨_,rfl,?_⟩)|refine bE rfl (.tmp 21) (.tmp 25) 102 rfl rfl rfl a5 ?_)
  all_goals
   go_wp2_with fail;go_roundg (n-j)
   case measure=>omega
   case rel=>exact⟨j+1,_,_,by go_num,by omega,by omega,H6.out⟩
 obtain rfl:j=n:=(by omega);have hT:∃lab,Tb wr T0 t 0 [] lab/\∀b,lab b≠0->W.heap.size<=b:=qc.tb (by rw[N.1];exact f);have HF:=aa (ab hT f.below);clear hT f;go_wp2_with fail;go_ret;obtain⟨⟨lab,y,h2⟩,h3⟩:=HF.out;exact⟨T0,lab,rfl,y,h2,h3⟩
end
