import Derived.Test.YtkchgbjoeggdbaaGreatZn40
import Derived.Test.YtkchgbjoeggdbaaGreatZn48
set_option maxHeartbeats 8000000
set_option maxRecDepth 100000
namespace Go.Proofs.YtkchgbjoeggdbaaGreat
open Go.Proofs.Tryz
open Go Go.RowKit Go.Proofs Co Co.S
theorem uC{K:Nat->Prop}{W0 w0:World}{d:Nat}{ts:List T}{ps:List Nat}{L1:List PT}{tv:Value}{ops:List jt}{m:Nat}(h:PX (DA d ts ps) K W0 w0 L1)(ho:kw K W0 tv ops)(hfew:bs ts)(hsz:Short ts)(hcs:∀t∈ts,0<t.cols.length/\t.cols.length<=1000)(N:∀x∈L1,ie m x)(hm:m+ops.length<=590)(hops:∀o∈ops,nh o):Calls prog 129 #[.pointer (some ⟨d,0,none⟩),tv] w0 fun e w'=>∃l G,e=.returned (.tuple #[l,dr (ap ts L1 ops).err (ap ts L1 ops).place (ap ts L1 ops).tbl 0 e0])/\(∀q,K q->G q)/\Ro w' w0.heap.size l (ap ts L1 ops).ids/\(∀q,l.ownBlock=some q->G q)/\PX (DA d ts ps) G w' w' (ap ts L1 ops).rows/\PX (DA d ts ps) K W0 w' (ap ts L1 ops).rows:=by
 obtain⟨p,d8,rfl⟩:=ho.sl;have W:=(fun{j:Nat} (hj:j<ops.length)=>ho.rd j hj);obtain⟨n,hn⟩:=ae ops.length;have b1:Hid (∀j (hj:j<ops.length),_):=aa (fun j hj=>W hj);have P:=aD w0 (.cells zF 173);have k1:=z7 w0 (.cells zF 173);obtain⟨w1,a4⟩:=ae (w0.alloc (.cells zF 173));obtain⟨R,O⟩:=ae w0.heap.size;have d9:w1.heap.size=R+1:=by rw[<-a4,<-O,zm]
 have c5:W0.heap.size<=R:=by
  rw[<-O];exact h.szle
 rw[a4]at P k1;have u:=h.with P;have b:t' (DA d ts ps) K W0 R [] (.slice none 0 0) (fun q=>K q∨(w0.heap.size<=q/\q<w1.heap.size)) w1:=⟨fun q A=>.inl A,.inr ⟨by omega,by omega⟩,by rw[<-O];exact k1,ac.nil,fun q A=>(by cases A),fun w2 X h2=>(h.later P).back h2 (fun q A=>.inl A),c5⟩;obtain⟨K1,c6⟩:∃K1:Nat->Prop,(fun q=>K q∨(w0.heap.size<=q/\q<w1.heap.size))=K1:=⟨_,rfl⟩;rw[c6]at u b;rw[O]at k1;have U:=aa (ab hfew (ab hsz (ab hcs (ab hm (ab hops hn)))));have Y:=aa (ab b (ab u (ab N (ab k1 (ab a4 O)))));obtain⟨b2,Z⟩:=ae (ap ts L1 ops);rw[Z,hn];have a9:=aa Z
 have a5:Hid (∀(w2 H:World) (ids:List Int) (l:Value) (G:Nat->Prop) (wx:World) (X:List PT) (v0 v1 v2 v3 v4:Value),t' (DA d ts ps) K W0 R ids l G wx->PX (DA d ts ps) G wx w2 X->((((w2.setCell ⟨R,0,none⟩ v0).setCell ⟨R,1,none⟩ v1).setCell ⟨R,2,none⟩ v2).setCell ⟨R,3,none⟩ v3).setCell ⟨R,4,none⟩ v4=H ->
   (H.cell? ⟨R,0,none⟩=some v0/\H.cell? ⟨R,1,none⟩=some v1/\H.cell? ⟨R,2,none⟩=some v2/\H.cell? ⟨R,3,none⟩=some v3/\H.cell? ⟨R,4,none⟩=some v4)/\∃c,(∀q,K q->c q)/\Ro H w0.heap.size l ids/\(∀q,l.ownBlock=some q->c q)/\PX (DA d ts ps) c H H X/\PX (DA d ts ps) K W0 H X):=aa (by
  rintro w2 H ids l G wx X v0 v1 v2 v3 v4 I hP rfl;have hr:=(hP.still I.kr).trans I.r;have h5:=nX hr v0 v1 v2 v3 v4;refine⟨⟨aA h5 0,aA h5 1,aA h5 2,aA h5 3,aA h5 4⟩,?_⟩;obtain⟨c,q1,q2,q3,q4,q5⟩:=I.fin hP (bG w2 R v0 v1 v2 v3 v4);exact⟨c,q1,q2.mono (by omega),q3,q4,q5⟩)
 have z:Hid (∀(w2:World) (ids:List Int) (l:Value) (G:Nat->Prop) (wx:World) (X:List PT),t' (DA d ts ps) K W0 R ids l G wx->PX (DA d ts ps) G wx w2 X->w2.heap[R]?=some (.cells zF 173)):=aa (fun w2 ids l G wx X I hP=>(hP.still I.kr).trans I.r);clear h ho hfew hsz hcs N hm hops hn W P k1 a4 d9 O c5 u b c6 Z;have e6:(n:Int)<=590:=(by have N:=U.2.2.2.1;have h2:=U.2.2.2.2.2;omega);go_enter func129,ntmps129;go_upto_region 1 with fail;rw[Y.2.2.2.2.1,Y.2.2.2.2.2];by_cases B:n=0∨40<n
 ·obtain rfl:(⟨L1,[],5,0,e0⟩:Out)=b2:=by
   have N:=a9.out;unfold ap at N;rw[zw (by rw[U.2.2.2.2.2];exact B)]at N;exact N
  have f:=z.out _ _ _ _ _ _ Y.1 Y.2.1;have x0:=aA f 0;have x1:=aA f 1;have x2:=aA f 2;have x3:=aA f 3;have x4:=aA f 4;have xf:=(fun i=>zq w1 R i _ _ f);have xl:=aB f;clear f;rcases B with rfl|B
  ·go_wp2_with fail;generalize J:((((World.setCell _ _ _).setCell _ _).setCell _ _).setCell _ _).setCell _ _=H;obtain⟨⟨y0,y1,y2,y3,y4⟩,c,q1,q2,q3,q4,q5⟩:=a5.out _ _ _ _ _ _ _ _ _ _ _ _ Y.1 Y.2.1 J;refine y8 (v:=.tuple #[.slice none 0 0,dr 5 0 e0 0 e0]) (by simp[results,results129,go_sem,y0,y1,y2,y3,y4]) rfl ?_;exact⟨_,rfl,c,q1,q2,q3,q4,q5⟩
  have e1:((n:Int)==0)=false:=beq_eq_false_iff_ne.2 (by omega);have P:(n:Int)>40:=(by omega);go_wp2_with fail;generalize J:((((World.setCell _ _ _).setCell _ _).setCell _ _).setCell _ _).setCell _ _=H;obtain⟨⟨y0,y1,y2,y3,y4⟩,c,q1,q2,q3,q4,q5⟩:=a5.out _ _ _ _ _ _ _ _ _ _ _ _ Y.1 Y.2.1 J;refine y8 (v:=.tuple #[.slice none 0 0,dr 5 0 e0 0 e0]) (by simp[results,results129,go_sem,y0,y1,y2,y3,y4]) rfl ?_;exact⟨_,rfl,c,q1,q2,q3,q4,q5⟩
 have e1:((n:Int)==0)=false:=beq_eq_false_iff_ne.2 (by omega);have P:¬ (n:Int)>40:=by omega
 have a:nk ts L1 0 [] (ops.drop 0)=b2:=by
  have N:=a9.out;unfold ap at N;rw[zu (by rw[U.2.2.2.2.2];exact B)]at N;exact N
 have c7:=aa a;clear a B;go_wp2_with fail;go_loopg [6,22] (n+1) (fun gh iv jv w=>∃(j:Nat) (L:List PT) (ids:List Int) (G:Nat->Prop) (wx:World),jv=.int .i64 (j:Int)/\j<=n/\n+1<=j+gh/\nk ts L j ids (ops.drop j)=b2/\(∀x∈L,ie (m+j) x)/\ids.length<=j/\t' (DA d ts ps) K W0 R ids iv G wx/\PX (DA d ts ps) G wx w L)
 case atStart=>exact⟨0,L1,[],K1,w1,rfl,zj _,by omega,c7.out,Y.2.2.1,zo _,Y.1,Y.2.1⟩
 obtain⟨j,L,ids,G,wx,rfl,hj,hg,a,a6,b0,I,Q⟩:=hrel;by_cases e2:j<n
 ·have e7:(j:Int)<(n:Int):=(by omega);have a7:j<ops.length:=(by rw[U.2.2.2.2.2];exact e2);obtain⟨g,o5,c8,vv,c9,d0⟩:=b1.out j a7;obtain⟨rfl,rfl⟩:p=some ⟨g,o5,none⟩/\d8=c8:=(by cases c9;exact⟨rfl,rfl⟩);obtain⟨⟨c0,c1,c2,c3,c4,gl⟩,hv⟩:=d0 wr (fun q A=>(I.back _ _ Q).still A);obtain⟨pv,cv,rfl,_,_⟩:=hv.slice;have b3:=U.2.2.2.2.1 _ (z8 a7);have d1:m+j<=590:=(by have N:=U.2.2.2.1;have h2:=U.2.2.2.2.2;omega);have E:=EM (ts:=ts) (L:=L) (ids:=ids) (k:=j) a7;have a0:=Gi (ts:=ts) (L:=L) (ids:=ids) (k:=j) a7;rw[a]at E a0;obtain⟨o,ho⟩:=ae (ops[j]);simp only[ho]at c0 c1 c2 c3 c4 hv b3 E a0;have a1:=aD wr (.cells #[.int .i64 o.dO,.string o.tbl,.int .i64 o.id,.string o.col,.slice pv o.vals.length cv] 73);have s:=z7 wr (.cells #[.int .i64 o.dO,.string o.tbl,.int .i64 o.id,.string o.col,.slice pv o.vals.length cv] 73);obtain⟨b,u⟩:=I.next Q a1;have M:=GQ u U.1 U.2.1 U.2.2.1 a6 d1 b3 ((hv.later a1).mono (fun q _ A=>.inl (I.kk q A))) (fun q A=>A);have a2:=wM (ts:=ts) (o:=o) a6;obtain⟨k,hk⟩:=ae o.vals.length;rw[hk]at c4 a1 s b u M;obtain⟨V,hV⟩:=ae wr.heap.size;have b4:=zm wr (.cells #[.int .i64 o.dO,.string o.tbl,.int .i64 o.id,.string o.col,.slice pv k cv] 73);obtain⟨w3,b5⟩:=ae (wr.alloc (.cells #[.int .i64 o.dO,.string o.tbl,.int .i64 o.id,.string o.col,.slice pv k cv] 73));rw[b5]at a1 s b u M b4;rw[hV]at s b u M b4;obtain⟨K3,b6⟩:∃K':Nat->Prop,(fun q=>G q∨(V<=q/\q<w3.heap.size))=K':=⟨_,rfl⟩;have d2:K3 V:=(by rw[<-b6];exact .inr ⟨zo _,by omega⟩);rw[b6]at b u M;obtain⟨r1,b7⟩:=ae ((ru ts L o).1);obtain⟨r2,a8⟩:=ae ((ru ts L o).2);obtain⟨L',a3⟩:=ae (t7 ts L o);rw[b7,a8,a3]at M;rw[b7,a8,a3]at E;rw[a8,a3]at a0;rw[a3]at a2;have y0:=aA s 0;have y1:=aA s 1;have y2:=aA s 2;have y3:=aA s 3;have y4:=aA s 4;have yl:=aB s;have d3:=aa (ab b5 hV);have F:=aa (ab b (ab E (ab a0 (ab d2 (ab s (ab a2 (ab b0 ho)))))));clear d0 c9 hv b3 E a0 a1 s I b u Q a a6 a2 b0 d1 b4 b5 hV b6 d2 hk b7 a8 a3 ho;go_upto_region 7 with fail;rw[d3.1,d3.2];clear c0 c1 c2 c3 c4 gl;go_upto_region 8 with (go_at_call 160;(with_reducible refine M.mono ?_);rintro e w4⟨rfl,b8⟩;have y:=aa (ab b8 ((b8.still F.2.2.2.1).trans F.2.2.2.2.1));clear M b8);clear y0 y1 y2 y3 y4 yl;have z0:=aA y.2 0;have z1:=aA y.2 1;have zl:=aB y.2;by_cases he:r2=0
  ·subst he;go_upto_region 10 with fail;have a:=F.2.1 rfl;by_cases hd:o.dO=1
   ·rw[zw hd]at a;rw[hd]at z0;have HD:=aa (ab hd a);clear hd a;obtain⟨b,_⟩:=F.out;obtain⟨g',e5,w5,b9,d4,d5,d6⟩:=kW 40 underlying40 w4 (R+1) (n:=ids.length) rfl (b.row.of (w':=w4) (fun q A=>y.1.still (b.kb q A))) (by have:=F.2.2.2.2.2.2.1;omega) (by have N:=(z.out _ _ _ _ _ _ b y.1);have:=aB N;omega) r1;obtain⟨e3,d7,S⟩:=b.app y.1 d4 d5 (fun q A=>by cases A;exact d6);have H5:=aa (ab d7 S);clear d4 d5 d6 d7 S b;go_wp2_with (at_builtin;refine aT rfl (.tmp 43) (.tmp 45) 40 rfl rfl rfl b9 ?_);go_roundg (n-j)
    case measure=>omega
    exact⟨j+1,L',ids++[r1],e3,w5,by go_num,by omega,by omega,HD.2.symm,F.2.2.2.2.2.1,by rw[y6];have:=F.2.2.2.2.2.2.1;show ids.length+1<=j+1;omega,H5.1,H5.2⟩
   rw[zu hd]at a;have hb:(o.dO==1)=false:=beq_eq_false_iff_ne.2 hd;have HD:=aa a;clear hd a;go_wp2_with fail;go_roundg (n-j)
   case measure=>omega
   exact⟨j+1,L',ids,K3,w3,by go_num,by omega,by omega,HD.out.symm,F.2.2.2.2.2.1,by have:=F.2.2.2.2.2.2.1;omega,F.1,y.1⟩
  have hb:(r2 != 0)=true:=(by simp[he]);obtain rfl:=F.2.2.1 he;clear he;go_upto_region 9 with fail;clear z0;refine Par.ag 6 [.int .i64 r2,.int .i64 (j:Int),.pointer (some ⟨V,1,none⟩),.string o.tbl,dr r2 (j:Int) o.tbl 0 e0,.slice none 0 0] (fun w=>Below w4.heap.size w4 w) ?A1 ?hm1 ?hB1 ?hA1 (aG w4) ?hop1 ?hT1
  case hm1=>kernel_rfl
  case hB1=>kernel_rfl
  case hA1 =>
   simp only[Par.am,Par.ai,Act.put,eh,ez,dz,eo,ew,ey,ed,ic,gy];rfl
  case hop1 =>
   simp only[en,zh,Par.ah,yo];and_intros<;>intro w' O<;>have HR:=aa O
   rotate_left 2;have zl:=aB (aE O y.2);rotate_left;have z1:=aA (aE O y.2) 1;rotate_left 3
   all_goals(clear O;simp only[Par.Gives];go_simp;all_goals exact HR.out)
  intro w' O;simp only[ex,ye];have S:=y.1.later O;have f:=z.out _ _ _ _ _ _ F.1 S;have x0:=aA f 0;have x1:=aA f 1;have x2:=aA f 2;have x3:=aA f 3;have x4:=aA f 4;have xf:=(fun i=>zq w' R i _ _ f);have xl:=aB f;have e4:=aa S;clear O S f z1 zl;go_wp2_with fail;generalize J:((((World.setCell _ _ _).setCell _ _).setCell _ _).setCell _ _).setCell _ _=H;obtain⟨⟨y0,y1,y2,y3,y4⟩,c,q1,q2,q3,q4,q5⟩:=a5.out _ _ [] (.slice none 0 0) _ _ _ _ _ _ _ _ ⟨F.1.kk,F.1.kr,F.1.r,ac.nil,fun q A=>(by cases A),F.1.back,F.1.lo⟩ e4.out J;refine y8 (v:=.tuple #[.slice none 0 0,dr r2 (j:Int) o.tbl 0 e0]) (by simp[results,results129,go_sem,y0,y1,y2,y3,y4]) rfl ?_;exact⟨_,rfl,c,q1,q2,q3,q4,q5⟩
 obtain rfl:j=n:=(by omega);rw[DL (by rw[U.2.2.2.2.2];exact zo _)]at a;subst a;have f:=z.out _ _ _ _ _ _ I Q;have x0:=aA f 0;have x1:=aA f 1;have x2:=aA f 2;have x3:=aA f 3;have x4:=aA f 4;have xf:=(fun i=>zq wr R i _ _ f);have xl:=aB f;obtain⟨pi,ci,rfl,_,_⟩:=ac.isslice I.row;have HA:=aa (ab I Q);clear I Q f a6;go_wp2_with fail;generalize J:((((World.setCell _ _ _).setCell _ _).setCell _ _).setCell _ _).setCell _ _=H;obtain⟨⟨y0,y1,y2,y3,y4⟩,c,q1,q2,q3,q4,q5⟩:=a5.out _ _ _ _ _ _ _ _ _ _ _ _ HA.1 HA.2 J;refine y8 (v:=.tuple #[.slice pi ids.length ci,dr 0 0 e0 0 e0]) (by simp[results,results129,go_sem,y0,y1,y2,y3,y4]) rfl ?_;exact⟨_,rfl,c,q1,q2,q3,q4,q5⟩
theorem Ez{K:Nat->Prop}{W0 w0:World}{d b:Nat}{ts:List T}{ps:List Nat}{L1 L2:List PT}{tv:Value}{ops:List jt}{m:Nat}(h:PD K W0 w0 d b ts ps L1 L2)(ho:kw K W0 tv ops)(hfew:bs ts)(hsz:Short ts)(hcs:∀t∈ts,0<t.cols.length/\t.cols.length<=1000)(h1:∀x∈L1,ie m x)(hm:m+ops.length<=590)(hops:∀o∈ops,nh o):Calls prog 129 #[.pointer (some ⟨d,0,none⟩),tv] w0 fun e w'=>∃c n,e=.returned (.tuple #[c,dr (ap ts L1 ops).err (ap ts L1 ops).place (ap ts L1 ops).tbl 0 e0])/\(∀q,K q->n q)/\Ro w' 0 c (ap ts L1 ops).ids/\(∀q,c.ownBlock=some q->n q)/\PD n w' w' d b ts ps (ap ts L1 ops).rows L2/\PD K W0 w' d b ts ps (ap ts L1 ops).rows L2:=by
 obtain⟨r,A,⟨p,s,i,F,u,B,g,v⟩,rfl,rfl,rfl⟩:=h;have j:∀q,K q->q<w0.heap.size/\p q=0:=(fun q a=>⟨z9 (g q a).1 v.size,(g q a).2.1⟩);have w:PX (DA d ts (r.map (·.1))) (fun q=>q<w0.heap.size/\p q=0) w0 w0 (r.map (·.2)):=⟨Ck,p,⟨r,F,rfl,rfl⟩,fun q a=>a,Tn.refl _ _⟩;refine(uC w (ho.move j (fun q a=>v.chg.block q (g q a).1 (fun f=>f a))) hfew hsz hcs h1 hm hops).mono ?_;rintro e w'⟨c,n,rfl,b1,b2,G,⟨_,y,⟨k,c1,c2,c3⟩,c4,_⟩,⟨_,_,_,_,H⟩⟩;have hT:Tn (fun q=>p q≠0) w0 w':=H.mono (fun q z a f=>a ⟨z,f⟩);have E:=u.tn hT (fun q a=>B q a);have l:∀q,y q≠0->s q=0:=(fun q a=>Classical.byContradiction fun f=>a (c4 q (b1 q ⟨u.lt q f,Classical.byContradiction fun I=>f (B q I)⟩)).2);refine⟨c,fun q=>K q∨c.ownBlock=some q,rfl,fun q a=>.inl a,b2.mono (zj _),fun q a=>.inr a,⟨k,A,⟨y,s,i,c1,E,l,fun q a=>?_,Tn.refl _ _⟩,c2,c3,rfl⟩,⟨k,A,⟨y,s,i,c1,E,l,fun q a=>⟨(g q a).1,(c4 q (b1 q (j q a))).2,(g q a).2.2⟩,v.trans hT (fun _ _ h=>h) (fun q _ a J=>a (j q J).2)⟩,c2,c3,rfl⟩⟩;rcases a with a|a
 ·exact⟨(c4 q (b1 q (j q a))).1,(c4 q (b1 q (j q a))).2,(g q a).2.2⟩
 have z:=ac.lt b2 q a;exact⟨z.2,(c4 q (G q a)).2,Classical.byContradiction fun f=>by have:=u.lt q f;omega⟩
section
variable{W:World}{d b m:Nat}{L:List PT}
end
theorem ac.lit{w:World}{g n size base:Nat}{e:TypeId}{cs:Array Value}{xs:List Value}(h:w.heap[g]?=some (.cells cs e))(hcs:cs.toList=xs)(hl:xs.length=n*size)(hb:base<=g)(hn:n<=maxLen):ac w base e size (.slice (some ⟨g,0,none⟩) n n) n xs:=by
 have a:cs.size=n*size:=(by rw[<-hl,<-hcs,Array.length_toList]);exact⟨hl,.inr ⟨g,n,cs,rfl,hb,h,zo _,hn,xn a.symm,by rw[hcs,<-hl,List.take_length]⟩⟩
theorem nP{w:World}{base g:Nat}{v1 v2:Value}{o1 o2:jt}{cs:Array Value}(hg:w.heap[g]?=some (.cells cs 73))(hcs:cs.toList=opC o1 v1++opC o2 v2)(hb:base<=g)(h1:ac w base 32 3 v1 o1.vals.length (cells3 o1.vals))(h2:ac w base 32 3 v2 o2.vals.length (cells3 o2.vals)):qv w base (.slice (some ⟨g,0,none⟩) 2 2) [o1,o2]:=by
 refine⟨[v1,v2],rfl,ac.lit hg (by rw[hcs];simp[mx]) rfl hb (by unfold maxLen;omega),fun j a=>?_⟩;have a:j<2:=a;rcases(show j=0∨j=1 by omega)with rfl|rfl
 ·exact⟨v1,rfl,h1⟩
 exact⟨v2,rfl,h2⟩
abbrev sA:ByteArray:=⟨#[97]⟩
abbrev sB:ByteArray:=⟨#[98]⟩
theorem eS{k:Int}{tb col:ByteArray}{v:List T3}(h1:tb.size<=100)(h2:col.size<=100)(h3:∀x∈v,x.2.2.size<=100)(h4:v.length<=10):nh ⟨k,tb,0,col,v⟩:=
 ⟨by unfold lg;exact⟨by show(-9223372036854775808:Int)<=0;decide,by show(0:Int)<=9223372036854775807;decide⟩,zx h1 (by unfold maxLen;omega),zx h2 (by unfold maxLen;omega),fun x a=>zx (h3 x a) (by unfold maxLen;omega),zx h4 (by omega)⟩
theorem kL(W:World):Calls prog 166 #[] W fun e w'=>e=.returned (.bool true)/\Below W.heap.size W w':=by
 have h:=tQ W;go_enter func166,ntmps166;go_wp2_with (go_at_call 195;refine h.mono ?_;rintro e w'⟨rfl,a⟩);go_ret;exact⟨rfl,a⟩
section
variable{K:Nat->Prop}{W0 w:World}{d b m:Nat}{ts:List T}{ps:List Nat}{L1 L2:List PT}
theorem PD.check(h:PD K W0 w d b ts ps L1 L2)(hok:sa ts)(hm:∀x∈L1,ie m x)(hm3:m<=1000):Calls prog 130 #[.pointer (some ⟨d,0,none⟩)] w fun e w'=>e=.returned (dr (bk ts (L1.map (·.2))).1 0 (bk ts (L1.map (·.2))).2.1 (bk ts (L1.map (·.2))).2.2.1 (bk ts (L1.map (·.2))).2.2.2)/\Below w.heap.size w w':=by
 obtain⟨a,O,c,_,rfl⟩:=h.dd;have e:(a.map (·.2)).map (·.2)=rowsOf a:=(by rw[List.map_map];rfl);rw[e];refine pG c hok (fun s f=>?_)
 have:=hm _ (List.mem_map.2 ⟨s,f,rfl⟩)
 unfold ie at this;omega
theorem PD.ncheck(h:PD K W0 w d b ts ps L1 L2)(hok:sa ts)(hneg:∀t∈ts,fx t.cols e0<0)(h0t:0<ts.length)(hm:∀x∈L2,ie m x)(hm3:m<=1000):Calls prog 170 #[.pointer (some ⟨b,0,none⟩)] w fun e w'=>e=.returned (dr (bk ts (L2.map (·.2))).1 0 (bk ts (L2.map (·.2))).2.1 (bk ts (L2.map (·.2))).2.2.1 (bk ts (L2.map (·.2))).2.2.2)/\Below w.heap.size w w':=by
 obtain⟨a,i,O,c,rfl⟩:=h.dbn;have e:(a.map ky).map (·.2)=ly a:=(by rw[List.map_map];rfl);rw[e];refine wY c hok hneg h0t (fun y f=>?_)
 have:=hm _ (List.mem_map.2 ⟨y,f,rfl⟩)
 unfold ie at this;have g:(ky y).2=y.A:=rfl;rw[g]at this;omega
end
def Ad(t:T)(x:ByteArray):Bool:=decide (0<=fx t.cols x)
theorem qW{t:T}{x:ByteArray}(h:Ad t x=true):re t x:=by
 have h:=wf h;rcases jK t.cols x with e|⟨j,a,e⟩
 ·omega
 exact⟨j,e,a⟩
def xb(t:T):Bool:=(decide (t.key=e0) || Ad t t.key)&&t.deps.all (fun d=>d.left.all (Ad t)&&Ad t d.right&&decide (d.left.length<=1000))&&decide (t.cols.length<=1000)&&decide (t.deps.length<=1000)
theorem CT{t:T}(h:xb t=true):qj t:=by
 unfold xb at h;simp only[zy,wh,xz,xi]at h;obtain⟨⟨⟨c,a⟩,e⟩,f⟩:=h;exact⟨c.imp id qW,fun d b=>⟨fun x g=>qW ((a d b).1.1 x g),qW (a d b).1.2,(a d b).2⟩,e,f⟩
theorem Eg:((pre 4).all xb)=true:=by kernel_rfl
theorem DV:((pre 4).all fun t=>(List.range t.cols.length).all fun c=>decide (fx t.cols (mq t c).nm=(c:Int)))=true:=by kernel_rfl
theorem Gu:((List.range 4).all fun j=>decide (jz (pre 4) ((pre 4).getD j ⟨e0,[],e0,[]⟩).nm=(j:Int)))=true:=by kernel_rfl
theorem Df:((pre 4).all fun t=>decide (fx t.cols e0<0))=true:=by kernel_rfl
theorem F6:∀t∈pre 4,fx t.cols e0<0:=fun t a=>wf (List.all_eq_true.1 Df t a)
theorem eT:sa (pre 4) where
 inv:=cO 4 (by decide)
 few:=bN 4
 sh:=aM
 n:=by decide
 form:=fun t a=>CT (List.all_eq_true.1 Eg t a)
 pos:=fun t a=>(gV t a).1
 ix:=fun t a c d=>by
  have:=List.all_eq_true.1 (List.all_eq_true.1 DV t a) c (List.mem_range.2 d)
  rw[nO d]at this;exact wf this
 un:=fun j e=>by
  have b:j<4:=e
  have:=wf (List.all_eq_true.1 Gu j (List.mem_range.2 b))
  rw[zv,z6 e,Option.getD_some]at this;rcases bW (pre 4) (pre 4)[j].nm with ⟨f,_,_⟩ | ⟨k,h,f,_,g⟩
  ·omega
  ·obtain rfl:k=j:=(by omega);exact g
def mg(w:World)(d:Nat)(L:List PT):Prop:=∃st O,Dd w d (pre 4) st O/\st.map (·.2)=L
def FA(w:World)(b:Nat)(L:List PT):Prop:=∃tt i O,im w b (pre 4) tt i O/\tt.map ky=L
section
variable{W w w' W0:World}{d b m:Nat}{ps:List Nat}{L:List PT}{K:Nat->Prop}{D:World->List PT->(Nat->Nat)->Prop}
theorem mg.later(h:mg W d L)(hb:Below W.heap.size W w):mg w d L:=by
 obtain⟨a,O,b,c⟩:=h;exact⟨a,O,b.later hb,c⟩
theorem PX.ut(h:PX (DA d (pre 4) ps) K W0 w L):mg w d L:=by
 obtain⟨_,O,⟨a,b,_,c⟩,_⟩:=h;exact⟨a,O,b,c⟩
theorem PX.BV{S:Nat->Prop}(h:PX (DA d (pre 4) ps) K W0 w L)(hT:Tn S w w')(hS:∀q,S q->K q):mg w' d L:=by
 obtain⟨_,O,⟨a,b,_,c⟩,e,_⟩:=h;exact⟨a,O,b.tn hT (fun q f=>(e q (hS q f)).2),c⟩
theorem Hp{G:Nat}{cs:Array Value}(k:w.heap[G]?=some (.cells cs 173))(hg:w.grownBy w' (some G)):Tn (fun q=>q=G) w w':=Tn.bt ⟨hg.os,hg.tape,hg.output,hg.size,fun q a b=>hg.block q a (fun e=>b (by cases e;rfl))⟩ (fun q _ a=>by
  rw[a];exact .inl ⟨_,173,k,rfl⟩)
theorem PX.put(h:PX D K W0 w L){G:Nat}{cs:Array Value}(hK:K G)(k:w.heap[G]?=some (.cells cs 173))(hg:w.grownBy w' (some G)):PX D (fun q=>K q/\q≠G) W0 w' L:=by
 have hT:=Hp k hg;obtain⟨c,O,e,d,f⟩:=h;exact⟨c,O,c.tn e hT (fun q a=>by rw[a];exact(d G hK).2),fun q a=>d q a.1,f.trans hT (fun q _ a b=>a b.1) (fun q _ a b=>b.2 a)⟩
theorem mg.copy(h:mg W d L)(hs:∀x∈L,ie m x)(hm:m<=590):Calls prog 128 #[.pointer (some ⟨d,0,none⟩)] W fun e w'=>∃d2,e=.returned (.pointer (some ⟨d2,0,none⟩))/\(∃ps,PX (DA d2 (pre 4) ps) (fun q=>q<W.heap.size) w' w' L)/\Below W.heap.size W w':=by
 obtain⟨u,O,i,f⟩:=h;refine(oX i (bN 4) aM yM (fun t j=>(gV t j).1) (fun s a=>?_) (by decide)).mono ?_
 ·have k:s.2∈L:=by rw[<-f];exact ud a
  have:=(hs _ k).1
  omega
 rintro e w'⟨d2,b,l,rfl,n,o,p,g⟩;exact⟨d2,rfl,⟨_,Ck,l,⟨b,n,rfl,o.trans f⟩,fun q c=>⟨z9 c g.size,Classical.byContradiction fun r=>by have:=p q r;have c:q<W.heap.size:=c;omega⟩,Tn.refl _ _⟩,g⟩
abbrev G9(c:Int×ByteArray×Int×ByteArray)(n:Int):Value:=dr c.1 n c.2.1 c.2.2.1 c.2.2.2
theorem mg.check(h:mg w d L)(hm:∀x∈L,ie m x)(hm3:m<=1000):Calls prog 130 #[.pointer (some ⟨d,0,none⟩)] w fun e w'=>e=.returned (G9 (bk (pre 4) (L.map (·.2))) 0)/\Below w.heap.size w w':=by
 obtain⟨a,O,b,rfl⟩:=h;have e:(a.map (·.2)).map (·.2)=rowsOf a:=(by rw[List.map_map];rfl);rw[e];refine pG b eT (fun s c=>?_)
 have:=hm _ (List.mem_map.2 ⟨s,c,rfl⟩)
 unfold ie at this;omega
end
def ku(L:List PT)(ops:List jt):Int×Int×ByteArray×Int×ByteArray:=
 if (ap (pre 4) L ops).err=0 then
  if (bk (pre 4) ((ap (pre 4) L ops).rows.map (·.2))).1=0 then(0,0,e0,0,e0)else((bk (pre 4) ((ap (pre 4) L ops).rows.map (·.2))).1,(ops.length:Int),(bk (pre 4) ((ap (pre 4) L ops).rows.map (·.2))).2)
 else((ap (pre 4) L ops).err,(ap (pre 4) L ops).place,(ap (pre 4) L ops).tbl,0,e0)
abbrev By(x:Int×Int×ByteArray×Int×ByteArray):Value:=dr x.1 x.2.1 x.2.2.1 x.2.2.2.1 x.2.2.2.2
def qi(Has:World->Nat->List PT->Prop)(L:List PT)(ops:List jt)(W:World)(e:Ending)(w':World):Prop:=
 Below W.heap.size W w'/\(((ku L ops).1=0/\∃d2 p n c,e=.returned (.tuple #[.pointer (some ⟨d2,0,none⟩),.slice p n c,dr 0 0 e0 0 e0])/\n=(ap (pre 4) L ops).ids.length/\(∀w2,Tn (fun q=>q<W.heap.size) w' w2->Has w2 d2 (ap (pre 4) L ops).rows)/\Ro w' W.heap.size (.slice p n c) (ap (pre 4) L ops).ids) ∨
  ((ku L ops).1≠0/\e=.returned (.tuple #[.pointer none,.slice none 0 0,By (ku L ops)])))
section
variable{Has:World->Nat->List PT->Prop}{L:List PT}{ops:List jt}{W w':World}
theorem Cr(hb:Below W.heap.size W w'){le:Int×Int×ByteArray×Int×ByteArray}(hle:ku L ops=le)(h:le.1≠0){v:Value}(hv:v=By le):qi Has L ops W (.returned (.tuple #[.pointer none,.slice none 0 0,v])) w':=by
 subst hle hv;exact⟨hb,.inr ⟨h,rfl⟩⟩
theorem Ig(hb:Below W.heap.size W w'){le:Int×Int×ByteArray×Int×ByteArray}(hle:ku L ops=le)(h:le.1=0){R:List PT}{I:List Int}{er pl:Int}{tb:ByteArray}(hout:ap (pre 4) L ops=⟨R,I,er,pl,tb⟩){d2 c:Nat}{p:Option Addr}(h1:∀a,Tn (fun q=>q<W.heap.size) w' a->Has a d2 R)(h2:Ro w' W.heap.size (.slice p I.length c) I):qi Has L ops W (.returned (.tuple #[.pointer (some ⟨d2,0,none⟩),.slice p I.length c,dr 0 0 e0 0 e0])) w':=by
 subst hle;refine⟨hb,.inl ⟨h,d2,p,_,c,rfl,?_⟩⟩;rw[hout];exact⟨rfl,h1,h2⟩
theorem IF{R:List PT}{I:List Int}{er pl:Int}{tb:ByteArray}(hout:ap (pre 4) L ops=⟨R,I,er,pl,tb⟩)(h:er≠0):ku L ops=(er,pl,tb,0,e0):=by
 unfold ku;rw[hout];exact zu h
theorem IG{R:List PT}{I:List Int}{pl:Int}{tb:ByteArray}(hout:ap (pre 4) L ops=⟨R,I,0,pl,tb⟩){c1 c3:Int}{c2 c4:ByteArray}(hc:bk (pre 4) (R.map (·.2))=(c1,c2,c3,c4)):ku L ops=if c1=0 then(0,0,e0,0,e0)else(c1,(ops.length:Int),c2,c3,c4):=by
 unfold ku;rw[hout];dsimp only;rw[hc,zw rfl]
end
theorem uD{W:World}{d m:Nat}{L:List PT}{tv:Value}{ops:List jt}(h:mg W d L)(ho:kw (fun q=>q<W.heap.size) W tv ops)(hs:∀x∈L,ie m x)(hm:m+ops.length<=590)(hops:∀o∈ops,nh o):Calls prog 103 #[.pointer (some ⟨d,0,none⟩),tv] W (qi mg L ops W):=by
 obtain⟨p,c0,rfl⟩:=ho.sl;obtain⟨n,hn⟩:=ae ops.length;have H:=aD W (.cells zF 173);have k1:=z7 W (.cells zF 173);obtain⟨w1,Q⟩:=ae (W.alloc (.cells zF 173));obtain⟨F,hF⟩:=ae W.heap.size;rw[Q]at H k1;rw[hF]at k1;have u:=(h.later H).copy hs (by omega);have J:=E0 (ts:=pre 4) (l:=ops) hs;obtain⟨⟨R,I,S,pl,tb⟩,y⟩:∃b3,ap (pre 4) L ops=b3:=⟨_,rfl⟩;obtain⟨⟨c1,c2,c3,c4⟩,a⟩:∃c,bk (pre 4) (R.map (·.2))=c:=⟨_,rfl⟩;rw[y]at J;dsimp only at J;have f:=aa (ab ho (ab hs (ab hm (ab hops (ab y (ab hn (ab J a)))))));have t:=aa (ab H (ab k1 (ab Q hF)));rw[hn];clear h ho hs hm hops y hn J a H k1 Q hF;go_enter func103,ntmps103;go_upto_region 1 with fail;rw[t.2.2.1,t.2.2.2];go_upto_region 2 with (go_at_call 128;(with_reducible refine u.mono ?_);rintro e w2⟨d2,rfl,⟨ps,a9⟩,b0⟩;have H2:=aa (ab a9 b0);clear u a9 b0);have O:=aC t.1 H2.2;have b1:=f.1.move (Kx:=fun q=>q<w1.heap.size) (wx:=w2) (fun q z=>z9 z t.1.size) (fun q z=>O.block q z);have b2:=f.2.2.1;have M:=uC H2.1 b1 (bN 4) aM gV f.2.1 b2 f.2.2.2.1;rw[f.2.2.2.2.1,f.2.2.2.2.2.1]at M;dsimp only at M;clear O b1 b2;go_upto_region 3 with (go_at_call 129;(with_reducible refine M.mono ?_);rintro e k⟨c5,Kx,rfl,a1,a2,a3,a4,a5⟩;obtain⟨pi,ci,rfl,_,_⟩:=ac.isslice a2;have N:=aa (ab a4 (ab (a5.bel H2.2 (fun q z=>z)) (ab a2 a1)));clear M a1 a2 a3 a4 a5);have b4:=aD k (.cells #[.int .i64 S,.int .i64 pl,.string tb,.int .i64 0,.string e0] 173);have k4:=z7 k (.cells #[.int .i64 S,.int .i64 pl,.string tb,.int .i64 0,.string e0] 173);obtain⟨w4,U⟩:=ae (k.alloc (.cells #[.int .i64 S,.int .i64 pl,.string tb,.int .i64 0,.string e0] 173));obtain⟨G,hG⟩:=ae k.heap.size;rw[U]at b4 k4;rw[hG]at k4
 try rw[U]
 try rw[hG]
 have r:=aa (ab b4 (ab k4 hG));have b5:F<w1.heap.size:=aB t.2.1
 have V:Hid (∀(w s:World) (v0 v1 v2 v3 v4:Value),Below k.heap.size k w->((((w.setCell ⟨F,0,none⟩ v0).setCell ⟨F,1,none⟩ v1).setCell ⟨F,2,none⟩ v2).setCell ⟨F,3,none⟩ v3).setCell ⟨F,4,none⟩ v4=s ->
   (s.cell? ⟨F,0,none⟩=some v0/\s.cell? ⟨F,1,none⟩=some v1/\s.cell? ⟨F,2,none⟩=some v2/\s.cell? ⟨F,3,none⟩=some v3/\s.cell? ⟨F,4,none⟩=some v4)/\Below W.heap.size W s/\(∀w2,Tn (fun q=>q<W.heap.size) s w2->mg w2 d2 R)/\Ro s W.heap.size (.slice pi I.length ci) I):=aa (by
  rintro w s v0 v1 v2 v3 v4 A rfl;have b8:=aC (aC t.1 N.2.1) A;have hr:=aE (aC N.2.1 A) t.2.1;have h5:=nX hr v0 v1 v2 v3 v4;have hg:=bG w F v0 v1 v2 v3 v4;have b9:=(N.1.with A).put (G:=F) (.inl (N.2.2.2 F b5)) hr hg;refine⟨⟨aA h5 0,aA h5 1,aA h5 2,aA h5 3,aA h5 4⟩,bR b8 (zo _) hg (xn t.2.2.2),fun w2 hT=>b9.BV hT (fun q z=>⟨.inl (N.2.2.2 q (z9 z t.1.size)),fun e=>by have h1:=t.2.2.2;have z:q<W.heap.size:=z;omega⟩),((N.2.2.1.later A).of (fun q z=>?_)).mono (zx t.1.size H2.2.size)⟩;have hl:=ac.lt N.2.2.1 q z;have c6:=H2.2.size;exact hg.block q (z9 hl.2 A.size) (fun e=>by cases e;omega))
 have X:Hid (∀w,Below k.heap.size k w->w.heap[F]?=some (.cells zF 173)):=aa (fun w A=>aE (aC N.2.1 A) t.2.1);clear b4 k4 U hG;have E:=aA r.2.1 0;have yl:=aB r.2.1;by_cases he:S=0
 ·subst he;go_upto_region 5 with fail;have Y:=((N.1.ut).later r.1).check (m:=m+n) (by rw[<-f.2.2.2.2.2.1];exact f.2.2.2.2.2.2.1) (by have:=f.2.2.1;rw[f.2.2.2.2.2.1]at this;omega);rw[f.2.2.2.2.2.2.2]at Y;clear E yl;have FG:Hid (∀w,Below w4.heap.size w4 w->w.heap[G]?=some (.cells #[.int .i64 0,.int .i64 pl,.string tb,.int .i64 0,.string e0] 173)):=aa (fun w A=>aE A r.2.1);go_upto_region 6 with (go_at_call 130;(with_reducible refine Y.mono ?_);rintro e w5⟨rfl,Z⟩;have H5:=aa Z;have kg:=FG.out w5 Z;have z0:=aA kg 0;have z1:=aA kg 1;have z2:=aA kg 2;have a0:=aA kg 3;have z4:=aA kg 4;have zf:=fun i=>zq w5 G i _ _ kg;have zl:=aB kg;clear Y Z kg);clear z0 z1 z2 a0 z4 zf zl;have k6:=nX (FG.out w5 H5.out) (.int .i64 c1) (.int .i64 0) (.string c2) (.int .i64 c3) (.string c4);have b6:Below k.heap.size k _:=bR (aC r.1 H5.out) (zo _) (bG w5 G (.int .i64 c1) (.int .i64 0) (.string c2) (.int .i64 c3) (.string c4)) (xn r.2.2);obtain⟨w6,a6⟩:=ae (((((w5.setCell ⟨G,0,none⟩ (.int .i64 c1)).setCell ⟨G,1,none⟩ (.int .i64 0)).setCell ⟨G,2,none⟩ (.string c2)).setCell ⟨G,3,none⟩ (.int .i64 c3)).setCell ⟨G,4,none⟩ (.string c4));rw[a6]at k6 b6;rw[a6];have H6:=aa (ab k6 b6);have E:=aA k6 0;have yl:=aB k6;clear k6 b6 a6;have g:=IG f.2.2.2.2.1 f.2.2.2.2.2.2.2;rw[f.2.2.2.2.2.1]at g;by_cases a:c1=0
  ·subst a;rw[zw rfl]at g;have HL:=aa g;have a:=X.out w6 H6.2;have x0:=aA a 0;have x1:=aA a 1;have x2:=aA a 2;have x3:=aA a 3;have x4:=aA a 4;have xf:=(fun i=>zq w6 F i _ _ a);have xl:=aB a;clear a g;go_wp2_with fail;generalize B:((((World.setCell _ _ _).setCell _ _).setCell _ _).setCell _ _).setCell _ _=s;obtain⟨⟨E,y1,y2,y3,y4⟩,q1,q2,q3⟩:=V.out _ _ _ _ _ _ _ H6.2 B;refine y8 (v:=.tuple #[.pointer (some ⟨d2,0,none⟩),.slice pi I.length ci,dr 0 0 e0 0 e0]) (by simp[results,results103,go_sem,E,y1,y2,y3,y4]) rfl ?_;exact Ig q1 HL.out rfl f.2.2.2.2.1 q2 q3
  rw[zu a]at g;have HL:=aa (ab g a);have A:(c1 != 0)=true:=(by simp[a]);clear a g;have yf:=(fun i=>zq w6 G i _ _ H6.1);have y1:=aA H6.1 1;go_upto_region 8 with fail;clear E y1 yl yf;have k7:=y7 w6 G 1 #[.int .i64 c1,.int .i64 0,.string c2,.int .i64 c3,.string c4] 173 (.int .i64 (n:Int)) H6.1;have k7:(w6.setCell ⟨G,1,none⟩ (.int .i64 (n:Int))).heap[G]?=some (.cells #[.int .i64 c1,.int .i64 (n:Int),.string c2,.int .i64 c3,.string c4] 173):=k7;have b7:Below k.heap.size k _:=bR H6.2 (zo _) (bF (gU w6 (some G)) 1 (.int .i64 (n:Int))) (xn r.2.2);obtain⟨w7,a7⟩:=ae (w6.setCell ⟨G,1,none⟩ (.int .i64 (n:Int)));rw[a7]at k7 b7;rw[a7];have P:=aa (ab k7 b7);clear k7 b7 a7;refine Par.ag 3 [dr c1 (n:Int) c2 c3 c4,.pointer none,.slice none 0 0] (fun w=>Below w7.heap.size w7 w) ?A1 ?hm1 ?hB1 ?hA1 (aG w7) ?hop1 ?hT1
  case hm1=>kernel_rfl
  case hB1=>kernel_rfl
  case hA1 =>
   simp only[Par.am,Par.ai,Act.put,eh,ez,dz,eo,ew,ey,ed,ic,gy];rfl
  case hop1 =>
   simp only[en,zh,Par.ah,yo];and_intros<;>intro w' b<;>have HR:=aa b
   have zl:=aB (aE b P.1);have z0:=aA (aE b P.1) 0;have z1:=aA (aE b P.1) 1;have z2:=aA (aE b P.1) 2;have a0:=aA (aE b P.1) 3;have z4:=aA (aE b P.1) 4;rotate_left 3
   all_goals(clear b;simp only[Par.Gives];go_simp;all_goals exact HR.out)
  intro w' b;simp only[ex,ye];have j:Below k.heap.size k w':=P.2.trans (b.mono P.2.size);have a:=X.out w' j;have x0:=aA a 0;have x1:=aA a 1;have x2:=aA a 2;have x3:=aA a 3;have x4:=aA a 4;have xf:=(fun i=>zq w' F i _ _ a);have xl:=aB a;have a8:=aa j;clear b j a;go_wp2_with fail;generalize B:((((World.setCell _ _ _).setCell _ _).setCell _ _).setCell _ _).setCell _ _=s;obtain⟨⟨E,y1,y2,y3,y4⟩,q1,_⟩:=V.out _ _ _ _ _ _ _ a8.out B;refine y8 (v:=.tuple #[.pointer none,.slice none 0 0,dr c1 (n:Int) c2 c3 c4]) (by simp[results,results103,go_sem,E,y1,y2,y3,y4]) rfl ?_;exact Cr q1 HL.1 HL.2 rfl
 have A:(S != 0)=true:=(by simp[he]);have HL:=aa (ab (IF f.2.2.2.2.1 he) he);clear he;go_upto_region 4 with fail;clear E yl;refine Par.ag 3 [dr S pl tb 0 e0,.pointer none,.slice none 0 0] (fun w=>Below w4.heap.size w4 w) ?A2 ?hm2 ?hB2 ?hA2 (aG w4) ?hop2 ?hT2
 case hm2=>kernel_rfl
 case hB2=>kernel_rfl
 case hA2 =>
  simp only[Par.am,Par.ai,Act.put,eh,ez,dz,eo,ew,ey,ed,ic,gy];rfl
 case hop2 =>
  simp only[en,zh,Par.ah,yo];and_intros<;>intro w' b<;>have HR:=aa b
  have zl:=aB (aE b r.2.1);have z0:=aA (aE b r.2.1) 0;have z1:=aA (aE b r.2.1) 1;have z2:=aA (aE b r.2.1) 2;have a0:=aA (aE b r.2.1) 3;have z4:=aA (aE b r.2.1) 4;rotate_left 3
  all_goals(clear b;simp only[Par.Gives];go_simp;all_goals exact HR.out)
 intro w' b;simp only[ex,ye];have j:=aC r.1 b;have a:=X.out w' j;have x0:=aA a 0;have x1:=aA a 1;have x2:=aA a 2;have x3:=aA a 3;have x4:=aA a 4;have xf:=(fun i=>zq w' F i _ _ a);have xl:=aB a;have a8:=aa j;clear b j a;go_wp2_with fail;generalize B:((((World.setCell _ _ _).setCell _ _).setCell _ _).setCell _ _).setCell _ _=s;obtain⟨⟨E,y1,y2,y3,y4⟩,q1,_⟩:=V.out _ _ _ _ _ _ _ a8.out B;refine y8 (v:=.tuple #[.pointer none,.slice none 0 0,dr S pl tb 0 e0]) (by simp[results,results103,go_sem,E,y1,y2,y3,y4]) rfl ?_;exact Cr q1 HL.1 HL.2 rfl
