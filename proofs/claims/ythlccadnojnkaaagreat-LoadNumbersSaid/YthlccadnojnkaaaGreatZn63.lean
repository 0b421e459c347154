import Derived.Test.YthlccadnojnkaaaGreatZn60
set_option maxHeartbeats 8000000
set_option maxRecDepth 100000
namespace Go.Proofs.YthlccadnojnkaaaGreat
open Go.Proofs.Tryz
open Go Go.RowKit Go.Proofs Co Co.S Par
section
variable {D:World->List PT->(Nat->Nat)->Prop}{K Kx:Nat->Prop}{W0 wx w w':World}{d b R:Nat}{ts:List T}{ps:List Nat}{L1 L2:List PT}{S:Nat->Prop}{ids:List Int}{idv:Value}
structure ga (K:Nat->Prop) (W0:World) (tv:Value) (L:List cx):Prop where
 sl:∃p cap,tv=.slice p L.length cap
 rd:∀j (hj:j<L.length),∃g o cap vv,tv=.slice (some ⟨g,o,none⟩) L.length cap/\∀w:World,(∀q,K q->w.heap[q]?=W0.heap[q]?) ->
   (w.cell? ⟨g,o+j*5,none⟩=some (.int .i64 L[j].dO)/\w.cell? ⟨g,o+j*5+1,none⟩=some (.string L[j].tbl)/\w.cell? ⟨g,o+j*5+2,none⟩=some (.int .i64 L[j].id)/\w.cell? ⟨g,o+j*5+3,none⟩=some (.string L[j].col)/\w.cell? ⟨g,o+j*5+4,none⟩=some vv/\g<w.heap.size)/\eb K w vv L[j].vals
theorem ga.of{base:Nat}{tv:Value}{L:List cx}(ho:ef W0 base tv L)(hK:∀q,base<=q->q<W0.heap.size->K q):ga K W0 tv L:=by
 refine⟨?_,fun j d=>?_⟩
 ·obtain⟨sv,_,f,_⟩:=ho;obtain⟨p,a,e,_,_⟩:=f.isslice;exact⟨p,a,e⟩
 obtain⟨g,a,h,e,b⟩:=uK ho hK d;exact⟨g,0,a,h,e,fun w c=>by rw[xq];exact⟨(b w c).1,(b w c).2.2⟩⟩
theorem ga.move{tv:Value}{L:List cx}(h:ga K W0 tv L)(hk:∀q,K q->Kx q)(hw:∀q,K q->wx.heap[q]?=W0.heap[q]?):ga Kx wx tv L:=by
 refine⟨h.sl,fun j c=>?_⟩;obtain⟨g,o,b,d,e,f⟩:=h.rd j c;refine⟨g,o,b,d,e,fun w i=>?_⟩;obtain⟨k,l⟩:=f w (fun q a=>(i q (hk q a)).trans (hw q a));exact⟨k,l.mono (fun q _ a=>hk q a)⟩
theorem ga.part{p:Option Addr}{n cap c2:Nat}{L:List cx}(h:ga K W0 (.slice p n cap) L)(i k:Nat)(hik:i+k<=L.length):ga K W0 (.slice (p.map fun a=>⟨a.block,a.off+i*5,none⟩) k c2) ((L.drop i).take k):=by
 have c:((L.drop i).take k).length=k:=(by rw[we,ua];omega);refine⟨⟨_,c2,by rw[c]⟩,fun j s=>?_⟩;have b:i+j<L.length:=(by omega);obtain⟨g,o,d,l,e,m⟩:=h.rd (i+j) b;cases e;have q:((L.drop i).take k)[j]=L[i+j]:=(by rw[List.getElem_take,List.getElem_drop]);rw[q];refine⟨g,o+i*5,c2,l,by rw[c];rfl,fun w r=>?_⟩;have f:=m w r;rw[show o+(i+j)*5=o+i*5+j*5 by omega]at f;exact f
structure sq (D:World->List PT->(Nat->Nat)->Prop) (K:Nat->Prop) (W0:World) (R:Nat) (ids:List Int) (idv:Value) (Kx:Nat->Prop) (wx:World):Prop where
 kk:∀q,K q->Kx q
 kr:Kx R
 r:wx.heap[R]?=some (.cells zF 39)
 row:Ro wx (R+1) idv ids
 kb:∀q,idv.ownBlock=some q->Kx q
 back:∀w2 X,PX D Kx wx w2 X->PX D K W0 w2 X
 lo:W0.heap.size<=R
theorem sq.next(h:sq D K W0 R ids idv Kx wx)(hP:PX D Kx wx w L1)(hb:Below w.heap.size w w'):sq D K W0 R ids idv (fun q=>Kx q∨(w.heap.size<=q/\q<w'.heap.size)) w'/\PX D (fun q=>Kx q∨(w.heap.size<=q/\q<w'.heap.size)) w' w' L1:=by
 have b:=(hP.still h.kr).trans h.r;exact⟨⟨fun q a=>.inl (h.kk q a),.inl h.kr,aE hb b,(h.row.of (fun q a=>hP.still (h.kb q a))).later hb,fun q a=>.inl (h.kb q a),fun d X c=>h.back _ _ ((hP.later hb).back c (fun q a=>.inl a)),h.lo⟩,hP.with hb⟩
theorem sq.app(h:sq D K W0 R ids idv Kx wx)(hP:PX D Kx wx w L1){ids':List Int}{v':Value}(hr:Ro w' (R+1) v' ids')(hg:w.grownBy w' idv.ownBlock)(ho:∀q,v'.ownBlock=some q->idv.ownBlock=some q∨w.heap.size<=q):∃b,sq D K W0 R ids' v' b w'/\PX D b w' w' L1:=by
 have c:=h.row.of (w':=w) (fun q a=>hP.still (h.kb q a))
 have hT:Tn (fun q=>idv.ownBlock=some q) w w':=Tn.bq ⟨hg.os,hg.tape,hg.output,hg.size,fun q a k=>hg.block q a (fun e=>k e.symm)⟩ (fun q _ a=>by
  obtain⟨_,d,e⟩:=ac.block c q a;exact .inl ⟨d,3,e,rfl⟩)
 have l:=hP.with (zb _ w);obtain⟨m,n⟩:=l.BN hT (fun q _ a=>.inl (h.kb q a));have f:idv.ownBlock≠some R:=(fun e=>by have:=(ac.lt h.row R e).1;omega);have g:=(hP.still h.kr).trans h.r;refine⟨_,⟨fun q a=>.inl (.inl (h.kk q a)),.inl (.inl h.kr),(hg.block R (aC g) (fun e=>f e.symm)).trans g,hr,fun q a=>?_,fun o X i=>?_,h.lo⟩,m⟩
 ·rcases ho q a with e|e
  ·exact .inl (.inl (h.kb q e))
  exact .inr ⟨e,(ac.lt hr q a).2⟩
 have j:=h.back _ _ hP;exact(j.back n (fun q a=>⟨.inl (h.kk q a),fun e=>by have p:=(ac.lt h.row q e).1;have i:=j.klt a;have s:=h.lo;omega⟩)).back i (fun q a=>.inl (.inl (h.kk q a)))
theorem sq.fin(h:sq D K W0 R ids idv Kx wx)(hP:PX D Kx wx w L1)(hg:w.grownBy w' (some R)):∃b,(∀q,K q->b q)/\Ro w' (R+1) idv ids/\(∀q,idv.ownBlock=some q->b q)/\PX D b w' w' L1/\PX D K W0 w' L1:=by
 have d:=(hP.still h.kr).trans h.r
 have hT:Tn (fun q=>q=R) w w':=Tn.bq ⟨hg.os,hg.tape,hg.output,hg.size,fun q a f=>hg.block q a (fun e=>f (by cases e;rfl))⟩ (fun q _ a=>by
  rw[a];exact .inl ⟨_,39,d,rfl⟩)
 have g:=hP.with (zb _ w);obtain⟨i,j⟩:=g.BN hT (fun q _ a=>.inl (a▸h.kr));have c:=h.back _ _ hP;refine⟨_,fun q a=>.inl (.inl (h.kk q a)),(h.row.of (w':=w) (fun q a=>hP.still (h.kb q a))).of (fun q a=>?_),fun q a=>.inl (.inl (h.kb q a)),i,c.back j (fun q a=>⟨.inl (h.kk q a),fun e=>by have l:=c.klt a;have m:=h.lo;omega⟩)⟩;have k:=ac.lt (h.row.of (w':=w) (fun q a=>hP.still (h.kb q a))) q a;exact hg.block q k.2 (fun e=>by cases e;omega)
end
theorem vI{K:Nat->Prop}{W0 w0:World}{d:Nat}{ts:List T}{ps:List Nat}{L1:List PT}{tv:Value}{ops:List cx}{m:Nat}(h:PX (DA d ts ps) K W0 w0 L1)(ho:ga K W0 tv ops)(hfew:di ts)(hsz:Short ts)(hcs:∀t∈ts,0<t.cols.length/\t.cols.length<=1000)(J:∀x∈L1,dw m x)(hm:m+ops.length<=590)(hops:∀o∈ops,ir o):Calls prog 58 #[.pointer (some ⟨d,0,none⟩),tv] w0 fun e w'=>∃idv Kx,e=.returned (.tuple #[idv,bj (ak ts L1 ops).err (ak ts L1 ops).place (ak ts L1 ops).tbl 0 e0])/\(∀q,K q->Kx q)/\Ro w' w0.heap.size idv (ak ts L1 ops).ids/\(∀q,idv.ownBlock=some q->Kx q)/\PX (DA d ts ps) Kx w' w' (ak ts L1 ops).rows/\PX (DA d ts ps) K W0 w' (ak ts L1 ops).rows:=by
 obtain⟨p,d7,rfl⟩:=ho.sl;have S:=(fun{j:Nat} (hj:j<ops.length)=>ho.rd j hj);obtain⟨n,hn⟩:=ag ops.length;have a9:Hid (∀j (hj:j<ops.length),_):=aa (fun j hj=>S hj);have N:=aD w0 (.cells zF 39);have k1:=z7 w0 (.cells zF 39);obtain⟨w1,a2⟩:=ag (w0.alloc (.cells zF 39));obtain⟨R,M⟩:=ag w0.heap.size;have d8:w1.heap.size=R+1:=by rw[<-a2,<-M,zj]
 have b8:W0.heap.size<=R:=by
  rw[<-M];exact h.szle
 rw[a2]at N k1;have s:=h.with N;have b:sq (DA d ts ps) K W0 R [] (.slice none 0 0) (fun q=>K q∨(w0.heap.size<=q/\q<w1.heap.size)) w1:=⟨fun q z=>.inl z,.inr ⟨by omega,by omega⟩,by rw[<-M];exact k1,ac.nil,fun q z=>(by cases z),fun w2 X h2=>(h.later N).back h2 (fun q z=>.inl z),b8⟩;obtain⟨K1,b9⟩:∃K1:Nat->Prop,(fun q=>K q∨(w0.heap.size<=q/\q<w1.heap.size))=K1:=⟨_,rfl⟩;rw[b9]at s b;rw[M]at k1;have Q:=aa (ab hfew (ab hsz (ab hcs (ab hm (ab hops hn)))));have U:=aa (ab b (ab s (ab J (ab k1 (ab a2 M)))));obtain⟨b0,W⟩:=ag (ak ts L1 ops);rw[W,hn];have a7:=aa W
 have a3:Hid (∀(w2 F:World) (ids:List Int) (idv:Value) (Kx:Nat->Prop) (wx:World) (X:List PT) (v0 v1 v2 v3 v4:Value),sq (DA d ts ps) K W0 R ids idv Kx wx->PX (DA d ts ps) Kx wx w2 X->((((w2.setCell ⟨R,0,none⟩ v0).setCell ⟨R,1,none⟩ v1).setCell ⟨R,2,none⟩ v2).setCell ⟨R,3,none⟩ v3).setCell ⟨R,4,none⟩ v4=F ->
   (F.cell? ⟨R,0,none⟩=some v0/\F.cell? ⟨R,1,none⟩=some v1/\F.cell? ⟨R,2,none⟩=some v2/\F.cell? ⟨R,3,none⟩=some v3/\F.cell? ⟨R,4,none⟩=some v4)/\∃c,(∀q,K q->c q)/\Ro F w0.heap.size idv ids/\(∀q,idv.ownBlock=some q->c q)/\PX (DA d ts ps) c F F X/\PX (DA d ts ps) K W0 F X):=aa (by
  rintro w2 F ids idv Kx wx X v0 v1 v2 v3 v4 G hP rfl;have hr:=(hP.still G.kr).trans G.r;have h5:=gS hr v0 v1 v2 v3 v4;refine⟨⟨aA h5 0,aA h5 1,aA h5 2,aA h5 3,aA h5 4⟩,?_⟩;obtain⟨c,q1,q2,q3,q4,q5⟩:=G.fin hP (aW w2 R v0 v1 v2 v3 v4);exact⟨c,q1,q2.mono (by omega),q3,q4,q5⟩)
 have y:Hid (∀(w2:World) (ids:List Int) (idv:Value) (Kx:Nat->Prop) (wx:World) (X:List PT),sq (DA d ts ps) K W0 R ids idv Kx wx->PX (DA d ts ps) Kx wx w2 X->w2.heap[R]?=some (.cells zF 39)):=aa (fun w2 ids idv Kx wx X G hP=>(hP.still G.kr).trans G.r);clear h ho hfew hsz hcs J hm hops hn S N k1 a2 d8 M b8 s b b9 W;have e5:(n:Int)<=590:=(by have J:=Q.2.2.2.1;have h2:=Q.2.2.2.2.2;omega);go_enter func58,ntmps58;go_upto_region 1 with fail;rw[U.2.2.2.2.1,U.2.2.2.2.2];by_cases A:n=0∨40<n
 ·obtain rfl:(⟨L1,[],5,0,e0⟩:Out)=b0:=by
   have J:=a7.out;unfold ak at J;rw[zv (by rw[Q.2.2.2.2.2];exact A)]at J;exact J
  have f:=y.out _ _ _ _ _ _ U.1 U.2.1;have x0:=aA f 0;have x1:=aA f 1;have x2:=aA f 2;have x3:=aA f 3;have x4:=aA f 4;have xf:=(fun i=>zo w1 R i _ _ f);have xl:=aC f;clear f;rcases A with rfl|A
  ·go_wp2_with fail;generalize H:((((World.setCell _ _ _).setCell _ _).setCell _ _).setCell _ _).setCell _ _=F;obtain⟨⟨y0,y1,y2,y3,y4⟩,c,q1,q2,q3,q4,q5⟩:=a3.out _ _ _ _ _ _ _ _ _ _ _ _ U.1 U.2.1 H;refine ya (v:=.tuple #[.slice none 0 0,bj 5 0 e0 0 e0]) (by simp[results,results58,go_sem,y0,y1,y2,y3,y4]) rfl ?_;exact⟨_,rfl,c,q1,q2,q3,q4,q5⟩
  have d9:((n:Int)==0)=false:=beq_eq_false_iff_ne.2 (by omega);have N:(n:Int)>40:=(by omega);go_wp2_with fail;generalize H:((((World.setCell _ _ _).setCell _ _).setCell _ _).setCell _ _).setCell _ _=F;obtain⟨⟨y0,y1,y2,y3,y4⟩,c,q1,q2,q3,q4,q5⟩:=a3.out _ _ _ _ _ _ _ _ _ _ _ _ U.1 U.2.1 H;refine ya (v:=.tuple #[.slice none 0 0,bj 5 0 e0 0 e0]) (by simp[results,results58,go_sem,y0,y1,y2,y3,y4]) rfl ?_;exact⟨_,rfl,c,q1,q2,q3,q4,q5⟩
 have d9:((n:Int)==0)=false:=beq_eq_false_iff_ne.2 (by omega);have N:¬ (n:Int)>40:=by omega
 have a:dt ts L1 0 [] (ops.drop 0)=b0:=by
  have J:=a7.out;unfold ak at J;rw[zq (by rw[Q.2.2.2.2.2];exact A)]at J;exact J
 have c5:=aa a;clear a A;go_wp2_with fail;go_loopg [6,22] (n+1) (fun gh iv jv w=>∃(j:Nat) (L:List PT) (ids:List Int) (Kx:Nat->Prop) (wx:World),jv=.int .i64 (j:Int)/\j<=n/\n+1<=j+gh/\dt ts L j ids (ops.drop j)=b0/\(∀x∈L,dw (m+j) x)/\ids.length<=j/\sq (DA d ts ps) K W0 R ids iv Kx wx/\PX (DA d ts ps) Kx wx w L)
 case atStart=>exact⟨0,L1,[],K1,w1,rfl,zh _,by omega,c5.out,U.2.2.1,zm _,U.1,U.2.1⟩
 obtain⟨j,L,ids,Kx,wx,rfl,hj,hg,a,a4,a8,G,O⟩:=hrel;by_cases e1:j<n
 ·have e6:(j:Int)<(n:Int):=(by omega);have a5:j<ops.length:=(by rw[Q.2.2.2.2.2];exact e1);obtain⟨g,o5,c6,vv,c7,c8⟩:=a9.out j a5;obtain⟨rfl,rfl⟩:p=some ⟨g,o5,none⟩/\d7=c6:=(by cases c7;exact⟨rfl,rfl⟩);obtain⟨⟨c0,c1,c2,c3,c4,gl⟩,hv⟩:=c8 wr (fun q z=>(G.back _ _ O).still z);obtain⟨pv,cv,rfl,_,_⟩:=hv.slice;have b1:=Q.2.2.2.2.1 _ (z8 a5);have d0:m+j<=590:=(by have J:=Q.2.2.2.1;have h2:=Q.2.2.2.2.2;omega);have B:=Dv (ts:=ts) (L:=L) (ids:=ids) (k:=j) a5;have Y:=CE (ts:=ts) (L:=L) (ids:=ids) (k:=j) a5;rw[a]at B Y;obtain⟨o,ho⟩:=ag (ops[j]);simp only[ho]at c0 c1 c2 c3 c4 hv b1 B Y;have Z:=aD wr (.cells #[.int .i64 o.dO,.string o.tbl,.int .i64 o.id,.string o.col,.slice pv o.vals.length cv] 29);have l:=z7 wr (.cells #[.int .i64 o.dO,.string o.tbl,.int .i64 o.id,.string o.col,.slice pv o.vals.length cv] 29);obtain⟨b,s⟩:=G.next O Z;have I:=Fr s Q.1 Q.2.1 Q.2.2.1 a4 d0 b1 ((hv.later Z).mono (fun q _ z=>.inl (G.kk q z))) (fun q z=>z);have a0:=rZ (ts:=ts) (o:=o) a4;obtain⟨k,hk⟩:=ag o.vals.length;rw[hk]at c4 Z l b s I;obtain⟨V,hV⟩:=ag wr.heap.size;have b2:=zj wr (.cells #[.int .i64 o.dO,.string o.tbl,.int .i64 o.id,.string o.col,.slice pv k cv] 29);obtain⟨w3,b3⟩:=ag (wr.alloc (.cells #[.int .i64 o.dO,.string o.tbl,.int .i64 o.id,.string o.col,.slice pv k cv] 29));rw[b3]at Z l b s I b2;rw[hV]at l b s I b2;obtain⟨K3,b4⟩:∃K':Nat->Prop,(fun q=>Kx q∨(V<=q/\q<w3.heap.size))=K':=⟨_,rfl⟩;have d1:K3 V:=(by rw[<-b4];exact .inr ⟨zm _,by omega⟩);rw[b4]at b s I;obtain⟨r1,b5⟩:=ag ((py ts L o).1);obtain⟨r2,a6⟩:=ag ((py ts L o).2);obtain⟨L',a1⟩:=ag (sf ts L o);rw[b5,a6,a1]at I;rw[b5,a6,a1]at B;rw[a6,a1]at Y;rw[a1]at a0;have y0:=aA l 0;have y1:=aA l 1;have y2:=aA l 2;have y3:=aA l 3;have y4:=aA l 4;have yl:=aC l;have d2:=aa (ab b3 hV);have E:=aa (ab b (ab B (ab Y (ab d1 (ab l (ab a0 (ab a8 ho)))))));clear c8 c7 hv b1 B Y Z l G b s O a a4 a0 a8 d0 b2 b3 hV b4 d1 hk b5 a6 a1 ho;go_upto_region 7 with fail;rw[d2.1,d2.2];clear c0 c1 c2 c3 c4 gl;go_upto_region 8 with (go_at_call 94;refine I.mono ?_;rintro e w4⟨rfl,b6⟩;have u:=aa (ab b6 ((b6.still E.2.2.2.1).trans E.2.2.2.2.1));clear I b6);clear y0 y1 y2 y3 y4 yl;have z0:=aA u.2 0;have z1:=aA u.2 1;have zl:=aC u.2;by_cases he:r2=0
  ·subst he;go_upto_region 10 with fail;have a:=E.2.1 rfl;by_cases hd:o.dO=1
   ·rw[zv hd]at a;rw[hd]at z0;have HD:=aa (ab hd a);clear hd a;obtain⟨b,_⟩:=E.out;obtain⟨g',e4,w5,b7,d3,d4,d5⟩:=iY 45 underlying45 w4 (R+1) (n:=ids.length) rfl (b.row.of (w':=w4) (fun q z=>u.1.still (b.kb q z))) (by have:=E.2.2.2.2.2.2.1;omega) (by have J:=(y.out _ _ _ _ _ _ b u.1);have:=aC J;omega) r1;obtain⟨e2,d6,P⟩:=b.app u.1 d3 d4 (fun q z=>by cases z;exact d5);have H5:=aa (ab d6 P);clear d3 d4 d5 d6 P b;go_wp2_with (at_builtin;refine aK rfl (.tmp 43) (.tmp 45) 45 rfl rfl rfl b7 ?_);go_roundg (n-j)
    case measure=>omega
    exact⟨j+1,L',ids++[r1],e2,w5,by go_num,by omega,by omega,HD.2.symm,E.2.2.2.2.2.1,by rw[y8];have:=E.2.2.2.2.2.2.1;show ids.length+1<=j+1;omega,H5.1,H5.2⟩
   rw[zq hd]at a;have hb:(o.dO==1)=false:=beq_eq_false_iff_ne.2 hd;have HD:=aa a;clear hd a;go_wp2_with fail;go_roundg (n-j)
   case measure=>omega
   exact⟨j+1,L',ids,K3,w3,by go_num,by omega,by omega,HD.out.symm,E.2.2.2.2.2.1,by have:=E.2.2.2.2.2.2.1;omega,E.1,u.1⟩
  have hb:(r2 != 0)=true:=(by simp[he]);obtain rfl:=E.2.2.1 he;clear he;go_upto_region 9 with fail;clear z0;refine ae 6 [.int .i64 r2,.int .i64 (j:Int),.pointer (some ⟨V,1,none⟩),.string o.tbl,bj r2 (j:Int) o.tbl 0 e0,.slice none 0 0] (fun w=>Below w4.heap.size w4 w) ?A1 ?hm1 ?hB1 ?hA1 (aF w4) ?hop1 ?hT1
  case hm1=>kernel_rfl
  case hB1=>kernel_rfl
  case hA1 =>
   simp only[am,ai,Act.put,cy,db,bt,cp,dc,da,bu,eg,ed];rfl
  case hop1 =>
   simp only[ce,ze,ah,yu];and_intros<;>intro w' M<;>have HR:=aa M
   rotate_left 2;have zl:=aC (aE M u.2);rotate_left;have z1:=aA (aE M u.2) 1;rotate_left 3
   all_goals(clear M;simp only[Par.Gives];go_simp;all_goals exact HR.out)
  intro w' M;simp only[cw,ym];have P:=u.1.later M;have f:=y.out _ _ _ _ _ _ E.1 P;have x0:=aA f 0;have x1:=aA f 1;have x2:=aA f 2;have x3:=aA f 3;have x4:=aA f 4;have xf:=(fun i=>zo w' R i _ _ f);have xl:=aC f;have e3:=aa P;clear M P f z1 zl;go_wp2_with fail;generalize H:((((World.setCell _ _ _).setCell _ _).setCell _ _).setCell _ _).setCell _ _=F;obtain⟨⟨y0,y1,y2,y3,y4⟩,c,q1,q2,q3,q4,q5⟩:=a3.out _ _ [] (.slice none 0 0) _ _ _ _ _ _ _ _ ⟨E.1.kk,E.1.kr,E.1.r,ac.nil,fun q z=>(by cases z),E.1.back,E.1.lo⟩ e3.out H;refine ya (v:=.tuple #[.slice none 0 0,bj r2 (j:Int) o.tbl 0 e0]) (by simp[results,results58,go_sem,y0,y1,y2,y3,y4]) rfl ?_;exact⟨_,rfl,c,q1,q2,q3,q4,q5⟩
 obtain rfl:j=n:=(by omega);rw[vH (by rw[Q.2.2.2.2.2];exact zm _)]at a;subst a;have f:=y.out _ _ _ _ _ _ G O;have x0:=aA f 0;have x1:=aA f 1;have x2:=aA f 2;have x3:=aA f 3;have x4:=aA f 4;have xf:=(fun i=>zo wr R i _ _ f);have xl:=aC f;obtain⟨pi,ci,rfl,_,_⟩:=ac.isslice G.row;have HA:=aa (ab G O);clear G O f a4;go_wp2_with fail;generalize H:((((World.setCell _ _ _).setCell _ _).setCell _ _).setCell _ _).setCell _ _=F;obtain⟨⟨y0,y1,y2,y3,y4⟩,c,q1,q2,q3,q4,q5⟩:=a3.out _ _ _ _ _ _ _ _ _ _ _ _ HA.1 HA.2 H;refine ya (v:=.tuple #[.slice pi ids.length ci,bj 0 0 e0 0 e0]) (by simp[results,results58,go_sem,y0,y1,y2,y3,y4]) rfl ?_;exact⟨_,rfl,c,q1,q2,q3,q4,q5⟩
theorem Em{K:Nat->Prop}{W0 w0:World}{b:Nat}{ts:List T}{L2:List PT}{tv:Value}{ops:List cx}{m:Nat}(h:PX (DN b ts) K W0 w0 L2)(ho:ga K W0 tv ops)(hcs:∀t∈ts,0<t.cols.length/\t.cols.length<=1000)(J:∀x∈L2,dw m x)(hm:m+ops.length<=590)(hops:∀o∈ops,ir o):Calls prog 61 #[.pointer (some ⟨b,0,none⟩),tv] w0 fun e w'=>∃idv Kx,e=.returned (.tuple #[idv,bj (ak ts L2 ops).err (ak ts L2 ops).place (ak ts L2 ops).tbl 0 e0])/\(∀q,K q->Kx q)/\Ro w' w0.heap.size idv (ak ts L2 ops).ids/\(∀q,idv.ownBlock=some q->Kx q)/\PX (DN b ts) Kx w' w' (ak ts L2 ops).rows/\PX (DN b ts) K W0 w' (ak ts L2 ops).rows:=by
 obtain⟨p,d6,rfl⟩:=ho.sl;have Q:=(fun{j:Nat} (hj:j<ops.length)=>ho.rd j hj);obtain⟨n,hn⟩:=ag ops.length;have a8:Hid (∀j (hj:j<ops.length),_):=aa (fun j hj=>Q hj);have N:=aD w0 (.cells zF 39);have k1:=z7 w0 (.cells zF 39);obtain⟨w1,a1⟩:=ag (w0.alloc (.cells zF 39));obtain⟨R,M⟩:=ag w0.heap.size;have d7:w1.heap.size=R+1:=by rw[<-a1,<-M,zj]
 have b7:W0.heap.size<=R:=by
  rw[<-M];exact h.szle
 rw[a1]at N k1;have s:=h.with N;have c:sq (DN b ts) K W0 R [] (.slice none 0 0) (fun q=>K q∨(w0.heap.size<=q/\q<w1.heap.size)) w1:=⟨fun q z=>.inl z,.inr ⟨by omega,by omega⟩,by rw[<-M];exact k1,ac.nil,fun q z=>(by cases z),fun w2 X h2=>(h.later N).back h2 (fun q z=>.inl z),b7⟩;obtain⟨K1,b8⟩:∃K1:Nat->Prop,(fun q=>K q∨(w0.heap.size<=q/\q<w1.heap.size))=K1:=⟨_,rfl⟩;rw[b8]at s c;rw[M]at k1;have HF:=aa (ab trivial (ab trivial (ab hcs (ab hm (ab hops hn)))));have S:=aa (ab c (ab s (ab J (ab k1 (ab a1 M)))));obtain⟨a9,U⟩:=ag (ak ts L2 ops);rw[U,hn];have a6:=aa U
 have a2:Hid (∀(w2 F:World) (ids:List Int) (idv:Value) (Kx:Nat->Prop) (wx:World) (X:List PT) (v0 v1 v2 v3 v4:Value),sq (DN b ts) K W0 R ids idv Kx wx->PX (DN b ts) Kx wx w2 X->((((w2.setCell ⟨R,0,none⟩ v0).setCell ⟨R,1,none⟩ v1).setCell ⟨R,2,none⟩ v2).setCell ⟨R,3,none⟩ v3).setCell ⟨R,4,none⟩ v4=F ->
   (F.cell? ⟨R,0,none⟩=some v0/\F.cell? ⟨R,1,none⟩=some v1/\F.cell? ⟨R,2,none⟩=some v2/\F.cell? ⟨R,3,none⟩=some v3/\F.cell? ⟨R,4,none⟩=some v4)/\∃d,(∀q,K q->d q)/\Ro F w0.heap.size idv ids/\(∀q,idv.ownBlock=some q->d q)/\PX (DN b ts) d F F X/\PX (DN b ts) K W0 F X):=aa (by
  rintro w2 F ids idv Kx wx X v0 v1 v2 v3 v4 G hP rfl;have hr:=(hP.still G.kr).trans G.r;have h5:=gS hr v0 v1 v2 v3 v4;refine⟨⟨aA h5 0,aA h5 1,aA h5 2,aA h5 3,aA h5 4⟩,?_⟩;obtain⟨d,q1,q2,q3,q4,q5⟩:=G.fin hP (aW w2 R v0 v1 v2 v3 v4);exact⟨d,q1,q2.mono (by omega),q3,q4,q5⟩)
 have y:Hid (∀(w2:World) (ids:List Int) (idv:Value) (Kx:Nat->Prop) (wx:World) (X:List PT),sq (DN b ts) K W0 R ids idv Kx wx->PX (DN b ts) Kx wx w2 X->w2.heap[R]?=some (.cells zF 39)):=aa (fun w2 ids idv Kx wx X G hP=>(hP.still G.kr).trans G.r);clear h ho hcs J hm hops hn Q N k1 a1 d7 M b7 s c b8 U;have e4:(n:Int)<=590:=(by have J:=HF.2.2.2.1;have h2:=HF.2.2.2.2.2;omega);go_enter func61,ntmps61;go_upto_region 1 with fail;rw[S.2.2.2.2.1,S.2.2.2.2.2];by_cases A:n=0∨40<n
 ·obtain rfl:(⟨L2,[],5,0,e0⟩:Out)=a9:=by
   have J:=a6.out;unfold ak at J;rw[zv (by rw[HF.2.2.2.2.2];exact A)]at J;exact J
  have f:=y.out _ _ _ _ _ _ S.1 S.2.1;have x0:=aA f 0;have x1:=aA f 1;have x2:=aA f 2;have x3:=aA f 3;have x4:=aA f 4;have xf:=(fun i=>zo w1 R i _ _ f);have xl:=aC f;clear f;rcases A with rfl|A
  ·go_wp2_with fail;generalize H:((((World.setCell _ _ _).setCell _ _).setCell _ _).setCell _ _).setCell _ _=F;obtain⟨⟨y0,y1,y2,y3,y4⟩,d,q1,q2,q3,q4,q5⟩:=a2.out _ _ _ _ _ _ _ _ _ _ _ _ S.1 S.2.1 H;refine ya (v:=.tuple #[.slice none 0 0,bj 5 0 e0 0 e0]) (by simp[results,results61,go_sem,y0,y1,y2,y3,y4]) rfl ?_;exact⟨_,rfl,d,q1,q2,q3,q4,q5⟩
  have d8:((n:Int)==0)=false:=beq_eq_false_iff_ne.2 (by omega);have N:(n:Int)>40:=(by omega);go_wp2_with fail;generalize H:((((World.setCell _ _ _).setCell _ _).setCell _ _).setCell _ _).setCell _ _=F;obtain⟨⟨y0,y1,y2,y3,y4⟩,d,q1,q2,q3,q4,q5⟩:=a2.out _ _ _ _ _ _ _ _ _ _ _ _ S.1 S.2.1 H;refine ya (v:=.tuple #[.slice none 0 0,bj 5 0 e0 0 e0]) (by simp[results,results61,go_sem,y0,y1,y2,y3,y4]) rfl ?_;exact⟨_,rfl,d,q1,q2,q3,q4,q5⟩
 have d8:((n:Int)==0)=false:=beq_eq_false_iff_ne.2 (by omega);have N:¬ (n:Int)>40:=by omega
 have a:dt ts L2 0 [] (ops.drop 0)=a9:=by
  have J:=a6.out;unfold ak at J;rw[zq (by rw[HF.2.2.2.2.2];exact A)]at J;exact J
 have b9:=aa a;clear a A;go_wp2_with fail;go_loopg [6,7] (n+1) (fun gh iv jv w=>∃(j:Nat) (L:List PT) (ids:List Int) (Kx:Nat->Prop) (wx:World),jv=.int .i64 (j:Int)/\j<=n/\n+1<=j+gh/\dt ts L j ids (ops.drop j)=a9/\(∀x∈L,dw (m+j) x)/\ids.length<=j/\sq (DN b ts) K W0 R ids iv Kx wx/\PX (DN b ts) Kx wx w L)
 case atStart=>exact⟨0,L2,[],K1,w1,rfl,zh _,by omega,b9.out,S.2.2.1,zm _,S.1,S.2.1⟩
 obtain⟨j,L,ids,Kx,wx,rfl,hj,hg,a,a3,a7,G,O⟩:=hrel;by_cases d9:j<n
 ·have e5:(j:Int)<(n:Int):=(by omega);have a4:j<ops.length:=(by rw[HF.2.2.2.2.2];exact d9);obtain⟨g,o5,c5,vv,c6,c7⟩:=a8.out j a4;obtain⟨rfl,rfl⟩:p=some ⟨g,o5,none⟩/\d6=c5:=(by cases c6;exact⟨rfl,rfl⟩);obtain⟨⟨c0,c1,c2,c3,c4,gl⟩,hv⟩:=c7 wr (fun q z=>(G.back _ _ O).still z);obtain⟨pv,cv,rfl,_,_⟩:=hv.slice;have b0:=HF.2.2.2.2.1 _ (z8 a4);have c8:m+j<=590:=(by have J:=HF.2.2.2.1;have h2:=HF.2.2.2.2.2;omega);have B:=Dv (ts:=ts) (L:=L) (ids:=ids) (k:=j) a4;have W:=CE (ts:=ts) (L:=L) (ids:=ids) (k:=j) a4;rw[a]at B W;obtain⟨o,ho⟩:=ag (ops[j]);simp only[ho]at c0 c1 c2 c3 c4 hv b0 B W;have Y:=aD wr (.cells #[.int .i64 o.dO,.string o.tbl,.int .i64 o.id,.string o.col,.slice pv o.vals.length cv] 29);have l:=z7 wr (.cells #[.int .i64 o.dO,.string o.tbl,.int .i64 o.id,.string o.col,.slice pv o.vals.length cv] 29);obtain⟨c,s⟩:=G.next O Y;have I:=FR s HF.2.2.1 a3 c8 b0 ((hv.later Y).mono (fun q _ z=>.inl (G.kk q z))) (fun q z=>z);have Z:=rZ (ts:=ts) (o:=o) a3;obtain⟨k,hk⟩:=ag o.vals.length;rw[hk]at c4 Y l c s I;obtain⟨V,hV⟩:=ag wr.heap.size;have b1:=zj wr (.cells #[.int .i64 o.dO,.string o.tbl,.int .i64 o.id,.string o.col,.slice pv k cv] 29);obtain⟨w3,b2⟩:=ag (wr.alloc (.cells #[.int .i64 o.dO,.string o.tbl,.int .i64 o.id,.string o.col,.slice pv k cv] 29));rw[b2]at Y l c s I b1;rw[hV]at l c s I b1;obtain⟨K3,b3⟩:∃K':Nat->Prop,(fun q=>Kx q∨(V<=q/\q<w3.heap.size))=K':=⟨_,rfl⟩;have d0:K3 V:=(by rw[<-b3];exact .inr ⟨zm _,by omega⟩);rw[b3]at c s I;obtain⟨r1,b4⟩:=ag ((py ts L o).1);obtain⟨r2,a5⟩:=ag ((py ts L o).2);obtain⟨L',a0⟩:=ag (sf ts L o);rw[b4,a5,a0]at I;rw[b4,a5,a0]at B;rw[a5,a0]at W;rw[a0]at Z;have y0:=aA l 0;have y1:=aA l 1;have y2:=aA l 2;have y3:=aA l 3;have y4:=aA l 4;have yl:=aC l;have d1:=aa (ab b2 hV);have E:=aa (ab c (ab B (ab W (ab d0 (ab l (ab Z (ab a7 ho)))))));clear c7 c6 hv b0 B W Y l G c s O a a3 Z a7 c8 b1 b2 hV b3 d0 hk b4 a5 a0 ho;go_upto_region 8 with fail;rw[d1.1,d1.2];clear c0 c1 c2 c3 c4 gl;go_upto_region 9 with (go_at_call 96;refine I.mono ?_;rintro e w4⟨rfl,b5⟩;have u:=aa (ab b5 ((b5.still E.2.2.2.1).trans E.2.2.2.2.1));clear I b5);clear y0 y1 y2 y3 y4 yl;have z0:=aA u.2 0;have z1:=aA u.2 1;have zl:=aC u.2;by_cases he:r2=0
  ·subst he;go_upto_region 11 with fail;have a:=E.2.1 rfl;by_cases hd:o.dO=1
   ·rw[zv hd]at a;rw[hd]at z0;have HD:=aa (ab hd a);clear hd a;obtain⟨c,_⟩:=E.out;obtain⟨g',e3,w5,b6,d2,d3,d4⟩:=iY 45 underlying45 w4 (R+1) (n:=ids.length) rfl (c.row.of (w':=w4) (fun q z=>u.1.still (c.kb q z))) (by have:=E.2.2.2.2.2.2.1;omega) (by have J:=(y.out _ _ _ _ _ _ c u.1);have:=aC J;omega) r1;obtain⟨e1,d5,P⟩:=c.app u.1 d2 d3 (fun q z=>by cases z;exact d4);have H5:=aa (ab d5 P);clear d2 d3 d4 d5 P c;go_wp2_with (at_builtin;refine aK rfl (.tmp 46) (.tmp 48) 45 rfl rfl rfl b6 ?_);go_roundg (n-j)
    case measure=>omega
    exact⟨j+1,L',ids++[r1],e1,w5,by go_num,by omega,by omega,HD.2.symm,E.2.2.2.2.2.1,by rw[y8];have:=E.2.2.2.2.2.2.1;show ids.length+1<=j+1;omega,H5.1,H5.2⟩
   rw[zq hd]at a;have hb:(o.dO==1)=false:=beq_eq_false_iff_ne.2 hd;have HD:=aa a;clear hd a;go_wp2_with fail;go_roundg (n-j)
   case measure=>omega
   exact⟨j+1,L',ids,K3,w3,by go_num,by omega,by omega,HD.out.symm,E.2.2.2.2.2.1,by have:=E.2.2.2.2.2.2.1;omega,E.1,u.1⟩
  have hb:(r2 != 0)=true:=(by simp[he]);obtain rfl:=E.2.2.1 he;clear he;go_upto_region 10 with fail;clear z0;refine ae 6 [.int .i64 r2,.int .i64 (j:Int),.pointer (some ⟨V,1,none⟩),.string o.tbl,bj r2 (j:Int) o.tbl 0 e0,.slice none 0 0] (fun w=>Below w4.heap.size w4 w) ?A1 ?hm1 ?hB1 ?hA1 (aF w4) ?hop1 ?hT1
  case hm1=>kernel_rfl
  case hB1=>kernel_rfl
  case hA1 =>
   simp only[am,ai,Act.put,cy,db,bt,cp,dc,da,bu,eg,ed];rfl
  case hop1 =>
   simp only[ce,ze,ah,yu];and_intros<;>intro w' M<;>have HR:=aa M
   rotate_left 2;have zl:=aC (aE M u.2);rotate_left;have z1:=aA (aE M u.2) 1;rotate_left 3
   all_goals(clear M;simp only[Par.Gives];go_simp;all_goals exact HR.out)
  intro w' M;simp only[cw,ym];have P:=u.1.later M;have f:=y.out _ _ _ _ _ _ E.1 P;have x0:=aA f 0;have x1:=aA f 1;have x2:=aA f 2;have x3:=aA f 3;have x4:=aA f 4;have xf:=(fun i=>zo w' R i _ _ f);have xl:=aC f;have e2:=aa P;clear M P f z1 zl;go_wp2_with fail;generalize H:((((World.setCell _ _ _).setCell _ _).setCell _ _).setCell _ _).setCell _ _=F;obtain⟨⟨y0,y1,y2,y3,y4⟩,d,q1,q2,q3,q4,q5⟩:=a2.out _ _ [] (.slice none 0 0) _ _ _ _ _ _ _ _ ⟨E.1.kk,E.1.kr,E.1.r,ac.nil,fun q z=>(by cases z),E.1.back,E.1.lo⟩ e2.out H;refine ya (v:=.tuple #[.slice none 0 0,bj r2 (j:Int) o.tbl 0 e0]) (by simp[results,results61,go_sem,y0,y1,y2,y3,y4]) rfl ?_;exact⟨_,rfl,d,q1,q2,q3,q4,q5⟩
 obtain rfl:j=n:=(by omega);rw[vH (by rw[HF.2.2.2.2.2];exact zm _)]at a;subst a;have f:=y.out _ _ _ _ _ _ G O;have x0:=aA f 0;have x1:=aA f 1;have x2:=aA f 2;have x3:=aA f 3;have x4:=aA f 4;have xf:=(fun i=>zo wr R i _ _ f);have xl:=aC f;obtain⟨pi,ci,rfl,_,_⟩:=ac.isslice G.row;have HA:=aa (ab G O);clear G O f a3;go_wp2_with fail;generalize H:((((World.setCell _ _ _).setCell _ _).setCell _ _).setCell _ _).setCell _ _=F;obtain⟨⟨y0,y1,y2,y3,y4⟩,d,q1,q2,q3,q4,q5⟩:=a2.out _ _ _ _ _ _ _ _ _ _ _ _ HA.1 HA.2 H;refine ya (v:=.tuple #[.slice pi ids.length ci,bj 0 0 e0 0 e0]) (by simp[results,results61,go_sem,y0,y1,y2,y3,y4]) rfl ?_;exact⟨_,rfl,d,q1,q2,q3,q4,q5⟩
theorem Js{K:Nat->Prop}{W0 w0:World}{d b:Nat}{ts:List T}{ps:List Nat}{L1 L2:List PT}{tv:Value}{ops:List cx}{m:Nat}(h:PD K W0 w0 d b ts ps L1 L2)(ho:ga K W0 tv ops)(hfew:di ts)(hsz:Short ts)(hcs:∀t∈ts,0<t.cols.length/\t.cols.length<=1000)(h1:∀x∈L1,dw m x)(hm:m+ops.length<=590)(hops:∀o∈ops,ir o):Calls prog 58 #[.pointer (some ⟨d,0,none⟩),tv] w0 fun e w'=>∃idv Kx,e=.returned (.tuple #[idv,bj (ak ts L1 ops).err (ak ts L1 ops).place (ak ts L1 ops).tbl 0 e0])/\(∀q,K q->Kx q)/\Ro w' 0 idv (ak ts L1 ops).ids/\(∀q,idv.ownBlock=some q->Kx q)/\PD Kx w' w' d b ts ps (ak ts L1 ops).rows L2/\PD K W0 w' d b ts ps (ak ts L1 ops).rows L2:=by
 obtain⟨n,y,⟨l,p,i,B,r,z,f,s⟩,rfl,rfl,rfl⟩:=h;have g:∀q,K q->q<w0.heap.size/\l q=0:=(fun q a=>⟨z9 (f q a).1 s.size,(f q a).2.1⟩);have u:PX (DA d ts (n.map (·.1))) (fun q=>q<w0.heap.size/\l q=0) w0 w0 (n.map (·.2)):=⟨C1,l,⟨n,B,rfl,rfl⟩,fun q a=>a,Tn.refl _ _⟩;refine(vI u (ho.move g (fun q a=>s.chg.block q (f q a).1 (fun c=>c a))) hfew hsz hcs h1 hm hops).mono ?_;rintro e w'⟨idv,Kx,rfl,b1,b2,E,⟨_,v,⟨j,c1,c2,c3⟩,c4,_⟩,⟨_,_,_,_,F⟩⟩;have hT:Tn (fun q=>l q≠0) w0 w':=F.mono (fun q w a c=>a ⟨w,c⟩);have A:=r.tn hT (fun q a=>z q a);have k:∀q,v q≠0->p q=0:=(fun q a=>Classical.byContradiction fun c=>a (c4 q (b1 q ⟨r.lt q c,Classical.byContradiction fun G=>c (z q G)⟩)).2);refine⟨idv,fun q=>K q∨idv.ownBlock=some q,rfl,fun q a=>.inl a,b2.mono (zh _),fun q a=>.inr a,⟨j,y,⟨v,p,i,c1,A,k,fun q a=>?_,Tn.refl _ _⟩,c2,c3,rfl⟩,⟨j,y,⟨v,p,i,c1,A,k,fun q a=>⟨(f q a).1,(c4 q (b1 q (g q a))).2,(f q a).2.2⟩,s.trans hT (fun _ _ h=>h) (fun q _ a H=>a (g q H).2)⟩,c2,c3,rfl⟩⟩;rcases a with a|a
 ·exact⟨(c4 q (b1 q (g q a))).1,(c4 q (b1 q (g q a))).2,(f q a).2.2⟩
 have w:=ac.lt b2 q a;exact⟨w.2,(c4 q (E q a)).2,Classical.byContradiction fun c=>by have:=r.lt q c;omega⟩
section
variable {ts:List T}
theorem vJ:∀{l:List cx} {L:List PT} {k:Nat} {ids:List Int},(dt ts L k ids l).ids.length<=ids.length+l.length
 | [],L,k,ids=>by rw[dt];exact zm _
 | o::l,L,k,ids=>by
  rw[dt];split
  ·refine zw vJ ?_;rw[xe];split
   ·rw[y8,List.length_singleton];omega
   ·omega
  ·exact zh _
theorem yS{L:List PT}{l:List cx}:(ak ts L l).ids.length<=l.length:=by
 unfold ak;split
 ·exact zh _
 have:=vJ (ts:=ts) (l:=l) (L:=L) (k:=0) (ids:=[])
 rw[vp,xq]at this;exact this
end
section
variable {W w w1:World}{K:Nat->Prop}{W0:World}{d b m:Nat}{ps:List Nat}{L1 L2:List PT}{tv:Value}{ops:List cx}
theorem yT(h:PD K W0 w d b (pre 4) ps L1 L2)(hb:Below w.heap.size w w1)(ho:ef w1 w.heap.size tv ops)(hok:∀o∈ops,ir o)(f:∀x∈L1,dw m x)(hm:m+ops.length<=590):Calls prog 58 #[.pointer (some ⟨d,0,none⟩),tv] w1 fun e w'=>∃p n c Kx,e=.returned (.tuple #[.slice p n c,bj (ak (pre 4) L1 ops).err (ak (pre 4) L1 ops).place (ak (pre 4) L1 ops).tbl 0 e0])/\n=(ak (pre 4) L1 ops).ids.length/\(∀q,(K q∨(w.heap.size<=q/\q<w1.heap.size))->Kx q/\w'.heap[q]?=w1.heap[q]?)/\Ro w' 0 (.slice p n c) (ak (pre 4) L1 ops).ids/\(∀q,(Value.slice p n c).ownBlock=some q->Kx q)/\ga Kx w' tv ops/\PD Kx w' w' d b (pre 4) ps (ak (pre 4) L1 ops).rows L2/\PD K W0 w' d b (pre 4) ps (ak (pre 4) L1 ops).rows L2:=by
 have l:=h.with hb;have i:ga (fun q=>K q∨(w.heap.size<=q/\q<w1.heap.size)) w1 tv ops:=ga.of ho (fun q f r=>.inr ⟨f,r⟩);refine(Js l i (bQ 4) aO cL f hm hok).mono ?_;rintro e w'⟨idv,Kx,rfl,j,k,s,t,g⟩;obtain⟨p,c,rfl,_,_⟩:=ac.isslice k;exact⟨p,_,c,Kx,rfl,rfl,fun q a=>⟨j q a,g.still a⟩,k,s,i.move j (fun q a=>g.still a),t,(h.later hb).back g (fun q a=>.inl a)⟩
theorem fU(h:PD K W0 w d b (pre 4) ps L1 L2)(hb:Below w.heap.size w w1)(ho:ef w1 w.heap.size tv ops)(hok:∀o∈ops,ir o)(h1:∀x∈L1,dw m x)(hm:m+ops.length<=590){R:List PT}{I:List Int}{er pl:Int}{t:ByteArray}{n:Nat}(hout:ak (pre 4) L1 ops=⟨R,I,er,pl,t⟩)(hn:I.length=n):Calls prog 58 #[.pointer (some ⟨d,0,none⟩),tv] w1 fun e w'=>∃p c Kx,e=.returned (.tuple #[.slice p n c,bj er pl t 0 e0])/\(∀q,(K q∨(w.heap.size<=q/\q<w1.heap.size))->Kx q/\w'.heap[q]?=w1.heap[q]?)/\Ro w' 0 (.slice p n c) I/\(∀q,(Value.slice p n c).ownBlock=some q->Kx q)/\PD Kx w' w' d b (pre 4) ps R L2/\PD K W0 w' d b (pre 4) ps R L2:=by
 have:=yT h hb ho hok h1 hm
 rw[hout]at this;refine this.mono ?_;rintro e w'⟨p,f,c,Kx,rfl,a,g,i,j,_,k,l⟩;have e:f=n:=a.trans hn;subst e;exact⟨p,c,Kx,rfl,g,i,j,k,l⟩
end
abbrev Aa:List cx:=[⟨1,an,0,e0,[(1,5,e0),(2,0,sA)]⟩,⟨3,an,0,lw,[(2,0,sB)]⟩]
abbrev Af:List cx:=[⟨2,an,0,e0,[]⟩,⟨2,an,0,e0,[]⟩]
abbrev Ch:List PT:=[(1,[(0,[(1,5,e0),(2,0,sB)])]),(0,[]),(0,[]),(0,[])]
abbrev BO:List PT:=[(1,[]),(0,[]),(0,[]),(0,[])]
theorem KO:ak (pre 4) Lz Aa=⟨Ch,[0],0,0,e0⟩:=by kernel_rfl
theorem Ik:ak (pre 4) Ch Af=⟨BO,[],6,1,an⟩:=by kernel_rfl
theorem Hh:ak (pre 4) BO []=⟨BO,[],5,0,e0⟩:=by kernel_rfl
theorem IA:∀x∈Ch,dw 1 x:=fun x a=>by
 have h:x=(1,[(0,[(1,5,e0),(2,0,sB)])])∨x=(0,[]):=(by simpa using a);rcases h with rfl|rfl
 ·exact⟨by decide,by decide⟩
 ·exact⟨by decide,by decide⟩
theorem EC:∀x∈BO,dw 1 x:=fun x a=>by
 have h:x=(1,[])∨x=(0,[]):=(by simpa using a);rcases h with rfl|rfl
 ·exact⟨by decide,by decide⟩
 ·exact⟨by decide,by decide⟩
theorem Fh:∀o∈Aa,ir o:=fun o a=>by
 have h:o=⟨1,an,0,e0,[(1,5,e0),(2,0,sA)]⟩∨o=⟨3,an,0,lw,[(2,0,sB)]⟩:=(by simpa using a);rcases h with rfl|rfl
 ·exact cM (by decide) (by decide) (by decide) (by decide)
 ·exact cM (by decide) (by decide) (by decide) (by decide)
theorem Fc:∀o∈Af,ir o:=fun o a=>by
 have h:o=⟨2,an,0,e0,[]⟩:=(by simpa using a);rcases h with rfl;exact cM (by decide) (by decide) (by decide) (by decide)
abbrev BR:Array Value:=#[.int .i64 1,.int .i64 5,.string e0,.int .i64 2,.int .i64 0,.string sA]
abbrev sd:Array Value:=#[.int .i64 2,.int .i64 0,.string sB]
abbrev BV(g1 g2:Nat):Array Value:=#[.int .i64 1,.string an,.int .i64 0,.string e0,.slice (some ⟨g1,0,none⟩) 2 2,.int .i64 3,.string an,.int .i64 0,.string lw,.slice (some ⟨g2,0,none⟩) 1 1]
abbrev Bp:Array Value:=#[.int .i64 2,.string an,.int .i64 0,.string e0,.slice none 0 0,.int .i64 2,.string an,.int .i64 0,.string e0,.slice none 0 0]
section
variable {W w w1 w3 w4:World}{K:Nat->Prop}{W0:World}{d b m:Nat}{ps:List Nat}{L1 L2:List PT}
theorem DV(h3:Below w.heap.size w w3)(h4:Below (w3.alloc (.cells BR 32)).heap.size (w3.alloc (.cells BR 32)) w4):Below w.heap.size w ((w4.alloc (.cells sd 32)).alloc (.cells (BV w3.heap.size w4.heap.size) 29))/\ef ((w4.alloc (.cells sd 32)).alloc (.cells (BV w3.heap.size w4.heap.size) 29)) w.heap.size (.slice (some ⟨w4.heap.size+1,0,none⟩) 2 2) Aa:=by
 have g:=aB h3 (aD w3 (.cells BR 32));have a:=z7 w3 (.cells BR 32);have d:=aB g h4;have a:=aE h4 a;have e:=aD w4 (.cells sd 32);have b:=z7 w4 (.cells sd 32);have c:=aD (w4.alloc (.cells sd 32)) (.cells (BV w3.heap.size w4.heap.size) 29);have f:=z7 (w4.alloc (.cells sd 32)) (.cells (BV w3.heap.size w4.heap.size) 29);have a:=aE c (aE e a);have b:=aE c b;have h:(w4.alloc (.cells sd 32)).heap.size=w4.heap.size+1:=zj _ _;have l3:=h3.size;have l4:=d.size;rw[h]at f;refine⟨aB (aB d e) c,fJ (v1:=.slice (some ⟨w3.heap.size,0,none⟩) 2 2) (v2:=.slice (some ⟨w4.heap.size,0,none⟩) 1 1) f rfl (by omega) ?_ ?_⟩
 ·exact ac.lit a rfl rfl l3 (by unfold maxLen;decide)
 exact ac.lit b rfl rfl l4 (by unfold maxLen;decide)
theorem H'(v:Array Value):Below w.heap.size w ((w.alloc (.cells v 39)).alloc (.cells Bp 29))/\ef ((w.alloc (.cells v 39)).alloc (.cells Bp 29)) w.heap.size (.slice (some ⟨w.heap.size+1,0,none⟩) 2 2) Af/\((w.alloc (.cells v 39)).alloc (.cells Bp 29)).heap[w.heap.size]?=some (.cells v 39):=by
 have b1:=aD w (.cells v 39);have b:=z7 w (.cells v 39);have b2:=aD (w.alloc (.cells v 39)) (.cells Bp 29);have a:=z7 (w.alloc (.cells v 39)) (.cells Bp 29);rw[zj]at a;exact⟨aB b1 b2,fJ (v1:=.slice none 0 0) (v2:=.slice none 0 0) a rfl (by omega) ac.nil ac.nil,aE b2 b⟩
end
theorem vK(W:World):Calls prog 88 #[] W fun e w'=>e=.returned (.bool true)/\Below W.heap.size W w':=by
 have i:=cP W;go_enter func88,ntmps88;go_upto_region 2 with (go_at_call 13;refine i.mono ?_;rintro e w1⟨d,b,ps,rfl,hP⟩;clear i)
 obtain⟨p0,p1,p2,p3,rfl⟩:∃p0 p1 p2 p3,ps=[p0,p1,p2,p3]:=by
  have:=hP.len.1
  match ps,this with
  | [a,b,c,d],_=>exact⟨a,b,c,d,rfl⟩
 have S:Calls prog 29 #[.pointer (some ⟨d,0,none⟩),.string an] w1 fun e w'=>e=.returned (.pointer (some ⟨p0,0,none⟩))/\w'=w1:=hP.table (j:=0) (by decide) (aO _ (z8 _)) (by decide:0<4)
 have b0:=aa hP;clear hP;go_upto_region 4 with (go_at_call 29;refine S.mono ?_;rintro e w2⟨rfl,hw⟩;subst w2;clear S);have x:=Eo 5 w1
 go_upto_region 5 with (first|(go_at_call 123;refine x.mono ?_;rintro e w2⟨rfl,U⟩;have H2:=aa U;have V:=uL sA w2;clear x U)|(go_at_call 124;(with_reducible refine V.mono ?_);rintro e w3⟨rfl,X⟩;have H3:=aa (aB H2.out X);clear V X)|(go_at_call 124;(with_reducible refine(uL _ _).mono ?_);rintro e w4⟨rfl,H⟩;have h:=fU b0.out (DV H3.out H).1 (DV H3.out H).2 Fh cD (by decide) KO (n:=1) rfl;clear H)|(go_at_call 58;refine h.mono ?_;rintro e y⟨pi,ci,K5,rfl,z,Y,Z,a0,a1⟩;have Q:=aa (ab Y (ab Z (ab a0 a1)));have I:=aa (fun q A=>(z q (.inl A)).1);clear h z Y Z a0 a1))
 have k:=H' (w:=y) zF;have h:=fU Q.2.2.1 k.1 k.2.1 Fc IA (by decide) Ik (n:=0) rfl;have a2:=aa k.2.2;have a3:=aa k.1;clear k;go_upto_region 6 with (go_at_call 58;refine h.mono ?_;rintro e R⟨pj,cj,K8,rfl,B,_,_,a4,a5⟩;have J:=aa (ab B (ab a4 a5));clear h B a4 a5);have L:=aD R (.cells #[.int .i64 6,.int .i64 1,.string an,.int .i64 0,.string e0] 39);have k9:=z7 R (.cells #[.int .i64 6,.int .i64 1,.string an,.int .i64 0,.string e0] 39);have h:=fU (ops:=[]) (tv:=.slice none 0 0) J.2.1 L ⟨[],rfl,ac.nil,fun j hj=>absurd hj (yo j)⟩ (fun o ho=>by cases ho) EC (by decide) Hh (n:=0) rfl;have H9:=aa (ab L k9);clear L k9;go_upto_region 7 with (go_at_call 58;refine h.mono ?_;rintro e l⟨pk,ck,b1,rfl,m,_,_,_,E⟩;have p:=aa (ab m E);clear h m E);have g:=aD l (.cells #[.int .i64 5,.int .i64 0,.string e0,.int .i64 0,.string e0] 39);have M:=z7 l (.cells #[.int .i64 5,.int .i64 0,.string e0,.int .i64 0,.string e0] 39);obtain⟨r,s⟩:=ag (l.alloc (.cells #[.int .i64 5,.int .i64 0,.string e0,.int .i64 0,.string e0] 39));rw[s]at g M;rw[s]
 have a6:r.heap[y.heap.size]?=some (.cells zF 39):=by
  have hl:y.heap.size<((y.alloc (.cells zF 39)).alloc (.cells Bp 29)).heap.size:=(by rw[zj,zj];omega);have e8:=J.1 y.heap.size (.inr ⟨zm _,hl⟩);have k8:=e8.2.trans a2.out;have t:=p.1 y.heap.size (.inl e8.1);exact aE g (t.2.trans (aE H9.1 k8))
 have a7:r.heap[R.heap.size]?=some (.cells #[.int .i64 6,.int .i64 1,.string an,.int .i64 0,.string e0] 39):=by
  have t:=p.1 R.heap.size (.inr ⟨zm _,aC H9.2⟩);exact aE g (t.2.trans H9.2)
 have a8:y.heap.size<=R.heap.size:=by
  obtain⟨_,_,⟨_,_,_,_,_,_,_,hT⟩,_⟩:=J.2.2;exact hT.size
 have u:Ro r 0 (.slice pi 1 ci) [0]:=(Q.1.of (w':=l) (fun q A=>by
  have hl:=(ac.lt Q.1 q A).2;have e8:=J.1 q (.inl (Q.2.1 q A));have t:=p.1 q (.inl e8.1);exact t.2.trans ((H9.1.block q (z9 hl a8)).trans (e8.2.trans (a3.out.block q hl))))).later g
 have F:Below W.heap.size W r:=aB (((Q.2.2.2.back J.2.2 I.out).back p.2 (fun q A=>(J.1 q (.inl (I.out q A))).1)).bel (zb _ _) (fun q A=>A)) g;have G:=lJ r;obtain⟨gi,b2,e,_,_⟩:=ac.slice u (by decide);cases e;have v:=aa (ab a6 (ab a7 (ab M (ab u F))));obtain⟨F1,N⟩:=ag y.heap.size;obtain⟨F2,O⟩:=ag R.heap.size;obtain⟨F3,P⟩:=ag l.heap.size;rw[N,O,P]at v;rw[N,O,P];clear a6 a7 M u F s g a8 N O P J H9 p Q I a2 a3;go_wp2_with (go_at_call 31;refine G.mono ?_;rintro e b3⟨rfl,f⟩;have c0:=aA (aE f v.1) 0;have d0:=aA (aE f v.2.1) 0;have d1:=aA (aE f v.2.1) 1;have d2:=aA (aE f v.2.1) 2;have f0:=aA (aE f v.2.2.1) 0;have l1:=aC (aE f v.1);have l2:=aC (aE f v.2.1);have l3:=aC (aE f v.2.2.1);have i0:=ac.cell (ac.later v.2.2.2.1 f) (j:=0) rfl;have a9:=aa (aB v.2.2.2.2 f);clear G f);go_ret;exact⟨rfl,a9.out⟩
