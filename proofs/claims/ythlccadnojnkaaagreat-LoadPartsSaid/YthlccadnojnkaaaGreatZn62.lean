import Derived.Test.YthlccadnojnkaaaGreatZn61
set_option maxHeartbeats 8000000
set_option maxRecDepth 100000
namespace Go.Proofs.YthlccadnojnkaaaGreat
open Go.Proofs.Tryz
open Go Go.RowKit Go.Proofs Co Co.S Par
theorem yR{W:World}{ts:List T}:∀{fs:List (Value×Value)},(∀j (h:j<ts.length) (h':j<fs.length),ey W fs[j].1 fs[j].2 ts[j])->∀u∈dx fs ts,u.oneCell'=true:=by
 intro fs h u b;unfold dx at b;rw[List.mem_flatMap]at b;obtain⟨p,d,a⟩:=b;obtain⟨k,e,rfl⟩:=xz d;rw[List.length_zip]at e;have c:=h k (by omega) (by omega);obtain⟨_,_,f,_⟩:=c.1.slice;obtain⟨_,_,g,_⟩:=c.2.slice;rw[List.getElem_zip]at a;simp only[f,g]at a;rcases List.mem_cons.1 a with rfl|a
 ·rfl
 rcases List.mem_cons.1 a with rfl|a
 ·rfl
 rcases List.mem_cons.1 a with rfl|a
 ·rfl
 rw[List.mem_singleton.1 a];rfl
theorem r6.start{W w4:World}{ts:List T}{tt:List RT}{fs:List (Value×Value)}{sv nv:Value}{nt:Nat}(hnt:ts.length=nt)(hb:Below W.heap.size W w4)(f4:ac w4 W.heap.size 77 4 sv nt (dx fs ts))(f9:ac w4 W.heap.size 3 1 nv nt (tt.map fun x=>.int .i64 (x.nx:Int))):∃c,r6 W (w4.alloc (.cells #[sv,.slice none 0 0,nv] 71)) w4.heap.size ts tt fs sv (.slice none 0 0) nv c []:=by
 subst hnt;have d:=z7 w4 (.cells #[sv,.slice none 0 0,nv] 71);have b:=aD w4 (.cells #[sv,.slice none 0 0,nv] 71);have l4:=(fun q a=>ac.lt f4 q a);have e:=(fun q a=>ac.lt f9 q a);have k:∀{u:Value} q,(u.ownBlock=some q)->W.heap.size<=q/\q<w4.heap.size->q≠w4.heap.size:=(fun{u} q _ h=>by omega);refine⟨fun q=>if q=w4.heap.size then 1 else if sv.ownBlock=some q then 2 else if nv.ownBlock=some q then 4 else 0,aB hb b,fun q a=>?_,d,(ac.mono f4 (zh _)).later b,(ac.mono f9 (zh _)).later b,ac.nil,fun _ _ h=>(by cases h),rfl,zv rfl,fun q a=>?_,fun q a=>(by cases a),fun q a=>?_⟩
 ·have a:(if q=w4.heap.size then 1 else if sv.ownBlock=some q then 2 else if nv.ownBlock=some q then 4 else 0)≠0:=a;have j:=aC d;by_cases f:q=w4.heap.size
  ·subst f;exact⟨hb.size,j⟩
  rw[zq f]at a;by_cases g:sv.ownBlock=some q
  ·have:=l4 q g;exact⟨this.1,by omega⟩
  rw[zq g]at a;by_cases i:nv.ownBlock=some q
  ·have:=e q i;exact⟨this.1,by omega⟩
  rw[zq i]at a;exact absurd rfl a
 ·show(if q=w4.heap.size then 1 else if sv.ownBlock=some q then 2 else _)=2
  have:=l4 q a
  rw[zq (by omega),zv a]
 show(if q=w4.heap.size then 1 else if sv.ownBlock=some q then 2 else if nv.ownBlock=some q then 4 else 0)=4
 have:=e q a
 rw[zq (by omega),zq (f9.apart f4 (by decide) a),zv a]
theorem ls.none{W:World}{t:T}{nx j:Nat}{O:Nat->Nat}:ls W t ⟨.slice none 0 0,nx,[],[]⟩ O j:=
 ⟨ac.nil,rfl,fun _ h=>(by cases h),fun _ _ h=>(by cases h),fun _ h=>(by cases h),List.Pairwise.nil,fun _ h=>(by cases h),fun _ h=>(by cases h),fun _ h=>(by cases h)⟩
section
variable {W:World}{b:Nat}{ts:List T}{tt:List RT}{i:NI}{Ob:Nat->Nat}
theorem GK(h:ew W b ts tt i Ob)(hAl:∀y∈tt,y.A.length<=100000)(h0:∀t∈ts,0<t.cols.length)(hc:∀t∈ts,t.cols.length<=1000)(hn0:0<ts.length)(hn1:ts.length<=1000):Calls prog 60 #[.pointer (some ⟨b,0,none⟩)] W fun e w'=>∃ob g0 i2 O2,e=.returned (.pointer (some ⟨ob,0,none⟩))/\ew w' ob ts g0 i2 O2/\g0.map bo=tt.map bo/\(∀q,O2 q≠0->W.heap.size<=q)/\Below W.heap.size W w':=by
 obtain⟨go,co,b5,_,_⟩:=h.outer.slice hn0;obtain⟨H,b6⟩:=ag ts.length;have R:=aC h.box;have c8:go<W.heap.size:=h.lt go (by rw[h.o3 go (by rw[b5];rfl)];decide);have e2:=yR h.rd;have x0:W.cell? ⟨b,0,none⟩=some i.sv:=aA h.box 0;have x1:W.cell? ⟨b,1,none⟩=some i.ov:=aA h.box 1;have x2:W.cell? ⟨b,2,none⟩=some i.nv:=aA h.box 2;rw[b5,b6]at x1
 have o:Hid (∀w,Below W.heap.size W w->b<w.heap.size/\w.cell? ⟨b,0,none⟩=some i.sv/\w.cell? ⟨b,2,none⟩=some i.nv):=aa (fun w hg =>
  ⟨z9 R hg.size,(za (w:=W) (hg.block b R)).trans x0,(za (w:=W) (hg.block b R)).trans x2⟩)
 have g2:Hid (∀w,Below W.heap.size W w->ac w 0 77 4 i.sv H (dx i.fs ts)/\ac w 0 3 1 i.nv H (tt.map fun x=>.int .i64 (x.nx:Int))):=aa (fun w hg=>by
  rw[<-b6];exact⟨(h.later hg).form,(h.later hg).nxs⟩)
 have HD:=aa (ab h e2);have B:=aa (ab h0 (ab hc (ab (show 0<H by omega) (ab (show H<=1000 by omega) (ab hAl b6)))));have HG:=aa (ab b5 (ab c8 (ab x1 R)));clear h h0 hc hn0 hn1 hAl b6 b5 c8 e2 x0 x1 x2 R;go_enter func60,ntmps60;go_upto_region 1 with fail;refine ay 11 (RJ W (fun e6=>[.pointer (some ⟨b,0,none⟩),.pointer (some ⟨b,0,none⟩),.pointer (some ⟨b,0,none⟩),i.sv,undef,.pointer (some ⟨b,0,none⟩),.pointer (some ⟨b,0,none⟩),.pointer (some ⟨b,2,none⟩),i.nv].getD e6 undef) H (dx i.fs ts) (tt.map fun x=>.int .i64 (x.nx:Int))) ?AA ?hmA ?hBA ?hAA ?hJA ?hopA ?hTA
 case hmA=>kernel_rfl
 case hBA=>kernel_rfl
 case hAA =>
  intro vs;simp only[am,ai,Act.put,cy,db,bt,cp,dc,da,bu];rfl
 case hJA =>
  intro vs;exact⟨aF W,fun _ _ _ _ h=>(by cases h),fun h=>(by cases h),fun h=>(by cases h),fun h=>(by cases h)⟩
 case hopA =>
  simp only[ce,ze,br,yu];and_intros<;>intro l vs w c Z f d
  ·have j:=aa c;obtain⟨r,v,z⟩:=o.out w c.bl;clear c f d;simp only[af];go_simp;all_goals exact j.out.up 0 (by decide)
  ·have j:=aa c;obtain⟨r,v,z⟩:=o.out w c.bl;have d0:vs 0=.pointer (some ⟨b,0,none⟩):=c.ev 0 (by decide) (by decide) (by decide) (f 0 (by kernel_rfl));clear c f d;simp only[af,d0];go_simp;all_goals exact j.out.up 1 (by decide)
  ·have j:=aa c;obtain⟨r,v,z⟩:=o.out w c.bl;have d1:vs 1=.pointer (some ⟨b,0,none⟩):=c.ev 1 (by decide) (by decide) (by decide) (f 1 (by kernel_rfl));clear c f d;simp only[af,d1];go_simp;all_goals exact j.out.up 2 (by decide)
  ·have j:=aa c;obtain⟨r,v,z⟩:=o.out w c.bl;have d2:vs 2=.pointer (some ⟨b,0,none⟩):=c.ev 2 (by decide) (by decide) (by decide) (f 2 (by kernel_rfl));clear c f d;simp only[af,d2];go_simp;all_goals exact j.out.up 3 (by decide)
  ·have e7:l 10=false:=(by cases h:l 10 with|false=>rfl|true=>exact absurd (d 10 4 (by kernel_rfl) h) (by simp[Z]));have d3:vs 3=i.sv:=c.ev 3 (by decide) (by decide) (by decide) (f 3 (by kernel_rfl));obtain⟨v',w6,E,a0,S⟩:=D' underlying68 Dy rfl (by decide) (by decide) w (g2.out w c.bl).1 B.2.2.1 (by have:=B.out;omega) HD.2;exact bf rfl (.const (.slice none 0 0)) (.tmp 10) 68 68 rfl rfl d3 E (c.s4 e7 a0 S)
  ·have j:=aa c;obtain⟨r,v,z⟩:=o.out w c.bl;clear c f d;simp only[af];go_simp;all_goals exact j.out.up 5 (by decide)
  ·have j:=aa c;obtain⟨r,v,z⟩:=o.out w c.bl;have d5:vs 5=.pointer (some ⟨b,0,none⟩):=c.ev 5 (by decide) (by decide) (by decide) (f 5 (by kernel_rfl));clear c f d;simp only[af,d5];go_simp;all_goals exact j.out.up 6 (by decide)
  ·have j:=aa c;obtain⟨r,v,z⟩:=o.out w c.bl;have d6:vs 6=.pointer (some ⟨b,0,none⟩):=c.ev 6 (by decide) (by decide) (by decide) (f 6 (by kernel_rfl));clear c f d;simp only[af,d6];go_simp;all_goals exact j.out.up 7 (by decide)
  ·have j:=aa c;obtain⟨r,v,z⟩:=o.out w c.bl;have d7:vs 7=.pointer (some ⟨b,2,none⟩):=c.ev 7 (by decide) (by decide) (by decide) (f 7 (by kernel_rfl));clear c f d;simp only[af,d7];go_simp;all_goals exact j.out.up 8 (by decide)
  ·have e7:l 10=false:=(by cases h:l 10 with|false=>rfl|true=>exact absurd (d 10 9 (by kernel_rfl) h) (by simp[Z]));have d8:vs 8=i.nv:=c.ev 8 (by decide) (by decide) (by decide) (f 8 (by kernel_rfl));obtain⟨v',w6,E,a0,S⟩:=D' underlying45 DC rfl (by decide) (by decide) w (g2.out w c.bl).2 B.2.2.1 (by have:=B.out;omega) (by intro u hu;obtain⟨y,_,rfl⟩:=List.mem_map.1 hu;rfl);exact bf rfl (.const (.slice none 0 0)) (.tmp 15) 45 45 rfl rfl d8 E (c.s9 e7 a0 S)
  obtain⟨p4,c4,e4⟩:=c.v4 (f 4 (by kernel_rfl));obtain⟨p9,c9,e9⟩:=c.v9 (f 9 (by kernel_rfl));have j:=aa c.s10;rw[e4,e9]at j;clear c f d;simp only[af,e4,e9];go_simp;all_goals exact j.out
 intro l vs w4 Z c;simp only[cw,ym];obtain⟨p4,c4,e4⟩:=c.v4 (Z 4 (by decide));obtain⟨p9,c9,e9⟩:=c.v9 (Z 9 (by decide));have e8:=c.f10 (Z 10 (by decide));have f4:=c.f4 (Z 4 (by decide));have f9:=c.f9 (Z 9 (by decide));rw[e4,e9]at e8;rw[e4]at f4;rw[e9]at f9;have g3:=c.bl;simp only[e8];generalize vs 0=s0;generalize vs 1=s1;generalize vs 2=s2;generalize vs 3=s3;generalize vs 5=s5;generalize vs 6=s6;generalize vs 7=s7;generalize vs 8=s8;simp only[e4,e9];clear c Z e4 e9 e8;go_upto_region 2 with fail;have b7:=r6.start (ts:=ts) (tt:=tt) (fs:=i.fs) B.2.2.2.2.2 g3 f4 f9;generalize w4.alloc _=w5 at b7 ⊢;generalize w4.heap.size=O at b7 ⊢;have i0:=aa b7;clear b7 f4 f9 g3;go_wp2_with fail;go_loopg [4] (H+1) (fun gh iv w=>∃(F:Nat) (ov:Value) (I:Nat->Nat) (cs:List RT),iv=.int .i64 (F:Int)/\F<=H/\H+1<=F+gh/\cs.length=F/\r6 W w O ts tt i.fs (.slice p4 H c4) ov (.slice p9 H c9) I cs)
 case atStart =>
  obtain⟨I,h1⟩:=i0.out;exact⟨0,_,I,[],rfl,zh _,by omega,rfl,h1⟩
 obtain⟨F,ov,I,cs,rfl,k4,hg,f1,p⟩:=hrel;by_cases i1:F<H
 ·have k2:(F:Int)<(H:Int):=(by omega);have k3:(H:Int)<=1000:=(by have:=B.2.2.2.1;omega);have b8:F<ts.length:=(by rw[B.2.2.2.2.2];exact i1);have f2:F<tt.length:=(by rw[HD.1.n];exact b8);obtain⟨y,hy⟩:=ag (tt[F]);have f3:tt[F]?=some y:=(by rw[z6 f2,hy]);have f5:y∈tt:=(by rw[<-hy];exact z8 f2);obtain⟨T0,b9⟩:=ag (ts[F]);have g5:T0∈ts:=(by rw[<-b9];exact z8 b8);have c0:=HD.1.ok b8 f3;rw[b9]at c0;obtain⟨pr,cr,J,_,_⟩:=c0.rows.isslice;obtain⟨n,hn⟩:=ag y.A.length;have k5:(n:Int)<=100000:=(by have:=B.2.2.2.2.1 y f5;omega);rw[hn]at J;have a6:=HD.1.outer;rw[HG.1]at a6
  have o3:W.cell? ⟨go,F,none⟩=some (.slice pr n cr):=by
   rw[<-J];exact a6.cell (by rw[xm,f3];rfl)
  have HO:=aa (ab HG.2.1 (ab o3 (ab HG.2.2.1 (ab HG.2.2.2 J))));have HN:=aa (ab hn (B.2.2.2.2.1 y f5));have U:=aa (ab b8 (ab f2 (ab hy (ab b9 (ab g5 (ab c0 f1))))));clear a6 J o3 hn f3 f5 c0 hy b9 g5 f1;obtain⟨o2,o3,o4,R,J⟩:=HO.out;have x1:=(za (w:=W) (p.bl.block b R)).trans o4;have R:=z9 R p.bl.size;have i3:=aa p;clear o2 o3 o4 J p
  go_upto_block 2 with fail
  go_cut [5]from 300 to 300 (fun lv wx=>∃I vl,r6 W wx O ts tt i.fs (.slice p4 H c4) ov (.slice p9 H c9) I cs/\ls wx T0 ⟨lv,y.nx,y.A,vl⟩ I F)
  case first =>
   clear x1 R;go_wp2_with fail;go_loopg [5,6] (n+1) (fun gh l0 kv w=>∃(k:Nat) (vs:List Value) (lv:Value) (I:Nat->Nat),lv=l0/\kv=.int .i64 (k:Int)/\k<=n/\n+1<=k+gh/\r6 W w O ts tt i.fs (.slice p4 H c4) ov (.slice p9 H c9) I cs/\ls w T0 ⟨lv,y.nx,y.A.take k,vs⟩ I F)
   case atStart=>exact⟨0,[],_,I,rfl,rfl,zh _,by omega,i3.out,ls.none⟩
   obtain⟨k,vl,lv,lb,rfl,rfl,hk,hg,p,hK⟩:=hrel;obtain⟨o2,o3,o4,R,J⟩:=HO.out;have x1:=(za (w:=W) (p.bl.block b R)).trans o4;have x2:=(za (w:=W) (p.bl.block go o2)).trans o3;have R:=z9 R p.bl.size;have gl:=z9 o2 p.bl.size;by_cases g6:k<n
   ·have k6:(k:Int)<(n:Int):=(by omega);have a1:k<y.A.length:=(by rw[HN.1];exact g6);have V:=(HD.1.later p.bl).ok U.1 (y:=y) (by rw[z6 U.2.1,U.2.2.1]);rw[U.2.2.2.1]at V;have g8:k<y.vs.length:=(by rw[V.n];exact a1);have s:=V.rows;rw[HN.1]at s;obtain⟨gr,k7,e1,_,_⟩:=s.slice (by omega);rw[J]at e1;cases e1;rw[J]at s;have G:=V.vals k a1 g8;have a2:=V.len _ (z8 a1);have a7:=V.rng _ (z8 a1)
    have a8:∀x∈y.A.take k,x.1<y.A[k].1:=by
     have h1:=V.srt;rw[<-uo k y.A,ve]at h1;exact fun x hx=>h1.2.2 x hx _ (by rw[vw a1];exact List.mem_cons_self)
    obtain⟨c1,c2⟩:=dI V.n a1;have z1:=s.cell c1;have z2:=s.cell c2;have zg:=(ac.lt s gr rfl).2;obtain⟨gv,cv,ev,_,_⟩:=G.slice (by rw[a2];exact B.1 _ U.2.2.2.2.1);obtain⟨a,ha⟩:=ag (y.A[k]);obtain⟨m,hm⟩:=ag a.2.length;rw[ev]at z2 G;rw[ha]at z1 z2 G a2 a7 a8;rw[hm]at z2 G a2;have g9:0<m/\m<=1000:=(by have q1:=B.1 _ U.2.2.2.2.1;have q2:=B.2.1 _ U.2.2.2.2.1;omega);have HA:=aa (ab ha (ab hm (ab g9 (ab G (ab a2 (ab a7 a8))))));have a9:∀w q,wr.grownBy w lv.ownBlock->q<W.heap.size->w.heap[q]?=wr.heap[q]?:=fun w q X hq=>X.block q (z9 hq p.bl.size) (fun e=>by have h1:=hK.orv q e.symm;have:=(p.lo q (by rw[h1];omega)).1;omega)
    have b0:gr<W.heap.size:=by
     have:=U.2.2.2.2.2.1.rows
     rw[J]at this;exact(ac.lt this gr rfl).2
    have h2:=HO.2.2.2.1
    have o:Hid (∀w,wr.grownBy w lv.ownBlock->(b<w.heap.size/\go<w.heap.size)/\gr<w.heap.size/\w.cell? ⟨b,1,none⟩=some (.slice (some ⟨go,0,none⟩) H co)/\w.cell? ⟨go,F,none⟩=some (.slice (some ⟨gr,0,none⟩) n cr)/\w.cell? ⟨gr,k*2,none⟩=some (.int .i64 a.1)/\w.cell? ⟨gr,k*2+1,none⟩=some (.slice (some ⟨gv,0,none⟩) m cv)/\True):=aa (fun w X =>
     ⟨⟨z9 R X.size,z9 gl X.size⟩,z9 zg X.size,(za (w:=wr) (a9 w b X h2)).trans x1,(za (w:=wr) (a9 w go X o2)).trans x2,(za (w:=wr) (a9 w gr X b0)).trans z1,(za (w:=wr) (a9 w gr X b0)).trans z2,trivial⟩)
    obtain⟨Ak,c5⟩:=ag (y.A.take k);have e3:Ak.length<=100000:=(by rw[<-c5,we];omega);rw[c5]at hK;have HC:=aa (ab p hK);have HK:=aa (ab c5 e3);clear o2 o3 o4 J p hK c5 e3 V g8 s G a2 a7 a8 c1 c2 z1 z2 zg ev ha hm g9 a9 b0 h2;go_upto_region 9 with fail;clear x1 x2 R gl
    refine ay 27 (KJ wr (fun e6=>[lv,.pointer (some ⟨b,0,none⟩),.pointer (some ⟨b,0,none⟩),.pointer (some ⟨b,1,none⟩),.slice (some ⟨go,0,none⟩) H co,.int .i64 (F:Int),.pointer (some ⟨go,F,none⟩),.slice (some ⟨gr,0,none⟩) n cr,.int .i64 (k:Int),.pointer (some ⟨gr,k*2,none⟩),.pointer (some ⟨gr,k*2,none⟩),.int .i64 a.1,
     (.pointer (some ⟨b,0,none⟩)),.pointer (some ⟨b,0,none⟩),.pointer (some ⟨b,1,none⟩),.slice (some ⟨go,0,none⟩) H co,.int .i64 (F:Int),.pointer (some ⟨go,F,none⟩),.slice (some ⟨gr,0,none⟩) n cr,.int .i64 (k:Int),.pointer (some ⟨gr,k*2,none⟩),.pointer (some ⟨gr,k*2+1,none⟩),.slice (some ⟨gv,0,none⟩) m cv].getD e6 undef) lv Ak.length (az Ak vl) a.1 a.2) ?AB ?hmB ?hBB ?hAB ?hJB ?hopB ?hTB
    case hmB=>kernel_rfl
    case hBB=>kernel_rfl
    case hAB =>
     intro vs;simp only[am,ai,Act.put,cy,db,bt,cp,dc,da,bu];rfl
    case hJB =>
     intro vs;have f:=aF wr;exact⟨cZ f,fun _=>f,fun _ _ h=>(by cases h),fun h=>(by cases h),fun h=>(by cases h),fun h=>(by cases h),fun h=>(by cases h)⟩
    case hopB =>
     simp only[ce,ze,br,yu];and_intros<;>intro l vs w c Z f d
     ·have j:=aa c;obtain⟨⟨r,L⟩,v,z,M,N,P,Q⟩:=o.out w c.gb;clear c f d;simp only[af];go_simp;all_goals exact j.out.up 0 (by decide)
     ·have j:=aa c;obtain⟨⟨r,L⟩,v,z,M,N,P,Q⟩:=o.out w c.gb;clear c f d;simp only[af];go_simp;all_goals exact j.out.up 1 (by decide)
     ·have j:=aa c;obtain⟨⟨r,L⟩,v,z,M,N,P,Q⟩:=o.out w c.gb;have d1:vs 1=.pointer (some ⟨b,0,none⟩):=c.ev 1 (by decide) (f 1 (by kernel_rfl));clear c f d;simp only[af,d1];go_simp;all_goals exact j.out.up 2 (by decide)
     ·have j:=aa c;obtain⟨⟨r,L⟩,v,z,M,N,P,Q⟩:=o.out w c.gb;have d2:vs 2=.pointer (some ⟨b,0,none⟩):=c.ev 2 (by decide) (f 2 (by kernel_rfl));clear c f d;simp only[af,d2];go_simp;all_goals exact j.out.up 3 (by decide)
     ·have j:=aa c;obtain⟨⟨r,L⟩,v,z,M,N,P,Q⟩:=o.out w c.gb;have d3:vs 3=.pointer (some ⟨b,1,none⟩):=c.ev 3 (by decide) (f 3 (by kernel_rfl));clear c f d;simp only[af,d3];go_simp;all_goals exact j.out.up 4 (by decide)
     ·have j:=aa c;obtain⟨⟨r,L⟩,v,z,M,N,P,Q⟩:=o.out w c.gb;clear c f d;simp only[af];go_simp;all_goals exact j.out.up 5 (by decide)
     ·have j:=aa c;obtain⟨⟨r,L⟩,v,z,M,N,P,Q⟩:=o.out w c.gb;have d4:vs 4=.slice (some ⟨go,0,none⟩) H co:=c.ev 4 (by decide) (f 4 (by kernel_rfl));have d5:vs 5=.int .i64 (F:Int):=c.ev 5 (by decide) (f 5 (by kernel_rfl));clear c f d;simp only[af,d4,d5];go_simp;all_goals exact j.out.up 6 (by decide)
     ·have j:=aa c;obtain⟨⟨r,L⟩,v,z,M,N,P,Q⟩:=o.out w c.gb;have d6:vs 6=.pointer (some ⟨go,F,none⟩):=c.ev 6 (by decide) (f 6 (by kernel_rfl));clear c f d;simp only[af,d6];go_simp;all_goals exact j.out.up 7 (by decide)
     ·have j:=aa c;obtain⟨⟨r,L⟩,v,z,M,N,P,Q⟩:=o.out w c.gb;clear c f d;simp only[af];go_simp;all_goals exact j.out.up 8 (by decide)
     ·have j:=aa c;obtain⟨⟨r,L⟩,v,z,M,N,P,Q⟩:=o.out w c.gb;have d7:vs 7=.slice (some ⟨gr,0,none⟩) n cr:=c.ev 7 (by decide) (f 7 (by kernel_rfl));have d8:vs 8=.int .i64 (k:Int):=c.ev 8 (by decide) (f 8 (by kernel_rfl));clear c f d;simp only[af,d7,d8];go_simp;all_goals exact j.out.up 9 (by decide)
     ·have j:=aa c;obtain⟨⟨r,L⟩,v,z,M,N,P,Q⟩:=o.out w c.gb;have d9:vs 9=.pointer (some ⟨gr,k*2,none⟩):=c.ev 9 (by decide) (f 9 (by kernel_rfl));clear c f d;simp only[af,d9];go_simp;all_goals exact j.out.up 10 (by decide)
     ·have j:=aa c;obtain⟨⟨r,L⟩,v,z,M,N,P,Q⟩:=o.out w c.gb;have i4:vs 10=.pointer (some ⟨gr,k*2,none⟩):=c.ev 10 (by decide) (f 10 (by kernel_rfl));clear c f d;simp only[af,i4];go_simp;all_goals exact j.out.up 11 (by decide)
     ·have j:=aa c;obtain⟨⟨r,L⟩,v,z,M,N,P,Q⟩:=o.out w c.gb;clear c f d;simp only[af];go_simp;all_goals exact j.out.up 12 (by decide)
     ·have j:=aa c;obtain⟨⟨r,L⟩,v,z,M,N,P,Q⟩:=o.out w c.gb;have i5:vs 12=.pointer (some ⟨b,0,none⟩):=c.ev 12 (by decide) (f 12 (by kernel_rfl));clear c f d;simp only[af,i5];go_simp;all_goals exact j.out.up 13 (by decide)
     ·have j:=aa c;obtain⟨⟨r,L⟩,v,z,M,N,P,Q⟩:=o.out w c.gb;have i6:vs 13=.pointer (some ⟨b,0,none⟩):=c.ev 13 (by decide) (f 13 (by kernel_rfl));clear c f d;simp only[af,i6];go_simp;all_goals exact j.out.up 14 (by decide)
     ·have j:=aa c;obtain⟨⟨r,L⟩,v,z,M,N,P,Q⟩:=o.out w c.gb;have i7:vs 14=.pointer (some ⟨b,1,none⟩):=c.ev 14 (by decide) (f 14 (by kernel_rfl));clear c f d;simp only[af,i7];go_simp;all_goals exact j.out.up 15 (by decide)
     ·have j:=aa c;obtain⟨⟨r,L⟩,v,z,M,N,P,Q⟩:=o.out w c.gb;clear c f d;simp only[af];go_simp;all_goals exact j.out.up 16 (by decide)
     ·have j:=aa c;obtain⟨⟨r,L⟩,v,z,M,N,P,Q⟩:=o.out w c.gb;have i8:vs 15=.slice (some ⟨go,0,none⟩) H co:=c.ev 15 (by decide) (f 15 (by kernel_rfl));have i9:vs 16=.int .i64 (F:Int):=c.ev 16 (by decide) (f 16 (by kernel_rfl));clear c f d;simp only[af,i8,i9];go_simp;all_goals exact j.out.up 17 (by decide)
     ·have j:=aa c;obtain⟨⟨r,L⟩,v,z,M,N,P,Q⟩:=o.out w c.gb;have j0:vs 17=.pointer (some ⟨go,F,none⟩):=c.ev 17 (by decide) (f 17 (by kernel_rfl));clear c f d;simp only[af,j0];go_simp;all_goals exact j.out.up 18 (by decide)
     ·have j:=aa c;obtain⟨⟨r,L⟩,v,z,M,N,P,Q⟩:=o.out w c.gb;clear c f d;simp only[af];go_simp;all_goals exact j.out.up 19 (by decide)
     ·have j:=aa c;obtain⟨⟨r,L⟩,v,z,M,N,P,Q⟩:=o.out w c.gb;have j1:vs 18=.slice (some ⟨gr,0,none⟩) n cr:=c.ev 18 (by decide) (f 18 (by kernel_rfl));have j2:vs 19=.int .i64 (k:Int):=c.ev 19 (by decide) (f 19 (by kernel_rfl));clear c f d;simp only[af,j1,j2];go_simp;all_goals exact j.out.up 20 (by decide)
     ·have j:=aa c;obtain⟨⟨r,L⟩,v,z,M,N,P,Q⟩:=o.out w c.gb;have j3:vs 20=.pointer (some ⟨gr,k*2,none⟩):=c.ev 20 (by decide) (f 20 (by kernel_rfl));clear c f d;simp only[af,j3];go_simp;all_goals exact j.out.up 21 (by decide)
     ·have j:=aa c;obtain⟨⟨r,L⟩,v,z,M,N,P,Q⟩:=o.out w c.gb;have j4:vs 21=.pointer (some ⟨gr,k*2+1,none⟩):=c.ev 21 (by decide) (f 21 (by kernel_rfl));clear c f d;simp only[af,j4];go_simp;all_goals exact j.out.up 22 (by decide)
     ·have b1:l 24=false:=(by cases h:l 24 with|false=>rfl|true=>exact absurd (d 24 23 (by kernel_rfl) h) (by simp[Z]));have a3:l 25=false:=(by cases h:l 25 with|false=>rfl|true=>exact absurd (d 25 24 (by kernel_rfl) h) (by simp[b1]));have a5:l 26=false:=(by cases h:l 26 with|false=>rfl|true=>exact absurd (d 26 25 (by kernel_rfl) h) (by simp[a3]));have j5:vs 22=.slice (some ⟨gv,0,none⟩) m cv:=c.ev 22 (by decide) (f 22 (by kernel_rfl));obtain⟨g1,k1,w6,E,j6,S⟩:=mZ (eb.jk (HA.2.2.2.1.later (c.f0 a5)) HA.2.1.symm.symm) (by have:=HA.2.1;have:=HA.2.2.1;omega) (by have:=HA.2.1;have:=HA.2.2.1;omega);exact bf rfl (.const (.slice none 0 0)) (.tmp 62) 27 27 rfl rfl j5 E (c.Hc b1 a3 a5 j6 S)
     ·have a3:l 25=false:=(by cases h:l 25 with|false=>rfl|true=>exact absurd (d 25 24 (by kernel_rfl) h) (by simp[Z]));have a5:l 26=false:=(by cases h:l 26 with|false=>rfl|true=>exact absurd (d 26 25 (by kernel_rfl) h) (by simp[a3]));have j7:vs 11=.int .i64 a.1:=c.ev 11 (by decide) (f 11 (by kernel_rfl));obtain⟨g4,c4,Y,a4,b2⟩:=c.f23 (f 23 (by kernel_rfl));have j:=aa (c.s24 a3 a5);rw[Y]at j;clear c f d a4;simp only[af,j7,Y];go_simp;all_goals exact j.out
     ·have a5:l 26=false:=(by cases h:l 26 with|false=>rfl|true=>exact absurd (d 26 25 (by kernel_rfl) h) (by simp[Z]));have b1:=f 24 (by kernel_rfl);have h3:=c.f24 b1;have b3:=d 24 23 (by kernel_rfl) b1;obtain⟨g4,c4,Y,a4,b2⟩:=c.f23 b3;have j:=aa (c.Cp b3 a5);rw[Y]at j h3;clear c f d a4;simp only[af,h3];go_simp;all_goals exact j.out
     have a3:=f 25 (by kernel_rfl);have b3:=d 24 23 (by kernel_rfl) (d 25 24 (by kernel_rfl) a3);obtain⟨y,rfl,j8,hy,h4⟩:=c.f25 a3 Z;obtain⟨g4,c4,Y,a4,b2⟩:=c.f23 b3;have d0:vs 0=lv:=c.ev 0 (by decide) (f 0 (by kernel_rfl));have h5:ac wr 0 99 2 lv Ak.length (az Ak vl):=HC.2.rows;obtain⟨g,cg,w6,E,a0,b4,c6⟩:=zZ y (h5.later hy) (by have:=HK.2;omega) a.1 (vs 23) (by rw[Y];rfl);exact bf rfl (.tmp 40) (.tmp 65) 92 92 rfl d0 j8 E (c.G4 b3 h5 rfl hy h4 rfl a0 b4 c6)
    intro l vs w4 Z c;simp only[cw,ym];obtain⟨g4,c4,Y,a4,b2⟩:=c.f23 (Z 23 (by decide));obtain⟨g7,c7,h6,f6,h7,f7⟩:=c.f26 (Z 26 (by decide));rw[Y]at f6 f7;have h8:=HC.1.round U.2.2.2.2.2.2 HC.2 (a:=a) a4 (by rw[HA.2.1];exact HA.2.2.2.2.1) f6 c.gb h7 (fun q hq=>⟨by cases hq;exact b2,f7 q hq⟩) (by rw[<-HK.1];exact HA.2.2.2.2.2.2) HA.2.2.2.2.2.1;have HR:=aa h8;simp only[h6];clear h8 c Z Y a4 b2 f6 h7 f7 h6;go_wp2_with fail;go_roundg (n-k)
    case measure=>omega
    have a1:k<y.A.length:=(by rw[HN.1];exact g6);have et:y.A.take (k+1)=y.A.take k++[a]:=(by rw[List.take_add_one,z6 a1,HA.1];rfl);rw[HK.1]at et;obtain⟨f8,u1,u2⟩:=HR.out;exact⟨k+1,_,_,f8,rfl,by go_num,by omega,by omega,u1,by rw[et];exact u2⟩
   obtain rfl:k=n:=(by omega);have HC:=aa (ab p hK);clear J o2 o3 o4 p hK;go_wp2_with fail;go_meet;have h1:=HC.2;rw[yy (by have:=HN.1;omega)]at h1;exact⟨lb,vl,HC.1,h1⟩
  obtain⟨lb,vl,p,hK⟩:=hcut;have j9:ac wc 0 99 2 u5 y.A.length (az y.A vl):=hK.rows;obtain⟨pl,cl,k0,_,_⟩:=j9.isslice;subst k0;obtain⟨pv,cv,rfl,_,_⟩:=p.outer.isslice;have r:=aA p.box 1;have yl:=aC p.box;obtain⟨g,cg,w6,E,a0,b4,c6⟩:=jr underlying69 (ty:=69) DZ rfl (by decide) (by decide) wc 0 p.outer (by have:=U.2.2.2.2.2.2;have:=B.2.2.2.1;omega) (zh _) #[.slice pl y.A.length cl] rfl (by intro u hu;rw[List.mem_singleton.1 hu];rfl);have e5:(Value.slice pv cs.length cv).ownBlock≠some O:=(fun e=>by have:=p.o3 O e;rw[p.o1]at this;cases this);have S:w6.heap[O]?=some (.cells #[.slice p4 H c4,.slice pv cs.length cv,.slice p9 H c9] 71):=(b4.block O yl (fun e=>e5 e.symm)).trans p.box;have h9:=p.more (x:=⟨.slice pl y.A.length cl,y.nx,y.A,vl⟩) (by rw[U.2.2.2.2.2.2];exact U.1) (by rw[U.2.2.2.2.2.2];exact U.2.1) (by simp only[U.2.2.2.2.2.2,U.2.2.2.1];exact hK) (by simp only[U.2.2.2.2.2.2,U.2.2.1]) a0 b4 c6;have u1:=aA S 1;have u2:=aC S;have u3:=zo w6 O 1 _ _ S;have HS:=aa h9;clear p hK a0 b4 S h9 x1 R c6 e5;go_wp2_with (at_builtin;refine aK rfl (.tmp 71) (.tmp 73) 69 rfl rfl rfl E ?_);go_roundg (H-F)
  case measure=>omega
  obtain⟨f8,u1⟩:=HS.out;exact⟨F+1,_,f8,_,by go_num,by omega,by omega,by rw[y8,U.2.2.2.2.2.2];rfl,u1⟩
 obtain rfl:F=H:=(by omega);have HF:=aa (r6.fin HD.1 p (f1.trans B.2.2.2.2.2.symm));have HL:=aa (ab (fun q hq=>(p.lo q hq).1) p.bl);obtain⟨_,_,x1,R⟩:=HG.out;have x1:=(za (w:=W) (p.bl.block b R)).trans x1;have R:=z9 R p.bl.size;clear p;go_wp2_with fail;go_ret;obtain⟨q1,q2⟩:=HF.out;exact⟨O,_,_,I,rfl,q1,q2,HL.1,HL.2⟩
end
