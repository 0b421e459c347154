import Derived.Test.YthlccadnojnkaaaGreatZn42
set_option maxHeartbeats 8000000
set_option maxRecDepth 100000
namespace Go.Proofs.YthlccadnojnkaaaGreat
open Go.Proofs.Tryz
open Go Go.RowKit Go.Proofs Co Co.S Par
abbrev TT:Nat->Prop:=fun _=>True
theorem yD{c:C}{x:ByteArray}{b:Nat}{w:World}(h:w.cell? ⟨b,0,none⟩=some (.string x)):Calls prog 177 #[uv c,.pointer (some ⟨b,0,none⟩)] w fun e d=>e=.returned (.bool (ns x c))/\Below w.heap.size w d:=by
 have f:b<w.heap.size:=xn w ⟨b,0,none⟩ h;have a:(c.nm.toList==x.toList)=ns x c:=(by rw[aR];rfl);generalize ns x c=r at a ⊢;unfold uv;go_enter func177,ntmps177
 go_wp2
 go_ret;exact⟨rfl,aD w _⟩
theorem Fy{l:List C}{v:Value}{x:ByteArray}{b:Nat}{W:World}(h:fu W v l)(hb:W.cell? ⟨b,0,none⟩=some (.string x)):Calls prog 113 #[v,.func (.func 177) #[] #[.pointer (some ⟨b,0,none⟩)]] W fun e H=>e=.returned (.int .i64 (gx l x))/\Below W.heap.size W H:=by
 obtain⟨pc,cc,p,I,J⟩:=h.slice;obtain⟨n,u⟩:=ag l.length;unfold maxLen at J;rw[u]at p I;subst p;have q:b<W.heap.size:=xn W ⟨b,0,none⟩ hb;have y:=aa u;have z:=aa (ab h (ab hb q));have F:=enters_of func177 (by kernel_rfl) rfl;clear h hb u q;go_enter func113,ntmps113;go_wp2_with fail;go_loopg [8] (n+1) (fun L M w=>∃(j:Nat),M=.int .i64 (j:Int)/\j<=n/\n+1<=j+L/\(∀i (h:i<l.length),i<j->ns x l[i]=false)/\Below W.heap.size W w)
 case atStart=>exact⟨0,rfl,zh _,by omega,fun i _ k=>by omega,zb _ _⟩
 obtain⟨j,rfl,S,U,r,t⟩:=hrel;have m:=aa (ab r t);by_cases s:j<n
 ·have A:j<l.length:=(by rw[y.out];exact s);obtain⟨bc,N,rfl,O,c0,c1,c2,c3⟩:=fu.col (z.1.later t) A;have d:wr.cell? ⟨b,0,none⟩=some (.string x):=(za (w:=W) (t.block b z.2.2)).trans z.2.1;have a:=yD (c:=l[j]) d;obtain⟨c,f⟩:=ag (l[j]);rw[f]at c0 c1 c2 c3 a;have G:=aa f;have P:(j:Int)<(n:Int):=(by omega);clear f r t d;unfold uv at a;cases o:ns x c
  ·have B:=aa o;rw[o]at a;clear o;go_wp2_with (go_at_call 177;refine a.mono ?_;rintro e Q⟨rfl,g⟩);have E:=aa g;go_roundg (n-j)
   case measure=>omega
   refine⟨j+1,by go_num,by omega,by omega,fun i k R=>?_,aB m.2 E.out⟩;by_cases e:i=j
   ·subst e;rw[G.out];exact B.out
   exact m.1 i k (by omega)
  have B:=aa o;rw[o]at a;clear o;go_wp2_with (go_at_call 177;refine a.mono ?_;rintro e Q⟨rfl,g⟩);go_ret;exact⟨aQ (wY j (by rw[y.out];exact s) (by rw[G.out];exact B.out) (fun i k=>m.1 i _ k)).symm,aB m.2 g⟩
 go_wp2_with fail;go_ret;exact⟨aQ (mQ (fun i k=>m.1 i k (by have:=y.out;omega))).symm,m.2⟩
theorem eb.cells{w:World}{p:Option Addr}{n c k:Nat}{A:List T3}(h:eb TT w (.slice p n c) A)(hk:k<A.length):∃b a,p=some ⟨b,a,none⟩/\∀d,Below w.heap.size w d->d.cell? ⟨b,a+k*3,none⟩=some (.int .i64 (A.getD k z3).1)/\d.cell? ⟨b,a+k*3+1,none⟩=some (.int .i64 (A.getD k z3).2.1)/\d.cell? ⟨b,a+k*3+2,none⟩=some (.string (A.getD k z3).2.2)/\b<d.heap.size:=by
 obtain⟨b,a,rfl,_,_⟩:=eb.val h hk;have e:A[k]=A.getD k z3:=(by rw[zu,z6 hk];rfl);refine⟨b,a,rfl,fun d j=>?_⟩;obtain⟨o,q,l,m,f,g,i⟩:=eb.val (h.later j) hk;cases l;rw[e]at f g i;exact⟨f,g,i,m⟩
theorem nY{w:World}{cv dv va vb:Value}{t:T}{nm key x:ByteArray}{k:Nat}{A B:List T3}(hT:ey w cv dv t)(hx:gx t.cols x=(k:Int))(ha:eb TT w va A)(E:eb TT w vb B)(hA:k<A.length)(hB:k<B.length)(hl:A.length<=1000/\B.length<=1000):Calls prog 152 #[.agg #[.string nm,cv,.string key,dv],.string x,va,vb] w fun e f=>e=.returned (.bool (decide (A.getD k z3=B.getD k z3)))/\Below w.heap.size w f:=by
 obtain⟨pc,cc,rfl,_,_⟩:=hT.c.slice;obtain⟨pd,cd,rfl,_,_⟩:=hT.d.slice;obtain⟨pa,Y,rfl,_,_⟩:=ha.slice;obtain⟨pb,cb,rfl,_,_⟩:=E.slice;obtain⟨Q,R,rfl,m⟩:=ha.cells hA;obtain⟨gb,S,rfl,n⟩:=E.cells hB;obtain⟨u,I⟩:=ag (A.getD k z3);obtain⟨v,J⟩:=ag (B.getD k z3);rw[I]at m;rw[J]at n;rw[I,J];have b1:=aD w (.cells #[.string nm,.slice pc t.cols.length cc,.string key,.slice pd t.deps.length cd] 77);have l:=z7 w (.cells #[.string nm,.slice pc t.cols.length cc,.string key,.slice pd t.deps.length cd] 77);have b2:=aD (w.alloc (.cells #[.string nm,.slice pc t.cols.length cc,.string key,.slice pd t.deps.length cd] 77)) (.cells #[.string x] 9);have s:=z7 (w.alloc (.cells #[.string nm,.slice pc t.cols.length cc,.string key,.slice pd t.deps.length cd] 77)) (.cells #[.string x] 9);have l:=aE b2 l;rw[zj]at s;have b2:=aB b1 b2;obtain⟨w1,g⟩:=ag ((w.alloc (.cells #[.string nm,.slice pc t.cols.length cc,.string key,.slice pd t.deps.length cd] 77)).alloc (.cells #[.string x] 9));obtain⟨F,L⟩:=ag w.heap.size;rw[g]at l s b2;rw[L]at l s;have a:=Fy (x:=x) (hT.c.later b2) (aA s 0);rw[hx]at a;obtain⟨nc,h⟩:=ag t.cols.length;obtain⟨nd,o⟩:=ag t.deps.length;obtain⟨na,i⟩:=ag A.length;obtain⟨nb,j⟩:=ag B.length;rw[h,o]at g l;rw[h]at a;rw[i,j]at hl;rw[i]at hA;rw[j]at hB;rw[h,o,i,j];have Z:(k:Int)<(na:Int):=(by omega);have a0:(k:Int)<(nb:Int):=(by omega);have x1:=aA l 1;have xl:=aC l;have yl:=aC s;have M:=aa (ab g (ab L b2));have z:=aa (ab m n);have p:=(fun y=>zX u v y);obtain⟨r,U⟩:=ag (decide (u=v));rw[U]at p ⊢;have N:=aa p;have V:(na:Int)<=1000:=(by omega);have W:(nb:Int)<=1000:=(by omega);have X:=enters_of func177 (by kernel_rfl) rfl;clear hT ha E m n I J b1 b2 l s g L hx h o i j hA hB hl U p;go_enter func152,ntmps152;go_upto_region 1 with fail;rw[M.1,M.2.1];go_upto_region 2 with (go_at_call 113;refine a.mono ?_;rintro e O⟨rfl,G⟩;have q:=aa (aB M.2.2 G);clear a G);clear x1 xl yl;refine ae 10 [.slice (some ⟨Q,R,none⟩) na Y,.int .i64 (k:Int),.pointer (some ⟨Q,R+k*3,none⟩),.agg #[.int .i64 u.1,.int .i64 u.2.1,.string u.2.2],.slice (some ⟨gb,S,none⟩) nb cb,.int .i64 (k:Int),.pointer (some ⟨gb,S+k*3,none⟩),.agg #[.int .i64 v.1,.int .i64 v.2.1,.string v.2.2],.bool r,.bool r] (fun y=>Below O.heap.size O y) ?A1 ?hm1 ?hB1 ?hA1 (aF O) ?hop1 ?hT1
 case hm1=>kernel_rfl
 case hB1=>kernel_rfl
 case hA1 =>
  simp only[am,ai,Act.put,cy,db,bt,cp,dc,da,bu,eg,ed];rfl
 case hop1 =>
  simp only[ce,ze,ah,yu];and_intros<;>intro f b<;>have H:=aa b
  rotate_left 3;have z1:=(z.1 f (aB q.out b)).1;have z2:=(z.1 f (aB q.out b)).2.1;have P:=(z.1 f (aB q.out b)).2.2.1;rotate_left 4;have z1:=(z.2 f (aB q.out b)).1;have z2:=(z.2 f (aB q.out b)).2.1;have P:=(z.2 f (aB q.out b)).2.2.1;rotate_left
  ·clear b;simp only[Par.Gives];go_simp;exact(N.out f).mono (fun e a1⟨he,E⟩=>⟨he,aB H.out E⟩)
  rotate_left
  all_goals(clear b;simp only[Par.Gives];go_simp;all_goals exact H.out)
 intro f b;simp only[cw,yq];have H:=aa (aB q.out b);clear b;go_wp2_with fail;go_ret;exact⟨rfl,H.out⟩
theorem Iw{A:List R1}{c j:Nat}(hj:j<A.length)(hc:c<A[j].2.length):(ny A c).getD j z3=A[j].2[c]:=by
 rw[dE (by simpa [ny]using hj)];simp[ny,hc]
def xx(l:List T3)(j k:Nat):Bool:=decide ((l.getD j z3).1=2)&&(List.range k).all fun m=>decide (l.getD m z3≠l.getD j z3)
theorem Ju(l:List T3)(j:Nat):xx l j 0=decide ((l.getD j z3).1=2):=by simp[xx]
theorem Jc(l:List T3)(j:Nat):xx l j j=kx l j:=rfl
theorem Gm(l:List T3)(j k:Nat):xx l j (k+1)=(xx l j k&&decide (l.getD k z3≠l.getD j z3)):=by
 unfold xx;rw[List.range_succ,List.all_append];simp[Bool.and_assoc]
theorem KY{l:List T3}{j k:Nat}(hk:k<=j)(h:xx l j k=false):kx l j=false:=by
 cases a:kx l j with
 | false=>rfl
 | true =>
  obtain⟨b,c⟩:=eA.1 a
  have:xx l j k=true:=by
   unfold xx;rw[zx,xp];exact⟨xd b,fun m d=>xd (c m (by have:=List.mem_range.1 d;omega))⟩
  rw[this]at h;cases h
structure XA where
 gs:Nat
 cs:Nat
 go:Nat
 co:Nat
 pr:Option Addr
 cr:Nat
 pc:Option Addr
 kc:Nat
 pd:Option Addr
 kd:Nat
section
variable {W:World}{b:Nat}{ts:List T}{tt:List RT}{i:NI}{O:Nat->Nat}{t:Nat}{y:RT}
theorem ew.nreads(h:ew W b ts tt i O)(ht:t<ts.length)(hy:tt[t]?=some y)(h0:0<ts[t].cols.length):∃x:XA,(∀w,Below W.heap.size W w->w.cell? ⟨b,1,none⟩=some (.slice (some ⟨x.go,0,none⟩) ts.length x.co)/\w.cell? ⟨x.go,t,none⟩=some (.slice x.pr y.A.length x.cr)/\b<w.heap.size/\x.go<w.heap.size/\w.cell? ⟨b,0,none⟩=some (.slice (some ⟨x.gs,0,none⟩) ts.length x.cs)/\x.gs<w.heap.size/\w.cell? ⟨x.gs,t*4,none⟩=some (.string ts[t].nm)/\w.cell? ⟨x.gs,t*4+1,none⟩=some (.slice x.pc ts[t].cols.length x.kc)/\w.cell? ⟨x.gs,t*4+2,none⟩=some (.string ts[t].key)/\w.cell? ⟨x.gs,t*4+3,none⟩=some (.slice x.pd ts[t].deps.length x.kd)/\ey w (.slice x.pc ts[t].cols.length x.kc) (.slice x.pd ts[t].deps.length x.kd) ts[t])/\∀k (f:k<y.A.length),∃gr gv cv,x.pr=some ⟨gr,0,none⟩/\∀w,Below W.heap.size W w->gr<w.heap.size/\w.cell? ⟨gr,k*2,none⟩=some (.int .i64 y.A[k].1)/\w.cell? ⟨gr,k*2+1,none⟩=some (.slice (some ⟨gv,0,none⟩) ts[t].cols.length cv)/\gv<w.heap.size/\eb TT w (.slice (some ⟨gv,0,none⟩) ts[t].cols.length cv) y.A[k].2/\y.A[k].2.length=ts[t].cols.length:=by
 obtain⟨⟨gs,cs,go,co,gn,cn,pc,kc,pd,kd⟩,_,_,_,_,_,_,r⟩:=h.reads ht hy;have a:=h.ok ht hy;obtain⟨pr,cr,g,_,_⟩:=a.rows.isslice;refine⟨⟨gs,cs,go,co,pr,cr,pc,kc,pd,kd⟩,fun w s=>?_,fun k f=>?_⟩
 ·have k:=r w s;have o0:=k.o0;rw[g]at o0;exact⟨k.b1,o0,k.bl,k.ol,k.b0,k.sl,k.s0,k.s1,k.s2,k.s3,k.rt⟩
 have m:k<y.vs.length:=(by rw[a.n];exact f);have d:=a.len _ (z8 f);have c:=a.vals k f m;rw[d]at c;obtain⟨gv,cv,o,_,_⟩:=c.slice (by omega);rw[o]at c;obtain⟨gr,u,r1,_,_⟩:=a.rows.slice (by omega);have j:=a.rows;rw[r1]at j;rw[g]at r1;cases r1;obtain⟨v,p⟩:=dI a.n f;rw[o]at p;refine⟨gr,gv,cv,rfl,fun w q=>?_⟩;have e:=j.later q;have l:=c.later q;exact⟨(ac.lt e gr rfl).2,e.cell v,e.cell p,(ac.lt l gv rfl).2,(eb.jk l d).mono (fun _ _ _=>trivial),d⟩
theorem DG(x y:T3):AF x.1 x.2.1 x.2.2 y.1 y.2.1 y.2.2=decide (x=y):=by
 obtain⟨a,b,c⟩:=x;obtain⟨d,e,f⟩:=y;unfold AF
 simp
theorem yE(h:ew W b ts tt i O)(ht:t<ts.length)(hy:tt[t]?=some y)(hl:y.A.length<=100000)(hnt:ts.length<=1000)(hcl:ts[t].cols.length<=1000)(hc0:0<ts[t].cols.length){c:Nat}(hc:c<ts[t].cols.length):Calls prog 48 #[.pointer (some ⟨b,0,none⟩),.int .i64 (t:Int),.int .i64 (c:Int)] W fun e q=>e=.returned (.int .i64 ((gy (ny y.A c) y.A.length).length:Int))/\Below W.heap.size W q:=by
 have N:=h.nreads ht hy hc0;obtain⟨Z,E⟩:=ag ts.length;obtain⟨A,H⟩:=ag y.A;obtain⟨nc,I⟩:=ag (ts[t].cols.length);rw[H,E,I]at N;rw[H]at hl ⊢;obtain⟨n,P⟩:=ag A.length;obtain⟨l,J⟩:=ag (ny A c);have c0:(t:Int)<(Z:Int):=(by omega);have b8:(Z:Int)<=1000:=(by omega);rw[I]at hc hcl;have b2:(n:Int)<=100000:=(by omega);have c4:(c:Int)<(nc:Int):=(by omega);have b9:(nc:Int)<=1000:=(by omega);rw[J,P];cases n with
 | zero =>
  obtain⟨x,r,_⟩:=N;obtain⟨o1,o2,o3,o4,_⟩:=r W (zb _ _);obtain⟨gs,cs,g,c1,pr,cr,pc,kc,pd,kd⟩:=x;dsimp only at o1 o2 o3 o4;rw[P]at o2;clear h r P J E H hy;go_enter func48,ntmps48;go_wp2_with fail;go_loopg [7,8] 1 (fun gh cv iv w=>cv=.int .i64 0/\iv=.int .i64 0/\w=W)
  case atStart=>exact⟨rfl,rfl,rfl⟩
  case round =>
   obtain⟨rfl,rfl,rfl⟩:=hrel;go_wp2_with fail;go_ret;exact⟨rfl,zb _ _⟩
 | succ n0 =>
  obtain⟨⟨gs,cs,g,c1,pr,cr,pc,kc,pd,kd⟩,r,F⟩:=N;dsimp only at r F;rw[P]at r
  obtain⟨gr,rfl⟩:∃gr,pr=some ⟨gr,0,none⟩:=by
   obtain⟨gr,_,_,e,_⟩:=F 0 (by omega);exact⟨gr,e⟩
  have Q:∀w,Below W.heap.size W w->(w.cell? ⟨b,1,none⟩=some (.slice (some ⟨g,0,none⟩) Z c1)/\w.cell? ⟨g,t,none⟩=some (.slice (some ⟨gr,0,none⟩) (n0+1) cr)/\b<w.heap.size/\g<w.heap.size/\gr<w.heap.size)/\∀k,k<n0+1->∃gv cv,w.cell? ⟨gr,k*2+1,none⟩=some (.slice (some ⟨gv,0,none⟩) nc cv)/\∀j,j<nc->w.cell? ⟨gv,j*3,none⟩=some (.int .i64 ((ny A j).getD k z3).1)/\w.cell? ⟨gv,j*3+1,none⟩=some (.int .i64 ((ny A j).getD k z3).2.1)/\w.cell? ⟨gv,j*3+2,none⟩=some (.string ((ny A j).getD k z3).2.2):=fun w hw=>by
   obtain⟨o1,o2,o3,o4,_⟩:=r w hw;refine⟨⟨o1,o2,o3,o4,?_⟩,fun k hk=>?_⟩
   ·obtain⟨b3,_,_,e,hq⟩:=F 0 (by omega);cases e;exact(hq w hw).1
   ·obtain⟨b3,gv,cv,e,hq⟩:=F k (by omega);cases e;obtain⟨q1,q2,q3,q4,q5,q6⟩:=hq w hw;refine⟨gv,cv,q3,fun j hj=>?_⟩;have b4:k<A.length:=(by omega);rw[Iw b4 (by rw[q6];exact hj)];obtain⟨b',o',e,_,r1,r2,r3⟩:=eb.val q5 (j:=j) (by rw[q6];exact hj);cases e;rw[xq]at r1 r2 r3;exact⟨r1,r2,r3⟩
  obtain⟨n,a0⟩:=ag (n0+1);rw[a0]at Q b2 P ⊢;have a1:=aa Q;have HN:=aa (ab P (ab I (ab J hc)));clear h r F Q P I J hc hl hcl hc0 a0 hnt E H hy;go_enter func48,ntmps48;go_wp2_with fail;go_loopg [7,8] (n+1) (fun gh cv iv w=>∃(j:Nat),iv=.int .i64 (j:Int)/\j<=n/\n+1<=j+gh/\cv=.int .i64 ((gy l j).length:Int)/\Below W.heap.size W w)
  case atStart=>exact⟨0,rfl,zh _,by omega,rfl,zb _ _⟩
  case round =>
   obtain⟨j,rfl,hj,hg,rfl,hB⟩:=hrel;have a2:(gy l j).length<=j:=zw (List.length_filter_le _ _) (by rw[List.length_range];exact zm _);obtain⟨⟨x1,x2,xl,xg,xr⟩,U⟩:=a1.out wr hB;by_cases b5:j<n
   ·have c5:(j:Int)<(n:Int):=(by omega);obtain⟨gv,cv,y0,z⟩:=U j b5;obtain⟨z,L,M⟩:=z c (by omega);rw[HN.2.2.1]at z L M;obtain⟨u,hu⟩:=ag (l.getD j z3);rw[hu]at z L M;obtain⟨m,hm⟩:=ag ((gy l j).length);have c6:(m:Int)<=100000:=(by omega);rw[hm];have HB:=aa (ab hB (ab hu hm));clear U hB hu hm a2;go_upto_region 6 with fail;have hV:=z7 wr (.cells #[.int .i64 u.1,.int .i64 u.2.1,.string u.2.2] 32);have R:=aD wr (.cells #[.int .i64 u.1,.int .i64 u.2.1,.string u.2.2] 32);obtain⟨w1,a3⟩:=ag (wr.alloc (.cells #[.int .i64 u.1,.int .i64 u.2.1,.string u.2.2] 32));obtain⟨V,a4⟩:=ag wr.heap.size;rw[a3]at hV R ⊢;rw[a4]at hV ⊢;have a5:=aB HB.1 R;have z0:=aA hV 0;have H1:=aa (ab hV a5)
    have a6:xx l j 0=(u.1==2):=by
     rw[Ju,HB.2.1,vf];simp
    clear hV R a3 a4 a5 x1 x2 xl xg xr y0 z L M;go_upto_region 7 with fail;rw[<-a6];clear z0 a6
    go_upto_block 2 with fail
    go_cut [10]from 300 to 300 (fun gv wx=>gv=.bool (kx l j)/\Below W.heap.size W wx)
    case first =>
     go_wp2_with fail;go_loopg [10,11] (j+1) (fun gh gv kv w=>∃(k:Nat),kv=.int .i64 (k:Int)/\k<=j/\j+1<=k+gh/\gv=.bool (xx l j k)/\Below w1.heap.size w1 w)
     case atStart=>exact⟨0,rfl,zh _,by omega,rfl,zb _ _⟩
     case round =>
      obtain⟨k,rfl,b6,c7,rfl,o⟩:=hrel;cases X:xx l j k
      ·have f:=aa (ab (aB H1.2 o) (KY b6 X));by_cases b7:(k:Int)<(j:Int)
       all_goals
        clear o X;go_wp2_with fail;go_meet;exact⟨by rw[f.2],f.1⟩
      ·by_cases c8:k<j
       ·have b7:(k:Int)<(j:Int):=(by omega);have d0:(k:Int)<(n:Int):=(by omega);have a7:k<n:=(by omega);obtain⟨⟨e1,e2,e3,e4,e5⟩,U⟩:=a1.out wr (aB H1.2 o);obtain⟨s,a8,y0,z⟩:=U k a7;obtain⟨z,L,M⟩:=z c (by omega);rw[HN.2.2.1]at z L M;obtain⟨x,hx⟩:=ag (l.getD k z3);rw[hx]at z L M;have a9:=aE o H1.1
        have B:Hid (∀w,Below wr.heap.size wr w->(w.cell? ⟨b,1,none⟩=some (.slice (some ⟨g,0,none⟩) Z c1)/\w.cell? ⟨g,t,none⟩=some (.slice (some ⟨gr,0,none⟩) n cr)/\w.cell? ⟨gr,k*2+1,none⟩=some (.slice (some ⟨s,0,none⟩) nc a8))/\(b<w.heap.size/\gr<w.heap.size)/\(w.cell? ⟨s,c*3,none⟩=some (.int .i64 x.1)/\w.cell? ⟨s,c*3+1,none⟩=some (.int .i64 x.2.1)/\w.cell? ⟨s,c*3+2,none⟩=some (.string x.2.2))/\w.heap[V]?=some (.cells #[.int .i64 u.1,.int .i64 u.2.1,.string u.2.2] 32)):=aa (fun w hb=>by
         have Y:∀{a:Addr} {v:Value},wr.cell? a=some v->w.cell? a=some v:=(fun h=>(za (w:=wr) (hb.block _ (xn _ _ h))).trans h);exact⟨⟨Y e1,Y e2,Y y0⟩,⟨z9 e3 hb.size,z9 e5 hb.size⟩,⟨Y z,Y L,Y M⟩,aE hb a9⟩)
        have G:=(fun w=>kX x.1 x.2.1 x.2.2 u.1 u.2.1 u.2.2 w);simp only[DG]at G;have f:=aa (ab o (ab X hx));clear U e1 e2 e3 e4 e5 y0 z L M a9 o X hx;go_upto_region 10 with fail;refine ae 15 [.pointer (some ⟨b,0,none⟩),.pointer (some ⟨b,0,none⟩),.pointer (some ⟨b,1,none⟩),.slice (some ⟨g,0,none⟩) Z c1,.int .i64 (t:Int),.pointer (some ⟨g,t,none⟩),.slice (some ⟨gr,0,none⟩) n cr,.int .i64 (k:Int),.pointer (some ⟨gr,k*2,none⟩),.pointer (some ⟨gr,k*2+1,none⟩),.slice (some ⟨s,0,none⟩) nc a8,.int .i64 (c:Int),.pointer (some ⟨s,c*3,none⟩),.agg #[.int .i64 x.1,.int .i64 x.2.1,.string x.2.2],.agg #[.int .i64 u.1,.int .i64 u.2.1,.string u.2.2]] (fun w=>Below wr.heap.size wr w) ?A1 ?hm1 ?hB1 ?hA1 (aF wr) ?hop1 ?hT1
        case hm1=>kernel_rfl
        case hB1=>kernel_rfl
        case hA1 =>
         simp only[am,ai,Act.put,cy,db,bt,cp,dc,da,bu,eg,ed];rfl
        case hop1 =>
         simp only[ce,ze,ah,yu];and_intros<;>intro q p<;>have HR:=aa p
         rotate_left;have zl:=(B.out q p).2.1.1;rotate_left;have zl:=(B.out q p).2.1.1;rotate_left;have x0:=(B.out q p).1.1;rotate_left 3;have x0:=(B.out q p).1.2.1;rotate_left 3;have zl:=(B.out q p).2.1.2;rotate_left;have x0:=(B.out q p).1.2.2;rotate_left 3;have x0:=(B.out q p).2.2.1.1;have x1:=(B.out q p).2.2.1.2.1;have x2:=(B.out q p).2.2.1.2.2;rotate_left;have x0:=aA (B.out q p).2.2.2 0;have x1:=aA (B.out q p).2.2.2 1;have x2:=aA (B.out q p).2.2.2 2;rotate_left
         all_goals(clear p;simp only[Par.Gives];go_simp;all_goals exact HR.out)
        case hT1 =>
         intro q p;simp only[cw,ym];have HR:=aa p;have G:=G q;clear p;go_wp2_with (go_at_call 86;refine G.mono ?_;rintro e w4⟨rfl,b0⟩;have H4:=aa (aB f.1 (HR.out.trans (b0.mono HR.out.size)));clear G b0);go_roundg (j-k)
         case measure=>omega
         case rel=>exact⟨k+1,rfl,by omega,by omega,by rw[Gm,f.2.1,f.2.2,HB.2.1];simp,H4.out⟩
       ·obtain rfl:k=j:=(by omega);have f:=aa (ab (aB H1.2 o) X);clear o X;go_wp2_with fail;go_meet;exact⟨by rw[<-Jc,f.2],f.1⟩
    case rest =>
     obtain⟨rfl,S⟩:=hcut;have b1:=aa S;have d:=rN l j;rw[HB.2.2]at d;cases hf:kx l j
     ·rw[hf]at d;have HS:=aa d;clear S hf d;go_wp2_with fail;go_roundg (n-j)
      case measure=>omega
      case rel=>exact⟨j+1,rfl,by omega,by omega,by rw[HS.out];rfl,b1.out⟩
     ·rw[hf]at d;have HS:=aa d;clear S hf d;go_wp2_with fail;go_roundg (n-j)
      case measure=>omega
      case rel=>exact⟨j+1,rfl,by omega,by omega,by rw[HS.out];rfl,b1.out⟩
   ·obtain rfl:j=n:=(by omega);clear U;go_wp2_with fail;go_ret;exact⟨rfl,hB⟩
end
def re(t:T)(x:ByteArray):Prop:=∃k:Nat,gx t.cols x=(k:Int)/\k<t.cols.length
theorem rP{w:World}{cv dv va vb lv:Value}{t:T}{nm key rt:ByteArray}{left:List ByteArray}{A B:List T3}(hT:ey w cv dv t)(hL:lg w lv left)(hd:∀x∈left,re t x)(ha:eb TT w va A)(hb:eb TT w vb B)(hA:A.length=t.cols.length)(o:B.length=t.cols.length)(hc:t.cols.length<=1000)(hn:left.length<=1000):Calls prog 154 #[.agg #[.string nm,cv,.string key,dv],.agg #[lv,.string rt],va,vb] w fun e O=>e=.returned (.bool (left.all fun x=>ar t x A B))/\Below w.heap.size w O:=by
 obtain⟨pc,cc,rfl,_,_⟩:=hT.c.slice;obtain⟨pd,cd,rfl,_,_⟩:=hT.d.slice;obtain⟨Y,Z,rfl,_,_⟩:=ha.slice;obtain⟨pb,cb,rfl,_,_⟩:=hb.slice;obtain⟨pl,cl,rfl,_,_⟩:=hL.slice;have b1:=aD w (.cells #[.string nm,.slice pc t.cols.length cc,.string key,.slice pd t.deps.length cd] 77);have u:=z7 w (.cells #[.string nm,.slice pc t.cols.length cc,.string key,.slice pd t.deps.length cd] 77);have b2:=aD (w.alloc (.cells #[.string nm,.slice pc t.cols.length cc,.string key,.slice pd t.deps.length cd] 77)) (.cells #[.slice pl left.length cl,.string rt] 124);have v:=z7 (w.alloc (.cells #[.string nm,.slice pc t.cols.length cc,.string key,.slice pd t.deps.length cd] 77)) (.cells #[.slice pl left.length cl,.string rt] 124);have u:=aE b2 u;rw[zj]at v;have b2:=aB b1 b2;obtain⟨q,p⟩:=ag ((w.alloc (.cells #[.string nm,.slice pc t.cols.length cc,.string key,.slice pd t.deps.length cd] 77)).alloc (.cells #[.slice pl left.length cl,.string rt] 124));obtain⟨F,P⟩:=ag w.heap.size;rw[p]at u v b2;rw[P]at u v
 have f:Hid (∀y,Below q.heap.size q y->∀x∈left,Calls prog 152 #[.agg #[.string nm,.slice pc t.cols.length cc,.string key,.slice pd t.deps.length cd],.string x,.slice Y A.length Z,.slice pb B.length cb] y fun e O=>e=.returned (.bool (ar t x A B))/\Below y.heap.size y O):=aa (fun y z x E=>by
  obtain⟨k,W,a0⟩:=hd x E
  have:=nY (nm:=nm) (key:=key) (hT.later (aB b2 z)) W (ha.later (aB b2 z)) (hb.later (aB b2 z)) (by omega) (by omega) (by omega)
  unfold ar ur;rw[W];exact this)
 have Q:Hid (∀y,Below q.heap.size q y->∀j (R:j<left.length),∃b G,pl=some ⟨b,G,none⟩/\b<y.heap.size/\y.cell? ⟨b,G+j,none⟩=some (.string left[j])):=aa (fun y z j R=>lg.word (hL.later (aB b2 z)) R);obtain⟨nc,g⟩:=ag t.cols.length;obtain⟨nd,l⟩:=ag t.deps.length;obtain⟨nl,m⟩:=ag left.length;rw[g,l]at f;rw[hA,o,g]at f;rw[g,l,m]at p;rw[g,l]at u;rw[m]at v;rw[hA,o,g,l,m];have X:(nl:Int)<=1000:=(by omega);have x0:=aA v 0;have xl:=aC v;have HK:Hid (∀y,Below q.heap.size q y->y.heap[F]?=some (.cells #[.string nm,.slice pc nc cc,.string key,.slice pd nd cd] 77)):=aa (fun y z=>aE z u);have I:=aa (ab p (ab P (ab b2 m)));clear hT hL hd ha hb hA o hc hn b1 b2 u v p P g l m;go_enter func154,ntmps154;go_upto_region 1 with fail;rw[I.1,I.2.1];go_wp2_with fail;clear x0 xl;go_loopg [14] (nl+1) (fun gh jv y=>∃(j:Nat),jv=.int .i64 (j:Int)/\j<=nl/\nl+1<=j+gh/\(∀i (h:i<left.length),i<j->ar t left[i] A B=true)/\Below q.heap.size q y)
 case atStart=>exact⟨0,rfl,zh _,by omega,fun i _ L=>by omega,zb _ _⟩
 obtain⟨j,rfl,R,hg,s,o⟩:=hrel;have M:=aa (ab s o);by_cases S:j<nl
 ·have H:j<left.length:=(by rw[I.2.2.2];exact S);have a1:(j:Int)<(nl:Int):=(by omega);obtain⟨b,G,rfl,yl,y1⟩:=Q.out wr o j H;have a:=f.out wr o _ (z8 H);have J:=HK.out wr o;have y0:=aA J 0;have yk:=aA J 1;have y2:=aA J 2;have y3:=aA J 3;have a2:=aC J;obtain⟨x,E⟩:=ag (left[j]);rw[E]at y1 a;obtain⟨r,U⟩:=ag (ar t x A B);rw[U]at a;have N:=aa (ab E U);clear s o E U J;cases r
  ·go_wp2_with (go_at_call 152;refine a.mono ?_;rintro e w2⟨rfl,n⟩;have V:=aa (aB M.2 n);clear a n);go_ret;refine⟨?_,aB I.2.2.1 V.out⟩
   have:(left.all fun x=>ar t x A B)=false:=by
    rw[List.all_eq_false];exact⟨left[j],z8 H,by rw[N.1,N.2];decide⟩
   rw[this];rfl
  go_wp2_with (go_at_call 152;refine a.mono ?_;rintro e w2⟨rfl,n⟩;have V:=aa (aB M.2 n);clear a n);go_roundg (nl-j)
  case measure=>omega
  refine⟨j+1,by go_num,by omega,by omega,fun i L a3=>?_,V.out⟩;by_cases e:i=j
  ·subst e;rw[N.1];exact N.2
  exact M.1 i L (by omega)
 obtain rfl:j=nl:=(by omega);go_wp2_with fail;go_ret;refine⟨?_,aB I.2.2.1 M.2⟩
 have:(left.all fun x=>ar t x A B)=true:=by
  rw[xp];intro x E;obtain⟨i,L,rfl⟩:=xz E;exact M.1 i L (by rw[<-I.2.2.2];exact L)
 rw[this];rfl
def RL(w:World)(v:Value)(B:List (List T3)):Prop:=∃p c,v=.slice p B.length c/\∀j (hj:j<B.length),∃g vj,p=some ⟨g,0,none⟩/\g<w.heap.size/\w.cell? ⟨g,j,none⟩=some vj/\eb TT w vj B[j]
theorem RL.later{w w':World}{v:Value}{B:List (List T3)}(h:RL w v B)(hb:Below w.heap.size w w'):RL w' v B:=by
 obtain⟨p,c,e,d⟩:=h;refine⟨p,c,e,fun j f=>?_⟩;obtain⟨g,vj,i,b,k,l⟩:=d j f;exact⟨g,vj,i,z9 b hb.size,(za (a:=⟨g,j,none⟩) (hb.block g b)).trans k,l.later hb⟩
def uz(q:Nat->Bool)(n:Nat):Int:=match aq q n with|none=>-1|some k=>(k:Int)
section
variable {w:World}{v:Value}{B:List (List T3)}{q:Nat->Bool}
theorem Kz{F V:Nat}(h:RL w v B)(hl:B.length<=1000)(hcall:∀b,Below w.heap.size w b->∀j (u:j<B.length) vj,eb TT b vj B[j]->Calls prog 151 #[vj,.pointer (some ⟨F,0,none⟩),.pointer (some ⟨V,0,none⟩)] b fun e z=>e=.returned (.bool (q j))/\Below b.heap.size b z):Calls prog 176 #[v,.func (.func 151) #[] #[.pointer (some ⟨F,0,none⟩),.pointer (some ⟨V,0,none⟩)]] w fun e z=>e=.returned (.int .i64 (uz q B.length))/\Below w.heap.size w z:=by
 obtain⟨p,c,rfl,f⟩:=h
 have O:Hid (∀b,Below w.heap.size w b->∀j (u:j<B.length),∃g vj,p=some ⟨g,0,none⟩/\g<b.heap.size/\b.cell? ⟨g,j,none⟩=some vj/\eb TT b vj B[j]):=aa (fun b A j u=>by
  obtain⟨g,vj,P,I,Q,R⟩:=f j u;exact⟨g,vj,P,z9 I A.size,(za (a:=⟨g,j,none⟩) (A.block g I)).trans Q,R.later A⟩)
 obtain⟨n,E⟩:=ag B.length;have J:=aa (ab hcall E);rw[E];have S:(n:Int)<=1000:=(by omega);have L:=enters_of func151 (by kernel_rfl) rfl;clear f hcall hl E;go_enter func176,ntmps176;go_wp2_with fail;go_loopg [8] (n+1) (fun U W y=>∃(j:Nat),W=.int .i64 (j:Int)/\j<=n/\n+1<=j+U/\(∀i,i<j->q i=false)/\Below w.heap.size w y)
 case atStart=>exact⟨0,rfl,zh _,by omega,fun i X=>by omega,zb _ _⟩
 obtain⟨j,rfl,u,hg,o,x⟩:=hrel;have k:=aa (ab o x);by_cases s:j<n
 ·have t:j<B.length:=(by rw[J.2];exact s);have Y:(j:Int)<(n:Int):=(by omega);obtain⟨g,vj,rfl,gl,c0,G⟩:=O.out wr x j t;have l:=J.1 wr x j t vj G;obtain⟨pv,cv,rfl,_,_⟩:=G.slice;obtain⟨m,M⟩:=ag (B[j].length);rw[M]at c0 l;obtain⟨r,f⟩:=ag (q j);rw[f]at l;have N:=aa f;clear o x G M f;cases r
  ·go_wp2_with (go_at_call 151;refine l.mono ?_;rintro e Z⟨rfl,d⟩;have H:=aa (aB k.2 d);clear l d);go_roundg (n-j)
   case measure=>omega
   refine⟨j+1,by go_num,by omega,by omega,fun i X=>?_,H.out⟩;by_cases e:i=j
   ·subst e;exact N.out
   exact k.1 i (by omega)
  go_wp2_with (go_at_call 151;refine l.mono ?_;rintro e Z⟨rfl,d⟩;have H:=aa (aB k.2 d);clear l d);go_ret;refine⟨?_,H.out⟩;have e:uz q n=(j:Int):=(by unfold uz;rw[aZ s N.out k.1]);rw[e];rfl
 obtain rfl:j=n:=(by omega);go_wp2_with fail;go_ret;refine⟨?_,k.2⟩;have e:uz q j=-1:=(by unfold uz;rw[aV k.1]);rw[e];rfl
theorem GZ{F V:Nat}(h:RL w v B)(hl:B.length<=1000)(hcall:∀d,Below w.heap.size w d->∀j (hj:j<B.length) vj,eb TT d vj B[j]->Calls prog 151 #[vj,.pointer (some ⟨F,0,none⟩),.pointer (some ⟨V,0,none⟩)] d fun e g=>e=.returned (.bool (q j))/\Below d.heap.size d g):Calls prog 150 #[v,.func (.func 151) #[] #[.pointer (some ⟨F,0,none⟩),.pointer (some ⟨V,0,none⟩)]] w fun e g=>e=.returned (.bool (aq q B.length).isSome)/\Below w.heap.size w g:=by
 have b:=Kz h hl hcall;obtain⟨p,c,rfl,_⟩:=h;unfold uz at b;cases f:aq q B.length with
 | none =>
  rw[f]at b;clear hcall f hl;go_enter func150,ntmps150;go_wp2_with (go_at_call 176;refine b.mono ?_;rintro e l⟨rfl,a⟩;have i:=aa a;clear b a);go_ret;exact⟨rfl,i.out⟩
 | some k =>
  rw[f]at b;have m:(k:Int)≥0:=(by omega);clear hcall f hl;go_enter func150,ntmps150;go_wp2_with (go_at_call 176;refine b.mono ?_;rintro e l⟨rfl,a⟩;have i:=aa a;clear b a);go_ret;refine⟨?_,i.out⟩
  first|rfl|simp
theorem I0{F V U:Nat}(h:RL w v B)(hl:B.length<=1000)(hcall:∀b,Below w.heap.size w b->∀j (u:j<B.length) vj,eb TT b vj B[j]->Calls prog 153 #[vj,.pointer (some ⟨F,0,none⟩),.pointer (some ⟨V,0,none⟩),.pointer (some ⟨U,0,none⟩)] b fun e z=>e=.returned (.bool (q j))/\Below b.heap.size b z):Calls prog 176 #[v,.func (.func 153) #[] #[.pointer (some ⟨F,0,none⟩),.pointer (some ⟨V,0,none⟩),.pointer (some ⟨U,0,none⟩)]] w fun e z=>e=.returned (.int .i64 (uz q B.length))/\Below w.heap.size w z:=by
 obtain⟨p,c,rfl,f⟩:=h
 have O:Hid (∀b,Below w.heap.size w b->∀j (u:j<B.length),∃g vj,p=some ⟨g,0,none⟩/\g<b.heap.size/\b.cell? ⟨g,j,none⟩=some vj/\eb TT b vj B[j]):=aa (fun b A j u=>by
  obtain⟨g,vj,P,I,Q,R⟩:=f j u;exact⟨g,vj,P,z9 I A.size,(za (a:=⟨g,j,none⟩) (A.block g I)).trans Q,R.later A⟩)
 obtain⟨n,E⟩:=ag B.length;have J:=aa (ab hcall E);rw[E];have S:(n:Int)<=1000:=(by omega);have L:=enters_of func153 (by kernel_rfl) rfl;clear f hcall hl E;go_enter func176,ntmps176;go_wp2_with fail;go_loopg [8] (n+1) (fun W X y=>∃(j:Nat),X=.int .i64 (j:Int)/\j<=n/\n+1<=j+W/\(∀i,i<j->q i=false)/\Below w.heap.size w y)
 case atStart=>exact⟨0,rfl,zh _,by omega,fun i Y=>by omega,zb _ _⟩
 obtain⟨j,rfl,u,hg,o,x⟩:=hrel;have k:=aa (ab o x);by_cases s:j<n
 ·have t:j<B.length:=(by rw[J.2];exact s);have Z:(j:Int)<(n:Int):=(by omega);obtain⟨g,vj,rfl,gl,c0,G⟩:=O.out wr x j t;have l:=J.1 wr x j t vj G;obtain⟨pv,cv,rfl,_,_⟩:=G.slice;obtain⟨m,M⟩:=ag (B[j].length);rw[M]at c0 l;obtain⟨r,f⟩:=ag (q j);rw[f]at l;have N:=aa f;clear o x G M f;cases r
  ·go_wp2_with (go_at_call 153;refine l.mono ?_;rintro e w2⟨rfl,d⟩;have H:=aa (aB k.2 d);clear l d);go_roundg (n-j)
   case measure=>omega
   refine⟨j+1,by go_num,by omega,by omega,fun i Y=>?_,H.out⟩;by_cases e:i=j
   ·subst e;exact N.out
   exact k.1 i (by omega)
  go_wp2_with (go_at_call 153;refine l.mono ?_;rintro e w2⟨rfl,d⟩;have H:=aa (aB k.2 d);clear l d);go_ret;refine⟨?_,H.out⟩;have e:uz q n=(j:Int):=(by unfold uz;rw[aZ s N.out k.1]);rw[e];rfl
 obtain rfl:j=n:=(by omega);go_wp2_with fail;go_ret;refine⟨?_,k.2⟩;have e:uz q j=-1:=(by unfold uz;rw[aV k.1]);rw[e];rfl
theorem EE{F V U:Nat}(h:RL w v B)(hl:B.length<=1000)(hcall:∀d,Below w.heap.size w d->∀j (hj:j<B.length) vj,eb TT d vj B[j]->Calls prog 153 #[vj,.pointer (some ⟨F,0,none⟩),.pointer (some ⟨V,0,none⟩),.pointer (some ⟨U,0,none⟩)] d fun e g=>e=.returned (.bool (q j))/\Below d.heap.size d g):Calls prog 150 #[v,.func (.func 153) #[] #[.pointer (some ⟨F,0,none⟩),.pointer (some ⟨V,0,none⟩),.pointer (some ⟨U,0,none⟩)]] w fun e g=>e=.returned (.bool (aq q B.length).isSome)/\Below w.heap.size w g:=by
 have b:=I0 h hl hcall;obtain⟨p,c,rfl,_⟩:=h;unfold uz at b;cases f:aq q B.length with
 | none =>
  rw[f]at b;clear hcall f hl;go_enter func150,ntmps150;go_wp2_with (go_at_call 176;refine b.mono ?_;rintro e l⟨rfl,a⟩;have i:=aa a;clear b a);go_ret;exact⟨rfl,i.out⟩
 | some k =>
  rw[f]at b;have m:(k:Int)≥0:=(by omega);clear hcall f hl;go_enter func150,ntmps150;go_wp2_with (go_at_call 176;refine b.mono ?_;rintro e l⟨rfl,a⟩;have i:=aa a;clear b a);go_ret;refine⟨?_,i.out⟩
  first|rfl|simp
end
section
variable {w:World}{pc pd:Option Addr}{nc cc nd cd F V U:Nat}{va vj:Value}{nm key rt x:ByteArray}{r:Bool}
theorem Ew{pa pj:Option Addr}{na ca nj cj:Nat}(hF:w.heap[F]?=some (.cells #[.string nm,.slice pc nc cc,.string key,.slice pd nd cd] 77))(hV:w.heap[V]?=some (.cells #[.slice pa na ca] 27))(hl:Calls prog 152 #[.agg #[.string nm,.slice pc nc cc,.string key,.slice pd nd cd],.string key,.slice pa na ca,.slice pj nj cj] w fun e b=>e=.returned (.bool r)/\Below w.heap.size w b):Calls prog 151 #[.slice pj nj cj,.pointer (some ⟨F,0,none⟩),.pointer (some ⟨V,0,none⟩)] w fun e b=>e=.returned (.bool r)/\Below w.heap.size w b:=by
 have d:=aA hF 0;have f:=aA hF 1;have g:=aA hF 2;have h:=aA hF 3;have i:=aC hF;have j:=aA hV 0;have k:=aC hV;clear hF hV;go_enter func151,ntmps151;go_wp2_with (go_at_call 152;refine hl.mono ?_;rintro e l⟨rfl,a⟩;have c:=aa a;clear hl a);go_ret;exact⟨rfl,c.out⟩
theorem KC{pa pj pl:Option Addr}{na ca nj cj nl cl:Nat}{r2:Bool}(hF:w.heap[F]?=some (.cells #[.string nm,.slice pc nc cc,.string key,.slice pd nd cd] 77))(hV:w.heap[V]?=some (.cells #[.slice pl nl cl,.string rt] 124))(hU:w.heap[U]?=some (.cells #[.slice pa na ca] 27))(hl:Calls prog 154 #[.agg #[.string nm,.slice pc nc cc,.string key,.slice pd nd cd],.agg #[.slice pl nl cl,.string rt],.slice pa na ca,.slice pj nj cj] w fun e c=>e=.returned (.bool r)/\Below w.heap.size w c)(d:∀g,Below w.heap.size w g->Calls prog 152 #[.agg #[.string nm,.slice pc nc cc,.string key,.slice pd nd cd],.string rt,.slice pa na ca,.slice pj nj cj] g fun e c=>e=.returned (.bool r2)/\Below g.heap.size g c):Calls prog 153 #[.slice pj nj cj,.pointer (some ⟨F,0,none⟩),.pointer (some ⟨V,0,none⟩),.pointer (some ⟨U,0,none⟩)] w fun e c=>e=.returned (.bool (r&&!r2))/\Below w.heap.size w c:=by
 have j:=aA hF 0;have k:=aA hF 1;have l:=aA hF 2;have m:=aA hF 3;have n:=aC hF;have o:=aA hV 0;have p:=aA hV 1;have q:=aC hV;have s:=aA hU 0;have t:=aC hU;have b:=aa (ab hF (ab hV (ab hU d)));clear hF hV hU d;cases r
 ·go_enter func153,ntmps153;go_wp2_with (go_at_call 154;refine hl.mono ?_;rintro e i⟨rfl,a⟩;have h:=aa a;clear hl a);go_ret;exact⟨rfl,h.out⟩
 go_enter func153,ntmps153
 go_wp2_with (first|(go_at_call 154;refine hl.mono ?_;rintro e i⟨rfl,a⟩;have h:=aa a;have d:=b.2.2.2 i a;have x:=aA (aE a b.1) 0;have y:=aA (aE a b.1) 1;have z:=aA (aE a b.1) 2;have A:=aA (aE a b.1) 3;have B:=aC (aE a b.1);have b1:=aA (aE a b.2.1) 1;have bl:=aC (aE a b.2.1);have c0:=aA (aE a b.2.2.1) 0;have u:=aC (aE a b.2.2.1);clear hl a j k l m n o p q s t)|(go_at_call 152;refine d.mono ?_;rintro e E⟨rfl,f⟩;have v:=aa (aB h.out f);clear d f))
 go_ret;refine⟨?_,v.out⟩
 first|rfl|simp
end
section
variable {w:World}{cv dv va rv:Value}{t:T}{A:List T3}{B:List (List T3)}
theorem nZ{x:ByteArray}(h:x≠e0):x.toList.isEmpty=false:=jL h
structure tj (t:T) (A:List T3) (B:List (List T3)):Prop where
 la:A.length=t.cols.length
 lb:∀b∈B,b.length=t.cols.length
 lc:t.cols.length<=1000
 nb:B.length<=1000
theorem rQ(hT:ey w cv dv t)(ha:eb TT w va A)(hR:RL w rv B)(hk:t.key=e0∨re t t.key)(hro:tj t A B):Calls prog 120 #[.agg #[.string t.nm,cv,.string t.key,dv],va,rv] w fun e z=>e=.returned (.bool (jd t A B))/\Below w.heap.size w z:=by
 obtain⟨pc,cc,rfl,_,_⟩:=hT.c.slice;obtain⟨pd,cd,rfl,_,_⟩:=hT.d.slice;obtain⟨G,H,rfl,_,_⟩:=ha.slice;have b1:=aD w (.cells #[.string t.nm,.slice pc t.cols.length cc,.string t.key,.slice pd t.deps.length cd] 77);have i:=z7 w (.cells #[.string t.nm,.slice pc t.cols.length cc,.string t.key,.slice pd t.deps.length cd] 77);have b2:=aD (w.alloc (.cells #[.string t.nm,.slice pc t.cols.length cc,.string t.key,.slice pd t.deps.length cd] 77)) (.cells #[.slice G A.length H] 27);have l:=z7 (w.alloc (.cells #[.string t.nm,.slice pc t.cols.length cc,.string t.key,.slice pd t.deps.length cd] 77)) (.cells #[.slice G A.length H] 27);have i:=aE b2 i;rw[zj]at l;have b2:=aB b1 b2;obtain⟨I,f⟩:=ag ((w.alloc (.cells #[.string t.nm,.slice pc t.cols.length cc,.string t.key,.slice pd t.deps.length cd] 77)).alloc (.cells #[.slice G A.length H] 27));obtain⟨F,u⟩:=ag w.heap.size;rw[f]at i l b2;rw[u]at i l;have V:=aA i 0;have Q:=aA i 2;have W:=aC i;have X:=aC l;by_cases s:t.key=e0
 ·have g:jd t A B=false:=(by unfold jd;rw[yw (fun h=>h s)];rfl);obtain⟨pr,cr,rfl,_⟩:=hR;rw[s]at f Q ⊢;have m:=aa (ab f (ab u b2));clear hT ha hk hro i l f u b1 b2;rw[g];clear g s;go_enter func120,ntmps120;go_upto_region 1 with fail;rw[m.1,m.2.1];go_wp2_with fail;go_ret;exact⟨rfl,m.2.2⟩
 have L:=nZ s;obtain⟨k,n,o⟩:=hk.resolve_left s
 have a:Calls prog 150 #[rv,.func (.func 151) #[] #[.pointer (some ⟨F,0,none⟩),.pointer (some ⟨F+1,0,none⟩)]] I fun e z=>e=.returned (.bool (aq (fun j=>ar t t.key A (B.getD j [])) B.length).isSome)/\Below I.heap.size I z:=by
  refine GZ (q:=fun j=>ar t t.key A (B.getD j [])) (hR.later b2) hro.nb (fun y E j p vj M=>?_);obtain⟨Y,Z,rfl,_,_⟩:=M.slice;have v:=hro.lb _ (z8 p);have e:B.getD j []=B[j]:=(by rw[zu,z6 p];rfl);refine Ew (aE E i) (aE E l) ?_
  have:=nY (nm:=t.nm) (key:=t.key) (hT.later (aB b2 E)) n (ha.later (aB b2 E)) M (by rw[hro.la];exact o) (by rw[v];exact o) ⟨by rw[hro.la];exact hro.lc,by rw[v];exact hro.lc⟩
  show Calls _ _ _ _ (fun e z=>e=.returned (.bool (ar t t.key A (B.getD j [])))/\_);unfold ar ur;rw[n,e];exact this
 have g:jd t A B=(aq (fun j=>ar t t.key A (B.getD j [])) B.length).isSome:=by
  unfold jd;rw[xd s,vt,vf,vq];constructor
  ·rintro⟨b,R,S⟩;obtain⟨j,p,rfl⟩:=xz R;cases J:aq (fun j=>ar t t.key A (B.getD j [])) B.length with
   | some _=>rfl
   | none =>
    unfold aq at J;rw[ud]at J
    have:=J j (List.mem_range.2 p)
    rw[zu,z6 p]at this;exact absurd S this
  intro h;obtain⟨j,p⟩:=Option.isSome_iff_exists.1 h;obtain⟨N,O,_⟩:=dZ p;rw[zu,z6 N]at O;exact⟨B[j],z8 N,O⟩
 rw[g];obtain⟨r,P⟩:=ag ((aq (fun j=>ar t t.key A (B.getD j [])) B.length).isSome);rw[P]at a ⊢;obtain⟨pr,cr,rfl,_⟩:=hR;have m:=aa (ab f (ab u b2));clear hT ha hk hro i l f u b1 b2 g P n o;go_enter func120,ntmps120;go_upto_region 1 with fail;rw[m.1,m.2.1];go_wp2_with (go_at_call 150;refine a.mono ?_;rintro e w2⟨rfl,x⟩;have U:=aa (aB m.2.2 x);clear a x);go_ret;exact⟨rfl,U.out⟩
end
theorem yF{B:List (List T3)}{p:List T3->Bool}:(aq (fun j=>p (B.getD j [])) B.length).isSome=B.any p:=by
 rw[vf,vq];constructor
 ·intro h;obtain⟨j,a⟩:=Option.isSome_iff_exists.1 h;obtain⟨d,e,_⟩:=dZ a;rw[zu,z6 d]at e;exact⟨B[j],z8 d,e⟩
 rintro⟨b,f,g⟩;obtain⟨j,a,rfl⟩:=xz f;cases c:aq (fun j=>p (B.getD j [])) B.length with
 | some _=>rfl
 | none =>
  unfold aq at c;rw[ud]at c
  have:=c j (List.mem_range.2 a)
  rw[zu,z6 a]at this;exact absurd g this
section
variable {w:World}{cv dv va rv lv:Value}{t:T}{A:List T3}{B:List (List T3)}{d:D}
structure AV (t:T) (d:D):Prop where
 l:∀x∈d.left,re t x
 r:re t d.right
 n:d.left.length<=1000
theorem yG(hT:ey w cv dv t)(hL:lg w lv d.left)(hd:AV t d)(ha:eb TT w va A)(hR:RL w rv B)(hro:tj t A B):Calls prog 122 #[.agg #[.string t.nm,cv,.string t.key,dv],.agg #[lv,.string d.right],va,rv] w fun e M=>e=.returned (.bool (dh t d A B))/\Below w.heap.size w M:=by
 obtain⟨pc,cc,rfl,_,_⟩:=hT.c.slice;obtain⟨pd,cd,rfl,_,_⟩:=hT.d.slice;obtain⟨Q,R,rfl,_,_⟩:=ha.slice;obtain⟨pl,cl,rfl,_,_⟩:=hL.slice;have b1:=aD w (.cells #[.string t.nm,.slice pc t.cols.length cc,.string t.key,.slice pd t.deps.length cd] 77);have s:=z7 w (.cells #[.string t.nm,.slice pc t.cols.length cc,.string t.key,.slice pd t.deps.length cd] 77);obtain⟨N,u⟩:=ag (w.alloc (.cells #[.string t.nm,.slice pc t.cols.length cc,.string t.key,.slice pd t.deps.length cd] 77));have O:=zj w (.cells #[.string t.nm,.slice pc t.cols.length cc,.string t.key,.slice pd t.deps.length cd] 77);rw[u]at b1 s O;have b2:=aD N (.cells #[.slice pl d.left.length cl,.string d.right] 124);have o:=z7 N (.cells #[.slice pl d.left.length cl,.string d.right] 124);have S:=zj N (.cells #[.slice pl d.left.length cl,.string d.right] 124);obtain⟨wb,v⟩:=ag (N.alloc (.cells #[.slice pl d.left.length cl,.string d.right] 124));rw[v]at b2 o S;have m:=aD wb (.cells #[.slice Q A.length R] 27);have H:=z7 wb (.cells #[.slice Q A.length R] 27);have s:=aE m (aE b2 s);have o:=aE m o;have m:=aB (aB b1 b2) m;obtain⟨F,W⟩:=ag w.heap.size;rw[S,O]at H;rw[O]at o;obtain⟨X,z⟩:=ag (((w.alloc (.cells #[.string t.nm,.slice pc t.cols.length cc,.string t.key,.slice pd t.deps.length cd] 77)).alloc (.cells #[.slice pl d.left.length cl,.string d.right] 124)).alloc (.cells #[.slice Q A.length R] 27));have g:=z;rw[u,v]at g;rw[g]at s o H m;rw[W]at s o H
 have f:Calls prog 150 #[rv,.func (.func 153) #[] #[.pointer (some ⟨F,0,none⟩),.pointer (some ⟨F+1,0,none⟩),.pointer (some ⟨F+1+1,0,none⟩)]] X fun e M=>e=.returned (.bool (dh t d A B))/\Below X.heap.size X M:=by
  have:=EE (F:=F) (V:=F+1) (U:=F+1+1) (q:=fun j=>(fun a=>d.left.all (fun x=>ar t x A a)&&!ar t d.right A a) (B.getD j [])) (hR.later m) hro.nb (fun y P j hj vj Y=>by
   obtain⟨pj,cj,rfl,_,_⟩:=Y.slice;have E:=hro.lb _ (z8 hj);have e:B.getD j []=B[j]:=(by rw[zu,z6 hj];rfl);have i:=aB m P;simp only[e];refine KC (aE P s) (aE P o) (aE P H) (rP (hT.later i) (hL.later i) hd.l (ha.later i) Y hro.la E hro.lc hd.n) (fun y2 G=>?_);obtain⟨k,I,J⟩:=hd.r
   have:=nY (nm:=t.nm) (key:=t.key) (hT.later (aB i G)) I (ha.later (aB i G)) (Y.later G) (by rw[hro.la];exact J) (by rw[E];exact J) ⟨by rw[hro.la];exact hro.lc,by rw[E];exact hro.lc⟩
   unfold ar ur;rw[I];exact this)
  exact this.mono (fun e M h=>⟨h.1.trans (congrArg (fun b=>Ending.returned (.bool b)) (yF (B:=B) (p:=fun a=>d.left.all (fun x=>ar t x A a)&&!ar t d.right A a))),h.2⟩)
 obtain⟨r,hr⟩:=ag (dh t d A B);rw[hr]at f ⊢;obtain⟨pr,cr,rfl,_⟩:=hR;have Z:=aa (ab z (ab W m));clear hT ha hL hd hro s o H z g u v W b1 b2 m hr O S;go_enter func122,ntmps122;go_upto_region 1 with fail;rw[Z.1,Z.2.1];go_wp2_with (go_at_call 150;refine f.mono ?_;rintro e w2⟨rfl,L⟩;have H2:=aa (aB Z.2.2 L);clear f L);go_ret;exact⟨rfl,H2.out⟩
theorem yH{dp:Nat}{x:ByteArray}{u:T3}{o:Option Int}(hk:∀h,Below w.heap.size w h->Calls prog 100 #[.pointer (some ⟨dp,0,none⟩),.string x,.agg #[.int .i64 u.1,.int .i64 u.2.1,.string u.2.2]] h fun e j=>e=.returned (.tuple #[.int .i64 (o.getD 0),.bool o.isSome])/\Below h.heap.size h j):Calls prog 121 #[.pointer (some ⟨dp,0,none⟩),.string x,.agg #[.int .i64 u.1,.int .i64 u.2.1,.string u.2.2]] w fun e j=>e=.returned (.bool (decide (u.1≠0)&&o.isNone))/\Below w.heap.size w j:=by
 have b1:=aD w (.cells #[.int .i64 u.1,.int .i64 u.2.1,.string u.2.2] 32);have d:=z7 w (.cells #[.int .i64 u.1,.int .i64 u.2.1,.string u.2.2] 32);obtain⟨h,g⟩:=ag (w.alloc (.cells #[.int .i64 u.1,.int .i64 u.2.1,.string u.2.2] 32));obtain⟨F,k⟩:=ag w.heap.size;rw[g]at b1 d;rw[k]at d;have a:=hk h b1;have m:=aA d 0;have n:=aA d 1;have p:=aA d 2;have q:=aC d;have f:=aa (ab g (ab k (ab b1 d)));clear hk b1 d g k;cases o with
 | some i =>
  go_enter func121,ntmps121;go_upto_region 1 with fail;rw[f.1,f.2.1];go_wp2_with (go_at_call 100;refine a.mono ?_;rintro e r⟨rfl,c⟩;have l:=aa (aB f.2.2.1 c);clear a c);go_ret;exact⟨by simp,l.out⟩
 | none =>
  have e:decide (u.1≠0)=(u.1 != 0):=(by rw[vf];simp);rw[e];obtain⟨b,s⟩:=ag (u.1 != 0);rw[s];clear e;go_enter func121,ntmps121;go_upto_region 1 with fail;rw[f.1,f.2.1];go_wp2_with (go_at_call 100;refine a.mono ?_;rintro e r⟨rfl,c⟩;have l:=aa (aB f.2.2.1 c);have t:=aA (aE c f.2.2.2) 0;have v:=aC (aE c f.2.2.2);clear a c m n p q);go_ret;refine⟨?_,l.out⟩
  first|rfl|simp
end
