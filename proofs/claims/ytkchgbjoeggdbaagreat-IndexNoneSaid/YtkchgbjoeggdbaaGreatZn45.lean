import Derived.Test.YtkchgbjoeggdbaaGreatZn44
set_option maxHeartbeats 8000000
set_option maxRecDepth 100000
namespace Go.Proofs.YtkchgbjoeggdbaaGreat
open Go.Proofs.Tryz
open Go Go.RowKit Go.Proofs Co Co.S
theorem EV{A:List R1}{c j:Nat}(hj:j<A.length)(hc:c<A[j].2.length):(ng A c).getD j z3=A[j].2[c]:=by
 rw[cP (by simpa [ng]using hj)];simp[ng,hc]
def uf(l:List T3)(j k:Nat):Bool:=decide ((l.getD j z3).1=2)&&(List.range k).all fun m=>decide (l.getD m z3≠l.getD j z3)
theorem El(l:List T3)(j:Nat):uf l j 0=decide ((l.getD j z3).1=2):=by simp[uf]
theorem GI(l:List T3)(j:Nat):uf l j j=kj l j:=rfl
theorem Iz(l:List T3)(j k:Nat):uf l j (k+1)=(uf l j k&&decide (l.getD k z3≠l.getD j z3)):=by
 unfold uf;rw[List.range_succ,List.all_append];simp[Bool.and_assoc]
theorem E1{l:List T3}{j k:Nat}(hk:k<=j)(h:uf l j k=false):kj l j=false:=by
 cases a:kj l j with
 | false=>rfl
 | true =>
  obtain⟨b,c⟩:=dK.1 a
  have:uf l j k=true:=by
   unfold uf;rw[zy,xi];exact⟨yy b,fun m d=>yy (c m (by have:=List.mem_range.1 d;omega))⟩
  rw[this]at h;cases h
structure XA where
 gs:Nat
 cs:Nat
 go:Nat
 co:Nat
 pr:Option Addr
 cr:Nat
 pc:Option Addr
 kc:Nat
 pd:Option Addr
 kd:Nat
section
variable{W:World}{b:Nat}{ts:List T}{tt:List RT}{i:NI}{O:Nat->Nat}{t:Nat}{y:RT}
theorem im.nreads(h:im W b ts tt i O)(ht:t<ts.length)(hy:tt[t]?=some y)(h0:0<ts[t].cols.length):∃x:XA,(∀w,Below W.heap.size W w->w.cell? ⟨b,1,none⟩=some (.slice (some ⟨x.go,0,none⟩) ts.length x.co)/\w.cell? ⟨x.go,t,none⟩=some (.slice x.pr y.A.length x.cr)/\b<w.heap.size/\x.go<w.heap.size/\w.cell? ⟨b,0,none⟩=some (.slice (some ⟨x.gs,0,none⟩) ts.length x.cs)/\x.gs<w.heap.size/\w.cell? ⟨x.gs,t*4,none⟩=some (.string ts[t].nm)/\w.cell? ⟨x.gs,t*4+1,none⟩=some (.slice x.pc ts[t].cols.length x.kc)/\w.cell? ⟨x.gs,t*4+2,none⟩=some (.string ts[t].key)/\w.cell? ⟨x.gs,t*4+3,none⟩=some (.slice x.pd ts[t].deps.length x.kd)/\dw w (.slice x.pc ts[t].cols.length x.kc) (.slice x.pd ts[t].deps.length x.kd) ts[t])/\∀k (f:k<y.A.length),∃gr gv cv,x.pr=some ⟨gr,0,none⟩/\∀w,Below W.heap.size W w->gr<w.heap.size/\w.cell? ⟨gr,k*2,none⟩=some (.int .i64 y.A[k].1)/\w.cell? ⟨gr,k*2+1,none⟩=some (.slice (some ⟨gv,0,none⟩) ts[t].cols.length cv)/\gv<w.heap.size/\fk TT w (.slice (some ⟨gv,0,none⟩) ts[t].cols.length cv) y.A[k].2/\y.A[k].2.length=ts[t].cols.length:=by
 obtain⟨⟨gs,cs,go,co,gn,cn,pc,kc,pd,kd⟩,_,_,_,_,_,_,r⟩:=h.reads ht hy;have a:=h.ok ht hy;obtain⟨pr,cr,g,_,_⟩:=a.rows.isslice;refine⟨⟨gs,cs,go,co,pr,cr,pc,kc,pd,kd⟩,fun w s=>?_,fun k f=>?_⟩
 ·have k:=r w s;have o0:=k.o0;rw[g]at o0;exact⟨k.b1,o0,k.bl,k.ol,k.b0,k.sl,k.s0,k.s1,k.s2,k.s3,k.rt⟩
 have m:k<y.vs.length:=(by rw[a.n];exact f);have d:=a.len _ (z8 f);have c:=a.vals k f m;rw[d]at c;obtain⟨gv,cv,o,_,_⟩:=c.slice (by omega);rw[o]at c;obtain⟨gr,u,r1,_,_⟩:=a.rows.slice (by omega);have j:=a.rows;rw[r1]at j;rw[g]at r1;cases r1;obtain⟨v,p⟩:=oO a.n f;rw[o]at p;refine⟨gr,gv,cv,rfl,fun w q=>?_⟩;have e:=j.later q;have l:=c.later q;exact⟨(ac.lt e gr rfl).2,e.cell v,e.cell p,(ac.lt l gv rfl).2,(fk.my l d).mono (fun _ _ _=>trivial),d⟩
theorem CO(x y:T3):Al x.1 x.2.1 x.2.2 y.1 y.2.1 y.2.2=decide (x=y):=by
 obtain⟨a,b,c⟩:=x;obtain⟨d,e,f⟩:=y;unfold Al
 simp
theorem wU(h:im W b ts tt i O)(ht:t<ts.length)(hy:tt[t]?=some y)(hl:y.A.length<=100000)(hnt:ts.length<=1000)(hcl:ts[t].cols.length<=1000)(hc0:0<ts[t].cols.length){c:Nat}(hc:c<ts[t].cols.length):Calls prog 196 #[.pointer (some ⟨b,0,none⟩),.int .i64 (t:Int),.int .i64 (c:Int)] W fun e q=>e=.returned (.int .i64 ((ga (ng y.A c) y.A.length).length:Int))/\Below W.heap.size W q:=by
 have N:=h.nreads ht hy hc0;obtain⟨nt,E⟩:=ae ts.length;obtain⟨A,H⟩:=ae y.A;obtain⟨nc,I⟩:=ae (ts[t].cols.length);rw[H,E,I]at N;rw[H]at hl ⊢;obtain⟨n,P⟩:=ae A.length;obtain⟨l,J⟩:=ae (ng A c);have b9:(t:Int)<(nt:Int):=(by omega);have b7:(nt:Int)<=1000:=(by omega);rw[I]at hc hcl;have b1:(n:Int)<=100000:=(by omega);have c0:(c:Int)<(nc:Int):=(by omega);have b8:(nc:Int)<=1000:=(by omega);rw[J,P];cases n with
 | zero =>
  obtain⟨x,r,_⟩:=N;obtain⟨o1,o2,o3,o4,_⟩:=r W (zg _ _);obtain⟨gs,cs,g,c1,pr,cr,pc,kc,pd,kd⟩:=x;dsimp only at o1 o2 o3 o4;rw[P]at o2;clear h r P J E H hy;go_enter func196,ntmps196;go_wp2_with fail;go_loopg [7,8] 1 (fun gh cv iv w=>cv=.int .i64 0/\iv=.int .i64 0/\w=W)
  case atStart=>exact⟨rfl,rfl,rfl⟩
  case round =>
   obtain⟨rfl,rfl,rfl⟩:=hrel;go_wp2_with fail;go_ret;exact⟨rfl,zg _ _⟩
 | succ n0 =>
  obtain⟨⟨gs,cs,g,c1,pr,cr,pc,kc,pd,kd⟩,r,F⟩:=N;dsimp only at r F;rw[P]at r
  obtain⟨gr,rfl⟩:∃gr,pr=some ⟨gr,0,none⟩:=by
   obtain⟨gr,_,_,e,_⟩:=F 0 (by omega);exact⟨gr,e⟩
  have Q:∀w,Below W.heap.size W w->(w.cell? ⟨b,1,none⟩=some (.slice (some ⟨g,0,none⟩) nt c1)/\w.cell? ⟨g,t,none⟩=some (.slice (some ⟨gr,0,none⟩) (n0+1) cr)/\b<w.heap.size/\g<w.heap.size/\gr<w.heap.size)/\∀k,k<n0+1->∃gv cv,w.cell? ⟨gr,k*2+1,none⟩=some (.slice (some ⟨gv,0,none⟩) nc cv)/\∀j,j<nc->w.cell? ⟨gv,j*3,none⟩=some (.int .i64 ((ng A j).getD k z3).1)/\w.cell? ⟨gv,j*3+1,none⟩=some (.int .i64 ((ng A j).getD k z3).2.1)/\w.cell? ⟨gv,j*3+2,none⟩=some (.string ((ng A j).getD k z3).2.2):=fun w hw=>by
   obtain⟨o1,o2,o3,o4,_⟩:=r w hw;refine⟨⟨o1,o2,o3,o4,?_⟩,fun k hk=>?_⟩
   ·obtain⟨b2,_,_,e,hq⟩:=F 0 (by omega);cases e;exact(hq w hw).1
   ·obtain⟨b2,gv,cv,e,hq⟩:=F k (by omega);cases e;obtain⟨q1,q2,q3,q4,q5,q6⟩:=hq w hw;refine⟨gv,cv,q3,fun j hj=>?_⟩;have b3:k<A.length:=(by omega);rw[EV b3 (by rw[q6];exact hj)];obtain⟨b',o',e,_,r1,r2,r3⟩:=fk.val q5 (j:=j) (by rw[q6];exact hj);cases e;rw[xj]at r1 r2 r3;exact⟨r1,r2,r3⟩
  obtain⟨n,Z⟩:=ae (n0+1);rw[Z]at Q b1 P ⊢;have a0:=aa Q;have HN:=aa (ab P (ab I (ab J hc)));clear h r F Q P I J hc hl hcl hc0 Z hnt E H hy;go_enter func196,ntmps196;go_wp2_with fail;go_loopg [7,8] (n+1) (fun gh cv iv w=>∃(j:Nat),iv=.int .i64 (j:Int)/\j<=n/\n+1<=j+gh/\cv=.int .i64 ((ga l j).length:Int)/\Below W.heap.size W w)
  case atStart=>exact⟨0,rfl,zj _,by omega,rfl,zg _ _⟩
  case round =>
   obtain⟨j,rfl,hj,hg,rfl,hB⟩:=hrel;have a1:(ga l j).length<=j:=zx (List.length_filter_le _ _) (by rw[List.length_range];exact zo _);obtain⟨⟨x1,x2,xl,xg,xr⟩,U⟩:=a0.out wr hB;by_cases b4:j<n
   ·have c2:(j:Int)<(n:Int):=(by omega);obtain⟨gv,cv,y0,z⟩:=U j b4;obtain⟨z,L,M⟩:=z c (by omega);rw[HN.2.2.1]at z L M;obtain⟨u,hu⟩:=ae (l.getD j z3);rw[hu]at z L M;obtain⟨m,hm⟩:=ae ((ga l j).length);have c3:(m:Int)<=100000:=(by omega);rw[hm];have HB:=aa (ab hB (ab hu hm));clear U hB hu hm a1;go_upto_region 6 with fail;have hV:=z7 wr (.cells #[.int .i64 u.1,.int .i64 u.2.1,.string u.2.2] 32);have R:=aD wr (.cells #[.int .i64 u.1,.int .i64 u.2.1,.string u.2.2] 32);obtain⟨w1,a2⟩:=ae (wr.alloc (.cells #[.int .i64 u.1,.int .i64 u.2.1,.string u.2.2] 32));obtain⟨V,a3⟩:=ae wr.heap.size;rw[a2]at hV R ⊢;rw[a3]at hV ⊢;have a4:=aC HB.1 R;have z0:=aA hV 0;have H1:=aa (ab hV a4)
    have a5:uf l j 0=(u.1==2):=by
     rw[El,HB.2.1,wu];simp
    clear hV R a2 a3 a4 x1 x2 xl xg xr y0 z L M;go_upto_region 7 with fail;rw[<-a5];clear z0 a5
    go_upto_block 2 with fail
    go_cut [10]from 300 to 300 (fun gv wx=>gv=.bool (kj l j)/\Below W.heap.size W wx)
    case first =>
     go_wp2_with fail;go_loopg [10,11] (j+1) (fun gh gv kv w=>∃(k:Nat),kv=.int .i64 (k:Int)/\k<=j/\j+1<=k+gh/\gv=.bool (uf l j k)/\Below w1.heap.size w1 w)
     case atStart=>exact⟨0,rfl,zj _,by omega,rfl,zg _ _⟩
     case round =>
      obtain⟨k,rfl,b5,c4,rfl,o⟩:=hrel;cases X:uf l j k
      ·have f:=aa (ab (aC H1.2 o) (E1 b5 X));by_cases b6:(k:Int)<(j:Int)
       all_goals
        clear o X;go_wp2_with fail;go_meet;exact⟨by rw[f.2],f.1⟩
      ·by_cases c5:k<j
       ·have b6:(k:Int)<(j:Int):=(by omega);have c6:(k:Int)<(n:Int):=(by omega);have a6:k<n:=(by omega);obtain⟨⟨e1,e2,e3,e4,e5⟩,U⟩:=a0.out wr (aC H1.2 o);obtain⟨s,a7,y0,z⟩:=U k a6;obtain⟨z,L,M⟩:=z c (by omega);rw[HN.2.2.1]at z L M;obtain⟨x,hx⟩:=ae (l.getD k z3);rw[hx]at z L M;have a8:=aE o H1.1
        have B:Hid (∀w,Below wr.heap.size wr w->(w.cell? ⟨b,1,none⟩=some (.slice (some ⟨g,0,none⟩) nt c1)/\w.cell? ⟨g,t,none⟩=some (.slice (some ⟨gr,0,none⟩) n cr)/\w.cell? ⟨gr,k*2+1,none⟩=some (.slice (some ⟨s,0,none⟩) nc a7))/\(b<w.heap.size/\gr<w.heap.size)/\(w.cell? ⟨s,c*3,none⟩=some (.int .i64 x.1)/\w.cell? ⟨s,c*3+1,none⟩=some (.int .i64 x.2.1)/\w.cell? ⟨s,c*3+2,none⟩=some (.string x.2.2))/\w.heap[V]?=some (.cells #[.int .i64 u.1,.int .i64 u.2.1,.string u.2.2] 32)):=aa (fun w hb=>by
         have Y:∀{a:Addr} {v:Value},wr.cell? a=some v->w.cell? a=some v:=(fun h=>(ze (w:=wr) (hb.block _ (xh _ _ h))).trans h);exact⟨⟨Y e1,Y e2,Y y0⟩,⟨z9 e3 hb.size,z9 e5 hb.size⟩,⟨Y z,Y L,Y M⟩,aE hb a8⟩)
        have G:=(fun w=>jX x.1 x.2.1 x.2.2 u.1 u.2.1 u.2.2 w);simp only[CO]at G;have f:=aa (ab o (ab X hx));clear U e1 e2 e3 e4 e5 y0 z L M a8 o X hx;go_upto_region 10 with fail;refine Par.ag 15 [.pointer (some ⟨b,0,none⟩),.pointer (some ⟨b,0,none⟩),.pointer (some ⟨b,1,none⟩),.slice (some ⟨g,0,none⟩) nt c1,.int .i64 (t:Int),.pointer (some ⟨g,t,none⟩),.slice (some ⟨gr,0,none⟩) n cr,.int .i64 (k:Int),.pointer (some ⟨gr,k*2,none⟩),.pointer (some ⟨gr,k*2+1,none⟩),.slice (some ⟨s,0,none⟩) nc a7,.int .i64 (c:Int),.pointer (some ⟨s,c*3,none⟩),.agg #[.int .i64 x.1,.int .i64 x.2.1,.string x.2.2],.agg #[.int .i64 u.1,.int .i64 u.2.1,.string u.2.2]] (fun w=>Below wr.heap.size wr w) ?A1 ?hm1 ?hB1 ?hA1 (aG wr) ?hop1 ?hT1
        case hm1=>kernel_rfl
        case hB1=>kernel_rfl
        case hA1 =>
         simp only[Par.am,Par.ai,Act.put,eh,ez,dz,eo,ew,ey,ed,ic,gy];rfl
        case hop1 =>
         simp only[en,zh,Par.ah,yo];and_intros<;>intro q p<;>have HR:=aa p
         rotate_left;have zl:=(B.out q p).2.1.1;rotate_left;have zl:=(B.out q p).2.1.1;rotate_left;have x0:=(B.out q p).1.1;rotate_left 3;have x0:=(B.out q p).1.2.1;rotate_left 3;have zl:=(B.out q p).2.1.2;rotate_left;have x0:=(B.out q p).1.2.2;rotate_left 3;have x0:=(B.out q p).2.2.1.1;have x1:=(B.out q p).2.2.1.2.1;have x2:=(B.out q p).2.2.1.2.2;rotate_left;have x0:=aA (B.out q p).2.2.2 0;have x1:=aA (B.out q p).2.2.2 1;have x2:=aA (B.out q p).2.2.2 2;rotate_left
         all_goals(clear p;simp only[Par.Gives];go_simp;all_goals exact HR.out)
        case hT1 =>
         intro q p;simp only[ex,ye];have HR:=aa p;have G:=G q;clear p;go_wp2_with (go_at_call 210;refine G.mono ?_;rintro e w4⟨rfl,a9⟩;have H4:=aa (aC f.1 (HR.out.trans (a9.mono HR.out.size)));clear G a9);go_roundg (j-k)
         case measure=>omega
         case rel=>exact⟨k+1,rfl,by omega,by omega,by rw[Iz,f.2.1,f.2.2,HB.2.1];simp,H4.out⟩
       ·obtain rfl:k=j:=(by omega);have f:=aa (ab (aC H1.2 o) X);clear o X;go_wp2_with fail;go_meet;exact⟨by rw[<-GI,f.2],f.1⟩
    case rest =>
     obtain⟨rfl,S⟩:=hcut;have b0:=aa S;have d:=qM l j;rw[HB.2.2]at d;cases hf:kj l j
     ·rw[hf]at d;have HS:=aa d;clear S hf d;go_wp2_with fail;go_roundg (n-j)
      case measure=>omega
      case rel=>exact⟨j+1,rfl,by omega,by omega,by rw[HS.out];rfl,b0.out⟩
     ·rw[hf]at d;have HS:=aa d;clear S hf d;go_wp2_with fail;go_roundg (n-j)
      case measure=>omega
      case rel=>exact⟨j+1,rfl,by omega,by omega,by rw[HS.out];rfl,b0.out⟩
   ·obtain rfl:j=n:=(by omega);clear U;go_wp2_with fail;go_ret;exact⟨rfl,hB⟩
end
