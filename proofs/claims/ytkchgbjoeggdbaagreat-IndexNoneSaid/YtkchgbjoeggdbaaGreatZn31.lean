import Derived.Test.YtkchgbjoeggdbaaGreatZn29
set_option maxHeartbeats 4000000
set_option maxRecDepth 100000
namespace Go.Proofs.YtkchgbjoeggdbaaGreat
open Go.Proofs.Tryz
open Go Go.RowKit Go.Proofs
variable{mv:Value}
def dq(ts:List T)(tb:ByteArray):List C:=(nu (bg ts tb)).cols
def pcol(ts:List T):ByteArray->List ByteArray->C×ByteArray×Int
 | _,[]=>(dx,e0,3)
 | tb,x::r=>if cp (dq ts tb) x=true then(if r.isEmpty=true then(sg (dt (dq ts tb) x),tb,0)else if ip (sg (dt (dq ts tb) x)).tgt e0=true then(dx,e0,9)else pcol ts (sg (dt (dq ts tb) x)).tgt r)else(dx,e0,3)
def et(ts:List T)(tb:ByteArray)(p:List ByteArray):C×ByteArray×Int:=if p.length<1∨4<p.length then(dx,e0,5)else pcol ts tb p
theorem yG(ts:List T)(tb:ByteArray)(p:List ByteArray){j:Nat}(hj:j<p.length):pcol ts tb (p.drop j)=if cp (dq ts tb) p[j]=true then(if j+1=p.length then(sg (dt (dq ts tb) p[j]),tb,0)else if ip (sg (dt (dq ts tb) p[j])).tgt e0=true then(dx,e0,9)else pcol ts (sg (dt (dq ts tb) p[j])).tgt (p.drop (j+1)))else(dx,e0,3):=by
 rw[vh hj];rw[pcol];by_cases h:j+1=p.length
 ·have e:(p.drop (j+1)).isEmpty=true:=(by rw[List.drop_of_length_le (by omega)];rfl);rw[zw h,zw e]
 have e:¬ (p.drop (j+1)).isEmpty=true:=by
  rw[List.isEmpty_iff];intro e
  have:=congrArg List.length e
  simp only[vt,vc]at this;omega
 rw[zu h,zu e]
structure Nice (ts:List T):Prop where
 nm:∀t∈ts,named t.nm=true
 col:∀t∈ts,(t.cols.map C.nm).Nodup
 tgt:∀t∈ts,∀c∈t.cols,c.tgt=e0∨∃u,bg ts c.tgt=some u
 few:∀t∈ts,t.cols.length<=6
def BW(W W':World):Prop:=∀(b:Nat) (cur:Array Value) (m:Nat×Nat),W.heap[b]?=some (Obj.cells cur 9 m)->W'.heap[b]?=some (Obj.cells cur 9 m)
theorem BW.below{W W':World}(h:Below W.heap.size W W'):BW W W':=fun b _ _ x=>(h.block b (aB x)).trans x
section
variable{W W':World}{v:Value}{l:List ByteArray}
theorem Wd.kp(h:Wd W v l)(hk:BW W W'):Wd W' v l:=by
 obtain⟨p,a,e,f,g,i,j⟩:=h;refine⟨p,a,e,f,g,i,fun k=>?_⟩;obtain⟨b,c,d,m,n,o,q⟩:=j k;exact⟨b,c,d,m,n,hk _ _ _ o,q⟩
theorem Wd.later(h:Wd W v l)(hb:Below W.heap.size W W'):Wd W' v l:=h.kp (.below hb)
theorem Wd.slice(h:Wd W v l):∃p a,v=.slice p l.length a/\l.length<=a/\a<=maxLen:=by
 obtain⟨p,a,b,c,d,_⟩:=h;exact⟨p,a,b,c,d⟩
theorem Wd.nil(W:World):Wd W (.slice none 0 0) []:=⟨none,0,rfl,zo _,zj _,fun a h=>(by cases h),fun h=>absurd h (vu _)⟩
theorem Wd.word{p:Option Addr}{n cap:Nat}(h:Wd W (.slice p n cap) l){i:Nat}(hi:i<l.length):∃b a,p=some ⟨b,a,none⟩/\b<W.heap.size/\W.cell? ⟨b,a+i,none⟩=some (.string l[i]):=by
 obtain⟨o,c,e,q,r,s,f⟩:=h;obtain⟨rfl,-,rfl⟩:=Value.slice.inj e;obtain⟨b,a,g,m,j,d,k⟩:=f (by omega);exact⟨b,a,j,aB d,by simp only[World.cell?,d];exact k i hi⟩
end
def KS(W w:World):Prop:=Below W.heap.size W w/\w.heap[W.heap.size]?=some (.cells #[.string e0,.int .i64 0,.bool false,.string e0] 107)
theorem KS.start(W:World):KS W (W.alloc (.cells #[.string e0,.int .i64 0,.bool false,.string e0] 107)):=⟨aD W _,z7 W _⟩
theorem KS.on{W w w':World}(h:KS W w)(hb:Below w.heap.size w w'):KS W w':=⟨aC h.1 hb,aE hb h.2⟩
theorem fE{ts:List T}{pv v:Value}{tb:ByteArray}{p:List ByteArray}{W:World}(h:mh mv W pv ts)(hp:Wd W v p):Calls prog 44 #[pv,.string tb,v] W fun e w'=>e=.returned (.tuple #[dy (et ts tb p).1,.string (et ts tb p).2.1,.int .i64 (et ts tb p).2.2])/\Below W.heap.size W w':=by
 obtain⟨q,a4,rfl,hc,hm⟩:=hp.slice;obtain⟨n,hn⟩:=ae p.length;obtain⟨S,hS⟩:=ae W.heap.size;unfold maxLen at hm;rw[hn]at hc hp ⊢;have HP:=aa (ab h hp);have HN:=aa hn;have HS:=aa hS;have K0:=KS.start W;obtain⟨w0,R⟩:=ae (W.alloc (.cells #[.string e0,.int .i64 0,.bool false,.string e0] 107));have HW:=aa R;rw[R]at K0;obtain⟨r,E⟩:=ae (et ts tb p);rw[E]
 have G:Hid (∀(w H:World) (a b c d:Value),KS W w->(((w.setCell ⟨S,0,none⟩ a).setCell ⟨S,1,none⟩ b).setCell ⟨S,2,none⟩ c).setCell ⟨S,3,none⟩ d=H ->
   H.cell? ⟨S,0,none⟩=some a/\H.cell? ⟨S,1,none⟩=some b/\H.cell? ⟨S,2,none⟩=some c/\H.cell? ⟨S,3,none⟩=some d/\Below W.heap.size W H):=aa (fun w H a b c d I e=>by
  subst e;have Q:=I.2;rw[hS]at Q;have h4:=mn Q a b c d;exact⟨aA h4 0,aA h4 1,aA h4 2,aA h4 3,bB I.1 (xn hS) _ _ _ _⟩)
 have s:Hid (∀w,KS W w->S<w.heap.size/\w.cell? ⟨S,0,none⟩=some (.string e0)/\w.cell? ⟨S,1,none⟩=some (.int .i64 0)/\w.cell? ⟨S,2,none⟩=some (.bool false)/\w.cell? ⟨S,3,none⟩=some (.string e0)/\∀i,w.frozen? ⟨S,i,none⟩=false):=aa (fun w I=>by
  have Q:=I.2;rw[hS]at Q;exact⟨aB Q,aA Q 0,aA Q 1,aA Q 2,aA Q 3,fun i=>zq w S i _ _ Q⟩)
 have HK:=aa K0;have X:=aa E;clear h hp R hS K0 E hn;go_enter func44,ntmps44;go_upto_region 1 with fail;rw[HW.out,HS.out];by_cases h0:n=0
 ·subst h0;obtain⟨Y,Z,z1,z2,z3,zf⟩:=s.out _ HK.out;have e:r=(dx,e0,5):=(by rw[<-X.out];unfold et;rw[zw (by rw[HN.out];omega)]);subst e;go_wp2_with fail;generalize z:(((World.setCell _ _ _).setCell _ _).setCell _ _).setCell _ _=H;obtain⟨J,L,M,N,O⟩:=G.out _ _ _ _ _ _ HK.out z;refine y8 (v:=.tuple #[dy dx,_,_]) (by simp[results,results44,go_sem,J,L,M,N,dy,dx];first|rfl|exact⟨rfl,rfl⟩) rfl ?_;exact⟨rfl,O⟩
 by_cases h4:4<n
 ·obtain⟨Y,Z,z1,z2,z3,zf⟩:=s.out _ HK.out;have e:r=(dx,e0,5):=(by rw[<-X.out];unfold et;rw[zw (by rw[HN.out];omega)]);subst e;go_wp2_with fail;generalize z:(((World.setCell _ _ _).setCell _ _).setCell _ _).setCell _ _=H;obtain⟨J,L,M,N,O⟩:=G.out _ _ _ _ _ _ HK.out z;refine y8 (v:=.tuple #[dy dx,_,_]) (by simp[results,results44,go_sem,J,L,M,N,dy,dx];first|rfl|exact⟨rfl,rfl⟩) rfl ?_;exact⟨rfl,O⟩
 have a0:Hid (pcol ts tb (p.drop 0)=r):=aa (by
  rw[<-X.out];unfold et;rw[zu (by rw[HN.out];omega)];rfl)
 clear X;obtain⟨k,I⟩:∃k,n=k+1:=⟨n-1,by omega⟩;subst I;have a5:(((k:Int)+1)==0)=false:=(by rw[beq_eq_false_iff_ne];omega);have a6:decide (4<((k:Int)+1))=false:=yp (by omega);go_upto_region 5 with fail;go_loopg [1,32] (k+1) (fun gh tv jv w=>∃(j:Nat) (t:ByteArray),jv=.int .i64 (j:Int)/\tv=.string t/\j<=k/\k+1<=j+gh/\pcol ts t (p.drop j)=r/\KS W w)
 case atStart=>exact⟨0,tb,rfl,rfl,zj _,by omega,a0.out,HK.out⟩
 obtain⟨j,t,rfl,rfl,hj,hg,E,I⟩:=hrel;clear a0;have a1:j<p.length:=(by rw[HN.out];omega);have P:=aa I;obtain⟨b1,o1,rfl,a3,c1⟩:=(HP.2.later I.1).word a1;rw[yG ts t p a1]at E;obtain⟨x,hx⟩:=ae (p[j]);rw[hx]at c1 E;obtain⟨ok,U⟩:=ae (cp (dq ts t) x);obtain⟨c,V⟩:=ae (sg (dt (dq ts t) x));obtain⟨nm,kd,mu,tg⟩:=c;have l:=GO (HP.1.later I.1) V U;rw[U,V,HN.out]at E;have HX:=aa hx;have A:=c1;clear hx U V I c1;by_cases a7:j<k
 ·rw[zu (show ¬ j+1=k+1 by omega)]at E;cases ok
  ·rw[zu (by decide)]at E;subst E;go_upto_region 8 with (go_at_call 46;(with_reducible refine l.mono ?_);rintro e y⟨rfl,F⟩);have f:=z7 y (.cells #[.string nm,.int .i64 kd,.bool mu,.string tg] 107);have u:=aD y (.cells #[.string nm,.int .i64 kd,.bool mu,.string tg] 107);have m:=aa ((P.out.on F).on u);obtain⟨B,o⟩:=ae y.heap.size;obtain⟨w2,g⟩:=ae (y.alloc (.cells #[.string nm,.int .i64 kd,.bool mu,.string tg] 107));rw[o,g]at f;rw[g]at m;rw[o,g];obtain⟨Y,Z,z1,z2,z3,zf⟩:=s.out _ m.out;have u0:=aA f 0;have u1:=aA f 1;have u2:=aA f 2;have u3:=aA f 3;have ul:=aB f;clear f u o g F l A;go_wp2_with fail;generalize z:(((World.setCell _ _ _).setCell _ _).setCell _ _).setCell _ _=H;obtain⟨J,L,M,N,O⟩:=G.out _ _ _ _ _ _ m.out z;refine y8 (v:=.tuple #[dy dx,_,_]) (by simp[results,results44,go_sem,J,L,M,N,dy,dx];first|rfl|exact⟨rfl,rfl⟩) rfl ?_;exact⟨rfl,O⟩
  rw[zw rfl]at E;cases he:ip tg e0
  ·rw[he,zu (by decide)]at E;have X:=aa E;have a2:tg.toList.isEmpty=false:=(by rw[cK];exact he);clear E he;go_upto_region 8 with (go_at_call 46;(with_reducible refine l.mono ?_);rintro e y⟨rfl,F⟩);have f:=z7 y (.cells #[.string nm,.int .i64 kd,.bool mu,.string tg] 107);have u:=aD y (.cells #[.string nm,.int .i64 kd,.bool mu,.string tg] 107);have m:=aa ((P.out.on F).on u);obtain⟨B,o⟩:=ae y.heap.size;obtain⟨w2,g⟩:=ae (y.alloc (.cells #[.string nm,.int .i64 kd,.bool mu,.string tg] 107));rw[o,g]at f;rw[g]at m;rw[o,g];obtain⟨Y,Z,z1,z2,z3,zf⟩:=s.out _ m.out;have u0:=aA f 0;have u1:=aA f 1;have u2:=aA f 2;have u3:=aA f 3;have ul:=aB f;clear f u o g F l A;go_wp2_with fail;go_roundg (k-j)
   case measure=>omega
   exact⟨j+1,tg,by go_num,rfl,by omega,by omega,X.out,m.out⟩
  rw[he,zw rfl]at E;subst E;have a2:tg.toList.isEmpty=true:=(by rw[cK];exact he);clear he;go_upto_region 8 with (go_at_call 46;(with_reducible refine l.mono ?_);rintro e y⟨rfl,F⟩);have f:=z7 y (.cells #[.string nm,.int .i64 kd,.bool mu,.string tg] 107);have u:=aD y (.cells #[.string nm,.int .i64 kd,.bool mu,.string tg] 107);have m:=aa ((P.out.on F).on u);obtain⟨B,o⟩:=ae y.heap.size;obtain⟨w2,g⟩:=ae (y.alloc (.cells #[.string nm,.int .i64 kd,.bool mu,.string tg] 107));rw[o,g]at f;rw[g]at m;rw[o,g];obtain⟨Y,Z,z1,z2,z3,zf⟩:=s.out _ m.out;have u0:=aA f 0;have u1:=aA f 1;have u2:=aA f 2;have u3:=aA f 3;have ul:=aB f;clear f u o g F l A;go_wp2_with fail;generalize z:(((World.setCell _ _ _).setCell _ _).setCell _ _).setCell _ _=H;obtain⟨J,L,M,N,O⟩:=G.out _ _ _ _ _ _ m.out z;refine y8 (v:=.tuple #[dy dx,_,_]) (by simp[results,results44,go_sem,J,L,M,N,dy,dx];first|rfl|exact⟨rfl,rfl⟩) rfl ?_;exact⟨rfl,O⟩
 obtain rfl:j=k:=(by omega);rw[zw rfl]at E;cases ok
 ·rw[zu (by decide)]at E;subst E;go_upto_region 15 with (go_at_call 46;(with_reducible refine l.mono ?_);rintro e y⟨rfl,F⟩);have f:=z7 y (.cells #[.string nm,.int .i64 kd,.bool mu,.string tg] 107);have u:=aD y (.cells #[.string nm,.int .i64 kd,.bool mu,.string tg] 107);have m:=aa ((P.out.on F).on u);obtain⟨B,o⟩:=ae y.heap.size;obtain⟨w2,g⟩:=ae (y.alloc (.cells #[.string nm,.int .i64 kd,.bool mu,.string tg] 107));rw[o,g]at f;rw[g]at m;rw[o,g];obtain⟨Y,Z,z1,z2,z3,zf⟩:=s.out _ m.out;have u0:=aA f 0;have u1:=aA f 1;have u2:=aA f 2;have u3:=aA f 3;have ul:=aB f;clear f u o g F l A;go_wp2_with fail;generalize z:(((World.setCell _ _ _).setCell _ _).setCell _ _).setCell _ _=H;obtain⟨J,L,M,N,O⟩:=G.out _ _ _ _ _ _ m.out z;refine y8 (v:=.tuple #[dy dx,_,_]) (by simp[results,results44,go_sem,J,L,M,N,dy,dx];first|rfl|exact⟨rfl,rfl⟩) rfl ?_;exact⟨rfl,O⟩
 rw[zw rfl]at E;subst E;go_upto_region 15 with (go_at_call 46;(with_reducible refine l.mono ?_);rintro e y⟨rfl,F⟩);have f:=z7 y (.cells #[.string nm,.int .i64 kd,.bool mu,.string tg] 107);have u:=aD y (.cells #[.string nm,.int .i64 kd,.bool mu,.string tg] 107);have m:=aa ((P.out.on F).on u);obtain⟨B,o⟩:=ae y.heap.size;obtain⟨w2,g⟩:=ae (y.alloc (.cells #[.string nm,.int .i64 kd,.bool mu,.string tg] 107));rw[o,g]at f;rw[g]at m;rw[o,g];obtain⟨Y,Z,z1,z2,z3,zf⟩:=s.out _ m.out;have u0:=aA f 0;have u1:=aA f 1;have u2:=aA f 2;have u3:=aA f 3;have ul:=aB f;clear f u o g F l A;go_wp2_with fail;generalize z:(((World.setCell _ _ _).setCell _ _).setCell _ _).setCell _ _=H;obtain⟨J,L,M,N,O⟩:=G.out _ _ _ _ _ _ m.out z;refine y8 (v:=.tuple #[dy ⟨nm,kd,mu,tg⟩,_,_]) (by simp[results,results44,go_sem,J,L,M,N,dy];first|rfl|exact⟨rfl,rfl⟩) rfl ?_;exact⟨rfl,O⟩
variable{mv:Value}
theorem tB{t:T}{cv dv:Value}{sb:Nat}{ts:List T}{W:World}(h:dw W cv dv t)(hs:Sch mv W sb ts)(hsm:t6 t):Calls prog 89 #[.pointer (some ⟨sb,0,none⟩),.agg #[.string t.nm,cv,.string t.key,dv]] W fun e w'=>e=.returned (.int .i64 (dg ts t))/\Sch mv w' sb (si ts t)/\Chg (fun b=>b=sb) W w':=by
 have g:=aD W (ar t.nm cv t.key dv);have q:=z7 W (ar t.nm cv t.key dv);have M:=Hn (h.later g) (hs.later g) hsm;obtain⟨S,hS⟩:=ae W.heap.size;obtain⟨w0,x⟩:=ae (W.alloc (ar t.nm cv t.key dv));rw[x]at g q M;rw[hS]at q;obtain⟨pc,cc,N,_,_⟩:=h.1.slice;obtain⟨p,a5,O,_,_⟩:=h.2.slice;obtain⟨n,hn⟩:=ae t.cols.length;obtain⟨nd,y⟩:=ae t.deps.length;have s:=aa (ab g (ab q (ab h hs)));rw[hn]at N;rw[y]at O;have HW:=aa x;have HS:=aa hS;have z0:=aA q 0;have z1:=aA q 1;have z2:=aA q 2;have z3:=aA q 3;have zl:=aB q;subst N O;clear h hs x hS g q;by_cases u:dg ts t=0
 ·have hf:=CJ u
  have h8:ts.length<8:=by
   have:=(fT u).1
   unfold lim at this;simp only[Bool.or_eq_false_iff,ww]at this;omega
  have HZ:Hid (dg ts t=0/\si ts t=ts++[bj t]):=aa ⟨u,by unfold si;rw[zw u]⟩;obtain⟨m,A⟩:=ae ts.length;rw[A]at h8;rw[u]at M;have v:=aa (ab hf (ab A (ab hn y)));clear u hf A hn y hsm;go_enter func89,ntmps89;go_upto_region 3 with fail;rw[HW.out,HS.out];go_upto_region 6 with (go_at_call 120;(with_reducible refine M.mono ?_);rintro e P⟨rfl,c⟩);have B:=(s.2.2.2.later s.1).later c;have f:=aE c s.2.1;have Q:=(s.2.2.1.later s.1).later c;have E:=kG (Q.later (aG P)) v.1;rw[v.2.2.1,v.2.2.2]at E;have F:∀a w,(callFunc 79 a).run prog w=.ok (.enter 79 a) w:=(by intro a w;rfl);have G:∀a w,(callFunc 121 a).run prog w=.ok (.enter 121 a) w:=(by intro a w;rfl);clear z0 z1 z2 z3 zl M;have z0:=aA f 0;have z1:=aA f 1;have z2:=aA f 2;have z3:=aA f 3;have zl:=aB f;obtain⟨v0,v1⟩:=B.num;rw[v.2.1]at v1;have H1:=aa (ab B (aC s.1 c));have a7:(m:Int)<8:=(by omega);clear B c Q f
  go_region_law (first|(refine bM F [.agg #[.string t.nm,.slice pc n cc,.string t.key,.slice p nd a5]] (by simp[Act.eval]) ?_;(with_reducible refine Calls.mono E ?_);rintro e y2⟨p1,c1,p2,c2,ps,rfl,hO,H⟩;have R:=sU hO v.1.1;have I:=(H1.1.later (aG P)).later H;have U:=I.num;rw[v.2.1]at U;obtain⟨v2,v3⟩:=U;have H2:=aa (ab I (ab H hO));clear I H hO E;refine⟨_,rfl,?_⟩)|(refine bM G [.agg #[.string t.nm,.slice p1 n c1,.string t.key,.slice p2 nd c2]] (by simp[Act.eval]) ?_;(with_reducible refine Calls.mono R ?_);rintro e y3⟨rfl,V,X⟩;obtain⟨xs,a0,a1,a2,a3,r,j,J,L,Y,Z⟩:=Hj H1.1 H2.2.1 H2.2.2 X v.2.1 h8;obtain⟨q0,q1,q2,q3,q4⟩:=mV j J L;have qf:=fun i=>zq y3 sb i _ _ j;have ql:=aB j;have o:=aa (ab V (ab j (ab J (ab L (ab Y Z)))));clear V X j J L Y Z R;refine⟨_,rfl,?_⟩))
  all_goals
   have k:=(fun(m1:Int) (hm1:m1=(m:Int)+1)=>G1 (W:=W) o.1 o.2.1 o.2.2.1 o.2.2.2.1 o.2.2.2.2.1 (aC H1.2 o.2.2.2.2.2) v.2.1 h8 hm1);have l:=Ch o.2.1 o.2.2.1 (.string t.nm) (.slice p1 n c1) (.string t.key) (.slice p2 nd c2);clear q0 q1 q2 q3 q4 qf ql v1 v3 z0 z1 z2 z3;generalize (((y3.setCell _ _).setCell _ _).setCell _ _).setCell _ _=wz at k l ⊢;obtain⟨_,_,_,_,q4⟩:=mV l o.2.2.1 o.2.2.2.1;have qf:=(fun i=>zq wz sb i _ _ l);have ql:=aB l;have d:=aa k;clear k l;go_wp2_with fail;go_ret;exact⟨aP HZ.1.symm,by rw[HZ.2];exact(d.out _ rfl).1,(d.out _ rfl).2⟩
 have HZ:Hid (si ts t=ts):=aa (by unfold si;rw[zu u]);have d:=aa (fun(P:World) (c:Below w0.heap.size w0 P)=>ab ((s.2.2.2.later s.1).later c) (aC s.1 c));have a6:(dg ts t != 0)=true:=(by simp[u]);obtain⟨z,a4⟩:=ae (dg ts t);rw[a4]at M a6 ⊢;clear u a4 hsm;go_enter func89,ntmps89;go_upto_region 3 with fail;rw[HW.out,HS.out];go_wp2_with (go_at_call 120;refine M.mono ?_;rintro e P⟨rfl,c⟩);go_ret;exact⟨rfl,by rw[HZ.out];exact(d.out _ c).1,Chg.of_below (d.out _ c).2⟩
