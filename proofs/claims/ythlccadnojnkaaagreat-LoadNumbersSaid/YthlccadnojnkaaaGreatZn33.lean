import Derived.Test.YthlccadnojnkaaaGreatZn30
set_option maxHeartbeats 4000000
set_option maxRecDepth 100000
namespace Go.Proofs.YthlccadnojnkaaaGreat
open Go.Proofs.Tryz
open Go Go.RowKit Go.Proofs
variable {mv:Value}
def el(ts:List T)(tb:ByteArray):List C:=(oe (be ts tb)).cols
def pcol(ts:List T):ByteArray->List ByteArray->C×ByteArray×Int
 | _,[]=>(fa,e0,3)
 | tb,x::r=>if dr (el ts tb) x=true then(if r.isEmpty=true then(ss (eo (el ts tb) x),tb,0)else if it (ss (eo (el ts tb) x)).tgt e0=true then(fa,e0,9)else pcol ts (ss (eo (el ts tb) x)).tgt r)else(fa,e0,3)
def iz(ts:List T)(tb:ByteArray)(p:List ByteArray):C×ByteArray×Int:=if p.length<1∨4<p.length then(fa,e0,5)else pcol ts tb p
theorem Dw(ts:List T)(tb:ByteArray)(p:List ByteArray){j:Nat}(hj:j<p.length):pcol ts tb (p.drop j)=if dr (el ts tb) p[j]=true then(if j+1=p.length then(ss (eo (el ts tb) p[j]),tb,0)else if it (ss (eo (el ts tb) p[j])).tgt e0=true then(fa,e0,9)else pcol ts (ss (eo (el ts tb) p[j])).tgt (p.drop (j+1)))else(fa,e0,3):=by
 rw[vw hj];rw[pcol];by_cases h:j+1=p.length
 ·have e:(p.drop (j+1)).isEmpty=true:=(by rw[List.drop_of_length_le (by omega)];rfl);rw[zv h,zv e]
 have e:¬ (p.drop (j+1)).isEmpty=true:=by
  rw[List.isEmpty_iff];intro e
  have:=congrArg List.length e
  simp only[ua,vp]at this;omega
 rw[zq h,zq e]
structure Nice (ts:List T):Prop where
 nm:∀t∈ts,named t.nm=true
 col:∀t∈ts,(t.cols.map C.nm).Nodup
 tgt:∀t∈ts,∀c∈t.cols,c.tgt=e0∨∃u,be ts c.tgt=some u
 few:∀t∈ts,t.cols.length<=6
def Cf(W W':World):Prop:=∀(b:Nat) (cur:Array Value) (m:Nat×Nat),W.heap[b]?=some (Obj.cells cur 9 m)->W'.heap[b]?=some (Obj.cells cur 9 m)
theorem Cf.below{W W':World}(h:Below W.heap.size W W'):Cf W W':=fun b _ _ x=>(h.block b (aC x)).trans x
section
variable {W W':World}{v:Value}{l:List ByteArray}
theorem Wd.kp(h:Wd W v l)(hk:Cf W W'):Wd W' v l:=by
 obtain⟨p,a,e,f,g,i,j⟩:=h;refine⟨p,a,e,f,g,i,fun k=>?_⟩;obtain⟨b,c,d,m,n,o,q⟩:=j k;exact⟨b,c,d,m,n,hk _ _ _ o,q⟩
theorem Wd.later(h:Wd W v l)(hb:Below W.heap.size W W'):Wd W' v l:=h.kp (.below hb)
theorem Wd.slice(h:Wd W v l):∃p a,v=.slice p l.length a/\l.length<=a/\a<=maxLen:=by
 obtain⟨p,a,b,c,d,_⟩:=h;exact⟨p,a,b,c,d⟩
theorem Wd.word{p:Option Addr}{n cap:Nat}(h:Wd W (.slice p n cap) l){i:Nat}(hi:i<l.length):∃b a,p=some ⟨b,a,none⟩/\b<W.heap.size/\W.cell? ⟨b,a+i,none⟩=some (.string l[i]):=by
 obtain⟨o,c,e,q,r,s,f⟩:=h;obtain⟨rfl,-,rfl⟩:=Value.slice.inj e;obtain⟨b,a,g,m,j,d,k⟩:=f (by omega);exact⟨b,a,j,aC d,by simp only[World.cell?,d];exact k i hi⟩
end
def KS(W w:World):Prop:=Below W.heap.size W w/\w.heap[W.heap.size]?=some (.cells #[.string e0,.int .i64 0,.bool false,.string e0] 95)
theorem KS.start(W:World):KS W (W.alloc (.cells #[.string e0,.int .i64 0,.bool false,.string e0] 95)):=⟨aD W _,z7 W _⟩
theorem KS.on{W w w':World}(h:KS W w)(hb:Below w.heap.size w w'):KS W w':=⟨aB h.1 hb,aE hb h.2⟩
theorem lI{ts:List T}{pv v:Value}{tb:ByteArray}{p:List ByteArray}{W:World}(h:mg mv W pv ts)(hp:Wd W v p):Calls prog 131 #[pv,.string tb,v] W fun e w'=>e=.returned (.tuple #[fx (iz ts tb p).1,.string (iz ts tb p).2.1,.int .i64 (iz ts tb p).2.2])/\Below W.heap.size W w':=by
 obtain⟨q,a4,rfl,hc,hm⟩:=hp.slice;obtain⟨n,hn⟩:=ag p.length;obtain⟨S,hS⟩:=ag W.heap.size;unfold maxLen at hm;rw[hn]at hc hp ⊢;have HP:=aa (ab h hp);have HN:=aa hn;have HS:=aa hS;have K0:=KS.start W;obtain⟨w0,R⟩:=ag (W.alloc (.cells #[.string e0,.int .i64 0,.bool false,.string e0] 95));have HW:=aa R;rw[R]at K0;obtain⟨r,E⟩:=ag (iz ts tb p);rw[E]
 have G:Hid (∀(w H:World) (a b c d:Value),KS W w->(((w.setCell ⟨S,0,none⟩ a).setCell ⟨S,1,none⟩ b).setCell ⟨S,2,none⟩ c).setCell ⟨S,3,none⟩ d=H ->
   H.cell? ⟨S,0,none⟩=some a/\H.cell? ⟨S,1,none⟩=some b/\H.cell? ⟨S,2,none⟩=some c/\H.cell? ⟨S,3,none⟩=some d/\Below W.heap.size W H):=aa (fun w H a b c d I e=>by
  subst e;have Q:=I.2;rw[hS]at Q;have h4:=mj Q a b c d;exact⟨aA h4 0,aA h4 1,aA h4 2,aA h4 3,bD I.1 (xy hS) _ _ _ _⟩)
 have s:Hid (∀w,KS W w->S<w.heap.size/\w.cell? ⟨S,0,none⟩=some (.string e0)/\w.cell? ⟨S,1,none⟩=some (.int .i64 0)/\w.cell? ⟨S,2,none⟩=some (.bool false)/\w.cell? ⟨S,3,none⟩=some (.string e0)/\∀i,w.frozen? ⟨S,i,none⟩=false):=aa (fun w I=>by
  have Q:=I.2;rw[hS]at Q;exact⟨aC Q,aA Q 0,aA Q 1,aA Q 2,aA Q 3,fun i=>zo w S i _ _ Q⟩)
 have HK:=aa K0;have X:=aa E;clear h hp R hS K0 E hn;go_enter func131,ntmps131;go_upto_region 1 with fail;rw[HW.out,HS.out];by_cases h0:n=0
 ·subst h0;obtain⟨Y,Z,z1,z2,z3,zf⟩:=s.out _ HK.out;have e:r=(fa,e0,5):=(by rw[<-X.out];unfold iz;rw[zv (by rw[HN.out];omega)]);subst e;go_wp2_with fail;generalize z:(((World.setCell _ _ _).setCell _ _).setCell _ _).setCell _ _=H;obtain⟨J,L,M,N,O⟩:=G.out _ _ _ _ _ _ HK.out z;refine ya (v:=.tuple #[fx fa,_,_]) (by simp[results,results131,go_sem,J,L,M,N,fx,fa];first|rfl|exact⟨rfl,rfl⟩) rfl ?_;exact⟨rfl,O⟩
 by_cases h4:4<n
 ·obtain⟨Y,Z,z1,z2,z3,zf⟩:=s.out _ HK.out;have e:r=(fa,e0,5):=(by rw[<-X.out];unfold iz;rw[zv (by rw[HN.out];omega)]);subst e;go_wp2_with fail;generalize z:(((World.setCell _ _ _).setCell _ _).setCell _ _).setCell _ _=H;obtain⟨J,L,M,N,O⟩:=G.out _ _ _ _ _ _ HK.out z;refine ya (v:=.tuple #[fx fa,_,_]) (by simp[results,results131,go_sem,J,L,M,N,fx,fa];first|rfl|exact⟨rfl,rfl⟩) rfl ?_;exact⟨rfl,O⟩
 have a0:Hid (pcol ts tb (p.drop 0)=r):=aa (by
  rw[<-X.out];unfold iz;rw[zq (by rw[HN.out];omega)];rfl)
 clear X;obtain⟨k,I⟩:∃k,n=k+1:=⟨n-1,by omega⟩;subst I;have a5:(((k:Int)+1)==0)=false:=(by rw[beq_eq_false_iff_ne];omega);have a6:decide (4<((k:Int)+1))=false:=yw (by omega);go_upto_region 5 with fail;go_loopg [1,32] (k+1) (fun gh tv jv w=>∃(j:Nat) (t:ByteArray),jv=.int .i64 (j:Int)/\tv=.string t/\j<=k/\k+1<=j+gh/\pcol ts t (p.drop j)=r/\KS W w)
 case atStart=>exact⟨0,tb,rfl,rfl,zh _,by omega,a0.out,HK.out⟩
 obtain⟨j,t,rfl,rfl,hj,hg,E,I⟩:=hrel;clear a0;have a1:j<p.length:=(by rw[HN.out];omega);have P:=aa I;obtain⟨b1,o1,rfl,a3,c1⟩:=(HP.2.later I.1).word a1;rw[Dw ts t p a1]at E;obtain⟨x,hx⟩:=ag (p[j]);rw[hx]at c1 E;obtain⟨ok,U⟩:=ag (dr (el ts t) x);obtain⟨c,V⟩:=ag (ss (eo (el ts t) x));obtain⟨nm,kd,mu,tg⟩:=c;have l:=J2 (HP.1.later I.1) V U;rw[U,V,HN.out]at E;have HX:=aa hx;have A:=c1;clear hx U V I c1;by_cases a7:j<k
 ·rw[zq (show ¬ j+1=k+1 by omega)]at E;cases ok
  ·rw[zq (by decide)]at E;subst E;go_upto_region 8 with (go_at_call 133;(with_reducible refine l.mono ?_);rintro e y⟨rfl,F⟩);have f:=z7 y (.cells #[.string nm,.int .i64 kd,.bool mu,.string tg] 95);have u:=aD y (.cells #[.string nm,.int .i64 kd,.bool mu,.string tg] 95);have m:=aa ((P.out.on F).on u);obtain⟨B,o⟩:=ag y.heap.size;obtain⟨w2,g⟩:=ag (y.alloc (.cells #[.string nm,.int .i64 kd,.bool mu,.string tg] 95));rw[o,g]at f;rw[g]at m;rw[o,g];obtain⟨Y,Z,z1,z2,z3,zf⟩:=s.out _ m.out;have u0:=aA f 0;have u1:=aA f 1;have u2:=aA f 2;have u3:=aA f 3;have ul:=aC f;clear f u o g F l A;go_wp2_with fail;generalize z:(((World.setCell _ _ _).setCell _ _).setCell _ _).setCell _ _=H;obtain⟨J,L,M,N,O⟩:=G.out _ _ _ _ _ _ m.out z;refine ya (v:=.tuple #[fx fa,_,_]) (by simp[results,results131,go_sem,J,L,M,N,fx,fa];first|rfl|exact⟨rfl,rfl⟩) rfl ?_;exact⟨rfl,O⟩
  rw[zv rfl]at E;cases he:it tg e0
  ·rw[he,zq (by decide)]at E;have X:=aa E;have a2:tg.toList.isEmpty=false:=(by rw[dC];exact he);clear E he;go_upto_region 8 with (go_at_call 133;(with_reducible refine l.mono ?_);rintro e y⟨rfl,F⟩);have f:=z7 y (.cells #[.string nm,.int .i64 kd,.bool mu,.string tg] 95);have u:=aD y (.cells #[.string nm,.int .i64 kd,.bool mu,.string tg] 95);have m:=aa ((P.out.on F).on u);obtain⟨B,o⟩:=ag y.heap.size;obtain⟨w2,g⟩:=ag (y.alloc (.cells #[.string nm,.int .i64 kd,.bool mu,.string tg] 95));rw[o,g]at f;rw[g]at m;rw[o,g];obtain⟨Y,Z,z1,z2,z3,zf⟩:=s.out _ m.out;have u0:=aA f 0;have u1:=aA f 1;have u2:=aA f 2;have u3:=aA f 3;have ul:=aC f;clear f u o g F l A;go_wp2_with fail;go_roundg (k-j)
   case measure=>omega
   exact⟨j+1,tg,by go_num,rfl,by omega,by omega,X.out,m.out⟩
  rw[he,zv rfl]at E;subst E;have a2:tg.toList.isEmpty=true:=(by rw[dC];exact he);clear he;go_upto_region 8 with (go_at_call 133;(with_reducible refine l.mono ?_);rintro e y⟨rfl,F⟩);have f:=z7 y (.cells #[.string nm,.int .i64 kd,.bool mu,.string tg] 95);have u:=aD y (.cells #[.string nm,.int .i64 kd,.bool mu,.string tg] 95);have m:=aa ((P.out.on F).on u);obtain⟨B,o⟩:=ag y.heap.size;obtain⟨w2,g⟩:=ag (y.alloc (.cells #[.string nm,.int .i64 kd,.bool mu,.string tg] 95));rw[o,g]at f;rw[g]at m;rw[o,g];obtain⟨Y,Z,z1,z2,z3,zf⟩:=s.out _ m.out;have u0:=aA f 0;have u1:=aA f 1;have u2:=aA f 2;have u3:=aA f 3;have ul:=aC f;clear f u o g F l A;go_wp2_with fail;generalize z:(((World.setCell _ _ _).setCell _ _).setCell _ _).setCell _ _=H;obtain⟨J,L,M,N,O⟩:=G.out _ _ _ _ _ _ m.out z;refine ya (v:=.tuple #[fx fa,_,_]) (by simp[results,results131,go_sem,J,L,M,N,fx,fa];first|rfl|exact⟨rfl,rfl⟩) rfl ?_;exact⟨rfl,O⟩
 obtain rfl:j=k:=(by omega);rw[zv rfl]at E;cases ok
 ·rw[zq (by decide)]at E;subst E;go_upto_region 15 with (go_at_call 133;(with_reducible refine l.mono ?_);rintro e y⟨rfl,F⟩);have f:=z7 y (.cells #[.string nm,.int .i64 kd,.bool mu,.string tg] 95);have u:=aD y (.cells #[.string nm,.int .i64 kd,.bool mu,.string tg] 95);have m:=aa ((P.out.on F).on u);obtain⟨B,o⟩:=ag y.heap.size;obtain⟨w2,g⟩:=ag (y.alloc (.cells #[.string nm,.int .i64 kd,.bool mu,.string tg] 95));rw[o,g]at f;rw[g]at m;rw[o,g];obtain⟨Y,Z,z1,z2,z3,zf⟩:=s.out _ m.out;have u0:=aA f 0;have u1:=aA f 1;have u2:=aA f 2;have u3:=aA f 3;have ul:=aC f;clear f u o g F l A;go_wp2_with fail;generalize z:(((World.setCell _ _ _).setCell _ _).setCell _ _).setCell _ _=H;obtain⟨J,L,M,N,O⟩:=G.out _ _ _ _ _ _ m.out z;refine ya (v:=.tuple #[fx fa,_,_]) (by simp[results,results131,go_sem,J,L,M,N,fx,fa];first|rfl|exact⟨rfl,rfl⟩) rfl ?_;exact⟨rfl,O⟩
 rw[zv rfl]at E;subst E;go_upto_region 15 with (go_at_call 133;(with_reducible refine l.mono ?_);rintro e y⟨rfl,F⟩);have f:=z7 y (.cells #[.string nm,.int .i64 kd,.bool mu,.string tg] 95);have u:=aD y (.cells #[.string nm,.int .i64 kd,.bool mu,.string tg] 95);have m:=aa ((P.out.on F).on u);obtain⟨B,o⟩:=ag y.heap.size;obtain⟨w2,g⟩:=ag (y.alloc (.cells #[.string nm,.int .i64 kd,.bool mu,.string tg] 95));rw[o,g]at f;rw[g]at m;rw[o,g];obtain⟨Y,Z,z1,z2,z3,zf⟩:=s.out _ m.out;have u0:=aA f 0;have u1:=aA f 1;have u2:=aA f 2;have u3:=aA f 3;have ul:=aC f;clear f u o g F l A;go_wp2_with fail;generalize z:(((World.setCell _ _ _).setCell _ _).setCell _ _).setCell _ _=H;obtain⟨J,L,M,N,O⟩:=G.out _ _ _ _ _ _ m.out z;refine ya (v:=.tuple #[fx ⟨nm,kd,mu,tg⟩,_,_]) (by simp[results,results131,go_sem,J,L,M,N,fx];first|rfl|exact⟨rfl,rfl⟩) rfl ?_;exact⟨rfl,O⟩
variable {mv:Value}
theorem tX{t:T}{cv dv:Value}{sb:Nat}{ts:List T}{W:World}(h:ey W cv dv t)(hs:Sch mv W sb ts)(hsm:xb t):Calls prog 66 #[.pointer (some ⟨sb,0,none⟩),.agg #[.string t.nm,cv,.string t.key,dv]] W fun e w'=>e=.returned (.int .i64 (ea ts t))/\Sch mv w' sb (su ts t)/\Chg (fun b=>b=sb) W w':=by
 have g:=aD W (ax t.nm cv t.key dv);have q:=z7 W (ax t.nm cv t.key dv);have M:=Gy (h.later g) (hs.later g) hsm;obtain⟨S,hS⟩:=ag W.heap.size;obtain⟨w0,x⟩:=ag (W.alloc (ax t.nm cv t.key dv));rw[x]at g q M;rw[hS]at q;obtain⟨pc,cc,N,_,_⟩:=h.1.slice;obtain⟨p,a5,O,_,_⟩:=h.2.slice;obtain⟨n,hn⟩:=ag t.cols.length;obtain⟨nd,y⟩:=ag t.deps.length;have s:=aa (ab g (ab q (ab h hs)));rw[hn]at N;rw[y]at O;have HW:=aa x;have HS:=aa hS;have z0:=aA q 0;have z1:=aA q 1;have z2:=aA q 2;have z3:=aA q 3;have zl:=aC q;subst N O;clear h hs x hS g q;by_cases u:ea ts t=0
 ·have hf:=Dl u
  have h8:ts.length<8:=by
   have:=(gG u).1
   unfold lim at this;simp only[Bool.or_eq_false_iff,vk]at this;omega
  have HZ:Hid (ea ts t=0/\su ts t=ts++[bh t]):=aa ⟨u,by unfold su;rw[zv u]⟩;obtain⟨m,A⟩:=ag ts.length;rw[A]at h8;rw[u]at M;have v:=aa (ab hf (ab A (ab hn y)));clear u hf A hn y hsm;go_enter func66,ntmps66;go_upto_region 3 with fail;rw[HW.out,HS.out];go_upto_region 6 with (go_at_call 102;(with_reducible refine M.mono ?_);rintro e P⟨rfl,c⟩);have B:=(s.2.2.2.later s.1).later c;have f:=aE c s.2.1;have Q:=(s.2.2.1.later s.1).later c;have E:=lH (Q.later (aF P)) v.1;rw[v.2.2.1,v.2.2.2]at E;have F:∀a w,(callFunc 81 a).run prog w=.ok (.enter 81 a) w:=(by intro a w;rfl);have G:∀a w,(callFunc 103 a).run prog w=.ok (.enter 103 a) w:=(by intro a w;rfl);clear z0 z1 z2 z3 zl M;have z0:=aA f 0;have z1:=aA f 1;have z2:=aA f 2;have z3:=aA f 3;have zl:=aC f;obtain⟨v0,v1⟩:=B.num;rw[v.2.1]at v1;have H1:=aa (ab B (aB s.1 c));have a7:(m:Int)<8:=(by omega);clear B c Q f
  go_region_law (first|(refine cA F [.agg #[.string t.nm,.slice pc n cc,.string t.key,.slice p nd a5]] (by simp[Act.eval]) ?_;(with_reducible refine Calls.mono E ?_);rintro e y2⟨p1,c1,p2,c2,ps,rfl,hO,H⟩;have R:=tO hO v.1.1;have I:=(H1.1.later (aF P)).later H;have U:=I.num;rw[v.2.1]at U;obtain⟨v2,v3⟩:=U;have H2:=aa (ab I (ab H hO));clear I H hO E;refine⟨_,rfl,?_⟩)|(refine cA G [.agg #[.string t.nm,.slice p1 n c1,.string t.key,.slice p2 nd c2]] (by simp[Act.eval]) ?_;(with_reducible refine Calls.mono R ?_);rintro e y3⟨rfl,V,X⟩;obtain⟨xs,a0,a1,a2,a3,r,j,J,L,Y,Z⟩:=J0 H1.1 H2.2.1 H2.2.2 X v.2.1 h8;obtain⟨q0,q1,q2,q3,q4⟩:=nJ j J L;have qf:=fun i=>zo y3 sb i _ _ j;have ql:=aC j;have o:=aa (ab V (ab j (ab J (ab L (ab Y Z)))));clear V X j J L Y Z R;refine⟨_,rfl,?_⟩))
  all_goals
   have k:=(fun(m1:Int) (hm1:m1=(m:Int)+1)=>IS (W:=W) o.1 o.2.1 o.2.2.1 o.2.2.2.1 o.2.2.2.2.1 (aB H1.2 o.2.2.2.2.2) v.2.1 h8 hm1);have l:=DR o.2.1 o.2.2.1 (.string t.nm) (.slice p1 n c1) (.string t.key) (.slice p2 nd c2);clear q0 q1 q2 q3 q4 qf ql v1 v3 z0 z1 z2 z3;generalize (((y3.setCell _ _).setCell _ _).setCell _ _).setCell _ _=wz at k l ⊢;obtain⟨_,_,_,_,q4⟩:=nJ l o.2.2.1 o.2.2.2.1;have qf:=(fun i=>zo wz sb i _ _ l);have ql:=aC l;have d:=aa k;clear k l;go_wp2_with fail;go_ret;exact⟨aQ HZ.1.symm,by rw[HZ.2];exact(d.out _ rfl).1,(d.out _ rfl).2⟩
 have HZ:Hid (su ts t=ts):=aa (by unfold su;rw[zq u]);have d:=aa (fun(P:World) (c:Below w0.heap.size w0 P)=>ab ((s.2.2.2.later s.1).later c) (aB s.1 c));have a6:(ea ts t != 0)=true:=(by simp[u]);obtain⟨z,a4⟩:=ag (ea ts t);rw[a4]at M a6 ⊢;clear u a4 hsm;go_enter func66,ntmps66;go_upto_region 3 with fail;rw[HW.out,HS.out];go_wp2_with (go_at_call 102;refine M.mono ?_;rintro e P⟨rfl,c⟩);go_ret;exact⟨rfl,by rw[HZ.out];exact(d.out _ c).1,Chg.of_below (d.out _ c).2⟩
