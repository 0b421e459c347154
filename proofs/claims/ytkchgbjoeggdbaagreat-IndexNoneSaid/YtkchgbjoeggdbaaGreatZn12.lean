import Derived.Test.YtkchgbjoeggdbaaGreatZn11
import Derived.Deep.AppendLies
set_option maxHeartbeats 2000000
set_option maxRecDepth 100000
namespace Go.Proofs.YtkchgbjoeggdbaaGreat.Co.S
open Go.Proofs.Tryz
open Go Go.RowKit Go.Shelf Go.Proofs Go.Proofs.YtkchgbjoeggdbaaGreat Go.Proofs.YtkchgbjoeggdbaaGreat.Co
section
variable{cb:Nat}{kind n:Int}{v:Value}{L:List (K 12×Int)}{W0 W W':World}
theorem FY{m:Nat}{xs:List Value}{base:Nat}(h:Cm cb kind v n L W0 W)(hr:ac W base 32 3 v m xs)(i:Int)(hi:i<0∨(m:Int)<=i):Calls prog 84 #[.pointer (some ⟨cb,0,none⟩),.int .i64 i] W fun e b=>e=.returned (.tuple #[.agg #[.int .i64 0,.int .i64 0,.string (⟨#[]⟩)],.bool false])/\Below W.heap.size W b:=by
 have a:=(fun y(c:Below W.heap.size W y)=>rG (h.later c) (hr.later c));have b0:=a _ (aD W (.cells #[.int .i64 0,.int .i64 0,.string ⟨#[]⟩] 32));clear a hr h;by_cases d:i<0
 ·go_enter func84,ntmps84
  go_wp2
  refine y8 (v:=.tuple #[.agg #[.int .i64 0,.int .i64 0,.string (⟨#[]⟩)],.bool false]) (by simp[results,results84,go_sem]) rfl ?_;exact⟨rfl,aD W _⟩
 have f:decide (i<0)=false:=yp d;have d1:(m:Int)<=i:=(by omega);have d1:decide ((m:Int)<=i)=true:=yy (by omega);go_enter func84,ntmps84;go_wp2_with (go_at_call 115;refine b0.mono ?_;rintro e b⟨rfl,g⟩;subst b);refine y8 (v:=.tuple #[.agg #[.int .i64 0,.int .i64 0,.string (⟨#[]⟩)],.bool false]) (by simp[results,results84,go_sem]) rfl ?_;exact⟨rfl,aD W _⟩
theorem uW:(prog.info? 32).map (fun i=>(i.zero,i.size,i.bytes))=some (some (.agg #[.int .i64 0,.int .i64 0,.string ⟨#[]⟩]),3,32):=by kernel_rfl
theorem lj(y:World)(base:Nat){v:Value}{m:Nat}{xs:List Value}(hr:ac y base 32 3 v m xs)(hm:m+1<=1000000)(hb:base<=y.heap.size)(k n1:Int)(s:ByteArray):∃g a b,(Builtin.append_ #[35,35] 35 #[v,.slice (some ⟨y.heap.size,0,none⟩) 1 1]).run prog (y.alloc (.cells #[.int .i64 k,.int .i64 n1,.string s] 32))=.ok (.slice (some ⟨g,0,none⟩) (m+1) a) b/\ac b base 32 3 (.slice (some ⟨g,0,none⟩) (m+1) a) (m+1) (xs++[.int .i64 k,.int .i64 n1,.string s])/\(y.alloc (.cells #[.int .i64 k,.int .i64 n1,.string s] 32)).grownBy b v.ownBlock/\(v.ownBlock=some g∨y.heap.size<=g):=by
 obtain⟨i,c,d,e,f⟩:=info_parts uW;have j:=z7 y (.cells #[.int .i64 k,.int .i64 n1,.string s] 32)
 obtain⟨g,a,b,l,n,o,p⟩:=aS (P:=prog) (y.alloc (.cells #[.int .i64 k,.int .i64 n1,.string s] 32)) base 35 35 32 i _ 3 32 underlying35 c d e f rfl (by decide) (hr.later (aD y _)) ⟨y.heap.size,0,none⟩ 1 1 [.int .i64 k,.int .i64 n1,.string s] rfl
  (by exact World.news_of_block j) (by simp[Value.oneCell']) (by decide) (by unfold maxLen;omega) (by omega) (by rw[zm];omega)
 exact⟨g,a,b,l,n,o,p.imp id (fun h=>by rw[zm]at h;omega)⟩
end
section
variable{cb:Nat}{kind n:Int}{v:Value}{L:List (K 12×Int)}{W0 W W':World}
def y5(n:Int)(x:T3):Int:=if x.1=0 then n+1 else n
def x'(L:List (K 12×Int))(x:T3):List (K 12×Int):=if x.1=2 then bn keyOf (wd x.2.2) (tm (wd x.2.2) L+1) L else L
theorem gZ{x:T3}(h:lq kind x=true)(h2:x.1=2):x.2.2.size<=12:=by
 unfold lq at h;rw[zy]at h;have h:=h.1;unfold jh at h;rw[h2]at h;simp[qq]at h;exact h.2.1
theorem lN(h:Cm cb kind v n L W0 W)(x:T3)(hs:x.1=2->x.2.2.size<=12)(hn:0<=n/\n<=1000000)(hl:L.length+1<=999999)(ht:∀s,tm s L+1<=1000000):Calls prog 100 #[.pointer (some ⟨cb,0,none⟩),.agg #[.int .i64 x.1,.int .i64 x.2.1,.string x.2.2]] W fun e a=>e=.returned (.tuple #[])/\Cm cb kind v (y5 n x) (x' L x) W0 a/\Chg (fun b=>b=cb) W a:=by
 obtain⟨k,c,s⟩:=x;unfold y5 x';by_cases d:k=0
 ·subst d;exact uU h c s hn
 by_cases f:k=2
 ·subst f;exact uV h c s (hs rfl) hl (ht _)
 simp only[d,f,if_false];exact(rH h c s k d f).mono (fun e a⟨i,g⟩=>⟨i,h.later g,Chg.of_below g⟩)
theorem uX{l:List T3}(h:Cm cb kind v n L W0 W)(hr:ac W (cb+1) 32 3 v l.length (cells3 l))(hll:l.length+1<=1000)(x:T3)(hs:x.2.2.size<=maxLen)(hi:lq kind x=true)(hn:0<=n/\n<=1000000)(hl:L.length+1<=999999)(Y:∀s,tm s L+1<=1000000):Calls prog 123 #[.pointer (some ⟨cb,0,none⟩),.agg #[.int .i64 x.1,.int .i64 x.2.1,.string x.2.2]] W fun e Z=>e=.returned (.bool true)/\∃v',Cm cb kind v' (y5 n x) (x' L x) W0 Z/\ac Z (cb+1) 32 3 v' (l++[x]).length (cells3 (l++[x]))/\(∀q,v'.ownBlock=some q->v.ownBlock=some q∨W.heap.size<=q)/\Chg (fun b=>b=cb∨v.ownBlock=some b) W Z:=by
 have hc:=(fun(y:World) (u:Value) (hy:Cm cb kind u n L W0 y)=>lN hy x (gZ hi) hn hl Y);have o:(l++[x]).length=l.length+1:=(by simp);have c:cells3 (l++[x])=cells3 l++[.int .i64 x.1,.int .i64 x.2.1,.string x.2.2]:=(by rw[dQ];simp[cells3]);rw[o,c];generalize y5 n x=n' at hc ⊢;generalize x' L x=L' at hc ⊢;obtain⟨k,A,s⟩:=x;have Y:=jE (h.later (aD W (.cells #[.int .i64 k,.int .i64 A,.string s] 32))) k A s hs;rw[hi]at Y;have p:=z7 W (.cells #[.int .i64 k,.int .i64 A,.string s] 32);have E:=(fun y(hy:ac y (cb+1) 32 3 v l.length (cells3 l)) (F:cb+1<=y.heap.size)=>lj y (cb+1) hy (by omega) F k A s);have G:=aD W (.cells #[.int .i64 k,.int .i64 A,.string s] 32);obtain⟨B,hB⟩:=ae W.heap.size;have F:=h.lt;rw[hB]at p G F;have HF:=aa (ab p (ab G (ab h hr)));have HC:=aa (ab o c);obtain⟨m,hm⟩:=ae l.length;obtain⟨xs,R⟩:=ae (cells3 l);rw[hm,R]at E hr;simp only[hm,R];clear p G hi o c;go_enter func123,ntmps123;go_wp2_with (go_at_call 98;refine Y.mono ?_;rintro e a⟨rfl,b1⟩);have S:Below B W a:=HF.2.1.trans (b1.mono (by rw[<-hB];simp));have d:Below W.heap.size W a:=hB.symm▸S;have N:=h.later d;have c1:=N.c1;have f1:=N.dm.fz 1;have H:=hr.later d;have bx:a.heap[B]?=some (.cells #[.int .i64 k,.int .i64 A,.string s] 32):=(b1.block B (by simp;omega)).trans HF.1;have b0:=aA bx 0;have a7:=aA bx 1;have b2:=aA bx 2;have a0:cb+1<=a.heap.size:=(by have:=S.size;omega);obtain⟨g,r,O,t,U,P,own⟩:=E a.drew (H.later (zg _ a).drew) a0;have t:(Builtin.append_ #[35,35] 35 #[v,.slice (some ⟨a.heap.size,0,none⟩) 1 1]).run prog (a.alloc (.cells #[.int .i64 k,.int .i64 A,.string s] 32)).drew=.ok (.slice (some ⟨g,0,none⟩) (m+1) r) O:=t;have f:a.grownBy O v.ownBlock:=⟨P.os,P.tape,P.output,zx (by simp) P.size,fun q i a1=>(P.block q (by show q<(a.alloc _).heap.size;simp;omega) a1).trans ((aD a _).block q i)⟩
 have I:∀q,v.ownBlock=some q->q≠cb/\Ty a q:=fun q i=>by
  obtain⟨q1,a2,q2⟩:=H.block q i;exact⟨by omega,a2,32,q2,by decide⟩
 have J:=N.other f I;have c3:=J.c1;have f3:=J.dm.fz 1;have V:∀q,v.ownBlock=some q->q≠B:=(fun q i=>by have:=(HF.2.2.2.lt q i).2;omega);have j:O.heap[B]?=some (.cells #[.int .i64 k,.int .i64 A,.string s] 32):=(f.block B (xh a ⟨B,0,none⟩ b0) (fun e=>V B e.symm rfl)).trans bx;have HH:=aa (ab J (ab U (ab f (ab own (ab j d)))));have a8:B<O.heap.size:=aB j
 have a3:g≠cb:=by
  rcases own with e|e
  ·exact(I g e).1
  intro e2;have:cb<a.heap.size:=N.lt;have:a.heap.size<=g:=e;omega
 have a5:cb<a.heap.size:=N.lt;have a6:B<a.heap.size:=xh a ⟨B,0,none⟩ b0;clear J U f P own j I V N H E
 go_region_law (refine bE rfl (.tmp 13) (.tmp 15) 35 rfl rfl rfl t ?_)
 all_goals
  obtain⟨Q,w⟩:∃Q,Q=O.setCell ⟨cb,1,none⟩ (.slice (some ⟨g,0,none⟩) (m+1) r):=⟨_,rfl⟩;rw[<-w];obtain⟨J,U,f,own,j,d⟩:=HH.out;have h4:=J.set1 (.slice (some ⟨g,0,none⟩) (m+1) r);have M:∀q,q≠cb->Q.heap[q]?=O.heap[q]?:=(fun q i=>by rw[w];exact ua _ _ _ _ (fun e=>i e));rw[<-w]at h4;have r4:=U.of (w':=Q) (fun q i=>M q (by cases i;exact a3));have z:=(M B (by omega)).trans j;have d0:=aA z 0;have d1:=aA z 1;have d2:=aA z 2;have a4:=hc Q _ h4
  have g4:Chg (fun b=>b=cb∨v.ownBlock=some b) W Q:=by
   rw[w];exact((Chg.of_below d).grown f (fun q i _=>.inr i)).setCell (fun _=>.inl rfl) _
  have HG:=aa (ab r4 (ab g4 own));have X:W.heap.size<=a.heap.size:=d.size;have HS:=aa X;clear J U f own j d h4 M r4 g4 X z w;go_wp2_with (go_at_call 100;refine a4.mono ?_;rintro e w5⟨rfl,d5,c5⟩);go_ret;refine⟨rfl,_,d5,HG.1.chg (by omega) c5,fun q i=>?_,HG.2.1.trans c5 (fun _ _ x=>x) (fun _ _ x=>.inl x)⟩;cases i;exact HG.2.2.imp id (fun h=>zx HS.out h)
end
section
variable{cb:Nat}{kind n:Int}{v:Value}{L:List (K 12×Int)}{W0 W W':World}
theorem FN{m:Nat}{xs:List Value}{base:Nat}(h:Cm cb kind v n L W0 W)(hr:ac W base 32 3 v m xs)(i:Int)(hi:i<0∨(m:Int)<=i)(k n1:Int)(s:ByteArray):Calls prog 64 #[.pointer (some ⟨cb,0,none⟩),.int .i64 i,.agg #[.int .i64 k,.int .i64 n1,.string s]] W fun e a=>e=.returned (.bool false)/\Below W.heap.size W a:=by
 have b:=FY (h.later (aD W (.cells #[.int .i64 k,.int .i64 n1,.string s] 32))) (hr.later (aD W (.cells #[.int .i64 k,.int .i64 n1,.string s] 32))) i hi;clear hi h hr;go_enter func64,ntmps64;go_wp2_with (go_at_call 84;refine b.mono ?_;rintro e c⟨rfl,b1⟩);go_ret;exact⟨rfl,aC (aC (aD W _) b1) (aD _ _)⟩
theorem C6{l:List T3}{base:Nat}(h:Cm cb kind v n L W0 W)(hr:ac W base 32 3 v l.length (cells3 l))(i:Nat)(hi:i<l.length)(k n1:Int)(s:ByteArray)(hs:s.size<=maxLen)(hc:lq kind (k,n1,s)=false):Calls prog 64 #[.pointer (some ⟨cb,0,none⟩),.int .i64 (i:Int),.agg #[.int .i64 k,.int .i64 n1,.string s]] W fun e m=>e=.returned (.bool false)/\Below W.heap.size W m:=by
 have g:=BZ (h.later (aD W (.cells #[.int .i64 k,.int .i64 n1,.string s] 32))) (hr.later (aD W (.cells #[.int .i64 k,.int .i64 n1,.string s] 32))) i hi;have d:=(fun y(o:Below W.heap.size W y)=>jE (h.later o) k n1 s hs);rw[hc]at d;generalize l[i]=x at g;have a:=z7 W (.cells #[.int .i64 k,.int .i64 n1,.string s] 32);obtain⟨B,f⟩:=ae W.heap.size;have b:=aD W (.cells #[.int .i64 k,.int .i64 n1,.string s] 32);rw[f]at a b d;clear hi h hr;go_enter func64,ntmps64
 go_wp2_with (first|(go_at_call 84;refine g.mono ?_;rintro e j⟨rfl,b1⟩;have bx:j.heap[B]?=some (.cells #[.int .i64 k,.int .i64 n1,.string s] 32):=(b1.block B (by simp;omega)).trans a;have b0:=aA bx 0;have p:=aA bx 1;have b2:=aA bx 2;have q:=aB bx;have c:Below B W j:=b.trans (b1.mono (by rw[<-f];simp)))|(go_at_call 98;refine(d _ (c.alloc (by omega) _)).mono ?_;rintro e r⟨rfl,b2⟩))
 go_ret;exact⟨rfl,by rw[f];exact(c.alloc (by omega) _).trans (b2.mono (by simp;omega))⟩
def uy(n:Int)(x:T3):Int:=if x.1=0 then n-1 else n
def sq(L:List (K 12×Int))(x:T3):List (K 12×Int):=if x.1=2 then mr (wd x.2.2) L else L
theorem rI(h:Cm cb kind v n L W0 W)(x:T3)(hs:x.1=2->x.2.2.size<=12)(hn:n<=1000000)(hn1:x.1=0->1<=n)(hl:L.length+1<=999999):Calls prog 99 #[.pointer (some ⟨cb,0,none⟩),.agg #[.int .i64 x.1,.int .i64 x.2.1,.string x.2.2]] W fun e a=>e=.returned (.tuple #[])/\Cm cb kind v (uy n x) (sq L x) W0 a/\Chg (fun b=>b=cb) W a:=by
 obtain⟨k,c,s⟩:=x;unfold uy sq;by_cases d:k=0
 ·subst d;exact pR h c s ⟨hn1 rfl,hn⟩
 by_cases f:k=2
 ·subst f;exact pS h c s (hs rfl) hl
 simp only[d,f,if_false];exact(nS h c s k d f).mono (fun e a⟨i,g⟩=>⟨i,h.later g,Chg.of_below g⟩)
theorem Eo(s:K 12)(x:T3)(hs:Srt keyOf L)(hp:∀s,0<=tm s L):tm s (sq L x)<=tm s L:=by
 unfold sq;split
 ·rw[xK _ _ hs (hp _)];split
  ·rename_i e;have a:=hp (wd x.2.2);rw[e]at a ⊢;split <;> omega
  omega
 omega
theorem Ev(x:T3)(hs:Srt keyOf L):(sq L x).length<=L.length:=by
 unfold sq;split
 ·exact rF _ hs
 omega
end
section
variable{cb:Nat}{kind n:Int}{v:Value}{L:List (K 12×Int)}{W0 W W':World}
theorem xL{w:World}{base g cap m:Nat}{l:List T3}(h:ac w base 32 3 (.slice (some ⟨g,0,none⟩) m cap) m (cells3 l))(hm:l.length=m)(i:Nat)(hi:i<m)(k n1:Int)(s:ByteArray):ac (((w.setCell ⟨g,i*3,none⟩ (.int .i64 k)).setCell ⟨g,i*3+1,none⟩ (.int .i64 n1)).setCell ⟨g,i*3+2,none⟩ (.string s)) base 32 3 (.slice (some ⟨g,0,none⟩) m cap) m (cells3 (l.set i (k,n1,s)))/\w.grownBy (((w.setCell ⟨g,i*3,none⟩ (.int .i64 k)).setCell ⟨g,i*3+1,none⟩ (.int .i64 n1)).setCell ⟨g,i*3+2,none⟩ (.string s)) (some g):=by
 rw[uT l i (by omega)];obtain⟨a,b⟩:=h.stored (i*3) (.int .i64 k);obtain⟨c,d⟩:=a.stored (i*3+1) (.int .i64 n1);obtain⟨e,f⟩:=c.stored (i*3+2) (.string s);refine⟨e,⟨rfl,rfl,rfl,by simp[World.setCell],fun q j n=>?_⟩⟩;exact(f.block q (z9 j (zx b.size d.size)) n).trans ((d.block q (z9 j b.size) n).trans (b.block q j n))
theorem Hx{l:List T3}(h:Cm cb kind v n L W0 W)(hr:ac W (cb+1) 32 3 v l.length (cells3 l))(hll:l.length<=1000)(i:Nat)(hi:i<l.length)(x:T3)(hs:x.2.2.size<=maxLen)(hi1:lq kind x=true)(hi2:lq kind l[i]=true)(hn:0<=n/\n<=1000000)(hn1:(l[i]).1=0->1<=n)(hl:L.length+1<=999999)(ht:∀s,0<=tm s L/\tm s L+1<=1000000):Calls prog 64 #[.pointer (some ⟨cb,0,none⟩),.int .i64 (i:Int),.agg #[.int .i64 x.1,.int .i64 x.2.1,.string x.2.2]] W fun e V=>e=.returned (.bool true)/\Cm cb kind v (y5 (uy n l[i]) x) (x' (sq L l[i]) x) W0 V/\ac V (cb+1) 32 3 v (l.set i x).length (cells3 (l.set i x))/\Chg (fun b=>b=cb∨v.ownBlock=some b) W V:=by
 have d:=(fun(y:World) (H:Cm cb kind v n L W0 y)=>rI H l[i] (gZ hi2) hn.2 hn1 hl);have M:=h.dm.srt;have N:0<=uy n l[i]/\uy n l[i]<=1000000:=(by unfold uy;split <;> omega);have R:=(fun(y:World) (H:Cm cb kind v (uy n l[i]) (sq L l[i]) W0 y)=>lN H x (gZ hi1) N (by have:=Ev l[i] M;omega) (fun s=>by have:=Eo s l[i] M (fun s=>(ht s).1);have:=(ht s).2;omega));have E:=(fun(y:World) (H:Cm cb kind v n L W0 y) (hr:ac y (cb+1) 32 3 v l.length (cells3 l))=>BZ H hr i hi);have I:(l.set i x).length=l.length:=(by simp);rw[I];generalize y5 (uy n l[i]) x=n' at R ⊢;generalize x' (sq L l[i]) x=L' at R ⊢;generalize uy n l[i]=n0 at d R N;generalize sq L l[i]=L0 at d R;generalize l[i]=y at d E;obtain⟨yk,yn,ys⟩:=y;obtain⟨g,o,rfl,X,_⟩:=hr.slice (by omega);obtain⟨k,p,s⟩:=x;have O:=(fun z(hz:Cm cb kind (.slice (some ⟨g,0,none⟩) l.length o) n L W0 z)=>jE hz k p s hs);rw[hi1]at O;obtain⟨m,hm⟩:=ae l.length;rw[hm]at h hr hi X E O d R ⊢;have r:=z7 W (.cells #[.int .i64 k,.int .i64 p,.string s] 32);have t:=aD W (.cells #[.int .i64 k,.int .i64 p,.string s] 32);obtain⟨B,P⟩:=ae W.heap.size;have Y:=E _ (h.later t) (hr.later t);rw[P]at r t;have a6:=h.lt;rw[P]at a6;have HF:=aa (ab r (ab t (ab h hr)));have b4:g<B:=(by rw[<-P];exact(hr.lt g rfl).2);have b5:cb+1<=g:=(hr.lt g rfl).1;have q1:(i:Int)<(m:Int):=(by omega);have HI:=aa (ab hi hm);have Z:∀y,Below B W y->Cm cb kind (.slice (some ⟨g,0,none⟩) m o) n L W0 y/\ac y (cb+1) 32 3 (.slice (some ⟨g,0,none⟩) m o) m (cells3 l):=(fun y H=>⟨h.later (P.symm▸H),hr.later (P.symm▸H)⟩);clear r t hi1 hi2 I N ht hn1 hn M E h hr X hl;go_enter func64,ntmps64
 go_wp2_with (first|(go_at_call 84;refine Y.mono ?_;rintro e x1⟨rfl,b1⟩;have F:Below B W x1:=HF.2.1.trans (b1.mono (by rw[<-P];simp));have bx:x1.heap[B]?=some (.cells #[.int .i64 k,.int .i64 p,.string s] 32):=(b1.block B (by simp;omega)).trans HF.1;have b0:=aA bx 0;have a7:=aA bx 1;have b2:=aA bx 2;have a3:=aB bx;have c:=z7 x1 (.cells #[.int .i64 yk,.int .i64 yn,.string ys] 32);obtain⟨C,hC⟩:=ae x1.heap.size;rw[hC]at c a3;have HX:=aa (ab c (ab F bx));clear c bx b1)|(go_at_call 98;(with_reducible refine(O _ (Z _ (F.alloc (by omega) _)).1).mono ?_);rintro e J⟨rfl,G⟩;have f:Below B W J:=(F.alloc (by omega) _).trans (G.mono (by simp;omega));have se:J.heap[C]?=some (.cells #[.int .i64 yk,.int .i64 yn,.string ys] 32):=(G.block C (by simp;omega)).trans HX.1;have a:J.heap[B]?=some (.cells #[.int .i64 k,.int .i64 p,.string s] 32):=(G.block B (by simp;omega)).trans ((we _ _ _ (by omega)).trans HX.2.2);have e0:=aA se 0;have e1:=aA se 1;have e2:=aA se 2;have f0:=aA a 0;have f1:=aA a 1;have f2:=aA a 2;obtain⟨S,j⟩:=Z J f;have c1:=S.c1;obtain⟨z0,z1,z2⟩:=cQ l i (by omega);have w0:=j.cell z0;have w1:=j.cell z1;have w2:=j.cell z2;have y0:=j.frozenAt (i*3);have y1:=j.frozenAt (i*3+1);have y2:=j.frozenAt (i*3+2);have HY:=aa (ab S (ab j (ab f (ab se a))));clear S j G se a z0 z1 z2 F b0 a7 b2 f))
 have b6:cb<J.heap.size:=HY.1.lt;refine Par.ag 6 [.pointer (some ⟨cb,0,none⟩),.pointer (some ⟨cb,0,none⟩),.pointer (some ⟨cb,1,none⟩),.slice (some ⟨g,0,none⟩) m o,.int .i64 (i:Int),.agg #[.int .i64 k,.int .i64 p,.string s]] (fun w=>w=J.drew) ?A1 ?hm1 ?hB1 ?hA1 rfl ?hop1 ?hT1
 case hm1=>kernel_rfl
 case hB1=>kernel_rfl
 case hA1 =>
  simp only[Par.am,Par.ai,Act.put,eh,ez,dz,eo,ew,ey,ed,ic,gy];rfl
 case hop1 =>
  simp only[en,zh,Par.ah,yo];and_intros<;>intro V U<;>have HR:=aa U
  rotate_left 3
  ·obtain rfl:=U;simp only[Par.Gives];go_simp;all_goals exact HR.out
  rotate_left
  ·obtain rfl:=U;simp only[Par.Gives];go_simp;all_goals exact HR.out
  all_goals(clear U;simp only[Par.Gives];go_simp;all_goals exact HR.out)
 intro V U;simp only[ex,ye];subst U;obtain⟨S,j,f,se,a⟩:=HY.out;obtain⟨r3,g3⟩:=xL j HI.2 i HI.1 k p s;have h3:=S.other g3 (fun q hq=>by cases hq;obtain⟨q1,a8,q2⟩:=j.block g rfl;exact⟨by omega,a8,32,q2,by decide⟩);have u:=(g3.block C (aB se) (fun e=>by cases e;omega)).trans se;have A:=(g3.block B (aB a) (fun e=>by cases e;omega)).trans a;have k3:Chg (fun b=>b=cb∨b=g) W (((J.setCell ⟨g,i*3,none⟩ (.int .i64 k)).setCell ⟨g,i*3+1,none⟩ (.int .i64 p)).setCell ⟨g,i*3+2,none⟩ (.string s)):=(Chg.of_below (P.symm▸f)).grown g3 (fun q hq _=>by cases hq;exact .inr rfl);have a4:=d _ (h3.later (zg _ _).drew);obtain⟨w3,a5⟩:=ae (((J.setCell ⟨g,i*3,none⟩ (.int .i64 k)).setCell ⟨g,i*3+1,none⟩ (.int .i64 p)).setCell ⟨g,i*3+2,none⟩ (.string s));have HZ:=aa (ab r3 (ab u (ab A k3)));rw[a5]at HZ;have a0:=aA u 0;have a1:=aA u 1;have a2:=aA u 2;have v0:=aA A 0;have v1:=aA A 1;have v2:=aA A 2;rw[a5]at a0 a1 a2 v0 v1 v2 a4;have a9:cb≠B:=(by omega);clear S j f se a r3 g3 h3 u A k3 d
 go_wp2_with (first|(go_at_call 99;refine a4.mono ?_;rintro e x4⟨rfl,d4,k4⟩;have Q:x4.heap[B]?=some (.cells #[.int .i64 k,.int .i64 p,.string s] 32):=(k4.block B (aB HZ.2.2.1) (fun e=>a9 e.symm)).trans HZ.2.2.1;have t0:=aA Q 0;have t1:=aA Q 1;have t2:=aA Q 2;have b3:=R _ d4)|(go_at_call 100;refine b3.mono ?_;rintro e x5⟨rfl,d5,k5⟩))
 go_ret;have k3:=HZ.2.2.2;refine⟨rfl,d5,?_,((k3.drew.trans k4 (fun _ _ x=>x) (fun _ _ x=>.inl x)).trans k5 (fun _ _ x=>x) (fun _ _ x=>.inl x)).mono (fun b _ x=>x.imp id (fun e=>by rw[e];rfl))⟩;have r4:ac x4 (cb+1) 32 3 (.slice (some ⟨g,0,none⟩) m o) m (cells3 (l.set i (k,p,s))):=(HZ.1.later (zg _ w3).drew).chg (IW cb) k4;exact r4.chg (IW cb) k5
end
theorem pT{α:Type}(f:α->Nat)(x:α):∀(l:List α) (i:Nat) (h:i<l.length),((l.set i x).map f).sum+f l[i]=(l.map f).sum+f x
 | [],i,h=>by simp at h
 | a::r,0,_=>by simp;omega
 | a::r,i+1,h=>by
  have:=pT f x r i (by simpa using h)
  simp only[ed,List.map_cons,List.sum_cons,List.getElem_cons_succ];omega
theorem uY{α:Type}(f:α->Nat)(hf:∀x,f x<=1):∀l:List α,(l.map f).sum<=l.length
 | []=>by simp
 | a::r=>by
  have:=uY f hf r
  have:=hf a
  simp only[List.map_cons,List.sum_cons,xa];omega
theorem kT{α:Type}(f:α->Nat):∀l:List α,1<=(l.map f).sum↔∃x∈l,1<=f x
 | []=>by simp
 | a::r=>by
  have b:=kT f r;simp only[List.map_cons,List.sum_cons,xy,exists_eq_or_imp];rw[<-b];omega
def one(s:K 12)(x:T3):Nat:=if x.1=2/\wd x.2.2=s then 1 else 0
theorem Dp(s:K 12)(x:T3):one s x<=1:=by unfold one;split <;> omega
def ct(s:K 12)(l:List T3):Nat:=(l.map (one s)).sum
def nul(x:T3):Nat:=if x.1=0 then 1 else 0
def nz(l:List T3):Nat:=(l.map nul).sum
theorem GC(l:List T3)(x:T3):((nz (l++[x]):Nat):Int)=y5 (nz l) x:=by unfold nz y5 nul;simp;split <;> simp
theorem GP(l:List T3)(i:Nat)(h:i<l.length)(x:T3):((nz (l.set i x):Nat):Int)=y5 (uy (nz l) l[i]) x:=by
 have:=pT nul x l i h
 unfold nz y5 uy;unfold nul at this ⊢;split at this <;> split at this <;> simp_all <;> omega
theorem Cb(l:List T3):nz l<=l.length:=uY _ (fun x=>by unfold nul;split <;> omega) l
theorem GV(l:List T3)(i:Nat)(h:i<l.length)(h0:(l[i]).1=0):1<=nz l:=(kT _ l).2 ⟨l[i],z8 _,by unfold nul;rw[zw h0];omega⟩
theorem FL(s:K 12)(l:List T3):ct s l<=l.length:=uY _ (Dp s) l
def Cn(l:List T3)(L:List (K 12×Int)):Prop:=∀s,tm s L=(ct s l:Int)
theorem aBc{L:List (K 12×Int)}(hs:Srt keyOf L)(x:T3)(s:K 12):tm s (x' L x)=tm s L+one s x:=by
 unfold x' one;by_cases h:x.1=2
 ·rw[zw h,uS _ _ _ hs];by_cases e:wd x.2.2=s
  ·rw[zw e,zw ⟨h,e⟩,e];rfl
  rw[zu e,zu (fun x=>e x.2)];simp
 rw[zu h,zu (fun x=>h x.1)];simp
theorem GM{L:List (K 12×Int)}(hs:Srt keyOf L)(x:T3)(hx:x.1=2->1<=tm (wd x.2.2) L)(s:K 12):tm s (sq L x)+one s x=tm s L:=by
 unfold sq one;by_cases h:x.1=2
 ·have a:=hx h;rw[zw h,xK _ _ hs (by omega),zw a];by_cases e:wd x.2.2=s
  ·rw[zw e,zw ⟨h,e⟩,e];simp
  rw[zu e,zu (fun x=>e x.2)];simp
 rw[zu h,zu (fun x=>h x.1)];simp
theorem GW{L:List (K 12×Int)}(hs:Srt keyOf L)(x:T3):Srt keyOf (sq L x):=by
 unfold sq;split
 ·exact EC _ hs
 exact hs
theorem Cn.nil:Cn [] []:=fun s=>by rw[pP];rfl
theorem Cn.snoc{l:List T3}{L:List (K 12×Int)}(h:Cn l L)(hs:Srt keyOf L)(x:T3):Cn (l++[x]) (x' L x):=fun s=>by
 rw[aBc hs,h s];unfold ct
 simp
theorem Cn.set{l:List T3}{L:List (K 12×Int)}(h:Cn l L)(hs:Srt keyOf L)(i:Nat)(hi:i<l.length)(x:T3):Cn (l.set i x) (x' (sq L l[i]) x):=fun s=>by
 have b:=pT (one s) x l i hi
 have c:=GM hs l[i] (fun e=>by
  rw[h (wd (l[i]).2.2)]
  have:=(kT (one (wd (l[i]).2.2)) l).2 ⟨l[i],z8 _,by unfold one;rw[zw ⟨e,rfl⟩];omega⟩
  unfold ct;omega) s
 have a:=h s;rw[aBc (GW hs _)];unfold ct at a ⊢;omega
theorem Cn.bd{l:List T3}{L:List (K 12×Int)}(h:Cn l L)(s:K 12):0<=tm s L/\tm s L<=l.length:=by
 rw[h s]
 have:=FL s l
 omega
theorem kU{α:Type}[DecidableEq α]:∀{l m:List α},l.Nodup->(∀s∈l,s∈m)->l.length<=m.length
 | [],_,_,_=>zj _
 | a::r,m,h,hs=>by
  rw[List.nodup_cons]at h;have b:a∈m:=hs a (by simp)
  have:=kU (l:=r) (m:=m.erase a) h.2 (fun s c=>(List.mem_erase_of_ne (fun e=>h.1 (by rw[<-e];exact c))).2 (hs s (by simp[c])))
  rw[List.length_erase_of_mem b]at this
  have:=List.length_pos_of_mem b
  rw[xa];omega
theorem lO:∀{l:List (K 12)},Aj l->l.Nodup:=fun{l} h=>by
 unfold Aj at h;exact h.imp (fun a e=>by rw[e]at a;omega)
theorem Cn.mem{W0 W:World}{mb:Nat}{l:List T3}{L:List (K 12×Int)}(h:Cn l L)(hd:Dm W0 mb L W)(s:K 12):s∈keys L↔∃x∈l,x.1=2/\wd x.2.2=s:=by
 rw[<-xJ,(hd.xx s).2.2,h s]
 have:=kT (one s) l
 unfold ct;constructor
 ·intro c;obtain⟨x,b,a⟩:=this.1 (by omega);refine⟨x,b,?_⟩;unfold one at a;split at a
  ·assumption
  omega
 rintro⟨x,b,a⟩
 have:=this.2 ⟨x,b,by unfold one;rw[zw a];omega⟩
 omega
theorem Cn.len{W0 W:World}{mb:Nat}{l:List T3}{L:List (K 12×Int)}(h:Cn l L)(hd:Dm W0 mb L W)(m:List (K 12))(hm:m.Nodup)(hs:∀s,s∈m↔∃x∈l,x.1=2/\wd x.2.2=s):L.length=m.length:=by
 have b:(keys L).Nodup:=lO (rD hd.srt);have c:=kU b (fun s a=>(hs s).2 ((h.mem hd s).1 a));have d:=kU hm (fun s a=>(h.mem hd s).2 ((hs s).1 a));simp at c d;omega
theorem Cn.uu{W0 W:World}{mb:Nat}{l:List T3}{L:List (K 12×Int)}(h:Cn l L)(hd:Dm W0 mb L W):L.length<=l.length:=by
 have c:(keys L).Nodup:=lO (rD hd.srt)
 have b:=kU (m:=l.map (fun x=>wd x.2.2)) c (fun s a=>by
  obtain⟨x,a,_,e⟩:=(h.mem hd s).1 a;exact List.mem_map.2 ⟨x,a,e⟩)
 simp at b;exact b
structure Col (cb:Nat) (kind:Int) (l:List T3) (v:Value) (W:World):Prop where
 mem:∃L W0,Cm cb kind v (nz l) L W0 W/\Cn l L
 row:ac W (cb+1) 32 3 v l.length (cells3 l)
 ok:∀x∈l,lq kind x=true
section
variable{cb:Nat}{kind:Int}{l:List T3}{v:Value}{W W':World}
theorem Col.lt(h:Col cb kind l v W):cb<W.heap.size:=by obtain⟨L,W0,a,_⟩:=h.mem;exact a.lt
theorem Col.later(h:Col cb kind l v W)(hb:Below W.heap.size W W'):Col cb kind l v W':=by
 obtain⟨L,W0,a,b⟩:=h.mem;exact⟨⟨L,W0,a.later hb,b⟩,h.row.later hb,h.ok⟩
theorem DG(h:Col cb kind l v W)(hl:l.length+1<=900)(x:T3)(hs:x.2.2.size<=maxLen)(hi:lq kind x=true):Calls prog 123 #[.pointer (some ⟨cb,0,none⟩),.agg #[.int .i64 x.1,.int .i64 x.2.1,.string x.2.2]] W fun e d=>e=.returned (.bool true)/\∃c,Col cb kind (l++[x]) c d/\(∀q,c.ownBlock=some q->v.ownBlock=some q∨W.heap.size<=q)/\Chg (fun b=>b=cb∨v.ownBlock=some b) W d:=by
 obtain⟨L,W0,f,g⟩:=h.mem;have i:=g.uu f.dm;have j:=Cb l;refine(uX f h.row (by omega) x hs hi (by omega) (by omega) (fun s=>by have:=g.bd s;omega)).mono ?_;rintro e d⟨rfl,c,c1,c2,c3,c4⟩;refine⟨rfl,c,⟨⟨_,W0,by rw[GC];exact c1,g.snoc f.dm.srt x⟩,c2,fun y a=>?_⟩,c3,c4⟩;rcases List.mem_append.1 a with a|a
 ·exact h.ok y a
 rw[List.mem_singleton.1 a];exact hi
theorem pU(h:Col cb kind l v W)(hl:l.length<=900)(i:Nat)(hil:i<l.length)(x:T3)(hs:x.2.2.size<=maxLen)(hi:lq kind x=true):Calls prog 64 #[.pointer (some ⟨cb,0,none⟩),.int .i64 (i:Int),.agg #[.int .i64 x.1,.int .i64 x.2.1,.string x.2.2]] W fun e c=>e=.returned (.bool true)/\Col cb kind (l.set i x) v c/\Chg (fun b=>b=cb∨v.ownBlock=some b) W c:=by
 obtain⟨L,W0,d,f⟩:=h.mem;have g:=f.uu d.dm;have j:=Cb l;refine(Hx d h.row (by omega) i hil x hs hi (h.ok _ (z8 _)) (by omega) (fun e=>by have:=GV l i hil e;omega) (by omega) (fun s=>by have:=f.bd s;omega)).mono ?_;rintro e c⟨rfl,c1,c2,c4⟩;refine⟨rfl,⟨⟨_,W0,by rw[GP l i hil];exact c1,f.set d.dm.srt i hil x⟩,c2,fun y a=>?_⟩,c4⟩;rcases List.mem_or_eq_of_mem_set a with a|a
 ·exact h.ok y a
 rw[a];exact hi
theorem uZ(h:Col cb kind l v W)(i:Int)(x:T3)(hs:x.2.2.size<=maxLen)(hi:¬ (0<=i/\i<l.length)∨lq kind x=false):Calls prog 64 #[.pointer (some ⟨cb,0,none⟩),.int .i64 i,.agg #[.int .i64 x.1,.int .i64 x.2.1,.string x.2.2]] W fun e c=>e=.returned (.bool false)/\Below W.heap.size W c:=by
 obtain⟨L,W0,b,f⟩:=h.mem;by_cases a:0<=i/\i<l.length
 ·obtain⟨j,rfl⟩:=Int.eq_ofNat_of_zero_le a.1;exact C6 b h.row j (by omega) x.1 x.2.1 x.2.2 hs (hi.resolve_left (fun d=>d a))
 exact FN b h.row i (by omega) x.1 x.2.1 x.2.2
theorem CG(h:Col cb kind l v W)(i:Nat)(hi:i<l.length):Calls prog 84 #[.pointer (some ⟨cb,0,none⟩),.int .i64 (i:Int)] W fun e a=>e=.returned (.tuple #[.agg #[.int .i64 ((l[i]).1),.int .i64 ((l[i]).2.1),.string ((l[i]).2.2)],.bool true])/\Below W.heap.size W a:=by
 obtain⟨L,W0,b,c⟩:=h.mem;exact BZ b h.row i hi
theorem zE(h:Col cb kind l v W)(m:List (K 12))(hm:m.Nodup)(hs:∀s,s∈m↔∃x∈l,x.1=2/\wd x.2.2=s):Calls prog 205 #[.pointer (some ⟨cb,0,none⟩)] W fun e b=>e=.returned (.int .i64 (m.length:Int))/\b=W:=by
 obtain⟨L,W0,a,c⟩:=h.mem
 have:=zD a
 rw[c.len a.dm m hm hs]at this;exact this
theorem E8(k:Int)(hk:k=1∨k=2)(W:World):Calls prog 112 #[.int .i64 k] W fun e c=>e=.returned (.pointer (some ⟨W.heap.size,0,none⟩))/\Col W.heap.size k [] (.slice none 0 0) c/\Below W.heap.size W c:=by
 have a:=z7 W (.cells #[.int .i64 k,.slice none 0 0,.nilFunc,.pointer none,.int .i64 0] 170)
 have b:Col W.heap.size k [] (.slice none 0 0) (W.alloc (.cells #[.int .i64 k,.slice none 0 0,.nilFunc,.pointer none,.int .i64 0] 170)):=
  ⟨⟨[],W,⟨aA a 0,aA a 1,⟨⟨.nilFunc,⟨zj _,aA a 2,⟨.nil,none,aA a 3,rfl,rfl⟩,fun j=>zq _ _ j _ _ a,Srt.nil,(aD W _).mono (zj _),⟨_,_,a,by decide⟩⟩,.inl rfl⟩,fun p f=>by simp at f,by simp⟩,aA a 4⟩,Cn.nil⟩,ac.nil,fun x g=>by simp at g⟩
 have d:=aa b;clear b a;rcases hk with rfl|rfl
 ·go_enter func112,ntmps112
  go_wp2
  go_ret;exact⟨rfl,d.out,aD W _⟩
 go_enter func112,ntmps112
 go_wp2
 go_ret;exact⟨rfl,d.out,aD W _⟩
end
