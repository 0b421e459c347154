import Derived.Test.YthlccadnojnkaaaGreatZn10
import Derived.Deep.AppendLies
set_option maxHeartbeats 2000000
set_option maxRecDepth 100000
namespace Go.Proofs.YthlccadnojnkaaaGreat.Co.S
open Go.Proofs.Tryz
open Go Go.RowKit Go.Shelf Go.Proofs Go.Proofs.YthlccadnojnkaaaGreat Go.Proofs.YthlccadnojnkaaaGreat.Co
section
variable {cb:Nat}{kind n:Int}{v:Value}{L:List (K 12×Int)}{W0 W W':World}
theorem EZ{m:Nat}{xs:List Value}{base:Nat}(h:Cm cb kind v n L W0 W)(hr:ac W base 32 3 v m xs)(i:Int)(hi:i<0∨(m:Int)<=i):Calls prog 107 #[.pointer (some ⟨cb,0,none⟩),.int .i64 i] W fun e b=>e=.returned (.tuple #[.agg #[.int .i64 0,.int .i64 0,.string (⟨#[]⟩)],.bool false])/\Below W.heap.size W b:=by
 have a:=(fun y(c:Below W.heap.size W y)=>sJ (h.later c) (hr.later c));have b0:=a _ (aD W (.cells #[.int .i64 0,.int .i64 0,.string ⟨#[]⟩] 32));clear a hr h;by_cases d:i<0
 ·go_enter func107,ntmps107
  go_wp2
  refine ya (v:=.tuple #[.agg #[.int .i64 0,.int .i64 0,.string (⟨#[]⟩)],.bool false]) (by simp[results,results107,go_sem]) rfl ?_;exact⟨rfl,aD W _⟩
 have g:decide (i<0)=false:=yw d;have f:(m:Int)<=i:=(by omega);have f:decide ((m:Int)<=i)=true:=xd (by omega);go_enter func107,ntmps107;go_wp2_with (go_at_call 144;refine b0.mono ?_;rintro e b⟨rfl,j⟩;subst b);refine ya (v:=.tuple #[.agg #[.int .i64 0,.int .i64 0,.string (⟨#[]⟩)],.bool false]) (by simp[results,results107,go_sem]) rfl ?_;exact⟨rfl,aD W _⟩
theorem wL:(prog.info? 32).map (fun i=>(i.zero,i.size,i.bytes))=some (some (.agg #[.int .i64 0,.int .i64 0,.string ⟨#[]⟩]),3,32):=by kernel_rfl
theorem jr(y:World)(base:Nat){v:Value}{m:Nat}{xs:List Value}(hr:ac y base 32 3 v m xs)(hm:m+1<=1000000)(hb:base<=y.heap.size)(k n1:Int)(s:ByteArray):∃g a b,(Builtin.append_ #[27,27] 27 #[v,.slice (some ⟨y.heap.size,0,none⟩) 1 1]).run prog (y.alloc (.cells #[.int .i64 k,.int .i64 n1,.string s] 32))=.ok (.slice (some ⟨g,0,none⟩) (m+1) a) b/\ac b base 32 3 (.slice (some ⟨g,0,none⟩) (m+1) a) (m+1) (xs++[.int .i64 k,.int .i64 n1,.string s])/\(y.alloc (.cells #[.int .i64 k,.int .i64 n1,.string s] 32)).grownBy b v.ownBlock/\(v.ownBlock=some g∨y.heap.size<=g):=by
 obtain⟨i,c,d,e,f⟩:=info_parts wL;have j:=z7 y (.cells #[.int .i64 k,.int .i64 n1,.string s] 32)
 obtain⟨g,a,b,l,n,o,p⟩:=aY (P:=prog) (y.alloc (.cells #[.int .i64 k,.int .i64 n1,.string s] 32)) base 27 27 32 i _ 3 32 underlying27 c d e f rfl (by decide) (hr.later (aD y _)) ⟨y.heap.size,0,none⟩ 1 1 [.int .i64 k,.int .i64 n1,.string s] rfl
  (by exact World.news_of_block j) (by simp[Value.oneCell']) (by decide) (by unfold maxLen;omega) (by omega) (by rw[zj];omega)
 exact⟨g,a,b,l,n,o,p.imp id (fun h=>by rw[zj]at h;omega)⟩
end
section
variable {cb:Nat}{kind n:Int}{v:Value}{L:List (K 12×Int)}{W0 W W':World}
def Ay(n:Int)(x:T3):Int:=if x.1=0 then n+1 else n
def Ax(L:List (K 12×Int))(x:T3):List (K 12×Int):=if x.1=2 then fp keyOf (wd x.2.2) (tm (wd x.2.2) L+1) L else L
theorem iR{x:T3}(h:lx kind x=true)(h2:x.1=2):x.2.2.size<=12:=by
 unfold lx at h;rw[zx]at h;have h:=h.1;unfold jf at h;rw[h2]at h;simp[qy]at h;exact h.2.1
theorem mA(h:Cm cb kind v n L W0 W)(x:T3)(hs:x.1=2->x.2.2.size<=12)(hn:0<=n/\n<=1000000)(hl:L.length+1<=999999)(ht:∀s,tm s L+1<=1000000):Calls prog 110 #[.pointer (some ⟨cb,0,none⟩),.agg #[.int .i64 x.1,.int .i64 x.2.1,.string x.2.2]] W fun e a=>e=.returned (.tuple #[])/\Cm cb kind v (Ay n x) (Ax L x) W0 a/\Chg (fun b=>b=cb) W a:=by
 obtain⟨k,c,s⟩:=x;unfold Ay Ax;by_cases d:k=0
 ·subst d;exact wJ h c s hn
 by_cases f:k=2
 ·subst f;exact wK h c s (hs rfl) hl (ht _)
 simp only[d,f,if_false];exact(sK h c s k d f).mono (fun e a⟨i,g⟩=>⟨i,h.later g,Chg.of_below g⟩)
theorem wM{l:List T3}(h:Cm cb kind v n L W0 W)(hr:ac W (cb+1) 32 3 v l.length (cells3 l))(hll:l.length+1<=1000)(x:T3)(hs:x.2.2.size<=maxLen)(hi:lx kind x=true)(hn:0<=n/\n<=1000000)(hl:L.length+1<=999999)(Y:∀s,tm s L+1<=1000000):Calls prog 105 #[.pointer (some ⟨cb,0,none⟩),.agg #[.int .i64 x.1,.int .i64 x.2.1,.string x.2.2]] W fun e Z=>e=.returned (.bool true)/\∃v',Cm cb kind v' (Ay n x) (Ax L x) W0 Z/\ac Z (cb+1) 32 3 v' (l++[x]).length (cells3 (l++[x]))/\(∀q,v'.ownBlock=some q->v.ownBlock=some q∨W.heap.size<=q)/\Chg (fun b=>b=cb∨v.ownBlock=some b) W Z:=by
 have hc:=(fun(y:World) (u:Value) (hy:Cm cb kind u n L W0 y)=>mA hy x (iR hi) hn hl Y);have o:(l++[x]).length=l.length+1:=(by simp);have c:cells3 (l++[x])=cells3 l++[.int .i64 x.1,.int .i64 x.2.1,.string x.2.2]:=(by rw[gT];simp[cells3]);rw[o,c];generalize Ay n x=n' at hc ⊢;generalize Ax L x=L' at hc ⊢;obtain⟨k,A,s⟩:=x;have Y:=jR (h.later (aD W (.cells #[.int .i64 k,.int .i64 A,.string s] 32))) k A s hs;rw[hi]at Y;have p:=z7 W (.cells #[.int .i64 k,.int .i64 A,.string s] 32);have E:=(fun y(hy:ac y (cb+1) 32 3 v l.length (cells3 l)) (F:cb+1<=y.heap.size)=>jr y (cb+1) hy (by omega) F k A s);have G:=aD W (.cells #[.int .i64 k,.int .i64 A,.string s] 32);obtain⟨B,hB⟩:=ag W.heap.size;have F:=h.lt;rw[hB]at p G F;have HF:=aa (ab p (ab G (ab h hr)));have HC:=aa (ab o c);obtain⟨m,hm⟩:=ag l.length;obtain⟨xs,R⟩:=ag (cells3 l);rw[hm,R]at E hr;simp only[hm,R];clear p G hi o c;go_enter func105,ntmps105;go_wp2_with (go_at_call 108;refine Y.mono ?_;rintro e a⟨rfl,b1⟩);have S:Below B W a:=HF.2.1.trans (b1.mono (by rw[<-hB];simp));have d:Below W.heap.size W a:=hB.symm▸S;have N:=h.later d;have c1:=N.c1;have f1:=N.dm.fz 1;have H:=hr.later d;have bx:a.heap[B]?=some (.cells #[.int .i64 k,.int .i64 A,.string s] 32):=(b1.block B (by simp;omega)).trans HF.1;have b0:=aA bx 0;have a7:=aA bx 1;have b2:=aA bx 2;have a0:cb+1<=a.heap.size:=(by have:=S.size;omega);obtain⟨g,r,O,t,U,P,own⟩:=E a.drew (H.later (zb _ a).drew) a0;have t:(Builtin.append_ #[27,27] 27 #[v,.slice (some ⟨a.heap.size,0,none⟩) 1 1]).run prog (a.alloc (.cells #[.int .i64 k,.int .i64 A,.string s] 32)).drew=.ok (.slice (some ⟨g,0,none⟩) (m+1) r) O:=t;have f:a.grownBy O v.ownBlock:=⟨P.os,P.tape,P.output,zw (by simp) P.size,fun q i a1=>(P.block q (by show q<(a.alloc _).heap.size;simp;omega) a1).trans ((aD a _).block q i)⟩
 have I:∀q,v.ownBlock=some q->q≠cb/\Ty a q:=fun q i=>by
  obtain⟨q1,a2,q2⟩:=H.block q i;exact⟨by omega,a2,32,q2,by decide⟩
 have J:=N.other f I;have c3:=J.c1;have f3:=J.dm.fz 1;have V:∀q,v.ownBlock=some q->q≠B:=(fun q i=>by have:=(HF.2.2.2.lt q i).2;omega);have j:O.heap[B]?=some (.cells #[.int .i64 k,.int .i64 A,.string s] 32):=(f.block B (xn a ⟨B,0,none⟩ b0) (fun e=>V B e.symm rfl)).trans bx;have HH:=aa (ab J (ab U (ab f (ab own (ab j d)))));have a8:B<O.heap.size:=aC j
 have a3:g≠cb:=by
  rcases own with e|e
  ·exact(I g e).1
  intro e2;have:cb<a.heap.size:=N.lt;have:a.heap.size<=g:=e;omega
 have a5:cb<a.heap.size:=N.lt;have a6:B<a.heap.size:=xn a ⟨B,0,none⟩ b0;clear J U f P own j I V N H E
 go_region_law (refine bJ rfl (.tmp 13) (.tmp 15) 27 rfl rfl rfl t ?_)
 all_goals
  obtain⟨Q,w⟩:∃Q,Q=O.setCell ⟨cb,1,none⟩ (.slice (some ⟨g,0,none⟩) (m+1) r):=⟨_,rfl⟩;rw[<-w];obtain⟨J,U,f,own,j,d⟩:=HH.out;have h4:=J.set1 (.slice (some ⟨g,0,none⟩) (m+1) r);have M:∀q,q≠cb->Q.heap[q]?=O.heap[q]?:=(fun q i=>by rw[w];exact uj _ _ _ _ (fun e=>i e));rw[<-w]at h4;have r4:=U.of (w':=Q) (fun q i=>M q (by cases i;exact a3));have z:=(M B (by omega)).trans j;have d0:=aA z 0;have d1:=aA z 1;have d2:=aA z 2;have a4:=hc Q _ h4
  have g4:Chg (fun b=>b=cb∨v.ownBlock=some b) W Q:=by
   rw[w];exact((Chg.of_below d).grown f (fun q i _=>.inr i)).setCell (fun _=>.inl rfl) _
  have HG:=aa (ab r4 (ab g4 own));have X:W.heap.size<=a.heap.size:=d.size;have HS:=aa X;clear J U f own j d h4 M r4 g4 X z w;go_wp2_with (go_at_call 110;refine a4.mono ?_;rintro e w5⟨rfl,d5,c5⟩);go_ret;refine⟨rfl,_,d5,HG.1.chg (by omega) c5,fun q i=>?_,HG.2.1.trans c5 (fun _ _ x=>x) (fun _ _ x=>.inl x)⟩;cases i;exact HG.2.2.imp id (fun h=>zw HS.out h)
end
section
variable {cb:Nat}{kind n:Int}{v:Value}{L:List (K 12×Int)}{W0 W W':World}
theorem Lf{m:Nat}{xs:List Value}{base:Nat}(h:Cm cb kind v n L W0 W)(hr:ac W base 32 3 v m xs)(i:Int)(hi:i<0∨(m:Int)<=i)(k n1:Int)(s:ByteArray):Calls prog 73 #[.pointer (some ⟨cb,0,none⟩),.int .i64 i,.agg #[.int .i64 k,.int .i64 n1,.string s]] W fun e a=>e=.returned (.bool false)/\Below W.heap.size W a:=by
 have b:=EZ (h.later (aD W (.cells #[.int .i64 k,.int .i64 n1,.string s] 32))) (hr.later (aD W (.cells #[.int .i64 k,.int .i64 n1,.string s] 32))) i hi;clear hi h hr;go_enter func73,ntmps73;go_wp2_with (go_at_call 107;refine b.mono ?_;rintro e c⟨rfl,b1⟩);go_ret;exact⟨rfl,aB (aB (aD W _) b1) (aD _ _)⟩
theorem EK{l:List T3}{base:Nat}(h:Cm cb kind v n L W0 W)(hr:ac W base 32 3 v l.length (cells3 l))(i:Nat)(hi:i<l.length)(k n1:Int)(s:ByteArray)(hs:s.size<=maxLen)(hc:lx kind (k,n1,s)=false):Calls prog 73 #[.pointer (some ⟨cb,0,none⟩),.int .i64 (i:Int),.agg #[.int .i64 k,.int .i64 n1,.string s]] W fun e m=>e=.returned (.bool false)/\Below W.heap.size W m:=by
 have g:=Ck (h.later (aD W (.cells #[.int .i64 k,.int .i64 n1,.string s] 32))) (hr.later (aD W (.cells #[.int .i64 k,.int .i64 n1,.string s] 32))) i hi;have d:=(fun y(o:Below W.heap.size W y)=>jR (h.later o) k n1 s hs);rw[hc]at d;generalize l[i]=x at g;have a:=z7 W (.cells #[.int .i64 k,.int .i64 n1,.string s] 32);obtain⟨B,f⟩:=ag W.heap.size;have b:=aD W (.cells #[.int .i64 k,.int .i64 n1,.string s] 32);rw[f]at a b d;clear hi h hr;go_enter func73,ntmps73
 go_wp2_with (first|(go_at_call 107;refine g.mono ?_;rintro e j⟨rfl,b1⟩;have bx:j.heap[B]?=some (.cells #[.int .i64 k,.int .i64 n1,.string s] 32):=(b1.block B (by simp;omega)).trans a;have b0:=aA bx 0;have p:=aA bx 1;have b2:=aA bx 2;have q:=aC bx;have c:Below B W j:=b.trans (b1.mono (by rw[<-f];simp)))|(go_at_call 108;refine(d _ (c.alloc (by omega) _)).mono ?_;rintro e r⟨rfl,b2⟩))
 go_ret;exact⟨rfl,by rw[f];exact(c.alloc (by omega) _).trans (b2.mono (by simp;omega))⟩
def Ai(n:Int)(x:T3):Int:=if x.1=0 then n-1 else n
def ti(L:List (K 12×Int))(x:T3):List (K 12×Int):=if x.1=2 then nk (wd x.2.2) L else L
theorem sM(h:Cm cb kind v n L W0 W)(x:T3)(hs:x.1=2->x.2.2.size<=12)(hn:n<=1000000)(hn1:x.1=0->1<=n)(hl:L.length+1<=999999):Calls prog 109 #[.pointer (some ⟨cb,0,none⟩),.agg #[.int .i64 x.1,.int .i64 x.2.1,.string x.2.2]] W fun e a=>e=.returned (.tuple #[])/\Cm cb kind v (Ai n x) (ti L x) W0 a/\Chg (fun b=>b=cb) W a:=by
 obtain⟨k,c,s⟩:=x;unfold Ai ti;by_cases d:k=0
 ·subst d;exact qM h c s ⟨hn1 rfl,hn⟩
 by_cases f:k=2
 ·subst f;exact qN h c s (hs rfl) hl
 simp only[d,f,if_false];exact(oU h c s k d f).mono (fun e a⟨i,g⟩=>⟨i,h.later g,Chg.of_below g⟩)
theorem FH(s:K 12)(x:T3)(hs:Srt keyOf L)(hp:∀s,0<=tm s L):tm s (ti L x)<=tm s L:=by
 unfold ti;split
 ·rw[D1 _ _ hs (hp _)];split
  ·rename_i e;have a:=hp (wd x.2.2);rw[e]at a ⊢;split <;> omega
  omega
 omega
theorem Iv(x:T3)(hs:Srt keyOf L):(ti L x).length<=L.length:=by
 unfold ti;split
 ·exact wC _ hs
 omega
end
section
variable {cb:Nat}{kind n:Int}{v:Value}{L:List (K 12×Int)}{W0 W W':World}
theorem qO{w:World}{base g cap m:Nat}{l:List T3}(h:ac w base 32 3 (.slice (some ⟨g,0,none⟩) m cap) m (cells3 l))(hm:l.length=m)(i:Nat)(hi:i<m)(k n1:Int)(s:ByteArray):ac (((w.setCell ⟨g,i*3,none⟩ (.int .i64 k)).setCell ⟨g,i*3+1,none⟩ (.int .i64 n1)).setCell ⟨g,i*3+2,none⟩ (.string s)) base 32 3 (.slice (some ⟨g,0,none⟩) m cap) m (cells3 (l.set i (k,n1,s)))/\w.grownBy (((w.setCell ⟨g,i*3,none⟩ (.int .i64 k)).setCell ⟨g,i*3+1,none⟩ (.int .i64 n1)).setCell ⟨g,i*3+2,none⟩ (.string s)) (some g):=by
 rw[wI l i (by omega)];obtain⟨a,b⟩:=h.stored (i*3) (.int .i64 k);obtain⟨c,d⟩:=a.stored (i*3+1) (.int .i64 n1);obtain⟨e,f⟩:=c.stored (i*3+2) (.string s);refine⟨e,⟨rfl,rfl,rfl,by simp[World.setCell],fun q j n=>?_⟩⟩;exact(f.block q (z9 j (zw b.size d.size)) n).trans ((d.block q (z9 j b.size) n).trans (b.block q j n))
theorem IX{l:List T3}(h:Cm cb kind v n L W0 W)(hr:ac W (cb+1) 32 3 v l.length (cells3 l))(hll:l.length<=1000)(i:Nat)(hi:i<l.length)(x:T3)(hs:x.2.2.size<=maxLen)(hi1:lx kind x=true)(hi2:lx kind l[i]=true)(hn:0<=n/\n<=1000000)(hn1:(l[i]).1=0->1<=n)(hl:L.length+1<=999999)(ht:∀s,0<=tm s L/\tm s L+1<=1000000):Calls prog 73 #[.pointer (some ⟨cb,0,none⟩),.int .i64 (i:Int),.agg #[.int .i64 x.1,.int .i64 x.2.1,.string x.2.2]] W fun e V=>e=.returned (.bool true)/\Cm cb kind v (Ay (Ai n l[i]) x) (Ax (ti L l[i]) x) W0 V/\ac V (cb+1) 32 3 v (l.set i x).length (cells3 (l.set i x))/\Chg (fun b=>b=cb∨v.ownBlock=some b) W V:=by
 have d:=(fun(y:World) (H:Cm cb kind v n L W0 y)=>sM H l[i] (iR hi2) hn.2 hn1 hl);have M:=h.dm.srt;have N:0<=Ai n l[i]/\Ai n l[i]<=1000000:=(by unfold Ai;split <;> omega);have R:=(fun(y:World) (H:Cm cb kind v (Ai n l[i]) (ti L l[i]) W0 y)=>mA H x (iR hi1) N (by have:=Iv l[i] M;omega) (fun s=>by have:=FH s l[i] M (fun s=>(ht s).1);have:=(ht s).2;omega));have E:=(fun(y:World) (H:Cm cb kind v n L W0 y) (hr:ac y (cb+1) 32 3 v l.length (cells3 l))=>Ck H hr i hi);have I:(l.set i x).length=l.length:=(by simp);rw[I];generalize Ay (Ai n l[i]) x=n' at R ⊢;generalize Ax (ti L l[i]) x=L' at R ⊢;generalize Ai n l[i]=n0 at d R N;generalize ti L l[i]=L0 at d R;generalize l[i]=y at d E;obtain⟨yk,yn,ys⟩:=y;obtain⟨g,o,rfl,X,_⟩:=hr.slice (by omega);obtain⟨k,p,s⟩:=x;have O:=(fun z(hz:Cm cb kind (.slice (some ⟨g,0,none⟩) l.length o) n L W0 z)=>jR hz k p s hs);rw[hi1]at O;obtain⟨m,hm⟩:=ag l.length;rw[hm]at h hr hi X E O d R ⊢;have r:=z7 W (.cells #[.int .i64 k,.int .i64 p,.string s] 32);have t:=aD W (.cells #[.int .i64 k,.int .i64 p,.string s] 32);obtain⟨B,P⟩:=ag W.heap.size;have Y:=E _ (h.later t) (hr.later t);rw[P]at r t;have a6:=h.lt;rw[P]at a6;have HF:=aa (ab r (ab t (ab h hr)));have b4:g<B:=(by rw[<-P];exact(hr.lt g rfl).2);have b5:cb+1<=g:=(hr.lt g rfl).1;have q1:(i:Int)<(m:Int):=(by omega);have HI:=aa (ab hi hm);have Z:∀y,Below B W y->Cm cb kind (.slice (some ⟨g,0,none⟩) m o) n L W0 y/\ac y (cb+1) 32 3 (.slice (some ⟨g,0,none⟩) m o) m (cells3 l):=(fun y H=>⟨h.later (P.symm▸H),hr.later (P.symm▸H)⟩);clear r t hi1 hi2 I N ht hn1 hn M E h hr X hl;go_enter func73,ntmps73
 go_wp2_with (first|(go_at_call 107;refine Y.mono ?_;rintro e x1⟨rfl,b1⟩;have F:Below B W x1:=HF.2.1.trans (b1.mono (by rw[<-P];simp));have bx:x1.heap[B]?=some (.cells #[.int .i64 k,.int .i64 p,.string s] 32):=(b1.block B (by simp;omega)).trans HF.1;have b0:=aA bx 0;have a7:=aA bx 1;have b2:=aA bx 2;have a3:=aC bx;have c:=z7 x1 (.cells #[.int .i64 yk,.int .i64 yn,.string ys] 32);obtain⟨C,hC⟩:=ag x1.heap.size;rw[hC]at c a3;have HX:=aa (ab c (ab F bx));clear c bx b1)|(go_at_call 108;(with_reducible refine(O _ (Z _ (F.alloc (by omega) _)).1).mono ?_);rintro e J⟨rfl,G⟩;have f:Below B W J:=(F.alloc (by omega) _).trans (G.mono (by simp;omega));have sd:J.heap[C]?=some (.cells #[.int .i64 yk,.int .i64 yn,.string ys] 32):=(G.block C (by simp;omega)).trans HX.1;have a:J.heap[B]?=some (.cells #[.int .i64 k,.int .i64 p,.string s] 32):=(G.block B (by simp;omega)).trans ((wi _ _ _ (by omega)).trans HX.2.2);have e0:=aA sd 0;have e1:=aA sd 1;have e2:=aA sd 2;have f0:=aA a 0;have f1:=aA a 1;have f2:=aA a 2;obtain⟨S,j⟩:=Z J f;have c1:=S.c1;obtain⟨z0,z1,z2⟩:=dG l i (by omega);have w0:=j.cell z0;have w1:=j.cell z1;have w2:=j.cell z2;have y0:=j.frozenAt (i*3);have y1:=j.frozenAt (i*3+1);have y2:=j.frozenAt (i*3+2);have HY:=aa (ab S (ab j (ab f (ab sd a))));clear S j G sd a z0 z1 z2 F b0 a7 b2 f))
 have b6:cb<J.heap.size:=HY.1.lt;refine Par.ae 6 [.pointer (some ⟨cb,0,none⟩),.pointer (some ⟨cb,0,none⟩),.pointer (some ⟨cb,1,none⟩),.slice (some ⟨g,0,none⟩) m o,.int .i64 (i:Int),.agg #[.int .i64 k,.int .i64 p,.string s]] (fun w=>w=J.drew) ?A1 ?hm1 ?hB1 ?hA1 rfl ?hop1 ?hT1
 case hm1=>kernel_rfl
 case hB1=>kernel_rfl
 case hA1 =>
  simp only[Par.am,Par.ai,Act.put,cy,db,bt,cp,dc,da,bu,eg,ed];rfl
 case hop1 =>
  simp only[ce,ze,Par.ah,yu];and_intros<;>intro V U<;>have HR:=aa U
  rotate_left 3
  ·obtain rfl:=U;simp only[Par.Gives];go_simp;all_goals exact HR.out
  rotate_left
  ·obtain rfl:=U;simp only[Par.Gives];go_simp;all_goals exact HR.out
  all_goals(clear U;simp only[Par.Gives];go_simp;all_goals exact HR.out)
 intro V U;simp only[cw,ym];subst U;obtain⟨S,j,f,sd,a⟩:=HY.out;obtain⟨r3,g3⟩:=qO j HI.2 i HI.1 k p s;have h3:=S.other g3 (fun q hq=>by cases hq;obtain⟨q1,a8,q2⟩:=j.block g rfl;exact⟨by omega,a8,32,q2,by decide⟩);have u:=(g3.block C (aC sd) (fun e=>by cases e;omega)).trans sd;have A:=(g3.block B (aC a) (fun e=>by cases e;omega)).trans a;have k3:Chg (fun b=>b=cb∨b=g) W (((J.setCell ⟨g,i*3,none⟩ (.int .i64 k)).setCell ⟨g,i*3+1,none⟩ (.int .i64 p)).setCell ⟨g,i*3+2,none⟩ (.string s)):=(Chg.of_below (P.symm▸f)).grown g3 (fun q hq _=>by cases hq;exact .inr rfl);have a4:=d _ (h3.later (zb _ _).drew);obtain⟨w3,a5⟩:=ag (((J.setCell ⟨g,i*3,none⟩ (.int .i64 k)).setCell ⟨g,i*3+1,none⟩ (.int .i64 p)).setCell ⟨g,i*3+2,none⟩ (.string s));have HZ:=aa (ab r3 (ab u (ab A k3)));rw[a5]at HZ;have a0:=aA u 0;have a1:=aA u 1;have a2:=aA u 2;have v0:=aA A 0;have v1:=aA A 1;have v2:=aA A 2;rw[a5]at a0 a1 a2 v0 v1 v2 a4;have a9:cb≠B:=(by omega);clear S j f sd a r3 g3 h3 u A k3 d
 go_wp2_with (first|(go_at_call 109;refine a4.mono ?_;rintro e x4⟨rfl,d4,k4⟩;have Q:x4.heap[B]?=some (.cells #[.int .i64 k,.int .i64 p,.string s] 32):=(k4.block B (aC HZ.2.2.1) (fun e=>a9 e.symm)).trans HZ.2.2.1;have t0:=aA Q 0;have t1:=aA Q 1;have t2:=aA Q 2;have b3:=R _ d4)|(go_at_call 110;refine b3.mono ?_;rintro e x5⟨rfl,d5,k5⟩))
 go_ret;have k3:=HZ.2.2.2;refine⟨rfl,d5,?_,((k3.drew.trans k4 (fun _ _ x=>x) (fun _ _ x=>.inl x)).trans k5 (fun _ _ x=>x) (fun _ _ x=>.inl x)).mono (fun b _ x=>x.imp id (fun e=>by rw[e];rfl))⟩;have r4:ac x4 (cb+1) 32 3 (.slice (some ⟨g,0,none⟩) m o) m (cells3 (l.set i (k,p,s))):=(HZ.1.later (zb _ w3).drew).chg (uf cb) k4;exact r4.chg (uf cb) k5
end
theorem qP{α:Type}(f:α->Nat)(x:α):∀(l:List α) (i:Nat) (h:i<l.length),((l.set i x).map f).sum+f l[i]=(l.map f).sum+f x
 | [],i,h=>by simp at h
 | a::r,0,_=>by simp;omega
 | a::r,i+1,h=>by
  have:=qP f x r i (by simpa using h)
  simp only[bu,List.map_cons,List.sum_cons,List.getElem_cons_succ];omega
theorem wN{α:Type}(f:α->Nat)(hf:∀x,f x<=1):∀l:List α,(l.map f).sum<=l.length
 | []=>by simp
 | a::r=>by
  have:=wN f hf r
  have:=hf a
  simp only[List.map_cons,List.sum_cons,xe];omega
theorem lM{α:Type}(f:α->Nat):∀l:List α,1<=(l.map f).sum↔∃x∈l,1<=f x
 | []=>by simp
 | a::r=>by
  have b:=lM f r;simp only[List.map_cons,List.sum_cons,wg,exists_eq_or_imp];rw[<-b];omega
def one(s:K 12)(x:T3):Nat:=if x.1=2/\wd x.2.2=s then 1 else 0
theorem GW(s:K 12)(x:T3):one s x<=1:=by unfold one;split <;> omega
def ct(s:K 12)(l:List T3):Nat:=(l.map (one s)).sum
def nul(x:T3):Nat:=if x.1=0 then 1 else 0
def nz(l:List T3):Nat:=(l.map nul).sum
theorem El(l:List T3)(x:T3):((nz (l++[x]):Nat):Int)=Ay (nz l) x:=by unfold nz Ay nul;simp;split <;> simp
theorem JF(l:List T3)(i:Nat)(h:i<l.length)(x:T3):((nz (l.set i x):Nat):Int)=Ay (Ai (nz l) l[i]) x:=by
 have:=qP nul x l i h
 unfold nz Ay Ai;unfold nul at this ⊢;split at this <;> split at this <;> simp_all <;> omega
theorem Ec(l:List T3):nz l<=l.length:=wN _ (fun x=>by unfold nul;split <;> omega) l
theorem I2(l:List T3)(i:Nat)(h:i<l.length)(h0:(l[i]).1=0):1<=nz l:=(lM _ l).2 ⟨l[i],z8 _,by unfold nul;rw[zv h0];omega⟩
theorem Ft(s:K 12)(l:List T3):ct s l<=l.length:=wN _ (GW s) l
def Cn(l:List T3)(L:List (K 12×Int)):Prop:=∀s,tm s L=(ct s l:Int)
theorem DS{L:List (K 12×Int)}(hs:Srt keyOf L)(x:T3)(s:K 12):tm s (Ax L x)=tm s L+one s x:=by
 unfold Ax one;by_cases h:x.1=2
 ·rw[zv h,yZ _ _ _ hs];by_cases e:wd x.2.2=s
  ·rw[zv e,zv ⟨h,e⟩,e];rfl
  rw[zq e,zq (fun x=>e x.2)];simp
 rw[zq h,zq (fun x=>h x.1)];simp
theorem JH{L:List (K 12×Int)}(hs:Srt keyOf L)(x:T3)(hx:x.1=2->1<=tm (wd x.2.2) L)(s:K 12):tm s (ti L x)+one s x=tm s L:=by
 unfold ti one;by_cases h:x.1=2
 ·have a:=hx h;rw[zv h,D1 _ _ hs (by omega),zv a];by_cases e:wd x.2.2=s
  ·rw[zv e,zv ⟨h,e⟩,e];simp
  rw[zq e,zq (fun x=>e x.2)];simp
 rw[zq h,zq (fun x=>h x.1)];simp
theorem ER{L:List (K 12×Int)}(hs:Srt keyOf L)(x:T3):Srt keyOf (ti L x):=by
 unfold ti;split
 ·exact Gl _ hs
 exact hs
theorem Cn.nil:Cn [] []:=fun s=>by rw[sH];rfl
theorem Cn.snoc{l:List T3}{L:List (K 12×Int)}(h:Cn l L)(hs:Srt keyOf L)(x:T3):Cn (l++[x]) (Ax L x):=fun s=>by
 rw[DS hs,h s];unfold ct
 simp
theorem Cn.set{l:List T3}{L:List (K 12×Int)}(h:Cn l L)(hs:Srt keyOf L)(i:Nat)(hi:i<l.length)(x:T3):Cn (l.set i x) (Ax (ti L l[i]) x):=fun s=>by
 have b:=qP (one s) x l i hi
 have c:=JH hs l[i] (fun e=>by
  rw[h (wd (l[i]).2.2)]
  have:=(lM (one (wd (l[i]).2.2)) l).2 ⟨l[i],z8 _,by unfold one;rw[zv ⟨e,rfl⟩];omega⟩
  unfold ct;omega) s
 have a:=h s;rw[DS (ER hs _)];unfold ct at a ⊢;omega
theorem Cn.bd{l:List T3}{L:List (K 12×Int)}(h:Cn l L)(s:K 12):0<=tm s L/\tm s L<=l.length:=by
 rw[h s]
 have:=Ft s l
 omega
theorem lN{α:Type}[DecidableEq α]:∀{l m:List α},l.Nodup->(∀s∈l,s∈m)->l.length<=m.length
 | [],_,_,_=>zh _
 | a::r,m,h,hs=>by
  rw[List.nodup_cons]at h;have b:a∈m:=hs a (by simp)
  have:=lN (l:=r) (m:=m.erase a) h.2 (fun s c=>(List.mem_erase_of_ne (fun e=>h.1 (by rw[<-e];exact c))).2 (hs s (by simp[c])))
  rw[List.length_erase_of_mem b]at this
  have:=List.length_pos_of_mem b
  rw[xe];omega
theorem mB:∀{l:List (K 12)},AG l->l.Nodup:=fun{l} h=>by
 unfold AG at h;exact h.imp (fun a e=>by rw[e]at a;omega)
theorem Cn.mem{W0 W:World}{mb:Nat}{l:List T3}{L:List (K 12×Int)}(h:Cn l L)(hd:Dm W0 mb L W)(s:K 12):s∈keys L↔∃x∈l,x.1=2/\wd x.2.2=s:=by
 rw[<-Dt,(hd.z' s).2.2,h s]
 have:=lM (one s) l
 unfold ct;constructor
 ·intro c;obtain⟨x,b,a⟩:=this.1 (by omega);refine⟨x,b,?_⟩;unfold one at a;split at a
  ·assumption
  omega
 rintro⟨x,b,a⟩
 have:=this.2 ⟨x,b,by unfold one;rw[zv a];omega⟩
 omega
theorem Cn.len{W0 W:World}{mb:Nat}{l:List T3}{L:List (K 12×Int)}(h:Cn l L)(hd:Dm W0 mb L W)(m:List (K 12))(hm:m.Nodup)(hs:∀s,s∈m↔∃x∈l,x.1=2/\wd x.2.2=s):L.length=m.length:=by
 have b:(keys L).Nodup:=mB (vZ hd.srt);have c:=lN b (fun s a=>(hs s).2 ((h.mem hd s).1 a));have d:=lN hm (fun s a=>(h.mem hd s).2 ((hs s).1 a));simp at c d;omega
theorem Cn.Am{W0 W:World}{mb:Nat}{l:List T3}{L:List (K 12×Int)}(h:Cn l L)(hd:Dm W0 mb L W):L.length<=l.length:=by
 have c:(keys L).Nodup:=mB (vZ hd.srt)
 have b:=lN (m:=l.map (fun x=>wd x.2.2)) c (fun s a=>by
  obtain⟨x,a,_,e⟩:=(h.mem hd s).1 a;exact List.mem_map.2 ⟨x,a,e⟩)
 simp at b;exact b
structure Col (cb:Nat) (kind:Int) (l:List T3) (v:Value) (W:World):Prop where
 mem:∃L W0,Cm cb kind v (nz l) L W0 W/\Cn l L
 row:ac W (cb+1) 32 3 v l.length (cells3 l)
 ok:∀x∈l,lx kind x=true
section
variable {cb:Nat}{kind:Int}{l:List T3}{v:Value}{W W':World}
theorem Col.lt(h:Col cb kind l v W):cb<W.heap.size:=by obtain⟨L,W0,a,_⟩:=h.mem;exact a.lt
theorem Col.later(h:Col cb kind l v W)(hb:Below W.heap.size W W'):Col cb kind l v W':=by
 obtain⟨L,W0,a,b⟩:=h.mem;exact⟨⟨L,W0,a.later hb,b⟩,h.row.later hb,h.ok⟩
theorem K7(h:Col cb kind l v W)(hl:l.length+1<=900)(x:T3)(hs:x.2.2.size<=maxLen)(hi:lx kind x=true):Calls prog 105 #[.pointer (some ⟨cb,0,none⟩),.agg #[.int .i64 x.1,.int .i64 x.2.1,.string x.2.2]] W fun e d=>e=.returned (.bool true)/\∃c,Col cb kind (l++[x]) c d/\(∀q,c.ownBlock=some q->v.ownBlock=some q∨W.heap.size<=q)/\Chg (fun b=>b=cb∨v.ownBlock=some b) W d:=by
 obtain⟨L,W0,f,g⟩:=h.mem;have i:=g.Am f.dm;have j:=Ec l;refine(wM f h.row (by omega) x hs hi (by omega) (by omega) (fun s=>by have:=g.bd s;omega)).mono ?_;rintro e d⟨rfl,c,c1,c2,c3,c4⟩;refine⟨rfl,c,⟨⟨_,W0,by rw[El];exact c1,g.snoc f.dm.srt x⟩,c2,fun y a=>?_⟩,c3,c4⟩;rcases List.mem_append.1 a with a|a
 ·exact h.ok y a
 rw[List.mem_singleton.1 a];exact hi
theorem qQ(h:Col cb kind l v W)(hl:l.length<=900)(i:Nat)(hil:i<l.length)(x:T3)(hs:x.2.2.size<=maxLen)(hi:lx kind x=true):Calls prog 73 #[.pointer (some ⟨cb,0,none⟩),.int .i64 (i:Int),.agg #[.int .i64 x.1,.int .i64 x.2.1,.string x.2.2]] W fun e c=>e=.returned (.bool true)/\Col cb kind (l.set i x) v c/\Chg (fun b=>b=cb∨v.ownBlock=some b) W c:=by
 obtain⟨L,W0,d,f⟩:=h.mem;have g:=f.Am d.dm;have j:=Ec l;refine(IX d h.row (by omega) i hil x hs hi (h.ok _ (z8 _)) (by omega) (fun e=>by have:=I2 l i hil e;omega) (by omega) (fun s=>by have:=f.bd s;omega)).mono ?_;rintro e c⟨rfl,c1,c2,c4⟩;refine⟨rfl,⟨⟨_,W0,by rw[JF l i hil];exact c1,f.set d.dm.srt i hil x⟩,c2,fun y a=>?_⟩,c4⟩;rcases List.mem_or_eq_of_mem_set a with a|a
 ·exact h.ok y a
 rw[a];exact hi
theorem wP(h:Col cb kind l v W)(i:Int)(x:T3)(hs:x.2.2.size<=maxLen)(hi:¬ (0<=i/\i<l.length)∨lx kind x=false):Calls prog 73 #[.pointer (some ⟨cb,0,none⟩),.int .i64 i,.agg #[.int .i64 x.1,.int .i64 x.2.1,.string x.2.2]] W fun e c=>e=.returned (.bool false)/\Below W.heap.size W c:=by
 obtain⟨L,W0,b,f⟩:=h.mem;by_cases a:0<=i/\i<l.length
 ·obtain⟨j,rfl⟩:=Int.eq_ofNat_of_zero_le a.1;exact EK b h.row j (by omega) x.1 x.2.1 x.2.2 hs (hi.resolve_left (fun d=>d a))
 exact Lf b h.row i (by omega) x.1 x.2.1 x.2.2
theorem DQ(h:Col cb kind l v W)(i:Nat)(hi:i<l.length):Calls prog 107 #[.pointer (some ⟨cb,0,none⟩),.int .i64 (i:Int)] W fun e a=>e=.returned (.tuple #[.agg #[.int .i64 ((l[i]).1),.int .i64 ((l[i]).2.1),.string ((l[i]).2.2)],.bool true])/\Below W.heap.size W a:=by
 obtain⟨L,W0,b,c⟩:=h.mem;exact Ck b h.row i hi
theorem Gz(h:Col cb kind l v W)(m:List (K 12))(hm:m.Nodup)(hs:∀s,s∈m↔∃x∈l,x.1=2/\wd x.2.2=s):Calls prog 118 #[.pointer (some ⟨cb,0,none⟩)] W fun e b=>e=.returned (.int .i64 (m.length:Int))/\b=W:=by
 obtain⟨L,W0,a,c⟩:=h.mem
 have:=IY a
 rw[c.len a.dm m hm hs]at this;exact this
theorem KD(k:Int)(hk:k=1∨k=2)(W:World):Calls prog 130 #[.int .i64 k] W fun e c=>e=.returned (.pointer (some ⟨W.heap.size,0,none⟩))/\Col W.heap.size k [] (.slice none 0 0) c/\Below W.heap.size W c:=by
 have a:=z7 W (.cells #[.int .i64 k,.slice none 0 0,.nilFunc,.pointer none,.int .i64 0] 168)
 have b:Col W.heap.size k [] (.slice none 0 0) (W.alloc (.cells #[.int .i64 k,.slice none 0 0,.nilFunc,.pointer none,.int .i64 0] 168)):=
  ⟨⟨[],W,⟨aA a 0,aA a 1,⟨⟨.nilFunc,⟨zh _,aA a 2,⟨.nil,none,aA a 3,rfl,rfl⟩,fun j=>zo _ _ j _ _ a,Srt.nil,(aD W _).mono (zh _),⟨_,_,a,by decide⟩⟩,.inl rfl⟩,fun p f=>by simp at f,by simp⟩,aA a 4⟩,Cn.nil⟩,ac.nil,fun x g=>by simp at g⟩
 have d:=aa b;clear b a;rcases hk with rfl|rfl
 ·go_enter func130,ntmps130
  go_wp2
  go_ret;exact⟨rfl,d.out,aD W _⟩
 go_enter func130,ntmps130
 go_wp2
 go_ret;exact⟨rfl,d.out,aD W _⟩
end
