import Derived.Test.YtkchgbjoeggdbaaGreatZn14
import Derived.Deep.AppendLies
set_option maxHeartbeats 2000000
set_option maxRecDepth 100000
namespace Go.Proofs.YtkchgbjoeggdbaaGreat
open Go.Proofs.Tryz
open Go Go.RowKit Go.Proofs
theorem Ft:(prog.info? 81).map (fun i=>(i.zero,i.size,i.bytes))=some (some (.agg #[.int .i64 0,.int .i64 0,.int .i64 0]),3,24):=by kernel_rfl
theorem CS(y:World)(base:Nat){v:Value}{n:Nat}{xs:List Value}(hr:ac y base 81 3 v n xs)(hm:n+1<=1000000)(hb:base<=y.heap.size)(f t c:Int):∃g a b,(Builtin.append_ #[27,27] 27 #[v,.slice (some ⟨y.heap.size,0,none⟩) 1 1]).run prog (y.alloc (.cells #[.int .i64 f,.int .i64 t,.int .i64 c] 81))=.ok (.slice (some ⟨g,0,none⟩) (n+1) a) b/\ac b base 81 3 (.slice (some ⟨g,0,none⟩) (n+1) a) (n+1) (xs++[.int .i64 f,.int .i64 t,.int .i64 c])/\(y.alloc (.cells #[.int .i64 f,.int .i64 t,.int .i64 c] 81)).grownBy b v.ownBlock/\(v.ownBlock=some g∨y.heap.size<=g):=by
 obtain⟨k,d,e,i,j⟩:=info_parts Ft;have l:=z7 y (.cells #[.int .i64 f,.int .i64 t,.int .i64 c] 81)
 obtain⟨g,a,b,m,o,p,q⟩:=aS (P:=prog) (y.alloc (.cells #[.int .i64 f,.int .i64 t,.int .i64 c] 81)) base 27 27 81 k _ 3 24 underlying27 d e i j rfl (by decide) (hr.later (aD y _)) ⟨y.heap.size,0,none⟩ 1 1 [.int .i64 f,.int .i64 t,.int .i64 c] rfl
  (by exact World.news_of_block l) (by simp[Value.oneCell']) (by decide) (by unfold maxLen;omega) (by omega) (by rw[zm];omega)
 exact⟨g,a,b,m,o,p,q.imp id (fun h=>by rw[zm]at h;omega)⟩
theorem vG{W:World}{mb n cap:Nat}{p:Option Addr}{l:List R2}{f t z:Int}(h:Mk W mb (.slice p n cap) l)(hn:l.length=n)(hn1:n<=65536)(hz:z=((els l).length:Int))(he:jg l f t=l++[(f,t)])(y:World)(hy:Below W.heap.size W y):∃g a b,(Builtin.append_ #[27,27] 27 #[.slice p n cap,.slice (some ⟨y.heap.size,0,none⟩) 1 1]).run prog (y.alloc (.cells #[.int .i64 f,.int .i64 t,.int .i64 z] 81))=.ok (.slice (some ⟨g,0,none⟩) (n+1) a) b/\b.cell? ⟨mb,0,none⟩=some (.slice p n cap)/\b.frozen? ⟨mb,0,none⟩=false/\Added W mb (.slice p n cap) l f t (.returned (.tuple #[])) (b.setCell ⟨mb,0,none⟩ (.slice (some ⟨g,0,none⟩) (n+1) a)):=by
 have i:=h.later hy;have j:=i.2;rw[hn]at j;obtain⟨g,a,b,d,w,v,own⟩:=CS y (mb+1) j (by omega) (by have:=i.lt;omega) f t z;have m:=i.lt;have o:b.heap[mb]?=(y.alloc (.cells #[.int .i64 f,.int .i64 t,.int .i64 z] 81)).heap[mb]?:=v.block mb (by simp;omega) (fun e=>by have:=(j.lt mb e.symm).1;omega);have r:b.heap[mb]?=y.heap[mb]?:=o.trans (we _ _ _ m);have c:=i.1.of r
 have s:g≠mb:=by
  rcases own with e|e
  ·have:=(j.lt g e).1;omega
  omega
 refine⟨g,a,b,d,c.1,c.2,rfl,.slice (some ⟨g,0,none⟩) (n+1) a,?_,?_,fun q x=>?_⟩
 ·rw[he];refine⟨c.set _,?_⟩;rw[pY,dR,<-hz,show(l++[(f,t)]).length=n+1 by simp[hn]];exact w.of (fun k u=>ua _ _ _ _ (by cases u;exact s))
 ·exact(((Chg.of_below hy).alloc _).grown v (fun k u _=>.inr u)).setCell (fun _=>.inl rfl) _
 cases x;exact own.imp id (fun e=>zx hy.size e)
theorem xQ{W:World}{mb:Nat}{v:Value}{l:List R2}{f t:Int}(hl:Nrm l)(h:Mk W mb v l)(hf:f<t)(ht:∀k r,l=k++[r]->¬ f<=r.2):Calls prog 68 #[.pointer (some ⟨mb,0,none⟩),.int .i64 f,.int .i64 t] W (Added W mb v l f t):=by
 have L:=dA hl
 have Q:jg l f t=l++[(f,t)]:=by
  rcases eF l with rfl|⟨k,r,rfl⟩
  ·exact iB hf
  exact eG hf (ht k r rfl)
 have c:=(fun y(M:Below W.heap.size W y)=>ax hl (h.mv.later M));obtain⟨z,N⟩:∃z,z=((els l).length:Int):=⟨_,rfl⟩;rw[<-N]at c;obtain⟨p,E,rfl,S,U⟩:=h.mv.slice;have q:∀y,Below W.heap.size W y->y.cell? ⟨mb,0,none⟩=some (.slice p l.length E):=(fun y M=>(h.later M).1.1);have H:=q W (zg _ _)
 have d:∀k,l.length=k+1->∃g b,p=some ⟨g,0,none⟩/\W.cell? ⟨g,k*3+1,none⟩=some (.int .i64 b)/\¬ f<=b:=fun k hk=>by
  obtain⟨g,V,_,_,c1,_⟩:=h.mv.run (j:=k) (by omega);refine⟨g,l[k].2,V,c1,ht (l.take k) l[k] ?_⟩;have e:=yi (l:=l) (i:=k) (by omega);rw[<-e,yu (by omega)]
 obtain⟨n,I⟩:=ae l.length;have R:Hid (∀y,Below W.heap.size W y->_):=aa (vG (by rw[I]at h;exact h) I (by omega) N Q);rw[I]at L q H d c S;simp only[I];clear h N Q I hl ht;cases n with
 | zero =>
  clear d;have u:=aa c;have F:=aa q;clear c q;go_enter func68,ntmps68;go_wp2_with fail;have x:∀a w,(callFunc 9 a).run prog w=.ok (.enter 9 a) w:=(by intro a w;rfl);have G:=u.out W.drew (zg _ W).drew
  go_region_law (first|(refine bM x [.agg #[.slice p 0 E]] (by simp[Act.eval]) ?_;(with_reducible refine G.mono ?_);rintro e s⟨rfl,A⟩;have o:Below W.heap.size W s:=(zg _ W).drew.trans A;obtain⟨g,J,X,B,c3,Y,m⟩:=R.out s o;have O:=F.out s o;have Z:mb<s.heap.size:=xh s ⟨mb,0,none⟩ O;have P:=aa m;clear m o A;refine⟨_,rfl,?_⟩)|refine bE rfl (.tmp 51) (.tmp 59) 27 rfl rfl rfl B ?_)
  all_goals
   go_wp2_with fail
   go_end0
   exact P.out
 | succ n =>
  obtain⟨g0,b,rfl,c1,hb⟩:=d n rfl;have x1:(n:Int)<(n:Int)+1:=(by omega);have s:n<n+1:=(by omega);have x3:(n:Int)<((n+1:Nat):Int):=(by omega);have a0:b<f:=(by omega);have u:=aa c;have F:=aa q;clear c q d;go_enter func68,ntmps68;go_wp2_with fail;have x:∀a w,(callFunc 9 a).run prog w=.ok (.enter 9 a) w:=(by intro a w;rfl);have G:=u.out W.drew (zg _ W).drew
  go_region_law (first|(refine bM x [.agg #[.slice (some ⟨g0,0,none⟩) (n+1) E]] (by simp[Act.eval]) ?_;(with_reducible refine G.mono ?_);rintro e s⟨rfl,A⟩;have o:Below W.heap.size W s:=(zg _ W).drew.trans A;obtain⟨g,J,X,B,c3,Y,m⟩:=R.out s o;have O:=F.out s o;have Z:mb<s.heap.size:=xh s ⟨mb,0,none⟩ O;have P:=aa m;clear m o A;refine⟨_,rfl,?_⟩)|refine bE rfl (.tmp 51) (.tmp 59) 27 rfl rfl rfl B ?_)
  all_goals
   go_wp2_with fail
   go_end0
   exact P.out
theorem cM{W:World}{mb:Nat}{v:Value}{l:List R2}{f t:Int}(hl:Nrm l)(h:Mk W mb v l):Calls prog 68 #[.pointer (some ⟨mb,0,none⟩),.int .i64 f,.int .i64 t] W (Added W mb v l f t):=by
 by_cases a:f<t
 ·rcases eF l with rfl|⟨k,r,rfl⟩
  ·exact xQ hl h a (fun k r e=>by simp at e)
  by_cases b:f<=r.2
  ·exact zK h a b (dA hl.left)
  exact xQ hl h a (fun c d e=>by
   have:=List.append_inj' e rfl
   rw[List.cons.injEq]at this;rw[<-this.2.1];exact b)
 exact GH h a
theorem lV(W:World):Mk (W.alloc (.cells #[.slice none 0 0] 29)) W.heap.size (.slice none 0 0) []:=⟨Cell.new W _ 29,ac.nil⟩
def IsMap(P:Int->Bool)(W:World)(e:Ending)(w':World):Prop:=∃v l,e=.returned (.agg #[v])/\Mv w' v l/\Nrm l/\Is l P/\Below W.heap.size W w'
theorem qA{W x:World}{rb mb:Nat}{v:Value}{l:List R2}{P:Int->Bool}(h:Mk x mb v l)(hr:rb<mb)(hl:Nrm l)(hP:Is l P)(hb:Below W.heap.size W x)(hrb:W.heap.size<=rb):IsMap P W (.returned (.agg #[v])) (x.setCell ⟨rb,0,none⟩ v):=
 ⟨v,l,rfl,ac.of h.mv (fun k a=>ua _ _ _ _ (by have:=(h.2.lt k a).1;show k≠rb;omega)),hl,hP,hb.setCell hrb _⟩
theorem Mk.below{W x y:World}{mb:Nat}{v:Value}{l:List R2}(h:Mk x mb v l)(hc:Chg (fun b=>b=mb∨v.ownBlock=some b) x y)(hb:Below W.heap.size W x)(hm:W.heap.size<=mb):Below W.heap.size W y:=
 hb.trans (hc.below hb.size (fun b c a=>by
  rcases a with rfl|a
  ·omega
  ·have:=(h.2.lt b a).1;omega))
theorem Mk.keep{x y:World}{mb:Nat}{v:Value}{l:List R2}(h:Mk x mb v l)(hc:Chg (fun b=>b=mb∨v.ownBlock=some b) x y){b:Nat}(hb:b<mb):y.heap[b]?=x.heap[b]?:=
 hc.block b (by have:=h.lt;omega) (fun a=>by
  rcases a with rfl|a
  ·omega
  ·have:=(h.2.lt b a).1;omega)
theorem Mk.slc{W:World}{mb:Nat}{v:Value}{l:List R2}(h:Mk W mb v l):∃p n c,v=.slice p n c:=by
 obtain⟨p,c,e,_⟩:=h.2.isslice;exact⟨p,_,c,e⟩
def CP(a b x:Int):Bool:=decide (0<=x/\x<65536/\a<=x/\x<b)
theorem GZ(W:World)(va vb:Value):∃a:World,(((W.alloc (.cells #[va] 29)).alloc (.cells #[vb] 29)).alloc (.cells #[.slice none 0 0] 29)).alloc (.cells #[.slice none 0 0] 29)=a/\Below W.heap.size W a/\a.heap[W.heap.size]?=some (.cells #[va] 29)/\a.heap[W.heap.size+1]?=some (.cells #[vb] 29)/\a.heap[W.heap.size+1+1]?=some (.cells #[.slice none 0 0] 29)/\Mk a (W.heap.size+1+1+1) (.slice none 0 0) []:=by
 refine⟨_,rfl,(((aD W _).alloc (by simp) _).alloc (by simp;omega) _).alloc (by simp;omega) _,?_,?_,?_,?_⟩
 ·exact(we _ _ _ (by simp;omega)).trans ((we _ _ _ (by simp;omega)).trans ((we _ _ _ (by simp)).trans (z7 W _)))
 ·have:=z7 (W.alloc (.cells #[va] 29)) (.cells #[vb] 29)
  rw[zm]at this;exact(we _ _ _ (by simp)).trans ((we _ _ _ (by simp)).trans this)
 ·have:=z7 ((W.alloc (.cells #[va] 29)).alloc (.cells #[vb] 29)) (.cells #[.slice none 0 0] 29)
  rw[zm,zm]at this;exact(we _ _ _ (by simp)).trans this
 have:=lV (((W.alloc (.cells #[va] 29)).alloc (.cells #[vb] 29)).alloc (.cells #[.slice none 0 0] 29))
 rw[zm,zm,zm]at this;exact this
theorem Mk.below'{x y:World}{mb:Nat}{v:Value}{l:List R2}(h:Mk x mb v l)(hc:Chg (fun b=>b=mb∨v.ownBlock=some b) x y):Below mb x y:=
 hc.below (Nat.le_of_lt h.lt) (fun b c a=>by
  rcases a with rfl|a
  ·omega
  ·have:=(h.2.lt b a).1;omega)
theorem Hs{la lb:List R2}{va vb:Value}{P Q:Int->Bool}{W:World}(X:Nrm la)(hb:Nrm lb)(hva:Mv W va la)(hvb:Mv W vb lb)(hP:Is la P)(hQ:Is lb Q):Calls prog 82 #[.agg #[va],.agg #[vb]] W (IsMap (fun x=>P x || Q x) W):=by
 obtain⟨W4,a9,hB,h0,h1,h2,hm⟩:=GZ W va vb;have b8:=dA X;have b9:=dA hb;obtain⟨pa,ca,rfl,_,_⟩:=hva.slice;obtain⟨pb,cb,rfl,_,_⟩:=hvb.slice;obtain⟨S,z⟩:=ae W.heap.size;have q:=aa (ab hva (ab hvb (ab hB z)));have H0:=aa (ab h0 (ab h1 h2));rw[z]at hm H0;obtain⟨na,a6⟩:=ae la.length;obtain⟨nb,a7⟩:=ae lb.length;have n:=aa (ab a6 (ab a7 (ab X (ab hb (ab hP hQ)))));rw[a6]at b8 H0;rw[a7]at b9 H0;have HM:=aa hm;have b3:=aa a9;clear hva hvb hB h0 h1 h2 hm a9 a6 a7 X hb hP hQ z;go_enter func82,ntmps82
 go_upto_block 0 with fail
 rw[b3.out,q.2.2.2,n.1,n.2.1];clear b3;obtain⟨H,a8⟩:=ae (S+1+1+1);rw[a8]at HM ⊢;have I:=aa a8;clear a8;go_wp2_with fail;go_loopg [6,7] (na+nb+1) (fun gh iv kv w=>∃(i k:Nat) (v:Value) (m:List R2),iv=.int .i64 (i:Int)/\kv=.int .i64 (k:Int)/\i<=na/\k<=nb/\na+nb+1<=i+k+gh/\qx la lb m i k/\Mk w H v m/\Below H W4 w)
 case atStart=>exact⟨0,0,_,_,rfl,rfl,zj _,zj _,by omega,qx.start la lb,HM.out,zg _ _⟩
 obtain⟨i,k,v,m,rfl,rfl,hi,hk,hg,hI,hM,Y⟩:=hrel;have hL:=H0.out;have z0:=(Y.block S (by have:=I.out;omega)).trans hL.1;have z1:=(Y.block (S+1) (by have:=I.out;omega)).trans hL.2.1;have c0:=aA z0 0;have c1:=aA z1 0;have y0:S<wr.heap.size:=aB z0;have y1:S+1<wr.heap.size:=aB z1;have l:=aa (ab hI (ab hM (ab Y (ab z0 z1))));clear hL hM Y z0 z1;by_cases c2:i<na∨k<nb
 ·have A:Below W.heap.size W wr:=q.2.2.1.trans (l.2.2.1.mono (by rw[q.2.2.2];have:=I.out;omega));have va:=(fun h:i<na=>(q.1.later A).run (j:=i) (by rw[n.1];exact h));have vb:=(fun h:k<nb=>(q.2.1.later A).run (j:=k) (by rw[n.2.1];exact h));have HQ:=aa (ab hI (ab hI.nrm A));have HV:=aa (ab va vb);clear va vb hI A;rcases wm k nb with Z|Z
  ·have L:k<lb.length:=(by rw[n.2.1];exact Z);obtain⟨gb,rfl,c4,b0,b1,b2⟩:=HV.2 Z;obtain⟨s,hs⟩:=ae (lb[k]);rw[hs]at b0 b1;have a3:=aa hs;clear hs b2;obtain⟨J,t2⟩:=s;have b0:wr.cell? ⟨gb,k*3,none⟩=some (.int .i64 J):=b0;have b1:wr.cell? ⟨gb,k*3+1,none⟩=some (.int .i64 t2):=b1;have b4:((k:Int)==(nb:Int))=false:=(by simp;omega);rcases wm i na with B|B
   ·have a4:i<la.length:=(by rw[n.1];exact B);obtain⟨c,rfl,c3,M,N,a2⟩:=HV.1 B;obtain⟨r,hr⟩:=ae (la[i]);rw[hr]at M N;have O:=aa hr;clear hr a2;obtain⟨u,R⟩:=r;have M:wr.cell? ⟨c,i*3,none⟩=some (.int .i64 u):=M;have N:wr.cell? ⟨c,i*3+1,none⟩=some (.int .i64 R):=N;by_cases b5:u<J
    ·have hd:decide (u<J)=true:=yy b5
     have HL:Hid (qx la lb (jg m u R) (i+1) k):=aa (by
      have h:=HQ.1.left n.2.2.1 a4 (oA n.2.2.2.1 L (by rw[O.out,a3.out];show u<=J;omega));rw[O.out]at h;exact h)
     go_upto_region 4 with fail
     go_quiet (fail)
     go_upto_region 5 with fail;have b:=(fun y(hy:Below wr.heap.size wr y)=>cM (f:=u) (t:=R) HQ.2.1 (l.2.1.later hy));have z:∀w,Below wr.heap.size wr w->w.cell? ⟨S,0,none⟩=some (.slice (some ⟨c,0,none⟩) na ca)/\w.cell? ⟨c,i*3,none⟩=some (.int .i64 u)/\w.cell? ⟨c,i*3+1,none⟩=some (.int .i64 R):=(fun w E=>⟨aK E c0,aK E M,aK E N⟩);have o:=aa z;clear z;have F:S<H:=(by have:=I.out;omega);have d:c<H:=by have:=(ac.lt q.1 c rfl).2;have h2:=I.out;have h3:=q.2.2.2;omega
     go_region_held3 (fun w=>w.cell? ⟨S,0,none⟩=some (.slice (some ⟨c,0,none⟩) na ca)/\w.cell? ⟨c,i*3,none⟩=some (.int .i64 u)/\w.cell? ⟨c,i*3+1,none⟩=some (.int .i64 R)) (first|exact o.out _ (zg _ wr) | exact o.out _ (zg _ wr).drew|exact o.out _ (aF wr _) | exact o.out _ (aF wr _).drew|exact⟨(g.2.cell (p:=⟨S,0,none⟩) F).trans c0,(g.2.cell (p:=⟨c,i*3,none⟩) d).trans M,(g.2.cell (p:=⟨c,i*3+1,none⟩) d).trans N⟩) (first | (go_at_call 68;(with_reducible refine(b _ (aF wr _)).mono ?_);rintro e x1⟨rfl,v1,U,V,o1⟩;have g:=aa (ab U ((l.2.1.later (aF wr _)).below' V));clear U V o1 b))
     go_wp2_with fail;go_roundg (na+nb-(i+k))
     case measure=>omega
     have G:Below H W4 x1:=(l.2.2.1.trans ((aF wr _).mono (Nat.le_of_lt l.2.1.lt))).trans g.2;exact⟨i+1,k,v1,_,by go_num,rfl,by omega,by omega,by omega,HL.out,g.1,G⟩
    have hd:decide (u<J)=false:=yp b5
    have HL:Hid (qx la lb (jg m J t2) i (k+1)):=aa (by
     have h:=HQ.1.right n.2.2.2.1 L (oA n.2.2.1 a4 (by rw[O.out,a3.out];show J<=u;omega));rw[a3.out]at h;exact h)
    go_upto_region 4 with fail
    go_quiet (fail)
    go_upto_region 7 with fail;have b:=(fun y(hy:Below wr.heap.size wr y)=>cM (f:=J) (t:=t2) HQ.2.1 (l.2.1.later hy));have z:∀w,Below wr.heap.size wr w->w.cell? ⟨S+1,0,none⟩=some (.slice (some ⟨gb,0,none⟩) nb cb)/\w.cell? ⟨gb,k*3,none⟩=some (.int .i64 J)/\w.cell? ⟨gb,k*3+1,none⟩=some (.int .i64 t2):=(fun w E=>⟨aK E c1,aK E b0,aK E b1⟩);have o:=aa z;clear z;have F:S+1<H:=(by have:=I.out;omega);have d:gb<H:=by have:=(ac.lt q.2.1 gb rfl).2;have h2:=I.out;have h3:=q.2.2.2;omega
    go_region_held3 (fun w=>w.cell? ⟨S+1,0,none⟩=some (.slice (some ⟨gb,0,none⟩) nb cb)/\w.cell? ⟨gb,k*3,none⟩=some (.int .i64 J)/\w.cell? ⟨gb,k*3+1,none⟩=some (.int .i64 t2)) (first|exact o.out _ (zg _ wr) | exact o.out _ (zg _ wr).drew|exact o.out _ (aF wr _) | exact o.out _ (aF wr _).drew|exact⟨(g.2.cell (p:=⟨S+1,0,none⟩) F).trans c1,(g.2.cell (p:=⟨gb,k*3,none⟩) d).trans b0,(g.2.cell (p:=⟨gb,k*3+1,none⟩) d).trans b1⟩) (first | (go_at_call 68;(with_reducible refine(b _ (aF wr _)).mono ?_);rintro e x1⟨rfl,v1,U,V,o1⟩;have g:=aa (ab U ((l.2.1.later (aF wr _)).below' V));clear U V o1 b))
    go_wp2_with fail;go_roundg (na+nb-(i+k))
    case measure=>omega
    have G:Below H W4 x1:=(l.2.2.1.trans ((aF wr _).mono (Nat.le_of_lt l.2.1.lt))).trans g.2;exact⟨i,k+1,v1,_,rfl,by go_num,by omega,by omega,by omega,HL.out,g.1,G⟩
   have c5:¬ i<na:=(by omega);have hd:decide ((i:Int)<(na:Int))=false:=yp (by omega)
   have HL:Hid (qx la lb (jg m J t2) i (k+1)):=aa (by
    have h:=HQ.1.right n.2.2.2.1 L (fun a X=>by rw[List.drop_eq_nil_of_le (by rw[n.1];exact B)]at X;cases X);rw[a3.out]at h;exact h)
   go_upto_region 4 with fail
   go_quiet (fail)
   go_upto_region 7 with fail;have b:=(fun y(hy:Below wr.heap.size wr y)=>cM (f:=J) (t:=t2) HQ.2.1 (l.2.1.later hy));have z:∀w,Below wr.heap.size wr w->w.cell? ⟨S+1,0,none⟩=some (.slice (some ⟨gb,0,none⟩) nb cb)/\w.cell? ⟨gb,k*3,none⟩=some (.int .i64 J)/\w.cell? ⟨gb,k*3+1,none⟩=some (.int .i64 t2):=(fun w E=>⟨aK E c1,aK E b0,aK E b1⟩);have o:=aa z;clear z;have F:S+1<H:=(by have:=I.out;omega);have d:gb<H:=by have:=(ac.lt q.2.1 gb rfl).2;have h2:=I.out;have h3:=q.2.2.2;omega
   go_region_held3 (fun w=>w.cell? ⟨S+1,0,none⟩=some (.slice (some ⟨gb,0,none⟩) nb cb)/\w.cell? ⟨gb,k*3,none⟩=some (.int .i64 J)/\w.cell? ⟨gb,k*3+1,none⟩=some (.int .i64 t2)) (first|exact o.out _ (zg _ wr) | exact o.out _ (zg _ wr).drew|exact o.out _ (aF wr _) | exact o.out _ (aF wr _).drew|exact⟨(g.2.cell (p:=⟨S+1,0,none⟩) F).trans c1,(g.2.cell (p:=⟨gb,k*3,none⟩) d).trans b0,(g.2.cell (p:=⟨gb,k*3+1,none⟩) d).trans b1⟩) (first | (go_at_call 68;(with_reducible refine(b _ (aF wr _)).mono ?_);rintro e x1⟨rfl,v1,U,V,o1⟩;have g:=aa (ab U ((l.2.1.later (aF wr _)).below' V));clear U V o1 b))
   go_wp2_with fail;go_roundg (na+nb-(i+k))
   case measure=>omega
   have G:Below H W4 x1:=(l.2.2.1.trans ((aF wr _).mono (Nat.le_of_lt l.2.1.lt))).trans g.2;exact⟨i,k+1,v1,_,rfl,by go_num,by omega,by omega,by omega,HL.out,g.1,G⟩
  have B:i<na:=(by omega);have a4:i<la.length:=(by rw[n.1];exact B);have L:lb.length<=k:=(by rw[n.2.1];exact Z);obtain⟨c,rfl,c3,M,N,a2⟩:=HV.1 B;obtain⟨r,hr⟩:=ae (la[i]);rw[hr]at M N;have O:=aa hr;clear hr a2;obtain⟨u,R⟩:=r;have M:wr.cell? ⟨c,i*3,none⟩=some (.int .i64 u):=M;have N:wr.cell? ⟨c,i*3+1,none⟩=some (.int .i64 R):=N;have b4:((k:Int)==(nb:Int))=true:=by simp;omega
  have HL:Hid (qx la lb (jg m u R) (i+1) k):=aa (by
   have h:=HQ.1.left n.2.2.1 a4 (fun a X=>by rw[List.drop_eq_nil_of_le L]at X;cases X);rw[O.out]at h;exact h)
  go_upto_region 4 with fail
  go_quiet (fail)
  go_upto_region 5 with fail;have b:=(fun y(hy:Below wr.heap.size wr y)=>cM (f:=u) (t:=R) HQ.2.1 (l.2.1.later hy));have z:∀w,Below wr.heap.size wr w->w.cell? ⟨S,0,none⟩=some (.slice (some ⟨c,0,none⟩) na ca)/\w.cell? ⟨c,i*3,none⟩=some (.int .i64 u)/\w.cell? ⟨c,i*3+1,none⟩=some (.int .i64 R):=(fun w E=>⟨aK E c0,aK E M,aK E N⟩);have o:=aa z;clear z;have F:S<H:=(by have:=I.out;omega);have d:c<H:=by have:=(ac.lt q.1 c rfl).2;have h2:=I.out;have h3:=q.2.2.2;omega
  go_region_held3 (fun w=>w.cell? ⟨S,0,none⟩=some (.slice (some ⟨c,0,none⟩) na ca)/\w.cell? ⟨c,i*3,none⟩=some (.int .i64 u)/\w.cell? ⟨c,i*3+1,none⟩=some (.int .i64 R)) (first|exact o.out _ (zg _ wr) | exact o.out _ (zg _ wr).drew|exact o.out _ (aF wr _) | exact o.out _ (aF wr _).drew|exact⟨(g.2.cell (p:=⟨S,0,none⟩) F).trans c0,(g.2.cell (p:=⟨c,i*3,none⟩) d).trans M,(g.2.cell (p:=⟨c,i*3+1,none⟩) d).trans N⟩) (first | (go_at_call 68;(with_reducible refine(b _ (aF wr _)).mono ?_);rintro e x1⟨rfl,v1,U,V,o1⟩;have g:=aa (ab U ((l.2.1.later (aF wr _)).below' V));clear U V o1 b))
  go_wp2_with fail;go_roundg (na+nb-(i+k))
  case measure=>omega
  have G:Below H W4 x1:=(l.2.2.1.trans ((aF wr _).mono (Nat.le_of_lt l.2.1.lt))).trans g.2;exact⟨i+1,k,v1,_,by go_num,rfl,by omega,by omega,by omega,HL.out,g.1,G⟩
 have h1:¬ i<na:=(by omega);have h2:¬ k<nb:=(by omega);have a5:=hI.fin (by rw[n.1];omega) (by rw[n.2.1];omega);have z2:=(l.2.2.1.block (S+1+1) (by have:=I.out;omega)).trans H0.2.2;have d0:=aA z2 0;have df:=zq wr (S+1+1) 0 _ _ z2;have m0:=l.2.1.1.1;obtain⟨p1,n1,b6,rfl⟩:=l.2.1.slc;have s0:=wi wr ⟨S+1+1,0,none⟩ (.slice p1 n1 b6) d0
 have b7:Is m (fun x=>P x || Q x):=fun x=>by
  rw[a5,wh,n.2.2.2.2.1 x,n.2.2.2.2.2 x]
 have A:Below W.heap.size W wr:=q.2.2.1.trans (l.2.2.1.mono (by rw[q.2.2.2];have:=I.out;omega));have HE:=aa (qA (P:=fun x=>P x || Q x) l.2.1 (by have:=I.out;omega) hI.nrm b7 A (show W.heap.size<=S+1+1 by rw[q.2.2.2];omega));clear c2 hI a5 z2 b7 A
 all_goals
  go_wp2_with fail;refine y8 (v:=.agg #[.slice p1 n1 b6]) (by simp[results,results82,go_sem,s0]) rfl ?_;exact HE.out
def notP(P:Int->Bool)(n x:Int):Bool:=decide (0<=x/\x<n/\x<65536)&&!P x
theorem IC(W:World)(va:Value):∃a:World,((W.alloc (.cells #[va] 29)).alloc (.cells #[.slice none 0 0] 29)).alloc (.cells #[.slice none 0 0] 29)=a/\Below W.heap.size W a/\a.heap[W.heap.size]?=some (.cells #[va] 29)/\a.heap[W.heap.size+1]?=some (.cells #[.slice none 0 0] 29)/\Mk a (W.heap.size+1+1) (.slice none 0 0) []:=by
 refine⟨_,rfl,((aD W _).alloc (by simp) _).alloc (by simp;omega) _,?_,?_,?_⟩
 ·exact(we _ _ _ (by simp;omega)).trans ((we _ _ _ (by simp)).trans (z7 W _))
 ·have:=z7 (W.alloc (.cells #[va] 29)) (.cells #[.slice none 0 0] 29)
  rw[zm]at this;exact(we _ _ _ (by simp)).trans this
 have:=lV ((W.alloc (.cells #[va] 29)).alloc (.cells #[.slice none 0 0] 29))
 rw[zm,zm]at this;exact this
theorem EW{la m:List R2}{P:Int->Bool}{n N:Int}(hP:Is la P)(hN:N=min n 65536)(h:∀x,mem m x↔0<=x/\x<N/\¬ mem la x):Is m (notP P n):=fun x=>by
 have:=hP x
 unfold notP;rw[h,this,zy,xz,Bool.not_eq_true'];constructor
 ·rintro⟨a,b,c⟩;exact⟨by omega,by simpa using c⟩
 ·rintro⟨⟨a,b,c⟩,d⟩;exact⟨a,by omega,by rw[d];decide⟩
theorem Hq{la:List R2}{va:Value}{P:Int->Bool}{W:World}(ha:Nrm la)(hva:Mv W va la)(hP:Is la P)(n:Int):Calls prog 41 #[.agg #[va],.int .i64 n] W (IsMap (notP P n) W):=by
 obtain⟨W3,F,hB,h0,h1,X⟩:=IC W va;have Y:=dA ha;obtain⟨pa,ca,rfl,_,_⟩:=hva.slice;obtain⟨S,Z⟩:=ae W.heap.size;have A:=aa (ab hva (ab hB Z));have R:=aa (ab h0 h1);rw[Z]at X R;obtain⟨na,p⟩:=ae la.length;have s:=aa (ab p (ab ha hP));rw[p]at Y R;have HM:=aa X;have G:=aa F;clear hva hB h0 h1 X F p ha hP Z;go_enter func41,ntmps41;go_upto_region 1 with fail
 go_cut [1]from 200 to 200 (fun nv w=>nv=.int .i64 (min n 65536)/\w=(W.alloc (.cells #[.slice pa la.length ca] 29)).alloc (.cells #[.slice none 0 0] 29))
 case first =>
  rcases Int.lt_or_le 65536 n with U|U
  ·go_wp2_with fail;go_meet;exact⟨by congr 1 <;> omega,rfl⟩
  go_wp2_with fail;go_meet;exact⟨by congr 1 <;> omega,rfl⟩
 obtain⟨rfl,rfl⟩:=hcut;obtain⟨N,hN⟩:∃N,N=min n 65536:=⟨_,rfl⟩;rw[<-hN];have H:N<=65536:=(by omega);have a3:=aa hN;clear hN
 go_upto_block 0 with fail
 rw[G.out,A.2.2,s.1];clear G;obtain⟨V,u⟩:=ae (S+1+1);rw[u]at HM ⊢;have B:=aa u;clear u;go_wp2_with fail;go_loopg [6,14] (na+1) (fun gh av jv w=>∃(j:Nat) (i:Int) (v:Value) (m:List R2),av=.int .i64 i/\jv=.int .i64 (j:Int)/\j<=na/\na+1<=j+gh/\qk la m N j i/\Mk w V v m/\Below V W3 w)
 case atStart=>exact⟨0,0,_,_,rfl,rfl,zj _,by omega,qk.start s.2.1 N,HM.out,zg _ _⟩
 obtain⟨j,i,v,m,rfl,rfl,hj,hg,hI,hM,k⟩:=hrel;have E:=(k.block S (by have:=B.out;omega)).trans R.1;have c0:=aA E 0;have y0:S<wr.heap.size:=aB E;have I:Below W.heap.size W wr:=A.2.1.trans (k.mono (by rw[A.2.2];have:=B.out;omega));have d:=aa (ab hI (ab hM (ab k (ab E I))));clear hI hM k E I;by_cases J:j<na
 ·obtain⟨g,rfl,a6,a0,a1,a2⟩:=(A.1.later d.2.2.2.2).run (j:=j) (by rw[s.1];exact J);have x:j<la.length:=(by rw[s.1];exact J);have c:=d.1.step s.2.1 H x;obtain⟨r,hr⟩:=ae (la[j]);simp only[hr]at a0 a1 c;generalize ((els (la.take j)).length:Int)=ra at a2;obtain⟨f1,t1⟩:=r;have HS:=aa c;clear c hr;have y:=d.2.1.later (aD wr (.cells #[.int .i64 f1,.int .i64 t1,.int .i64 ra] 81));have a:=(fun f t=>cM (f:=f) (t:=t) d.1.nrm y);have zr:=z7 wr (.cells #[.int .i64 f1,.int .i64 t1,.int .i64 ra] 81);have o:∀q,v.ownBlock=some q->q<wr.heap.size:=(fun q hq=>(d.2.1.2.lt q hq).2);have L:=d.2.1.lt;have HC:=aa (ab y (ab zr (ab o L)));clear y zr o;go_wp2_with (go_at_call 68;refine(a _ _).mono ?_;rintro e M⟨rfl,v1,l,z,o1⟩;clear a;have yr:=(z.block wr.heap.size (by simp) (fun h=>h.elim (fun h=>by omega) (fun h=>by have:=HC.2.2.1 _ h;omega))).trans HC.2.1;have q0:=aA yr 1;obtain⟨l1,a4,l⟩:∃l1,l1=jg m i (min f1 N)/\Mk M V v1 l1:=⟨_,by congr 1 <;> first|omega | (split <;> omega),l⟩;subst a4;have O:=aa (ab l z);clear l z o1 yr)
  all_goals
   go_roundg (na-j)
   case measure=>omega
   case rel =>
    have a5:Below V W3 M:=(d.2.2.1.trans ((aD wr _).mono (by omega))).trans (HC.1.below' O.2);exact⟨j+1,t1,v1,_,rfl,by go_num,by omega,by omega,HS.out,O.1,a5⟩
 have x:la.length<=j:=(by rw[s.1];omega);obtain⟨hf,U,hx⟩:=d.1.fin H x;have a:=cM (f:=i) (t:=N) d.1.nrm d.2.1;have z2:=(d.2.2.1.block (S+1) (by have:=B.out;omega)).trans R.2;have HX:=aa (ab U (ab (EW s.2.2 a3.out hx) z2));clear hf U hx z2 c0;go_wp2_with (go_at_call 68;refine a.mono ?_;rintro e M⟨rfl,v1,l,z,o1⟩;clear a;have kb:=(d.2.1.keep z (b:=S+1) (by have:=B.out;omega)).trans HX.2.2;have E:=aA kb 0;have zf:=zq M (S+1) 0 _ _ kb;obtain⟨p1,n1,Q,rfl⟩:=l.slc;have m0:=l.1.1;have O:=aa (ab l z);clear l z o1 kb);have s0:=wi M ⟨S+1,0,none⟩ (.slice p1 n1 Q) E;refine y8 (v:=.agg #[.slice p1 n1 Q]) (by simp[results,results41,go_sem,s0]) rfl ?_;exact qA O.1 (by have:=B.out;omega) HX.1 HX.2.1 (d.2.1.below O.2 d.2.2.2.2 (by rw[A.2.2];have:=B.out;omega)) (by rw[A.2.2];omega)
def Dr(P Q:Int->Bool)(x:Int):Bool:=P x&&!Q x
