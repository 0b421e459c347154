import Derived.Test.YtkchgbjoeggdbaaGreatZn50
import Derived.Test.YtkchgbjoeggdbaaGreatZn41
import Derived.Test.YtkchgbjoeggdbaaGreatZn43
set_option maxHeartbeats 8000000
set_option maxRecDepth 100000
namespace Go.Proofs.YtkchgbjoeggdbaaGreat.Ix
open Go.Proofs.Tryz
open Go Go.RowKit Go.Shelf Go.Proofs Go.Proofs.YtkchgbjoeggdbaaGreat Go.Proofs.YtkchgbjoeggdbaaGreat.Co Go.Proofs.YtkchgbjoeggdbaaGreat.Co.S
attribute [local go_sem] Oper.semAt_some
theorem fZ(n:Int)(W:World):Calls prog 8 #[.int .i64 n] W fun e k=>e=.returned (.agg #[.int .i64 1,.int .i64 n,.string e0])/\Below W.heap.size W k:=by
 have b:=aD W (.cells #[.int .i64 0,.int .i64 0,.string e0] 32);have a:=z7 W (.cells #[.int .i64 0,.int .i64 0,.string e0] 32);obtain⟨l,c⟩:=ae (W.alloc (.cells #[.int .i64 0,.int .i64 0,.string e0] 32));obtain⟨B,h⟩:=ae W.heap.size;rw[c]at b a;rw[h]at a;have q:=aA a 0;have r:=aA a 1;have s:=aA a 2;have t:=(fun i=>zq l B i _ _ a);have u:=aB a;have d:=aa (ab c (ab h (ab b a)));clear c h b a;go_enter func8,ntmps8;go_upto_region 1 with fail;rw[d.1,d.2.1];go_wp2_with fail;generalize j:((World.setCell _ _ _).setCell _ _).setCell _ _=wz;have g:=gD d.2.2.2 (.int .i64 1) (.int .i64 n) (.string e0);have f:=bD d.2.2.1 (xn d.2.1) (.int .i64 1) (.int .i64 n) (.string e0);rw[j]at g f;have m:=aA g 0;have o:=aA g 1;have p:=aA g 2;refine y8 (v:=(.agg #[.int .i64 1,.int .i64 n,.string e0])) (by simp[results,results8,go_sem,m,o,p]) rfl ?_;exact⟨rfl,f⟩
theorem cF(s:ByteArray)(W:World):Calls prog 22 #[.string s] W fun e k=>e=.returned (.agg #[.int .i64 2,.int .i64 0,.string s])/\Below W.heap.size W k:=by
 have b:=aD W (.cells #[.int .i64 0,.int .i64 0,.string e0] 32);have a:=z7 W (.cells #[.int .i64 0,.int .i64 0,.string e0] 32);obtain⟨l,c⟩:=ae (W.alloc (.cells #[.int .i64 0,.int .i64 0,.string e0] 32));obtain⟨B,h⟩:=ae W.heap.size;rw[c]at b a;rw[h]at a;have p:=aA a 0;have q:=aA a 1;have r:=aA a 2;have t:=(fun i=>zq l B i _ _ a);have u:=aB a;have d:=aa (ab c (ab h (ab b a)));clear c h b a;go_enter func22,ntmps22;go_upto_region 1 with fail;rw[d.1,d.2.1];go_wp2_with fail;generalize j:((World.setCell _ _ _).setCell _ _).setCell _ _=wz;have g:=gD d.2.2.2 (.int .i64 2) (.int .i64 0) (.string s);have f:=bD d.2.2.1 (xn d.2.1) (.int .i64 2) (.int .i64 0) (.string s);rw[j]at g f;have m:=aA g 0;have n:=aA g 1;have o:=aA g 2;refine y8 (v:=(.agg #[.int .i64 2,.int .i64 0,.string s])) (by simp[results,results22,go_sem,m,n,o]) rfl ?_;exact⟨rfl,f⟩
theorem pJ(w:World):Calls prog 9 #[.agg #[.slice none 0 0]] w fun e a=>e=.returned (.int .i64 0)/\Below w.heap.size w a:=Go.Proofs.YtkchgbjoeggdbaaGreat.ax (l:=[]) (by simp[Nrm]) ac.nil
theorem tp(hbg:∀W,Calls prog 6 #[] W fun e c=>e=.returned (.bool true)/\Below W.heap.size W c)(W:World):Calls prog 3 #[] W fun e c=>e=.returned (.bool true)/\Below W.heap.size W c:=by
 have m:=tJ W;have a:=wC (W.alloc (.cells (iw++[.int .i64 0,Value.map none]).toArray 66)) W.heap.size;have b:=aD W (.cells (iw++[.int .i64 0,Value.map none]).toArray 66);have o:=aa b;have d:=aa hbg;clear b hbg;go_enter func3,ntmps3
 go_wp2_with (first|(go_at_call 5;refine m.mono ?_;rintro e p⟨rfl,q⟩;subst p;clear m)|(go_at_call 4;refine a.mono ?_;rintro e r⟨rfl,f⟩;clear a)|(go_at_call 6;refine(d.out r).mono ?_;rintro e s⟨rfl,g⟩)|(go_at_call 8;refine(fZ 1 s).mono ?_;rintro e t⟨rfl,h⟩)|(go_at_call 7;refine(Dl t (1,1,e0)).mono ?_;rintro e u⟨rfl,i⟩)|(go_at_call 10;refine(wD n).mono ?_;rintro e v⟨rfl,q⟩;subst v)|(go_at_call 11;refine(DJ n 7 z3).mono ?_;rintro e w⟨rfl,j⟩)|(go_at_call 9;first | ((with_reducible refine(pJ w).mono ?_);rintro e x⟨rfl,k⟩) | ((with_reducible refine(pJ u).mono ?_);rintro e n⟨rfl,l⟩)))
 go_ret;exact⟨rfl,aC (aC (aC (aC (aC (aC (aC o.out f) g) h) i) l) j) k⟩
end Go.Proofs.YtkchgbjoeggdbaaGreat.Ix
namespace Go.Proofs.YtkchgbjoeggdbaaGreat.Ix
open Go.Proofs.Tryz
open Go Go.RowKit Go.Shelf Go.Proofs Go.Proofs.YtkchgbjoeggdbaaGreat
attribute [local go_sem] Oper.semAt_some
theorem xB{l:List ByteArray}{v:Value}{W:World}(h:kh W v l)(hl:l.length<=1000):Calls prog 62 #[v] W fun e H=>∃s,e=.returned s/\ac H W.heap.size 9 1 s l.length (cellsS l)/\Below W.heap.size W H:=by
 obtain⟨L,M,x,y,z⟩:=info_parts BH;have N:∀(w:World) (a:Option Addr) (n c B E:Nat),(binOp .eql 43 (.slice a n c) (.slice none B E)).run prog w=.ok (.bool a.isNone) w:=(fun w a n c B E=>Lib.run_eql_slice_nil w _ _ a n c B E underlying43);obtain⟨p,F,rfl,O,P⟩:=h.slice;rcases jn.spot h with rfl|⟨b,o,rfl⟩
 ·have g:l.length=0:=by
   rcases Nat.eq_zero_or_pos l.length with g|g
   ·exact g
   obtain⟨_,_,e,_⟩:=jn.at h g;cases e
  have G:l=[]:=wg g;subst G;go_enter func62,ntmps62;go_wp2_with fail;go_ret;exact⟨_,rfl,ac.nil,zg _ _⟩
 have d:∀j u,(cellsS l)[j]?=some u->W.cell? ⟨b,o+j,none⟩=some u:=fun j u q=>by
  have t:0<l.length:=by
   rcases Nat.eq_zero_or_pos l.length with g|g
   ·rw[wg g]at q;simp[cellsS]at q
   exact g
  obtain⟨S,I,e,_,Q⟩:=jn.at h t;cases e;exact Q j u q
 have f:=gG l;have i:=lY l;obtain⟨n,t⟩:=ae l.length;rw[t]at f hl ⊢;generalize cellsS l=news at d f i ⊢;have A:=aa d;clear d h O t;unfold maxLen at P;go_enter func62,ntmps62;go_wp2_with (at_builtin;refine wpList_append_own _ rfl _ _ 43 rfl W.heap.size 9 L _ 1 16 underlying43 M x y z rfl (by decide) _ _ _ rfl (World.ownsRow_made W #[] 0 (zo _) (zj _) (by simp)) ⟨b,o,none⟩ n F news rfl ?qc1 ?qc2 ?qc3 ?qc4 ?qc5 ?qc6 ?_)
 case qc1=>exact f
 case qc2 =>
  intro j u q;rw[Addr.add_lit];exact Lib.cell?_alloc_some _ (A.out j u q)
 case qc3=>exact i
 case qc4=>rw[xj];unfold maxLen;omega
 case qc5=>rw[xj];omega
 case qc6=>simp
 intro s U r m J
 go_wp2
 go_ret;refine⟨s,rfl,ac.lh (by simpa using r),?_⟩;exact((zg _ W).alloc (zo _) _).grown m (by simp) (by intro k R;simp[Value.ownBlock]at R;omega)
end Go.Proofs.YtkchgbjoeggdbaaGreat.Ix
namespace Go.Proofs.YtkchgbjoeggdbaaGreat.Ix
open Go.Proofs.Tryz
open Go Go.RowKit Go.Shelf Go.Proofs Go.Proofs.YtkchgbjoeggdbaaGreat Go.Proofs.YtkchgbjoeggdbaaGreat.Co Go.Proofs.YtkchgbjoeggdbaaGreat.Co.S
attribute [local go_sem] Oper.semAt_some
variable{M:Nat}
theorem Wd.own{w:World}{base:Nat}{v:Value}{l:List ByteArray}(h:ac w base 9 1 v l.length (cellsS l)):Wd w v l:=by
 rcases h.2 with ⟨rfl,i⟩ | ⟨g,c,b,rfl,_,k,m,n,_,o⟩
 ·obtain rfl:=wg i;exact Wd.nil w
 refine⟨_,c,rfl,m,n,fun a e=>by cases e;rfl,fun _=>⟨g,0,b,(0,0),rfl,k,fun j d=>?_⟩⟩;have f:(b.toList.take (l.length*1))[j]?=(cellsS l)[j]?:=(by rw[o]);rw[Nat.mul_one,List.getElem?_take,zw d]at f;rw[xj,<-Array.getElem?_toList,f];unfold cellsS;simp[d]
theorem uL{W:World}{d:Nat}{L:List PT}(hdb:qh W d L){tb:ByteArray}{v:Value}{p:List ByteArray}(hp:Wd W v p){j:Nat}(hj:j<4)(hnm:((pre 4)[j]'hj).nm=tb){X:PT}(hX:L[j]?=some X)(hlen:X.2.length<=1000)(hval:∀a∈X.2,ux M (ay (pre 4) (da L) tb a.1 p).1)(hpl:p.length<=1000){er:Int}(f:(et (pre 4) tb p).2.2=er):Calls prog 23 #[.pointer (some ⟨d,0,none⟩),.string tb,v] W fun e g=>Below W.heap.size W g/\((er≠0/\e=.returned (.tuple #[.pointer none,.int .i64 er]))∨(er=0/\∃x,W.heap.size<=x/\e=.returned (.tuple #[.pointer (some ⟨x,0,none⟩),.int .i64 0])/\tu (M:=M) g x tb p (qw (ir M (fun i=>ay (pre 4) (da L) tb i p) (X.2.map (·.1))))/\∃Q q,ac g W.heap.size 9 1 Q p.length (cellsS p)/\g.heap[x]?=some (.cells #[.string tb,Q,.pointer q] 45))):=by
 have s:∀w,Below W.heap.size W w->Calls prog 37 #[.pointer (some ⟨d,0,none⟩)] w fun e g=>e=.returned (.pointer (some ⟨d,0,none⟩))/\g=w:=fun w t=>by
  obtain⟨R,O,o,_⟩:=hdb.later t;exact aY (W:=w) o.dlt
 have h:∀w,Below W.heap.size W w->Calls prog 44 #[.pointer (some ⟨d,0,none⟩),.string tb,v] w fun e g=>e=.returned (.tuple #[dy (et (pre 4) tb p).1,.string (et (pre 4) tb p).2.1,.int .i64 (et (pre 4) tb p).2.2])/\Below w.heap.size w g:=fun w t=>by
  obtain⟨R,O,o,_⟩:=hdb.later t;obtain⟨mv,S⟩:=o.sp;exact fE (tb:=tb) S (hp.later t)
 obtain⟨cc,k⟩:=ae (et (pre 4) tb p);obtain⟨⟨nm,kd,mu,tg⟩,s2,u⟩:=cc;rw[k]at f;have f:u=er:=f;subst f;simp only[k]at h;rw[show dy ⟨nm,kd,mu,tg⟩=.agg #[.string nm,.int .i64 kd,.bool mu,.string tg]from rfl]at h;obtain⟨q,a1,rfl,a0,hm⟩:=hp.slice;have HS:=aa (ab s h);have HD:=aa hdb;have HP:=aa hp;have U:=aa (ab hlen (ab hval hpl));clear s h hdb hp hlen hval hpl k;go_enter func23,ntmps23;have s:=HS.1 W (zg _ W);have h:=HS.2 W (zg _ W)
 go_upto_region 2 with (first|(go_at_call 37;(with_reducible refine s.mono ?_);rintro e w2⟨rfl,t⟩;subst w2;clear s)|(go_at_call 44;(with_reducible refine h.mono ?_);rintro e w3⟨rfl,y⟩;have z:=aa (aC y (aD w3 (.cells #[.string nm,.int .i64 kd,.bool mu,.string tg] 107)));clear h y))
 generalize w3.alloc _=w1 at z ⊢;by_cases h0:u=0
 ·subst h0;have A:=xB (Wd.rd (HP.out.later z.out)) U.2.2;go_upto_region 5 with (go_at_call 62;(with_reducible refine A.mono ?_);rintro e I⟨Q,rfl,V,B⟩;obtain⟨J,c2,rfl,_,_⟩:=ac.isslice V;have E:=aa (ab (aC z.out B) V);clear A V B);have c:=aD I (.cells #[.string tb,.slice J p.length c2,.pointer none] 45);have N:=z7 I (.cells #[.string tb,.slice J p.length c2,.pointer none] 45);obtain⟨x,P⟩:=ae I.heap.size;obtain⟨w5,l⟩:=ae (I.alloc (.cells #[.string tb,.slice J p.length c2,.pointer none] 45));rw[l]at c N;rw[P]at N;have F:W.heap.size<=x:=(by rw[<-P];exact E.1.size);have m:=aC E.1 c
  have Y:=nK (M:=M) (w:=w5) (x:=x) (d:=d) (tb:=tb) (p:=p) N (Wd.own (E.2.later c)) (fun g hT=>by
   obtain⟨R,O,o,h2⟩:=HD.out
   exact⟨R,O,(o.later m).tn hT (fun q r=>Classical.byContradiction fun hn=>by
    have h3:=o.lt q hn;have h4:q=x:=r;omega),h2⟩) hj hnm hX U.1 U.2.1
  have G:=E.2.later c;have H:∀q,(Value.slice J p.length c2).ownBlock=some q->q≠x:=(fun q r e=>by have:=(ac.lt E.2 q r).2;omega);have n:=aa (ab m (ab F (ab G H)))
  try rw[l]
  try rw[P]
  clear c N m F l P G H;go_wp2_with (go_at_call 4;refine Y.mono ?_;rintro e w6⟨rfl,hI,hT,q6,Z⟩);go_ret2;refine⟨n.1.trans ⟨hT.chg.os,hT.chg.tape,hT.chg.output,hT.chg.size,fun b hb=>hT.chg.block b (z9 hb n.1.size) (fun e=>?_)⟩,x,n.2.1,rfl,hI,_,(ac.of n.2.2.1 (fun q r=>hT.chg.block q (ac.lt n.2.2.1 q r).2 (n.2.2.2 q r))).mono (zx z.out.size (zo _)),q6,Z⟩;have e:b=x:=e
  have:=n.2.1
  omega
 have HE:=aa h0;go_wp2_with fail;go_ret2;exact⟨z.out,.inl ⟨HE.out,rfl⟩⟩
end Go.Proofs.YtkchgbjoeggdbaaGreat.Ix
namespace Go.Proofs.YtkchgbjoeggdbaaGreat
open Go.Proofs.Tryz
open Go Go.RowKit Go.Proofs Co Co.S
theorem uM(W:World):Calls prog 25 #[] W fun e a=>e=.returned (.bool true)/\Below W.heap.size W a:=by
 have h:=uK W;go_enter func25,ntmps25;go_wp2_with (go_at_call 65;refine h.mono ?_;rintro e a⟨rfl,b⟩);go_ret;exact⟨rfl,b⟩
theorem PD.BV{K S:Nat->Prop}{W0 w w':World}{d b:Nat}{ps:List Nat}{L1 L2:List PT}(h:PD K W0 w d b (pre 4) ps L1 L2)(hT:Tn S w w')(hS:∀q,S q->K q):mg w' d L1:=by
 obtain⟨a,j,⟨c,k,i,e,l,m,f,n⟩,rfl,rfl,rfl⟩:=h;exact⟨a,c,e.tn hT (fun q g=>(f q (hS q g)).2.1),rfl⟩
end Go.Proofs.YtkchgbjoeggdbaaGreat
namespace Go.Proofs.YtkchgbjoeggdbaaGreat.Ix
open Go.Proofs.Tryz
open Go Go.RowKit Go.Shelf Go.Proofs Go.Proofs.YtkchgbjoeggdbaaGreat Go.Proofs.YtkchgbjoeggdbaaGreat.Co Go.Proofs.YtkchgbjoeggdbaaGreat.Co.S
theorem gA{w:World}{v:Value}{xs:List Int}(hv:Vm w v (ry xs))(hs:xs.Pairwise (·<·))(hb:xs.all qg=true):Calls prog 9 #[.agg #[v]] w fun e c=>e=.returned (.int .i64 (xs.length:Int))/\Below w.heap.size w c:=by
 have e:ry xs=oi (xs.map fun x=>(x,([]:List T3))):=by
  funext x
  rw[wu,mL];unfold ry;rw[zy,xz];constructor
  ·rintro⟨h,_⟩;exact⟨(x,[]),List.mem_map.2 ⟨x,h,rfl⟩,rfl⟩
  rintro⟨a,d,rfl⟩;obtain⟨y,b,rfl⟩:=List.mem_map.1 d;exact⟨b,List.all_eq_true.1 hb y b⟩
 rw[e]at hv
 have:=jS hv (by rw[List.pairwise_map];exact hs)
 rw[yd]at this;exact this
abbrev iV(n:Int):Array Value:=#[.int .i64 1,.int .i64 n,.string e0,.int .i64 2,.int .i64 0,.string sA]
abbrev Ab(g1 g2:Nat):Array Value:=#[.int .i64 1,.string an,.int .i64 0,.string e0,.slice (some ⟨g1,0,none⟩) 2 2,.int .i64 1,.string an,.int .i64 0,.string e0,.slice (some ⟨g2,0,none⟩) 2 2]
abbrev iO(n:Int):jt:=⟨1,an,0,e0,[(1,n,e0),(2,0,sA)]⟩
theorem Ik:∀o∈[iO 1,iO 2],nh o:=fun o a=>by
 have h:o=iO 1∨o=iO 2:=(by simpa using a);rcases h with rfl|rfl
 ·exact eS (by decide) (by decide) (by decide) (by decide)
 ·exact eS (by decide) (by decide) (by decide) (by decide)
theorem EE:∀o∈[iO 1,iO 2],o.dO=1/\jz (pre 4) o.tbl≠-1:=fun o a=>by
 have h:o=iO 1∨o=iO 2:=(by simpa using a);rcases h with rfl|rfl <;> exact⟨rfl,by decide +kernel⟩
abbrev iR:List PT:=[(2,[(0,[(1,1,e0),(2,0,sA)]),(1,[(1,2,e0),(2,0,sA)])]),(0,[]),(0,[]),(0,[])]
abbrev AD:List PT:=[(2,[(1,[(1,2,e0),(2,0,sA)])]),(0,[]),(0,[]),(0,[])]
theorem C7:jk (pre 4) Lz [iO 1,iO 2]=iR:=by kernel_rfl
theorem Iq:iR.set 0 (nw iR[0] 0)=AD:=by kernel_rfl
theorem FW{w w3 w6:World}(h3:Below w.heap.size w w3)(h6:Below (w3.alloc (.cells (iV 1) 32)).heap.size (w3.alloc (.cells (iV 1) 32)) w6):Below w.heap.size w ((w6.alloc (.cells (iV 2) 32)).alloc (.cells (Ab w3.heap.size w6.heap.size) 73))/\qv ((w6.alloc (.cells (iV 2) 32)).alloc (.cells (Ab w3.heap.size w6.heap.size) 73)) w.heap.size (.slice (some ⟨w6.heap.size+1,0,none⟩) 2 2) [iO 1,iO 2]:=by
 have g:=aC h3 (aD w3 (.cells (iV 1) 32));have a:=z7 w3 (.cells (iV 1) 32);have d:=aC g h6;have a:=aE h6 a;have e:=aD w6 (.cells (iV 2) 32);have b:=z7 w6 (.cells (iV 2) 32);have c:=aD (w6.alloc (.cells (iV 2) 32)) (.cells (Ab w3.heap.size w6.heap.size) 73);have f:=z7 (w6.alloc (.cells (iV 2) 32)) (.cells (Ab w3.heap.size w6.heap.size) 73);have a:=aE c (aE e a);have b:=aE c b;have h:(w6.alloc (.cells (iV 2) 32)).heap.size=w6.heap.size+1:=zm _ _;have l3:=h3.size;have l4:=d.size;rw[h]at f;refine⟨aC (aC d e) c,nP (v1:=.slice (some ⟨w3.heap.size,0,none⟩) 2 2) (v2:=.slice (some ⟨w6.heap.size,0,none⟩) 2 2) f rfl (by omega) ?_ ?_⟩
 ·exact ac.lit a rfl rfl l3 (by unfold maxLen;decide)
 exact ac.lit b rfl rfl l4 (by unfold maxLen;decide)
abbrev iF(L:List PT):Int->T3×Bool:=fun i=>ay (pre 4) (da L) an i [de]
abbrev iA:VX 12:=Af (2,0,sA) ⟨by decide,by decide,by decide⟩
abbrev i1:VX 12:=Af (1,1,e0) ⟨by decide,by decide,by decide⟩
theorem Fq:qw (ir 12 (iF iR) [0,1])=[(iA,[0,1])]:=by kernel_rfl
theorem H':qw (ir 12 (iF AD) [1])=[(iA,[1])]:=by kernel_rfl
theorem Ef:∀a∈iR[0].2,ux 12 (ay (pre 4) (da iR) an a.1 [de]).1:=fun a b=>by
 have h:a=(0,[(1,1,e0),(2,0,sA)])∨a=(1,[(1,2,e0),(2,0,sA)]):=(by simpa using b);rcases h with rfl|rfl
 ·rw[show(ay (pre 4) (da iR) an 0 [de]).1=(2,0,sA)by kernel_rfl];exact⟨by decide,by decide,by decide⟩
 ·rw[show(ay (pre 4) (da iR) an 1 [de]).1=(2,0,sA)by kernel_rfl];exact⟨by decide,by decide,by decide⟩
theorem Ic:∀a∈iR[0].2,ux 12 (ay (pre 4) (da iR) an a.1 [bx]).1:=fun a b=>by
 have h:a=(0,[(1,1,e0),(2,0,sA)])∨a=(1,[(1,2,e0),(2,0,sA)]):=(by simpa using b);rcases h with rfl|rfl
 ·rw[show(ay (pre 4) (da iR) an 0 [bx]).1=(0,0,e0)by kernel_rfl];exact⟨by decide,by decide,by decide⟩
 ·rw[show(ay (pre 4) (da iR) an 1 [bx]).1=(0,0,e0)by kernel_rfl];exact⟨by decide,by decide,by decide⟩
theorem Hm:∀a∈AD[0].2,ux 12 (ay (pre 4) (da AD) an a.1 [de]).1:=fun a b=>by
 have h:a=(1,[(1,2,e0),(2,0,sA)]):=(by simpa using b);subst h;rw[show(ay (pre 4) (da AD) an 1 [de]).1=(2,0,sA)by kernel_rfl];exact⟨by decide,by decide,by decide⟩
theorem Eb:(et (pre 4) an [de]).2.2=0:=by kernel_rfl
theorem Gx:(et (pre 4) an [bx]).2.2=3:=by kernel_rfl
theorem D8:(ak aw iA [(iA,[(0:Int),1])]).getD []=[0,1]:=by kernel_rfl
theorem Cv:(ak aw iA [(iA,[(1:Int)])]).getD []=[1]:=by kernel_rfl
theorem E5:(ak aw i1 [(iA,[(1:Int)])]).getD []=[]:=by kernel_rfl
theorem Cx:rz 6 (2,0,sA) [(iA,[1])]=[1]:=by kernel_rfl
attribute [local go_sem] Oper.semAt_some
theorem qX{w:World}{x:Nat}{G:List (VX 12×List Int)}(h:tu w x an [de] G)(v:VX 12){k n:Int}{s:ByteArray}(hv:v.1=(k,n,s)){r:List Int}(hr:(ak aw v G).getD []=r):Calls prog 7 #[.pointer (some ⟨x,0,none⟩),.agg #[.int .i64 k,.int .i64 n,.string s]] w fun e b=>∃p n c,e=.returned (.agg #[.slice p n c])/\Vm b (.slice p n c) (ry r)/\Below w.heap.size w b:=by
 have a:=FE h v;rw[hr]at a
 have e:AH v=.agg #[.int .i64 k,.int .i64 n,.string s]:=by
  show Value.agg #[.int .i64 v.1.1,.int .i64 v.1.2.1,.string v.1.2.2]=_;rw[hv]
 rw[e]at a;exact a
theorem r6(W:World):Calls prog 6 #[] W fun e o=>e=.returned (.bool true)/\Below W.heap.size W o:=by
 have y:=iY W;go_enter func6,ntmps6;go_upto_region 2 with (go_at_call 20;(with_reducible refine y.mono ?_);rintro e w1⟨d,b,ps,rfl,hP⟩;have HP:=aa hP;clear y hP)
 obtain⟨p0,p1,p2,p3,rfl⟩:∃p0 p1 p2 p3,ps=[p0,p1,p2,p3]:=by
  have:=HP.out.len.1
  match ps,this with
  | [a,b,c,d],_=>exact⟨a,b,c,d,rfl⟩
 have z:Calls prog 14 #[.pointer (some ⟨d,0,none⟩),.string an] w1 fun e o=>e=.returned (.pointer (some ⟨p0,0,none⟩))/\o=w1:=HP.out.table (j:=0) (by decide) (aM _ (z8 _)) (by decide:0<4)
 go_upto_region 4 with (go_at_call 14;(with_reducible refine z.mono ?_);rintro e w2⟨rfl,hw⟩;subst w2;clear z);have b6:=fZ 1 w1
 go_upto_region 5 with (first|(go_at_call 8;(with_reducible refine b6.mono ?_);rintro e w2⟨rfl,b7⟩;have H2:=aa b7;have l:=cF sA w2;clear b6 b7)|(go_at_call 22;(with_reducible refine l.mono ?_);rintro e w3⟨rfl,b8⟩;have H3:=aa (aC H2.out b8);have c0:=fZ 2 (w3.alloc (.cells (iV 1) 32));clear l b8)|(go_at_call 8;(with_reducible refine c0.mono ?_);rintro e w5⟨rfl,c6⟩;have H5:=aa c6;have A:=cF sA w5;clear c0 c6)|(go_at_call 22;(with_reducible refine A.mono ?_);rintro e w6⟨rfl,c7⟩;have H6:=aa (aC H5.out c7);clear A c7;obtain⟨b1,c8⟩:=FW H3.out H6.out;have B:Calls prog 21 #[.pointer (some ⟨d,0,none⟩),.pointer (some ⟨b,0,none⟩),.slice (some ⟨w6.heap.size+1,0,none⟩) 2 2] _ _:=uG (ops:=[iO 1,iO 2]) (HP.out.with b1) c8 (fun q h1 h2=>.inr ⟨h1,h2⟩) (cO 4 (by decide)) (bN 4) aM gV iZ iZ (by decide) Ik EE;have H7:=aa b1;clear b1 c8)|(go_at_call 21;(with_reducible refine B.mono ?_);rintro e w8⟨rfl,c9⟩;have H8:=aa ((HP.out.later H7.out).back c9 (fun q r=>.inl r));clear B c9))
 have h8:=H8.out;rw[C7]at h8;have H8:=aa h8;clear h8 H2 H3 H5 H6 H7 HP;obtain⟨w9,b2⟩:=ae (w8.alloc (.cells #[.string de] 9));obtain⟨g9,b3⟩:=ae w8.heap.size;have b9:=aD w8 (.cells #[.string de] 9);have k9:=z7 w8 (.cells #[.string de] 9);rw[b2]at b9 k9;rw[b3]at k9
 have a1:Calls prog 23 #[.pointer (some ⟨d,0,none⟩),.string an,.slice (some ⟨g9,0,none⟩) 1 1] w9 fun e o=>∃x v' q,e=.returned (.tuple #[.pointer (some ⟨x,0,none⟩),.int .i64 0])/\w9.heap.size<=x/\tu o x an [de] [(iA,[0,1])]/\ac o w9.heap.size 9 1 v' 1 (cellsS [de])/\o.heap[x]?=some (.cells #[.string an,v',.pointer q] 45)/\Below w9.heap.size w9 o:=
  (uL (M:=12) (H8.out.ut.later b9) (v:=.slice (some ⟨g9,0,none⟩) 1 1) (p:=[de]) (Wd.own (base:=0) (ac.lit k9 rfl rfl (zj _) (by unfold maxLen;decide))) (j:=0) (by decide) (tb:=an) rfl (X:=iR[0]) rfl (by decide) Ef (by decide) Eb).mono (fun e o h=>by
   obtain⟨f,⟨h1,_⟩ | ⟨_,x,hx,rfl,u,v',q,hr,hk⟩⟩:=h
   ·exact absurd rfl h1
   ·have u:tu o x an [de] (qw (ir 12 (iF iR) [0,1])):=u;rw[Fq]at u;exact⟨x,v',q,rfl,hx,u,hr,hk,f⟩)
 have B9:=aa (ab b2 (ab b3 b9));clear b2 b3 b9 k9;go_upto_region 6 with (go_at_call 23;first|rw[B9.1,B9.2.1] | rw[B9.1] | skip;(with_reducible refine a1.mono ?_);rintro e R⟨x,v',q',rfl,hx,u,hr,hk,a2⟩;have S:=aa (ab hx (ab u (ab hr (ab hk (aC B9.2.2 a2)))));clear a1 hx u hr hk a2);have U:=aD R (.cells #[.string bx] 9);have V:=z7 R (.cells #[.string bx] 9);obtain⟨b4,E⟩:=ae (R.alloc (.cells #[.string bx] 9));obtain⟨d0,F⟩:=ae R.heap.size;rw[E]at U V;rw[F]at V
 have G:Calls prog 23 #[.pointer (some ⟨d,0,none⟩),.string an,.slice (some ⟨d0,0,none⟩) 1 1] b4 fun e o=>e=.returned (.tuple #[.pointer none,.int .i64 3])/\Below b4.heap.size b4 o:=
  (uL (M:=12) ((H8.out.ut.later S.2.2.2.2).later U) (v:=.slice (some ⟨d0,0,none⟩) 1 1) (p:=[bx]) (Wd.own (base:=0) (ac.lit V rfl rfl (zj _) (by unfold maxLen;decide))) (j:=0) (by decide) (tb:=an) rfl (X:=iR[0]) rfl (by decide) Ic (by decide) Gx).mono (fun e o h=>by
   obtain⟨f,⟨_,rfl⟩ | ⟨h1,_⟩⟩:=h
   ·exact⟨rfl,f⟩
   ·exact absurd h1 (by decide))
 have H:=aa (ab E (ab F U));clear E F U V;go_upto_region 7 with (go_at_call 23;first|rw[H.1,H.2.1] | rw[H.1] | skip;(with_reducible refine G.mono ?_);rintro e d1⟨rfl,g⟩;have g:=aC H.2.2 g;have Q:=aa (ab (S.2.1.later g) (ab (S.2.2.1.later g) (ab (aE g S.2.2.2.1) (aC S.2.2.2.2 g))));clear G g);have l:=cF sA d1
 go_upto_region 10 with (first|(go_at_call 22;(with_reducible refine l.mono ?_);rintro e g3⟨rfl,I⟩;have J:=qX (Q.1.later I) iA (k:=2) (n:=0) (s:=sA) rfl D8;have d2:=aa I;clear l I)|(go_at_call 7;(with_reducible refine J.mono ?_);rintro e g4⟨pa,na,ca,rfl,t,a3⟩;have N:=gA t (by decide) (by decide);have d3:=aa (aC d2.out a3);clear J t a3)|(go_at_call 9;(with_reducible refine N.mono ?_);rintro e Y⟨rfl,a4⟩;have w:=aa (aC d3.out a4);clear N a4))
 have O:=H8.out.with (aC Q.2.2.2 w.out);have z:Calls prog 14 #[.pointer (some ⟨d,0,none⟩),.string an] Y fun e o=>e=.returned (.pointer (some ⟨p0,0,none⟩))/\o=Y:=O.table (j:=0) (by decide) (aM _ (z8 _)) (by decide:0<4)
 have a5:Calls prog 24 #[.pointer (some ⟨p0,0,none⟩),.int .i64 0] Y _:=O.BG (m:=2) (j:=0) (id:=0) (by decide) (by decide:0<4) (by decide) (by decide) ⟨by decide,by decide⟩ (by decide) (gV _ (z8 _)).2;clear O
 go_upto_region 11 with (first|(go_at_call 14;(with_reducible refine z.mono ?_);rintro e w2⟨rfl,hw⟩;subst w2;clear z)|(go_at_call 24;(with_reducible refine a5.mono ?_);rintro e e9⟨rfl,a6⟩;have a7:=aa a6;clear a5 a6))
 have i:=a7.out;rw[Iq]at i;have Z:∀q,w9.heap.size<=q->q<d1.heap.size->(q<W.heap.size∨(w8.heap.size<=q/\q<Y.heap.size)):=(fun q h1 h2=>.inr ⟨zx B9.2.2.size h1,z9 h2 w.out.size⟩);have a8:=(i.still (Z x S.1 (aB Q.2.2.1))).trans (aE w.out Q.2.2.1);have a9:ac e9 w9.heap.size 9 1 v' 1 (cellsS [de]):=ac.of (Q.2.1.later w.out) (fun q r=>i.still (Z q (ac.lt Q.2.1 q r).1 (ac.lt Q.2.1 q r).2))
 have d4:=nK (M:=12) a8 (Wd.own a9) (d:=d) (L:=AD) (fun o hT=>i.BV hT (fun q r=>by
  have r:q=x:=r;rw[r];exact Z x S.1 (aB Q.2.2.1))) (j:=0) (by decide) rfl (X:=AD[0]) rfl (by decide) Hm
 have P:=((H8.out.later (aC Q.2.2.2 w.out)).back i (fun q r=>.inl r)).bel (zg _ _) (fun q r=>r);have d5:W.heap.size<=x:=zx (zx (H8.out.bel (zg _ _) (fun q r=>r)).size B9.2.2.size) S.1;have a0:=aa (ab P d5);clear i Z a8 a9 P d5 a7;go_upto_region 12 with (go_at_call 4;(with_reducible refine d4.mono ?_);rintro e d6⟨rfl,u,hT,_⟩;have u:tu d6 x an [de] (qw (ir 12 (iF AD) [1])):=u;rw[H']at u;have HZ:=aa (ab u (a0.1.trans ⟨hT.chg.os,hT.chg.tape,hT.chg.output,hT.chg.size,fun b f=>hT.chg.block b (z9 f a0.1.size) (fun e=>by have e:b=x:=e;have:=a0.2;omega)⟩));clear d4 u hT);clear a0 w d3 d2 Q S H B9 H8;have b0:=uM d6
 go_wp2_with (first|(go_at_call 25;refine b0.mono ?_;rintro e f0⟨rfl,f⟩;have f1:=aa f;have l:=cF sA f0;clear b0 f)|(go_at_call 22;(with_reducible refine l.mono ?_);rintro e g5⟨rfl,f⟩;have d7:=aa (aC f1.out f);have J:=qX (HZ.1.later d7.out) iA (k:=2) (n:=0) (s:=sA) rfl Cv;clear l f)|(go_at_call 7;(with_reducible refine J.mono ?_);rintro e g6⟨q1,n1,c1,rfl,t,f⟩;have f2:=aa (aC d7.out f);have N:=gA t (by decide) (by decide);clear J t f)|(go_at_call 9;(with_reducible refine N.mono ?_);rintro e f3⟨rfl,f⟩;have f4:=aa (aC f2.out f);have A:=cF sA f3;clear N f)|(go_at_call 22;(with_reducible refine A.mono ?_);rintro e g7⟨rfl,f⟩;have d8:=aa (aC f4.out f);have d9:=qX (HZ.1.later d8.out) iA (k:=2) (n:=0) (s:=sA) rfl Cv;clear A f)|(go_at_call 7;(with_reducible refine d9.mono ?_);rintro e g8⟨q2,n2,c2,rfl,t,f⟩;have f5:=aa (aC d8.out f);have hh:=Hk t 1;rw[show ry [1] 1=true by decide]at hh;clear d9 t f)|(go_at_call 26;refine hh.mono ?_;rintro e f6⟨rfl,f⟩;have f7:=aa (aC f5.out f);have hn:=fZ 1 f6;clear hh f)|(go_at_call 8;refine hn.mono ?_;rintro e h0⟨rfl,f⟩;have e1:=aa (aC f7.out f);have e2:=qX (HZ.1.later e1.out) i1 (k:=1) (n:=1) (s:=e0) rfl E5;clear hn f)|(go_at_call 7;(with_reducible refine e2.mono ?_);rintro e h3⟨q3,n3,c3,rfl,t,f⟩;have f8:=aa (aC e1.out f);have e3:=gA t (by decide) (by decide);clear e2 t f)|(go_at_call 9;(with_reducible refine e3.mono ?_);rintro e h4⟨rfl,f⟩;have e4:=aa (aC f8.out f);have e5:=tU (HZ.1.later e4.out);clear e3 f)|(go_at_call 10;refine e5.mono ?_;rintro e f9⟨q4,c4,rfl,_,f⟩;have g0:=aa (aC e4.out f);have e6:=cF sA f9;clear e5 f)|(go_at_call 22;(with_reducible refine e6.mono ?_);rintro e h5⟨rfl,f⟩;have e7:=aa (aC g0.out f);have b5:=FM (HZ.1.later e7.out) 6 (2,0,sA) (by rw[Cx];decide);rw[Cx]at b5;clear e6 f)|(go_at_call 11;refine b5.mono ?_;rintro e h6⟨q5,n5,c5,rfl,t,f⟩;have g1:=aa (aC e7.out f);have e8:=gA t (by decide) (by decide);clear b5 t f)|(go_at_call 9;(with_reducible refine e8.mono ?_);rintro e h7⟨rfl,f⟩;have g2:=aa (aC g1.out f);clear e8 f))
 go_ret;exact⟨rfl,aC HZ.2 g2.out⟩
