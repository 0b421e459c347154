import Derived.Test.YthlccadnojnkaaaGreatZn20
set_option maxHeartbeats 4000000
set_option maxRecDepth 100000
namespace Go.Proofs.YthlccadnojnkaaaGreat
open Go.Proofs.Tryz
open Go Go.RowKit Go.Proofs Co Co.S
theorem gE(l:List C)(x:ByteArray):gx l x=-1∨∃(j:Nat) (_:j<l.length),gx l x=(j:Int):=by
 unfold gx;cases h:l.findIdx? (ns x)with
 | none=>exact .inl rfl
 | some j =>
  obtain⟨a,_⟩:=List.findIdx?_eq_some_iff_getElem.1 h;exact .inr ⟨j,a,rfl⟩
section
variable {W W':World}{tb next:Nat}{t:T}{A:List R1}{lab:Nat->Nat}
theorem Ij(h:Tb W tb t next A lab){x:Int}(hx:kj x)(hno:∀a∈A,a.1≠x):Calls prog 39 #[.pointer (some ⟨tb,0,none⟩),.int .i64 x] W fun e w'=>e=.returned (.bool false)/\w'=W:=by
 obtain⟨i,b,c⟩:=h;have d:=fB b hx;rw[c.no x hno]at d;clear b c hno hx;go_enter func39,ntmps39;go_wp2_with (go_at_call 72;refine d.mono ?_;rintro e f⟨rfl,g⟩;subst f);go_ret;exact⟨rfl,rfl⟩
theorem mV(h:Tb W tb t next A lab){a:R1}(ha:a∈A)(hn:next<=800)(hc:t.cols.length<=1000):Calls prog 39 #[.pointer (some ⟨tb,0,none⟩),.int .i64 a.1] W fun e w'=>e=.returned (.bool true)/\∃L,Tb w' tb t next (without A a.1) L/\Ext W lab L/\Tn (fun b=>lab b≠0) W w':=by
 obtain⟨i,l,O⟩:=h;obtain⟨p,hp,a2,_⟩:=O.pl a ha;have a3:=O.rng a ha;have hx:kj a.1:=(by constructor <;> omega);have B:=fB l hx;rw[hp]at B;simp only[Option.getD_some,Option.isSome_some]at B;obtain⟨pc,cc,P,c1,b1⟩:=l.cols.isslice;obtain⟨n,E⟩:=ag t.cols.length;have c4:=l.cells.2.2.2.2.1;have zl:=l.tlt;rw[P,E]at c4;rw[E]at hc;have M:=O.few;have u:=O.lens;have m:=aa (ab l (ab O (ab hp (ab ha (ab hx a3)))));have s:=aa (ab E (ab P a2));have HL:=aa (ab M u);unfold maxLen at b1;obtain⟨x,Q⟩:=ag a.1;rw[Q]at B m ⊢;have HA:=aa Q;have c7:p<=800:=(by omega);clear l O hp ha hx a3 E P a2 M u Q;go_enter func39,ntmps39;go_wp2_with (go_at_call 72;refine B.mono ?_;rintro e w2⟨rfl,hw⟩;subst w2);go_loopg [22] (n+1) (fun gh jv w=>∃(j:Nat),jv=.int .i64 (j:Int)/\j<=n/\n+1<=j+gh/\uu W tb t next i lab p j w)
 case atStart=>exact⟨0,rfl,zh _,by omega,i.cl,lab,m.1,fun k _=>by rw[zq (yo k)],Ext.refl _ _,Tn.refl _ _⟩
 obtain⟨j,rfl,hj,hg,hD⟩:=hrel;by_cases b2:j<n
 ·have F:j<t.cols.length:=(by rw[s.1];exact b2);have a4:=HL.2 j F;have o:=hD.col F (by have:=HL.1;omega) (by rw[a4];exact s.2.2)
  obtain⟨gc,H,b3,_,_⟩:∃gc H,Value.slice pc n cc=.slice (some ⟨gc,0,none⟩) n H/\n<=H/\H<=maxLen:=by
   obtain⟨g',c',e,R,e2,k1,k2⟩:=m.1.ptr F;rw[s.2.1,s.1]at e;exact⟨g',c',e,by rw[<-s.1];exact R,e2⟩
  cases b3;obtain⟨gl,gp⟩:=hD.ptr (n:=n) (c:=cc) (by rw[s.2.1,s.1]) F;obtain⟨cb,a5⟩:=ag (i.cb j);rw[a5]at gp o;have d0:(j:Int)<(n:Int):=(by omega);clear hD a4 a5;go_wp2_with (go_at_call 73;refine o.mono ?_;rintro e w4⟨rfl,a6⟩;have H4:=aa a6;clear a6 o);go_roundg (n-j)
  case measure=>omega
  exact⟨j+1,by go_num,by omega,by omega,H4.out⟩
 obtain rfl:j=n:=(by omega);obtain⟨cl,b9,d1,d2,d3,d4⟩:=hD
 obtain⟨r,hr⟩:∃r,i.pv=.map r:=by
  rcases d1.place with ⟨e,_⟩ | ⟨b,e,_⟩
  ·exact⟨_,e⟩
  exact⟨_,e⟩
 obtain⟨w1,q,R,e2⟩:=d1.setdel m.2.2.2.2.1 m.2.2.1 0;have c5:=d1.cells.2.2.2.2.2.1;simp only at c5 q;rw[hr]at c5 q;have zr:=d1.tlt;have z1:=R.tlt;have c6:=R.cells.2.2.2.2.2.2.1;simp only at c6;obtain⟨g,b4,w2,d,y1,y2,⟨y3,y4⟩,c0,U,e4,e5⟩:=R.addfree p (by show i.free.length<=10000;have:=HL.1;omega);simp only at d;obtain⟨pf,cf,V,_,_⟩:=R.free.isslice;simp only at V;rw[V]at c6 d;obtain⟨nf,I⟩:=ag i.free.length;simp only[I]at U e5;rw[I]at c6 d;have HD:=aa (ab d2 (ab (d3.trans d4.size (Ext.refl _ _)) (d4.trans e2 (fun _ _ h=>h) (eE d3))));obtain⟨w3,X⟩:=ag (w2.setCell ⟨tb,6,none⟩ (.slice (some ⟨g,0,none⟩) (nf+1) b4));rw[X]at U e5;have HT:=aa (ab (HD.2.1.trans (HD.2.2.size) e4) (HD.2.2.trans e5 (fun _ _ h=>h) (eE HD.2.1)));have z3:=U.tlt;have c8:=U.cells.2.2.2.2.2.2.2.2.1;simp only at c8;obtain⟨g',a7,w4,f,v1,v2,⟨v3,v4⟩,N,e6,e7,e8⟩:=U.addlate x (by show i.late.length<=10000;have:=m.2.1.lat;omega);simp only at f;obtain⟨pl,d5,Y,_,_⟩:=U.late.isslice;simp only at Y;rw[Y]at c8 f;obtain⟨nl,v⟩:=ag i.late.length;simp only[v]at e6 e8;rw[v]at c8 f;obtain⟨w5,Z⟩:=ag (w4.setCell ⟨tb,8,none⟩ (.slice (some ⟨g',0,none⟩) (nl+1) a7));rw[Z]at e6 e8;have HU:=aa (ab (HT.1.trans HT.2.size e7) (HT.2.trans e8 (fun _ _ h=>h) (eE HT.1)));have z5:=e6.tlt;have b5:=e6.cells.2.2.2.2.2.2.2.2.1;simp only at b5;have a8:=m.2.1.lat;rw[v]at a8;have HE:=aa (ab e6 (ab v I));have b6:=aa X;have b7:=aa Z;clear d1 d2 d3 d4 R e2 U e4 e5 e6 e7 e8 hr V Y v I X Z;go_upto_region 10 with (at_delete;refine xA rfl (.tmp 34) (.tmp 35) 114 3 rfl rfl rfl q ?_);go_upto_region 11 with (at_builtin;refine aK rfl (.tmp 40) (.tmp 42) 45 rfl rfl rfl d ?_);rw[b6.out];clear q d y1 y2 y4 c5 c6;go_upto_region 12 with (at_builtin;refine aK rfl (.tmp 50) (.tmp 52) 45 rfl rfl rfl f ?_);rw[b7.out];clear f v1 v2 v4 c8;by_cases d6:nl+1=64
 ·obtain rfl:nl=63:=(by omega);have a0:=jW HE.1 (by show(i.late++[x]).length<=100;rw[y8,HE.2.1];simp);go_wp2_with (go_at_call 74;refine a0.mono ?_;rintro e w6⟨p6,n6,d7,rfl,a9,a1⟩;have h6:=HE.1.later a1;have x7:=h6.cells.2.2.2.2.2.2.2.1;have x8:=h6.cells.2.2.2.2.2.2.2.2.1;have f7:=h6.fz 7;have f8:=h6.fz 8;have l6:=h6.tlt;have H6:=aa (ab h6 (ab a9 a1));clear h6 a9 a1);obtain⟨s1,s2⟩:=H6.1.setgone H6.2.1;have HS:=aa (ab s1 s2);clear s1 s2;go_ret;refine⟨rfl,N,⟨_,HS.1,?_⟩,HU.1,(HU.2.trans (Tn.of_below (S:=fun _=>False) H6.2.2) (fun _ _ h=>h) (fun _ _ h=>h.elim)).trans HS.2 (fun _ _ h=>h) (eE HU.1)⟩;rw[<-HA.out];refine m.2.1.del m.2.2.2.1 (by rw[HA.out];exact m.2.2.1) rfl rfl rfl (fun y=>?_) (by show([]:List Int).length<=63;decide) (fun k J=>?_)
  ·show((i.G y || AC (i.late++[a.1]) y)=true∨y∈([]:List Int))↔_
   have b8:∀z,z∈i.late->qr z=true:=fun z hz=>by
    obtain⟨z1,z2,_⟩:=(m.2.1.gone z).1 (.inr hz)
    have:=m.2.1.lim
    unfold qr
    simp;omega
   have b0:qr a.1=true:=by
    have:=m.2.2.2.2.2
    rw[<-HA.out]at this;unfold qr
    simp;omega
   unfold AC;simp only[vz,or_false,wm,zx,wh,List.mem_append,zy];constructor
   ·rintro(l|⟨l|l,O⟩)
    ·exact .inl (.inl l)
    ·exact .inl (.inr l)
    exact .inr l
   rintro((l|l) | l)
   ·exact .inl l
   ·exact .inr ⟨.inl l,b8 y l⟩
   exact .inr ⟨.inr l,by rw[l];exact b0⟩
  show cl k=_;rw[HD.1 k (by rw[s.1];rw[s.1]at J;exact J),zv (by rw[s.1]at J;exact J)]
 have d8:((nl:Int)+1==64)=false:=(by simp;omega);go_wp2_with fail;go_ret;refine⟨rfl,N,⟨_,HE.1,?_⟩,HU.1,HU.2⟩;rw[<-HA.out];refine m.2.1.del m.2.2.2.1 (by rw[HA.out];exact m.2.2.1) rfl rfl rfl (fun y=>?_) ?_ (fun k J=>?_)
 ·show(i.G y=true∨y∈i.late++[a.1])↔_;rw[List.mem_append,zy,or_assoc]
 ·show(i.late++[a.1]).length<=63;rw[y8,HE.2.1];simp;omega
 show cl k=_;rw[HD.1 k (by rw[s.1];rw[s.1]at J;exact J),zv (by rw[s.1]at J;exact J)]
def jt(t:T)(A:List R1)(x:Int)(y:ByteArray)(v:T3):Int:=if A.any (fun a=>decide (a.1=x))then(if 0<=gx t.cols y then(if lx ((t.cols[(gx t.cols y).toNat]?).getD ⟨e0,0,false,e0⟩).kd v then 0 else 4)else 3)else 6
theorem lS{A:List R1}{x:Int}:A.any (fun a=>decide (a.1=x))=true↔∃a∈A,a.1=x:=by simp
theorem KT(h:Tb W tb t next A lab){x:Int}(hx:kj x)(y:ByteArray)(k n1:Int)(s:ByteArray)(hs:s.size<=maxLen)(hno:jt t A x y (k,n1,s)≠0):Calls prog 41 #[.pointer (some ⟨tb,0,none⟩),.int .i64 x,.string y,.agg #[.int .i64 k,.int .i64 n1,.string s]] W fun e w'=>e=.returned (.int .i64 (jt t A x y (k,n1,s)))/\Below W.heap.size W w':=by
 obtain⟨i,I,r⟩:=h;have u:=aD W (.cells #[.int .i64 k,.int .i64 n1,.string s] 32);have v:=z7 W (.cells #[.int .i64 k,.int .i64 n1,.string s] 32);have n:=I.later u;have c:=fB n hx;have J:=aa (ab u v);unfold jt at hno ⊢;cases l:i.f x with
 | none =>
  have o:¬ A.any (fun a=>decide (a.1=x))=true:=fun e=>by
   rw[lS,<-r.is,l]at e;cases e
  rw[zq o];rw[l]at c;clear I r n u v hno o l;go_enter func41,ntmps41;go_wp2_with (go_at_call 72;refine c.mono ?_;rintro e B⟨rfl,E⟩;subst B);go_ret;exact⟨rfl,J.1⟩
 | some p =>
  have o:A.any (fun a=>decide (a.1=x))=true:=(by rw[lS,<-r.is,l];rfl);rw[zv o]at hno ⊢;rw[l]at c;simp only[Option.getD_some,Option.isSome_some]at c;have b:=fO n y;by_cases q:0<=gx t.cols y
  ·rw[zv q]at hno ⊢;rcases gE t.cols y with e|⟨j,M,e⟩
   ·rw[e]at q;omega
   ·rw[e]at hno b ⊢;have F:decide (0<=(j:Int))=true:=(by simp);rw[F]at b;rw[v7,z6 M]at hno ⊢;simp only[Option.getD_some]at hno ⊢
    have m:lx t.cols[j].kd (k,n1,s)=false:=by
     cases O:lx t.cols[j].kd (k,n1,s)
     ·rfl
     ·rw[zv O]at hno;exact absurd rfl hno
    rw[zq (by rw[m];exact Bool.false_ne_true)]
    have P:Hid (∀w,Below (W.alloc (.cells #[.int .i64 k,.int .i64 n1,.string s] 32)).heap.size (W.alloc (.cells #[.int .i64 k,.int .i64 n1,.string s] 32)) w->w.heap[W.heap.size]?=some (.cells #[.int .i64 k,.int .i64 n1,.string s] 32)/\Calls prog 77 #[.pointer (some ⟨tb,0,none⟩),.int .i64 (j:Int),.agg #[.int .i64 k,.int .i64 n1,.string s]] w fun e w'=>e=.returned (.bool false)/\Below w.heap.size w w'):=aa (fun w E=>by
     have:=gZ (n.later E) j M k n1 s hs
     rw[m]at this;exact⟨aE E v,this⟩)
    clear I r n u v hno o l F m q e;go_enter func41,ntmps41
    go_wp2_with (first|(go_at_call 72;refine c.mono ?_;rintro e B⟨rfl,E⟩;subst B)|(go_at_call 76;refine b.mono ?_;rintro e N⟨rfl,d⟩;obtain⟨g,G⟩:=P.out N d;have R:=aA g 0;have S:=aA g 1;have U:=aA g 2;have V:=aC g;have L:=aa d;clear g d b)|(go_at_call 77;refine G.mono ?_;rintro e X⟨rfl,H⟩;have Q:=aa H;clear H G))
    go_ret;exact⟨rfl,aB (aB J.1 L.out) Q.out⟩
  ·rw[zq q];have F:decide (0<=gx t.cols y)=false:=yw q;rw[F]at b;generalize gx t.cols y=z at b;clear I r n u v hno o l F q;go_enter func41,ntmps41
   go_wp2_with (first|(go_at_call 72;refine c.mono ?_;rintro e B⟨rfl,E⟩;subst B)|(go_at_call 76;refine b.mono ?_;rintro e N⟨rfl,d⟩;have L:=aa d;clear d b))
   go_ret;exact⟨rfl,aB J.1 L.out⟩
end
section
variable {W W':World}{tb next:Nat}{t:T}{A:List R1}{lab:Nat->Nat}
theorem mW(h:Tb W tb t next A lab){a:R1}(ha:a∈A)(hn:next<=800){y:ByteArray}{j:Nat}(hj:j<t.cols.length)(hy:gx t.cols y=(j:Int))(k n1:Int)(s:ByteArray)(hs:s.size<=maxLen)(hin:lx t.cols[j].kd (k,n1,s)=true):Calls prog 41 #[.pointer (some ⟨tb,0,none⟩),.int .i64 a.1,.string y,.agg #[.int .i64 k,.int .i64 n1,.string s]] W fun e w'=>e=.returned (.int .i64 0)/\∃f,Tb w' tb t next (im A a.1 j (k,n1,s)) f/\Ext W lab f/\Tn (fun b=>lab b≠0) W w':=by
 obtain⟨i,Y,E⟩:=h;obtain⟨p,Z,a0,_⟩:=E.pl a ha;have a1:=E.rng a ha;have hx:kj a.1:=(by have:=E.lim;constructor <;> omega);have N:=aD W (.cells #[.int .i64 k,.int .i64 n1,.string s] 32);have V:=z7 W (.cells #[.int .i64 k,.int .i64 n1,.string s] 32);have O:=Y.later N;have r:=fB O hx;rw[Z]at r;simp only[Option.getD_some,Option.isSome_some]at r;have l:=fO O y;rw[hy]at l;have hd:decide (0<=(j:Int))=true:=(by simp);rw[hd]at l;obtain⟨g,c,F,a2,a3,_⟩:=Y.ptr hj;obtain⟨n,G⟩:=ag t.cols.length;obtain⟨w1,H⟩:=ag (W.alloc (.cells #[.int .i64 k,.int .i64 n1,.string s] 32));obtain⟨B,I⟩:=ag W.heap.size;rw[H]at O V N r l;rw[I]at V;have P:=E.few;obtain⟨x,J⟩:=ag a.1
 have HX:Hid (∀w,Below w1.heap.size w1 w->w.heap[B]?=some (.cells #[.int .i64 k,.int .i64 n1,.string s] 32)/\w.cell? ⟨tb,4,none⟩=some (.slice (some ⟨g,0,none⟩) n c)/\w.cell? ⟨g,j,none⟩=some (.pointer (some ⟨i.cb j,0,none⟩))/\tb<w.heap.size/\g<w.heap.size/\(Calls prog 77 #[.pointer (some ⟨tb,0,none⟩),.int .i64 (j:Int),.agg #[.int .i64 k,.int .i64 n1,.string s]] w fun e w'=>e=.returned (.bool true)/\Below w.heap.size w w')/\(Calls prog 73 #[.pointer (some ⟨i.cb j,0,none⟩),.int .i64 (p:Int),.agg #[.int .i64 k,.int .i64 n1,.string s]] w fun e w'=>e=.returned (.bool true)/\∃f,Tb w' tb t next (im A x j (k,n1,s)) f/\Ext W lab f/\Tn (fun b=>lab b≠0) W w')):=aa (fun w X=>by
  have M:=O.later X;have Q:=aB N X;obtain⟨g',c',e,_,_,k1,k2⟩:=M.ptr hj;rw[F]at e;cases e;have u:=gZ M j hj k n1 s hs;rw[hin]at u;refine⟨aE X V,by rw[<-G,<-F];exact M.cells.2.2.2.2.1,k2,M.tlt,k1,u,?_⟩;have hl:=E.lens j hj;refine(qQ (M.col j hj) (by omega) p (by omega) (k,n1,s) hs hin).mono ?_;rintro e w'⟨rfl,q1,q2⟩;obtain⟨R,s1,s2,s3⟩:=M.setcol hj q1 q2 (fun q hq=>.inl hq);refine⟨rfl,R,⟨_,s1,?_⟩,fun b a4=>s2 b (z9 a4 Q.size),(Tn.of_below (S:=fun _=>False) Q).trans s3 (fun _ _ h=>h.elim) (fun _ _ h=>h)⟩;rw[<-J];refine E.set ha hj Z rfl rfl rfl rfl rfl (fun k' a9=>?_);show oi i.cl j _ k'=_;by_cases e:k'=j
  ·subst e;rw[bM,zv rfl]
  ·rw[bC _ _ e,zq e])
 rw[J]at r ⊢;have HB:=aa (show Below W.heap.size W w1 from N);have HW:=aa (ab H I);rw[G]at a2 hj;have b0:(j:Int)<(n:Int):=(by omega);unfold maxLen at a3;generalize i.cb j=cb at HX;clear Y E O Z a0 a1 hx N V hy hd F G H I P J hin hs;go_enter func41,ntmps41;go_upto_region 1 with fail;rw[HW.1,HW.2]
 go_upto_region 9 with (first|(go_at_call 72;(with_reducible refine r.mono ?_);rintro e w2⟨rfl,X⟩;subst w2)|(go_at_call 76;(with_reducible refine l.mono ?_);rintro e w3⟨rfl,L⟩;obtain⟨v,y4,yj,yt,yg,u,_⟩:=HX.out w3 L;have z0:=aA v 0;have z1:=aA v 1;have z2:=aA v 2;have zl:=aC v;have H3:=aa L;clear v L l)|(go_at_call 77;(with_reducible refine u.mono ?_);rintro e w4⟨rfl,U⟩;have H4:=aa (aB H3.out U);clear U u))
 obtain⟨z,a5,a6,a7,a8,_,m⟩:=HX.out w4.drew (aB H4.out (aF w4));have HC:=aa m;have q0:=aA z 0;have q1:=aA z 1;have q2:=aA z 2;have ql:=aC z;clear m z z0 z1 z2 zl y4 yj yt yg;refine Par.ae 9 [.pointer (some ⟨tb,0,none⟩),.pointer (some ⟨tb,0,none⟩),.pointer (some ⟨tb,4,none⟩),.slice (some ⟨g,0,none⟩) n c,.int .i64 (j:Int),.pointer (some ⟨g,j,none⟩),.pointer (some ⟨cb,0,none⟩),.int .i64 (p:Int),.agg #[.int .i64 k,.int .i64 n1,.string s]] (fun w=>w=w4.drew) ?A1 ?hm1 ?hB1 ?hA1 (rfl) ?hop1 ?hT1
 case hm1=>kernel_rfl
 case hB1=>kernel_rfl
 case hA1 =>
  simp only[Par.am,Par.ai,Act.put,cy,db,bt,cp,dc,da,bu,eg,ed];rfl
 case hop1 =>
  simp only[ce,ze,Par.ah,yu];and_intros<;>intro w' d
  ·have o:=aa d;obtain rfl:=d;simp only[Par.Gives];go_simp;all_goals exact o.out
  ·have o:=aa d;obtain rfl:=d;simp only[Par.Gives];go_simp;all_goals exact o.out
  ·have o:=aa d;obtain rfl:=d;simp only[Par.Gives];go_simp;all_goals exact o.out
  ·have o:=aa d;obtain rfl:=d;simp only[Par.Gives];go_simp;all_goals exact o.out
  ·have o:=aa d;obtain rfl:=d;simp only[Par.Gives];go_simp;all_goals exact o.out
  ·have o:=aa d;obtain rfl:=d;simp only[Par.Gives];go_simp;all_goals exact o.out
  ·have o:=aa d;obtain rfl:=d;simp only[Par.Gives];go_simp;all_goals exact o.out
  ·have o:=aa d;obtain rfl:=d;simp only[Par.Gives];go_simp;all_goals exact o.out
  have o:=aa d;obtain rfl:=d;simp only[Par.Gives];go_simp;all_goals exact o.out
 intro w' d;simp only[cw,ym];obtain rfl:=d;have m:=HC.out;clear q0 q1 q2 ql a5 a6 a7 a8;go_wp2_with (go_at_call 73;refine m.mono ?_;rintro e w5⟨rfl,hT⟩;have H5:=aa hT;clear hT m);go_ret;exact⟨rfl,H5.out⟩
theorem Tb.f64{i:In}{n:Nat}(h2:Inv n next i A){a:R1}(ha:a∈A):kj a.1:=by have:=h2.rng a ha;have:=h2.lim;constructor <;> omega
theorem fC(h:Tb W tb t next A lab){a:R1}(ha:a∈A)(hc:t.cols.length<=1000)(h0:0<t.cols.length):Calls prog 84 #[.pointer (some ⟨tb,0,none⟩),.int .i64 a.1] W fun e w'=>∃g c,e=.returned (.tuple #[.slice (some ⟨g,0,none⟩) t.cols.length c,.bool true])/\W.heap.size<=g/\ac w' W.heap.size 32 3 (.slice (some ⟨g,0,none⟩) t.cols.length c) t.cols.length (cells3 a.2)/\Below W.heap.size W w':=by
 obtain⟨i,f,b⟩:=h;obtain⟨p,j,d,l⟩:=b.pl a ha
 have:=Jn f (Tb.f64 b ha) j (fun k m=>by rw[b.lens k m];exact d) hc h0
 rw[<-l]at this;exact this
theorem Tb.len(h:Tb W tb t next A lab):∀a∈A,a.2.length=t.cols.length:=fun a b=>by
 obtain⟨i,f,c⟩:=h;obtain⟨p,g,d,e⟩:=c.pl a b;rw[e,cC]
theorem Tb.srt(h:Tb W tb t next A lab):A.Pairwise (fun a b=>a.1<b.1):=by
 obtain⟨i,d,c⟩:=h;exact c.srt
theorem Tb.ok(h:Tb W tb t next A lab):∀a∈A,∀k (b:k<t.cols.length) x,a.2[k]?=some x->lx t.cols[k].kd x=true:=fun a f k b x d=>by
 obtain⟨i,g,e⟩:=h;obtain⟨p,l,c,j⟩:=e.pl a f;rw[j,cH _ b,z6 (by rw[e.lens k b];exact c)]at d;cases d;exact(g.col k b).ok _ (z8 _)
theorem iC(h:Tb W tb t next A lab){a:R1}(ha:a∈A){y:ByteArray}{k:Nat}(hk:k<t.cols.length)(hy:gx t.cols y=(k:Int)){u:T3}(hu:a.2[k]?=some u):Calls prog 132 #[.pointer (some ⟨tb,0,none⟩),.int .i64 a.1,.string y] W fun e w'=>e=.returned (.tuple #[.agg #[.int .i64 u.1,.int .i64 u.2.1,.string u.2.2],.bool true])/\Below W.heap.size W w':=by
 obtain⟨i,f,c⟩:=h;obtain⟨p,g,d,j⟩:=c.pl a ha;have b:p<(i.cl k).length:=(by rw[c.lens k hk];exact d);rw[j,cH _ hk,z6 b]at hu;exact KV f (Tb.f64 c ha) g hk hy b (by rw[z6 b];exact hu)
theorem I7(h:Tb W tb t next A lab){x:Int}(hx:kj x){y:ByteArray}(hno:(∀a∈A,a.1≠x)∨gx t.cols y=-1):Calls prog 132 #[.pointer (some ⟨tb,0,none⟩),.int .i64 x,.string y] W fun e w'=>e=.returned (.tuple #[.agg #[.int .i64 0,.int .i64 0,.string (⟨#[]⟩)],.bool false])/\Below W.heap.size W w':=by
 obtain⟨i,b,c⟩:=h;exact Es b hx (hno.imp (c.no x) id)
theorem qZ(h:Tb W tb t next A lab):Calls prog 30 #[.pointer (some ⟨tb,0,none⟩)] W fun e w'=>e=.returned (.int .i64 (next:Int))/\w'=W:=by
 obtain⟨i,a,b⟩:=h;exact G2 a
def ou(A:List R1):Int->Bool:=fun x=>A.any fun a=>decide (a.1=x)
theorem tE{x:Int}:ou A x=true↔∃a∈A,a.1=x:=lS
theorem Vm.congr{w:World}{v:Value}{P Q:Int->Bool}(h:Vm w v P)(e:∀x,P x=Q x):Vm w v Q:=by
 obtain⟨l,a,b,c⟩:=h;exact⟨l,a,b,fun x=>by rw[<-e x];exact c x⟩
theorem fD(h:Tb W tb t next A lab):Calls prog 52 #[.pointer (some ⟨tb,0,none⟩)] W (ta (ou A) W):=by
 obtain⟨i,m,d⟩:=h;refine(ED m (by have:=d.lat;omega)).mono ?_;rintro e w'⟨p,n,c,g,o,q⟩;refine⟨p,n,c,g,o.congr (fun x=>?_),q⟩;have l:=d.lim;rw[vf,tE];have j:=d.gone x;unfold notP jc AC;simp only[zx,wh,Bool.not_eq_true',Bool.or_eq_false_iff,Bool.and_eq_false_iff,vk];constructor
 ·rintro⟨⟨r,s,y⟩,b1,b2⟩;apply Classical.byContradiction;intro k;rcases j.2 ⟨r,s,fun a b g=>k ⟨a,b,g⟩⟩with f|f
  ·rw[b1]at f;cases f
  rcases b2 with b2|b2
  ·exact b2 f
  unfold qr at b2;simp at b2;omega
 rintro⟨a,b,rfl⟩;obtain⟨r1,u⟩:=d.rng a b;refine⟨⟨r1,u,by omega⟩,?_,.inl (fun v=>(j.1 (.inr v)).2.2 a b rfl)⟩;cases w:i.G a.1
 ·rfl
 exact absurd rfl ((j.1 (.inl w)).2.2 a b)
theorem tF(h:Tb W tb t next A lab){x:ByteArray}{k:Nat}(hk:k<t.cols.length)(hx:gx t.cols x=(k:Int))(m:List (K 12))(hm:m.Nodup)(hs:∀s,s∈m↔∃a∈A,∃y,a.2[k]?=some y/\y.1=2/\wd y.2.2=s):Calls prog 82 #[.pointer (some ⟨tb,0,none⟩),.string x] W fun e w'=>e=.returned (.int .i64 (m.length:Int))/\Below W.heap.size W w':=by
 obtain⟨i,b,c⟩:=h;exact xD b hk hx m hm (fun s=>(hs s).trans (c.texts hk s).symm)
end
theorem gq.mono{w:World}{b b':Nat}{cv dv:Value}{t:T}{ps:List Value}(h:gq w b cv dv t ps)(hb:b'<=b):gq w b' cv dv t ps:=⟨ac.mono h.c hb,h.n,ac.mono h.d hb,fun j x y=>ac.mono (h.l j x y) hb⟩
def C4(t:T)(W:World)(e:Ending)(w':World):Prop:=∃p1 c1 p2 c2 ps,e=.returned (.agg #[.string t.nm,.slice p1 t.cols.length c1,.string t.key,.slice p2 t.deps.length c2])/\gq w' W.heap.size (.slice p1 t.cols.length c1) (.slice p2 t.deps.length c2) t ps/\Below W.heap.size W w'
section
variable {W W':World}{tb next:Nat}{t:T}{i:In}{A:List R1}{lab:Nat->Nat}
theorem Kt(h:fh W tb t next i lab)(hf:Few t):Calls prog 159 #[.pointer (some ⟨tb,0,none⟩)] W (C4 t W):=by
 have p:=aD W (ax e0 (.slice none 0 0) e0 (.slice none 0 0));have r:=z7 W (ax e0 (.slice none 0 0) e0 (.slice none 0 0));have k:=h.later p;obtain⟨pc,kc,l,A,E⟩:=k.form.rd.1.slice;obtain⟨pd,kd,m,F,G⟩:=k.form.rd.2.slice;have b:=mM k.form.rd hf;obtain⟨c0,c1,c2,c3,_⟩:=k.cells;have J:=k.tlt;rw[l]at c1 b;rw[m]at c3 b;obtain⟨L,d⟩:=ag (W.alloc (ax e0 (.slice none 0 0) e0 (.slice none 0 0)));obtain⟨B,f⟩:=ag W.heap.size;rw[d]at p r c0 c1 c2 c3 J b;rw[f]at r;have g:L.heap.size=B+1:=(by rw[<-d,zj,f]);rw[g]at b;have s:=aa (ab p (ab r g));have u:=aa (ab d f);clear h k p r d f l m A E F G g hf;go_enter func159,ntmps159;go_upto_region 1 with fail;rw[u.1,u.2];go_wp2_with (go_at_call 97;refine b.mono ?_;rintro e H⟨w,x,y,z,ps,rfl,n,j⟩;have a:=aE (s.2.2▸j) s.2.1;have R:=aA a 0;have S:=aA a 1;have U:=aA a 2;have z3:=aA a 3;have V:=fun i=>zo H B i _ _ a;have M:=aC a;have I:=aa (ab n (ab j a));clear n j a b);have c:=mj I.2.2 (.string t.nm) (.slice w t.cols.length x) (.string t.key) (.slice y t.deps.length z);have o:=bD (aB s.1 (s.2.2▸I.2.1)) (xy u.2) (.string t.nm) (.slice w t.cols.length x) (.string t.key) (.slice y t.deps.length z);have n:=I.1.of (fun q X=>cG H B q (by omega) (.string t.nm) (.slice w t.cols.length x) (.string t.key) (.slice y t.deps.length z));generalize (((H.setCell _ _).setCell _ _).setCell _ _).setCell _ _=wz at c o n ⊢;have N:=aA c 0;have O:=aA c 1;have P:=aA c 2;have Q:=aA c 3;refine ya (v:=.agg #[.string t.nm,(.slice w t.cols.length x),.string t.key,(.slice y t.deps.length z)]) (by simp[results,results159,go_sem,N,O,P,Q]) rfl ?_;exact⟨_,_,_,_,ps,rfl,n.mono (by have:=u.2;omega),o⟩
theorem EW(h:Tb W tb t next A lab)(hf:Few t):Calls prog 159 #[.pointer (some ⟨tb,0,none⟩)] W (C4 t W):=by
 obtain⟨i,a,b⟩:=h;exact Kt a hf
end
theorem FQ(k:Int)(hk:k=1∨k=2)(W:World):Calls prog 98 #[.int .i64 k] W fun e w'=>e=.returned (.pointer (some ⟨W.heap.size,0,none⟩))/\Col W.heap.size k [] (.slice none 0 0) w'/\Below W.heap.size W w':=by
 have a:=KD k hk W;clear hk;go_enter func98,ntmps98;go_wp2_with (go_at_call 130;refine a.mono ?_;rintro e f⟨rfl,b,c⟩;have d:=aa (ab b c);clear b c a);go_ret;exact⟨rfl,d.out⟩
theorem E4:(prog.info? 131).map (fun i=>(i.zero,i.size,i.bytes))=some (some (.pointer none),1,8):=by kernel_rfl
structure qk (W:World) (t:T) (T0:Nat) (fc fd:Value) (ps:List Value) (j:Nat) (cv:Value) (cb:Nat->Nat) (w:World):Prop where
 box:w.heap[T0]?=some (.cells #[.string t.nm,fc,.string t.key,fd,cv,.map none,.slice none 0 0,.slice none 0 0,.slice none 0 0,.int .i64 0] 116)
 form:gq w 0 fc fd t ps
 row:ac w (T0+1) 131 1 cv j (ptrs cb j)
 col:∀k (_:k<j) (h:k<t.cols.length),Col (cb k) t.cols[k].kd [] (.slice none 0 0) w
 gt:∀k,k<j->T0<cb k
 inj:∀k l,k<j->l<j->cb k=cb l->k=l
 low:W.heap.size<=T0
 below:Below W.heap.size W w
section
variable {W w w':World}{t:T}{T0 j:Nat}{fc fd cv:Value}{ps:List Value}{cb:Nat->Nat}
theorem qk.later(h:qk W t T0 fc fd ps j cv cb w)(hb:Below w.heap.size w w'):qk W t T0 fc fd ps j cv cb w':=
 ⟨aE hb h.box,h.form.later hb,h.row.later hb,fun k a b=>(h.col k a b).later hb,h.gt,h.inj,h.low,aB h.below hb⟩
theorem KI(cb:Nat->Nat)(j c:Nat):ptrs cb j++[.pointer (some ⟨c,0,none⟩)]=ptrs (oi cb j c) (j+1):=by
 unfold ptrs;rw[List.range_succ,uc,List.map_singleton,bM]
 congr 1
 apply List.map_congr_left;intro k a;rw[bC _ _ (by have:=List.mem_range.1 a;omega)]
theorem qk.add(h:qk W t T0 fc fd ps j cv cb w){c:Nat}(hj:j<t.cols.length)(hjm:j<=1000)(hc:Col c t.cols[j].kd [] (.slice none 0 0) w)(hgt:T0<c)(hnew:∀k,k<j->cb k≠c):∃g s f,(Builtin.append_ #[113,113] 113 #[cv,.slice (some ⟨w.heap.size,0,none⟩) 1 1]).run prog (w.alloc (.cells #[.pointer (some ⟨c,0,none⟩)] 131))=.ok (.slice (some ⟨g,0,none⟩) (j+1) s) f/\T0<f.heap.size/\f.frozen? ⟨T0,4,none⟩=false/\(∃u,f.cell? ⟨T0,4,none⟩=some u)/\qk W t T0 fc fd ps (j+1) (.slice (some ⟨g,0,none⟩) (j+1) s) (oi cb j c) (f.setCell ⟨T0,4,none⟩ (.slice (some ⟨g,0,none⟩) (j+1) s)):=by
 have hT:=aC h.box;obtain⟨g,s,f,J,r3,z,own⟩:=jr (ty:=113) underlying113 E4 rfl (by decide) (by decide) w (T0+1) h.row (by omega) (by omega) #[.pointer (some ⟨c,0,none⟩)] rfl (by simp[Value.oneCell'])
 have M:∀b,cv.ownBlock=some b->b≠T0/\∃i,w.heap[b]?=some (.cells i 131):=fun b r=>by
  obtain⟨N,i,E⟩:=h.row.block b r;exact⟨by omega,i,E⟩
 have a:f.heap[T0]?=_:=(z.block T0 hT (fun e=>(M T0 e.symm).1 rfl)).trans h.box;have V:Ty f T0:=⟨_,116,a,rfl⟩
 have o:∀(b:Nat) (i:Array Value) (e:TypeId) (m:Nat×Nat),w.heap[b]?=some (.cells i e m)->e≠131->f.heap[b]?=w.heap[b]?:=fun b i e m r X=>z.block b (aC r) (fun N=>by
  obtain⟨_,a3,E⟩:=M b N.symm;rw[r]at E;cases E;exact X rfl)
 have A:∀{base:Nat} {e:TypeId} {size:Nat} {v:Value} {n:Nat} {xs:List Value},ac w base e size v n xs->e≠131->ac f base e size v n xs:=fun R X=>R.of (fun k G=>by
  obtain⟨_,i,r⟩:=R.block k G;exact o k _ _ _ r X)
 have Y:gq f 0 fc fd t ps:=⟨A h.form.c (by decide),h.form.n,A h.form.d (by decide),fun q x y=>A (h.form.l q x y) (by decide)⟩
 have B:∀{cb0:Nat} {kind:Int} {l:List T3} {v:Value},Col cb0 kind l v w->Col cb0 kind l v f:=fun{cb0 kind l v} hc=>by
  obtain⟨O,P⟩:=hc.ty;obtain⟨⟨L,W0,I,Z⟩,R,ho⟩:=hc;have Q:∀b,Ty w b->f.heap[b]?=w.heap[b]?:=(fun b⟨cs,ty,N,E⟩=>o b cs ty _ N (fun e=>by rw[e]at E;cases E));have e:=Q cb0 O;obtain⟨a0,m,q⟩:=I.dm.mp;obtain⟨tt,p,r1,r2,a1⟩:=m.rt
  exact⟨⟨L,W0,⟨(za (w:=w) e).trans I.c0,(za (w:=w) e).trans I.c1,⟨⟨a0,⟨m.dm,(za (w:=w) e).trans m.c0,⟨tt,p,(za (w:=w) e).trans r1,Tr.mi (fun b cs r=>o b cs 220 _ r (by decide)) r2,a1⟩,fun j=>(vc (w:=w) e).trans (m.fz j),m.srt,
   m.bel.trans ⟨z.os,z.tape,z.output,z.size,fun k G=>absurd G (yo _)⟩,m.ty.of e⟩,q⟩,I.dm.pos,I.dm.len⟩,(za (w:=w) e).trans I.c4⟩,Z⟩,R.of (fun k a2=>Q k (P k a2)),ho⟩
 have F:Tn (fun b=>b=T0) f (f.setCell ⟨T0,4,none⟩ (.slice (some ⟨g,0,none⟩) (j+1) s)):=Tn.bq ((Chg.refl (fun b=>b=T0) f).setCell (p:=⟨T0,4,none⟩) (fun _=>rfl) _) (fun b _ r=>.inl (by rw[r];exact V));have H:Below W.heap.size W f:=h.below.trans ⟨z.os,z.tape,z.output,z.size,fun k G=>z.block k (z9 G h.below.size) (fun e=>by have:=(h.row.lt k e.symm).1;have:=h.low;omega)⟩;refine⟨g,s,f,J,aC a,zo f T0 4 _ _ a,⟨_,aA a 4⟩,y9 _ T0 4 _ _ _ a,Y.tn F,?_,fun k N E=>?_,fun k G=>?_,fun k l G hl e=>?_,h.low,H.setCell (p:=⟨T0,4,none⟩) h.low _⟩
 ·rw[<-KI];exact r3.tn F rfl
 ·by_cases e:k=j
  ·subst e;rw[bM];exact(B hc).tn F (by omega) (fun b r=>by cases r)
  rw[bC _ _ e];exact(B (h.col k (by omega) E)).tn F (by have:=h.gt k (by omega);omega) (fun b r=>by cases r)
 ·by_cases e:k=j
  ·subst e;rw[bM];exact hgt
  rw[bC _ _ e];exact h.gt k (by omega)
 by_cases S:k=j <;> by_cases U:l=j
 ·rw[S,U]
 ·rw[S,bM,bC _ _ U]at e;exact absurd e.symm (hnew l (by omega))
 ·rw[U,bM,bC _ _ S]at e;exact absurd e (hnew k (by omega))
 rw[bC _ _ S,bC _ _ U]at e;exact h.inj k l (by omega) (by omega) e
theorem qk.tb(h:qk W t T0 fc fd ps t.cols.length cv cb w):∃lab,Tb w T0 t 0 [] lab/\∀b,lab b≠0->W.heap.size<=b:=by
 classical
 obtain⟨lab,d⟩:∃lab:Nat->Nat,lab=fun b=>if b=T0 then 1 else if f:∃k,k<t.cols.length/\cb k=b then 6+2*Classical.choose f else 0:=⟨_,rfl⟩
 have m:lab T0=1:=by rw[d];simp
 have n:∀k,k<t.cols.length->lab (cb k)=6+2*k:=fun k g=>by
  have o:cb k≠T0:=(by have:=h.gt k g;omega);have f:∃l,l<t.cols.length/\cb l=cb k:=⟨k,g,rfl⟩;rw[d];simp only;rw[zq o,dif_pos f]
  have:=Classical.choose_spec f
  rw[h.inj _ k this.1 g this.2]
 have i:∀b,lab b≠0->b=T0∨∃k,k<t.cols.length/\cb k=b:=fun b c=>by
  apply Classical.byContradiction;intro j;apply c;rw[d];simp only;rw[zq (fun e=>j (.inl e)),dif_neg (fun e=>j (.inr e))]
 refine⟨lab,⟨⟨fc,fd,cv,.map none,.slice none 0 0,.slice none 0 0,.slice none 0 0,ps,cb,fun _=>.slice none 0 0,fun _=>none,0,0,[],[],fun _=>false,fun _=>[]⟩,⟨⟨h.form,ac.mono h.row (zh _),fun k g=>h.col k g g,.inl ⟨rfl,rfl,fun _=>rfl⟩,zm _,ac.nil,⟨[],Mv.nil _,Nrm.nil,fun x=>⟨fun e=>absurd e (eW x),fun e=>by cases e⟩⟩,ac.nil,m,fun b c=>(by cases c),fun b c=>(by cases c),fun b c=>(by cases c),n,fun k _ b c=>(by cases c),fun b c=>?_⟩,h.box⟩,?_⟩,fun b c=>?_⟩
 ·rcases i b c with rfl|⟨k,g,rfl⟩
  ·exact aC h.box
  exact(h.col k g g).lt
 ·exact⟨rfl,fun _ _=>rfl,List.Pairwise.nil,fun a q=>(by cases q),fun a q=>(by cases q),fun _ _=>rfl,fun _ _ _ f=>(by cases f),fun p r=>(by cases r),List.nodup_nil,fun p r=>absurd r (yo p),fun x=>⟨fun f=>(by rcases f with f|f <;> cases f),fun⟨h1,h2,_⟩=>by omega⟩,zm _,zh _,zh _⟩
 rcases i b c with rfl|⟨k,g,rfl⟩
 ·exact h.low
 have:=h.gt k g;have:=h.low;omega
def CC(kd:Int)(base:Nat):Par.VW:=⟨fun v w=>∃c,v=.pointer (some ⟨c,0,none⟩)/\base<=c/\Col c kd [] (.slice none 0 0) w,fun _ _ _⟨c,h1,h2,h3⟩ hb=>⟨c,h1,h2,h3.later hb⟩⟩
def BE(t:T)(W:World)(e:Ending)(w':World):Prop:=∃tb lab,e=.returned (.pointer (some ⟨tb,0,none⟩))/\Tb w' tb t 0 [] lab/\(∀b,lab b≠0->W.heap.size<=b)/\Below W.heap.size W w'
theorem mX{cv0 dv0:Value}(h:ey W cv0 dv0 t)(hf:Few t)(v:∀c∈t.cols,c.kd=1∨c.kd=2):Calls prog 63 #[.agg #[.string t.nm,cv0,.string t.key,dv0]] W (BE t W):=by
 obtain⟨pc,kc,a7,a8,a9⟩:=h.1.slice;obtain⟨pd,kd,b0,b1,b2⟩:=h.2.slice;subst a7 b0;have hb:=aD W (ax t.nm (.slice pc t.cols.length kc) t.key (.slice pd t.deps.length kd));have a:=z7 W (ax t.nm (.slice pc t.cols.length kc) t.key (.slice pd t.deps.length kd));have y:=h.later hb;have p:=mM y hf;obtain⟨n,Z⟩:=ag t.cols.length;obtain⟨nd,z⟩:=ag t.deps.length;obtain⟨w1,o⟩:=ag (W.alloc (ax t.nm (.slice pc t.cols.length kc) t.key (.slice pd t.deps.length kd)));obtain⟨B,A⟩:=ag W.heap.size;rw[o]at hb a p y;rw[A]at a;have a0:w1.heap.size=B+1:=(by rw[<-o,zj,A]);rw[Z]at a8;obtain⟨nm,E⟩:=ag t.nm;obtain⟨key,m⟩:=ag t.key;rw[Z,z]at p y a o;rw[Z,z];rw[E,m]at p a o;rw[E,m];have z0:=aA a 0;have z1:=aA a 1;have z2:=aA a 2;have z3:=aA a 3;have zl:=aC a;have HB:=aa (ab hb (ab a (ab a0 y)));have HW:=aa (ab o A);have N:=aa (ab Z (ab z (ab E (ab m (ab v hf)))));unfold maxLen at a9;have HR:=aa h;clear h y hb a o A Z z E m a0 hf v b1 b2;go_enter func63,ntmps63;go_upto_region 1 with fail;rw[HW.1,HW.2];go_upto_region 2 with (go_at_call 97;(with_reducible refine p.mono ?_);rintro e w2⟨q1,d1,q2,d2,ps,rfl,hO,a1⟩;have H2:=aa (ab hO a1);clear hO a1 p z0 z1 z2 z3 zl);have q:=aD w2 (.cells #[.string nm,.slice q1 n d1,.string key,.slice q2 nd d2,.slice none 0 0,.map none,.slice none 0 0,.slice none 0 0,.slice none 0 0,.int .i64 0] 116);have F:=z7 w2 (.cells #[.string nm,.slice q1 n d1,.string key,.slice q2 nd d2,.slice none 0 0,.map none,.slice none 0 0,.slice none 0 0,.slice none 0 0,.int .i64 0] 116);obtain⟨w3,a2⟩:=ag (w2.alloc (.cells #[.string nm,.slice q1 n d1,.string key,.slice q2 nd d2,.slice none 0 0,.map none,.slice none 0 0,.slice none 0 0,.slice none 0 0,.int .i64 0] 116));obtain⟨T0,O⟩:=ag w2.heap.size;rw[a2]at q F ⊢;rw[O]at F ⊢;have r:Below W.heap.size W w2:=aB HB.1 H2.2
 have a3:qk W t T0 (.slice q1 n d1) (.slice q2 nd d2) ps 0 (.slice none 0 0) (fun _=>0) w3:=
  ⟨by rw[N.2.2.1,N.2.2.2.1];exact F,(H2.1.mono (zh _)).later q,ac.nil,fun k v=>absurd v (yo k),fun k v=>absurd v (yo k),fun k l v=>absurd v (yo k),by rw[<-O];exact r.size,aB r q⟩
 have P:=aE (aB H2.2 q) HB.2.1;have z1:=aA P 1;have zl:=aC P;have b3:=aa a3;clear q F a2 O r a3 P;go_wp2_with fail;go_loopg [13] (n+1) (fun gh jv w=>∃(j:Nat) (cv:Value) (cb:Nat->Nat),jv=.int .i64 (j:Int)/\j<=n/\n+1<=j+gh/\qk W t T0 (.slice q1 n d1) (.slice q2 nd d2) ps j cv cb w)
 case atStart=>exact⟨0,_,_,rfl,zh _,by omega,b3.out⟩
 obtain⟨j,cv,cb,rfl,hj,hg,f⟩:=hrel;clear z1 zl;by_cases b4:j<n
 ·have Q:j<t.cols.length:=(by rw[N.1];exact b4);have R:=(HR.out.later f.below).1;rw[N.1]at R;obtain⟨bc,oc,rfl,b5,c0,c1,c2,c3⟩:=fu.col R Q;obtain⟨pv,kv,rfl,_,_⟩:=f.row.isslice;have S:=N.2.2.2.2.1 _ (z8 Q);have b6:j<=1000:=(by have:=N.2.2.2.2.2.1;omega);obtain⟨d,hd⟩:=ag (t.cols[j]);rw[hd]at c0 c1 c2 c3 S;obtain⟨x,i,mu,tg⟩:=d;simp only at c0 c1 c2 c3 S;have G:=aD wr (.cells #[.string x,.int .i64 i,.bool mu,.string tg] 95);have s:=z7 wr (.cells #[.string x,.int .i64 i,.bool mu,.string tg] 95);have H:=f.later G;obtain⟨C0,U⟩:=ag wr.heap.size;obtain⟨Y,V⟩:=ag (wr.alloc (.cells #[.string x,.int .i64 i,.bool mu,.string tg] 95));rw[V]at G s H;rw[U]at s;have I:=aa (ab hd (ab s (ab H (ab V (ab U G)))));have H5:=aa f;have b8:(j:Int)<(n:Int):=(by omega);have b9:=aC H.box;have c4:=aC s;clear R b5 hd G s H V U f;go_upto_region 5 with fail;rw[I.2.2.2.1,I.2.2.2.2.1]
  have a4:Calls prog 98 #[.int .i64 i] Y.drew fun e w'=>∃c,e=.returned (.pointer (some ⟨c,0,none⟩))/\Y.heap.size<=c/\Col c i [] (.slice none 0 0) w'/\Below Y.heap.size Y w':=
   (FQ i S Y.drew).mono (fun e c5⟨y,h2,h3⟩=>⟨_,y,zm _,h2,(aF Y).trans h3⟩)
  have X:=enters_of func98 (by kernel_rfl) rfl;have k4:=aA I.2.2.1.box 4;have k1:=aA I.2.1 1
  go_region_law (first|(refine cA X [.int .i64 i] (by simp[Act.eval]) ?_;(with_reducible refine Calls.mono a4 ?_);rintro e y2⟨c7,rfl,b7,M,J⟩;have L:=I.2.2.1.later J;have r4:=aA L.box 4;have r1:=aA (aE J I.2.1) 1;have rt:=aC L.box;have rc:=aC (aE J I.2.1);have u:Col c7 t.cols[j].kd [] (.slice none 0 0) y2:=(by rw[I.1];exact M);obtain⟨g,c6,w6,a5,y1,c8,⟨y3,y4⟩,a6⟩:=L.add Q b6 u (by omega) (fun k v e=>(by have:=(H5.out.col k v (by omega)).lt;have:=I.2.2.2.2.2.size;omega));have H6:=aa a6;clear a6 M u b7 L J a4;refine⟨_,rfl,?_⟩)|refine bJ rfl (.tmp 21) (.tmp 25) 113 rfl rfl rfl a5 ?_)
  all_goals
   go_wp2_with fail;go_roundg (n-j)
   case measure=>omega
   case rel=>exact⟨j+1,_,_,by go_num,by omega,by omega,H6.out⟩
 obtain rfl:j=n:=(by omega);have hT:∃lab,Tb wr T0 t 0 [] lab/\∀b,lab b≠0->W.heap.size<=b:=qk.tb (by rw[N.1];exact f);have HF:=aa (ab hT f.below);clear hT f;go_wp2_with fail;go_ret;obtain⟨⟨lab,y,h2⟩,h3⟩:=HF.out;exact⟨T0,lab,rfl,y,h2,h3⟩
end
