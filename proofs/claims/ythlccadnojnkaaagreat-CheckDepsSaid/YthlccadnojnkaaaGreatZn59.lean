import Derived.Test.YthlccadnojnkaaaGreatZn58
import Derived.Test.YthlccadnojnkaaaGreatZn55
import Derived.Test.YthlccadnojnkaaaGreatZn53
set_option maxHeartbeats 16000000
set_option maxRecDepth 100000
namespace Go.Proofs.YthlccadnojnkaaaGreat
open Go.Proofs.Tryz
open Go Go.RowKit Go.Proofs Co Co.S Par
def og(x:Int)(m:Nat):Nat:=((x.tmod m+m).tmod m).toNat
theorem jQ(x:Int){m:Nat}(h:0<m):(x.tmod m+m).tmod m=(og x m:Int)/\og x m<m/\-(m:Int)<x.tmod m/\x.tmod m<m:=by
 have b:(0:Int)<(m:Int):=(by omega);have c:=Int.lt_tmod_of_pos x b;have d:=Int.tmod_lt_of_pos x b;have e:=Int.tmod_nonneg (m:Int) (a:=x.tmod m+m) (by omega);have f:=Int.tmod_lt_of_pos (x.tmod m+m) b;unfold og;omega
def B0(xs ys:List Int)(i:Nat):Nat×Nat:=(og (xs.getD i 0) 4,og (ys.getD i 0) 3)
theorem GO(xs ys:List Int)(i:Nat):(B0 xs ys i).1<4/\(B0 xs ys i).2<3:=⟨(jQ _ (by decide)).2.1,(jQ _ (by decide)).2.1⟩
theorem ef.off{w w':World}{base:Nat}{tv:Value}{L:List cx}(h:ef w base tv L)(hq:∀q,base<=q->q<w.heap.size->w'.heap[q]?=w.heap[q]?):ef w' base tv L:=by
 obtain⟨sv,d,b,e⟩:=h;refine⟨sv,d,b.of (fun q a=>hq q (ac.lt b q a).1 (ac.lt b q a).2),fun j f=>?_⟩;obtain⟨v,g,c⟩:=e j f;exact⟨v,g,c.of (fun q a=>hq q (ac.lt c q a).1 (ac.lt c q a).2)⟩
structure sm (w:World) (Z:Nat) (f:Nat->Nat×Nat) (i:Nat):Prop where
 b:∃zc,w.heap[Z]?=some (.cells zc 46)/\zc.size=5/\∀j,j<4->zc[j]?=some (.int .i64 (eu f i j:Int))
theorem sm.later{w w':World}{Z i:Nat}{f:Nat->Nat×Nat}(h:sm w Z f i)(hb:Below w.heap.size w w'):sm w' Z f i:=by
 obtain⟨a,c,d⟩:=h.b;exact⟨a,aE hb c,d⟩
theorem sm.get{w:World}{Z i:Nat}{f:Nat->Nat×Nat}(h:sm w Z f i){c:Nat}(hc:c<4):w.cell? ⟨Z,c,none⟩=some (.int .i64 (eu f i c:Int))/\Z<w.heap.size/\w.frozen? ⟨Z,c,none⟩=false:=by
 obtain⟨e,a,g,d⟩:=h.b;exact⟨(aA a c).trans (d c hc),aC a,zo w Z c _ _ a⟩
theorem sm.on{w w':World}{Z i m:Nat}{f:Nat->Nat×Nat}(h:sm w Z f i)(hb:Below m w w')(hZ:Z<m):sm w' Z f i:=by
 obtain⟨a,c,d⟩:=h.b;exact⟨a,(hb.block _ hZ).trans c,d⟩
theorem sm.same{w:World}{Z i:Nat}{f:Nat->Nat×Nat}(h:sm w Z f i)(h0:eu f i (f i).1≠0):sm w Z f (i+1):=by
 obtain⟨a,c,d,g⟩:=h.b;refine⟨a,c,d,fun j k=>?_⟩;rw[g j k]
 congr 3
 show eu f i j=if eu f i j=0 then(if (f i).1=j then(f i).2+1 else 0)else eu f i j
 by_cases e:eu f i j=0
 ·rw[zv e,zq (fun l=>h0 (by rw[l];exact e)),e]
 rw[zq e]
theorem sm.set{w:World}{Z i:Nat}{f:Nat->Nat×Nat}(h:sm w Z f i)(hc:(f i).1<4)(h0:eu f i (f i).1=0){v:Int}(hv:v=((f i).2:Int)+1):sm (w.setCell ⟨Z,(f i).1,none⟩ (.int .i64 v)) Z f (i+1)/\w.grownBy (w.setCell ⟨Z,(f i).1,none⟩ (.int .i64 v)) (some Z):=by
 obtain⟨c,d,g,k⟩:=h.b;refine⟨⟨c.setIfInBounds (f i).1 (.int .i64 v),y9 w Z (f i).1 c 46 _ d,by rw[Array.size_setIfInBounds];exact g,fun j l=>?_⟩,aP (cK w (some Z)) _ _⟩;have e:eu f (i+1) j=if eu f i j=0 then(if (f i).1=j then(f i).2+1 else 0)else eu f i j:=rfl
 rw[e];by_cases a:(f i).1=j
 ·subst a;rw[Array.getElem?_setIfInBounds_self_of_lt (by omega),zv h0,zv rfl,hv];rfl
 rw[Array.getElem?_setIfInBounds_ne a,k j l,zq a]
 congr 3
 split <;> omega
theorem Ls{zn zz:Nat}(h:zn=zz+1):((zn:Int)==(zz:Int)+1)=true:=beq_iff_eq.2 (by omega)
theorem F4{zn zz:Nat}(h:¬ zn=zz+1):((zn:Int)==(zz:Int)+1)=false:=beq_eq_false_iff_ne.2 (by omega)
theorem JE:∀z,z<3->((UInt8.ofNat (48+z)).toNat:Int)=48+(z:Int):=by decide +kernel
theorem Fu:∀z,z<4->((UInt8.ofNat (48+z)).toNat:Int)=48+(z:Int):=by decide +kernel
theorem Ev{p0 p1:Option Addr}{c0 c1:Nat}{xs ys:List Int}(W:World)(hx:BW W p0 xs)(hm:xs.length<=maxLen)(hy:BW W p1 ys)(hm2:ys.length<=maxLen):Calls prog 5 #[.slice p0 xs.length c0,.slice p1 ys.length c1] W fun e r=>e=.returned (.bool true)/\Below W.heap.size W r:=by
 have c6:=cY W;obtain⟨n,hn⟩:=ag xs.length;obtain⟨n2,f6⟩:=ag ys.length;have m6:(n:Int)<=9223372036854775807:=(by unfold maxLen at hm;omega);have m1:(n2:Int)<=9223372036854775807:=(by unfold maxLen at hm2;omega);have HX:=aa (ab hx (ab hn (ab hy f6)));rw[hn,f6];clear hx hm hn hy hm2 f6;go_enter func5,ntmps5;go_upto_region 4 with (go_at_call 12;refine c6.mono ?_;rintro e w4⟨rfl,i6⟩;have H4:=aa i6;clear c6 i6);have a6:=cP w4;go_upto_region 5 with (go_at_call 13;refine a6.mono ?_;rintro e N⟨d,b,ps,rfl,i7⟩;have f7:=aa i7;clear a6 i7);have i8:=aB H4.out (f7.out.bel (zb _ _) (fun q R=>R));have f8:=aD N (.cells #[.int .i64 0,.int .i64 0,.int .i64 0,.int .i64 0,.int .i64 0] 46);have kz:=z7 N (.cells #[.int .i64 0,.int .i64 0,.int .i64 0,.int .i64 0,.int .i64 0] 46);obtain⟨f,hf⟩:=ag (B0 xs ys)
 have b0:sm (N.alloc (.cells #[.int .i64 0,.int .i64 0,.int .i64 0,.int .i64 0,.int .i64 0] 46)) N.heap.size f 0:=⟨_,kz,rfl,fun j hj=>by
  rcases j with _|_|_|_|j
  ·rfl
  ·rfl
  ·rfl
  ·rfl
  omega⟩
 obtain⟨Z,hZ⟩:=ag N.heap.size;obtain⟨w6,b1⟩:=ag (N.alloc (.cells #[.int .i64 0,.int .i64 0,.int .i64 0,.int .i64 0,.int .i64 0] 46));have i9:w6.heap.size=Z+1:=(by rw[<-b1,zj,hZ]);rw[b1]at f8 b0;rw[hZ]at b0
 have l1:Hid (∀i,i<n->i<n2->∃g H g2 u,p0=some ⟨g,H,none⟩/\p1=some ⟨g2,u,none⟩/\∀w,Below N.heap.size N w->(g<w.heap.size/\w.cell? ⟨g,H+i,none⟩=some (.int .i64 (xs.getD i 0)))/\(g2<w.heap.size/\w.cell? ⟨g2,u+i,none⟩=some (.int .i64 (ys.getD i 0)))):=aa (fun i hi l2=>by
  obtain⟨g,H,e,h1,h2⟩:=HX.1 i (by rw[HX.2.1];exact hi);obtain⟨g2,u,e2,h3,h4⟩:=HX.2.2.1 i (by rw[HX.2.2.2];exact l2);refine⟨g,H,g2,u,e,e2,fun w hw=>?_⟩;have S:=aB i8 hw;exact⟨⟨z9 h1 S.size,(za (w:=W) (S.block _ h1)).trans h2⟩,⟨z9 h3 S.size,(za (w:=W) (S.block _ h3)).trans h4⟩⟩)
 have B:=aa (ab f8 (ab b0 (ab b1 (ab hZ i9))));have HF:=aa hf;clear i8 f8 kz b0 b1 hZ i9 hf;go_upto_region 7 with fail
 try rw[B.2.2.1]
 try rw[B.2.2.2.1]
 go_upto_block 0 with fail
 go_cut [8,10]from 300 to 300 (fun lv gv wx=>∃(i:Nat) (p:Option Addr) (c:Nat),lv=.slice p i c/\gv=.bool (ig f i)/\i<=15/\ef wx w6.heap.size (.slice p i c) (qv f i)/\Below N.heap.size N wx)
 case first =>
  go_wp2_with fail;go_loopg [8,10,11] 16 (fun gh lv gv iv w=>∃(i:Nat) (p:Option Addr) (c:Nat),iv=.int .i64 (i:Int)/\i<=n/\i<=n2/\i<=15/\16<=i+gh/\lv=.slice p i c/\gv=.bool (ig f i)/\ef w w6.heap.size (.slice p i c) (qv f i)/\sm w Z f i/\Below N.heap.size N w)
  case atStart=>exact⟨0,none,0,rfl,zh _,zh _,zh _,by omega,rfl,rfl,ef.nil,B.2.1,B.1⟩
  obtain⟨i,p,c,rfl,m7,m2,U,hg,rfl,rfl,ho,O,hB⟩:=hrel;have HB:=aa (ab ho (ab O hB));clear ho O hB;obtain⟨gd,I⟩:=ag (ig f i);rw[I];by_cases b2:i<n/\i<n2/\i<15
  ·obtain⟨b2,j0,m3⟩:=b2;have m8:(i:Int)<(n:Int):=(by omega);have m4:(i:Int)<(n2:Int):=(by omega);have m9:(i:Int)<15:=(by omega);obtain⟨g,H,g2,u,rfl,rfl,f9⟩:=l1.out i b2 j0;obtain⟨xi,g0⟩:=ag (xs.getD i 0);obtain⟨yi,g1⟩:=ag (ys.getD i 0);rw[g0,g1]at f9;have b3:f i=(og xi 4,og yi 3):=(by rw[<-HF.out,<-g0,<-g1];rfl);obtain⟨e1,e2,e3,e4⟩:=jQ xi (m:=4) (by decide);obtain⟨e5,e6,e7,e8⟩:=jQ yi (m:=3) (by decide);obtain⟨A,j1⟩:=ag (og xi 4);obtain⟨s,j2⟩:=ag (og yi 3);rw[j1]at b3 e1 e2;rw[j2]at b3 e5 e6;have e1:(xi.tmod 4+4).tmod 4=(A:Int):=e1;have e5:(yi.tmod 3+3).tmod 3=(s:Int):=e5;have e3:-4<xi.tmod 4:=e3;have e4:xi.tmod 4<4:=e4;have e7:-3<yi.tmod 3:=e7;have e8:yi.tmod 3<3:=e8;have w1:IntKind.i64.wrap (xi.tmod 4+4)=xi.tmod 4+4:=(by rw[IntKind.wrap_i64];omega);have w2:IntKind.i64.wrap (yi.tmod 3+3)=yi.tmod 3+3:=(by rw[IntKind.wrap_i64];omega);have j3:Hid (∀y,Below wr.heap.size wr y->(g<y.heap.size/\y.cell? ⟨g,H+i,none⟩=some (.int .i64 xi))/\(g2<y.heap.size/\y.cell? ⟨g2,u+i,none⟩=some (.int .i64 yi))):=aa (fun y hy=>f9 y (aB HB.2.2 hy));have l:=aa (ab b3 (ab e2 (ab e6 I)));clear f9 g0 g1 b3 e2 e3 e4 e6 e7 e8 j1 j2 I;go_upto_region 11 with fail;refine ae 16 [.slice (some ⟨g,H,none⟩) n c0,.int .i64 (i:Int),.pointer (some ⟨g,H+i,none⟩),.int .i64 xi,.int .i64 (xi.tmod 4),.int .i64 (xi.tmod 4+4),.int .i64 (A:Int),.slice (some ⟨g2,u,none⟩) n2 c1,.int .i64 (i:Int),.pointer (some ⟨g2,u+i,none⟩),.int .i64 yi,.int .i64 (yi.tmod 3),.int .i64 (yi.tmod 3+3),.int .i64 (s:Int),.int .i64 (A:Int),.int .i64 (s:Int)] (fun y=>Below wr.heap.size wr y) ?A1 ?hm1 ?hB1 ?hA1 (aF wr) ?hop1 ?hT1
   case hm1=>kernel_rfl
   case hB1=>kernel_rfl
   case hA1 =>
    simp only[am,ai,Act.put,cy,db,bt,cp,dc,da,bu,eg,ed];rfl
   case hop1 =>
    simp only[ce,ze,ah,yu];and_intros<;>intro r a<;>have HR:=aa a
    rotate_left 3;have z0:=(j3.out r a).1.2;rotate_left 7;have z0:=(j3.out r a).2.2;rotate_left 6
    all_goals(clear a;simp only[Par.Gives];go_simp;all_goals exact HR.out)
   intro r a;simp only[cw,yq];obtain⟨wa,rfl⟩:∃x,x=r:=⟨_,rfl⟩;have HA:=aa a;clear a e1 e5 w1 w2;have bV:=aD wa (.cells #[.int .i64 0,.int .i64 0,.string e0] 32);have kV:=z7 wa (.cells #[.int .i64 0,.int .i64 0,.string e0] 32);obtain⟨wb,g6⟩:=ag (wa.alloc (.cells #[.int .i64 0,.int .i64 0,.string e0] 32));obtain⟨V,G⟩:=ag wa.heap.size;rw[g6]at bV kV;rw[G]at kV;have HV:=aa (ab (aB HA.out bV) (ab kV (ab g6 (ab G HA.out))));clear bV kV g6 G
   go_upto_if 55 with fail
   try rw[HV.2.2.1]
   try rw[HV.2.2.2.1]
   go_cut []from 54 to 62 (fun wx=>wx.heap[V]?=some (.cells #[.int .i64 (so s).1,.int .i64 (so s).2.1,.string (so s).2.2] 32)/\Below wr.heap.size wr wx)
   case first =>
    by_cases hz:s=0
    ·have l3:=aa hz;have l4:¬ (s:Int)>0:=(by omega);clear hz;go_wp2_with fail;go_meet;rw[l3.out];exact⟨HV.2.1,HV.1⟩
    have l4:(s:Int)>0:=(by omega);have n0:0<s:=(by omega);have t:so s=(2,0,BS s):=(by unfold so;rw[zq hz]);have hu:=JE s l.2.2.1;have q1:IntKind.i64.wrap (48+(s:Int))=48+(s:Int):=(by rw[IntKind.wrap_i64];have:=l.2.2.1;omega);have q2:IntKind.u8.wrap (48+(s:Int))=48+(s:Int):=(by rw[IntKind.wrap_u8];have:=l.2.2.1;omega);have q3:wrap64 (48+(s:Int))=48+(s:Int):=(by unfold wrap64;have:=l.2.2.1;omega);have kb:=z7 wb (.cells #[.int .u8 122,.int .u8 (48+(s:Int))] 5);have bb:=aD wb (.cells #[.int .u8 122,.int .u8 (48+(s:Int))] 5);have l5:(convert 44 9 (.slice (some ⟨wb.heap.size,0,none⟩) 2 2)).run prog (wb.alloc (.cells #[.int .u8 122,.int .u8 (48+(s:Int))] 5))=.ok (.string (BS s)) (wb.alloc (.cells #[.int .u8 122,.int .u8 (48+(s:Int))] 5)):=Cj kb (v:=122) rfl hu;obtain⟨sy,j4⟩:=ag (BS s);rw[j4]at l5 t;have j5:=aX sy (wb.alloc (.cells #[.int .u8 122,.int .u8 (48+(s:Int))] 5));have HD:=aa (ab t bb);clear hz t hu kb bb j4;go_upto_region 14 with fail;go_wp2_with (go_at_call 16;refine j5.mono ?_;rintro e w9⟨rfl,j6⟩;have H9:=aa (aB HD.2 j6);have kv:=aE H9.out HV.2.1;have z0:=aA kv 0;have z1:=aA kv 1;have z2:=aA kv 2;have zf:=fun i=>zo w9 V i _ _ kv;have zl:=aC kv;clear j5 j6 kv);go_meet;rw[HD.1];have kv:=aE H9.out HV.2.1;exact⟨jT kv (.int .i64 2) (.int .i64 0) (.string sy),bL (aB HV.1 H9.out) (by have:=HV.2.2.2.2.size;have:=HV.2.2.2.1;omega) (.int .i64 2) (.int .i64 0) (.string sy)⟩
   obtain⟨g7,j7⟩:=hcut;obtain⟨a5,rfl⟩:∃x,x=wc:=⟨_,rfl⟩;obtain⟨⟨kd,nz,sz⟩,g8⟩:∃x,so s=x:=⟨_,rfl⟩;rw[g8]at g7;have hu:=Fu A l.2.1;have q1:IntKind.i64.wrap (48+(A:Int))=48+(A:Int):=(by rw[IntKind.wrap_i64];have:=l.2.1;omega);have q2:IntKind.u8.wrap (48+(A:Int))=48+(A:Int):=(by rw[IntKind.wrap_u8];have:=l.2.1;omega);obtain⟨P,h0⟩:=ag (Aw A);have c7:(⟨#[99,UInt8.ofNat (48+A)]⟩:ByteArray)=P:=h0;have c8:ng f i=[(1,(i:Int),e0),(2,0,P),(kd,nz,sz),(0,0,e0)]:=(by unfold ng;rw[l.1,h0,g8]);have L:=aa (ab g7 (ab j7 (ab hu (ab c7 c8))));clear g7 j7 g8 hu h0 c7 c8;go_upto_region 15 with fail;refine ip 14 (fun w=>Below a5.heap.size a5 w) (VL [(.eq (.slice p i c)),(.eq (.int .i64 (i:Int))),(.eq (.agg #[.int .i64 1,.int .i64 (i:Int),.string e0])),(.eq (.int .i64 (A:Int))),(.eq (.int .i64 (48+(A:Int)))),(.eq (.int .u8 (48+(A:Int)))),(.obj (fun g=>.slice (some ⟨g,0,none⟩) 2 2) (.cells #[.int .u8 99,.int .u8 (48+(A:Int))] 5)),(.eq (.string P)),(.eq (.agg #[.int .i64 2,.int .i64 0,.string P])),(.eq (.agg #[.int .i64 kd,.int .i64 nz,.string sz])),(.eq (.agg #[.int .i64 0,.int .i64 0,.string e0])),(.obj (fun g=>.slice (some ⟨g,0,none⟩) 4 4) (.cells #[.int .i64 1,.int .i64 (i:Int),.string e0,.int .i64 2,.int .i64 0,.string P,.int .i64 kd,.int .i64 nz,.string sz,.int .i64 0,.int .i64 0,.string e0] 32)),(AZ a5.heap.size ap [(1,(i:Int),e0),(2,0,P),(kd,nz,sz),(0,0,e0)] 4),(CK a5.heap.size ap [(1,(i:Int),e0),(2,0,P),(kd,nz,sz),(0,0,e0)] 4)]) ?A2 ?hm2 ?hB2 (fun w r h S=>aB h S) (Par.VL.mono _) ?hA2 (aF a5) ?hop2 ?hT2
   case hm2=>kernel_rfl
   case hB2=>kernel_rfl
   case hA2 =>
    intro vs;simp only[am,ai,Act.put,cy,db,bt,cp,dc,da,bu];rfl
   case hop2 =>
    simp only[ce,ze,iq,yu];and_intros<;>intro vs w hK t
    ·clear t;simp only[ao];go_simp;all_goals exact⟨rfl,zb _ _⟩
    ·clear t;simp only[ao];go_simp;all_goals exact⟨rfl,zb _ _⟩
    ·have d1:=t 1 (by decide) (by kernel_rfl);replace d1:vs 1=.int .i64 (i:Int):=d1;clear t;simp only[ao,d1];go_simp;exact(aU (i:Int) w).mono (fun e a7 h=>⟨_,h.1,⟨rfl,h.2⟩⟩)
    ·clear t;simp only[ao];go_simp;all_goals exact⟨rfl,zb _ _⟩
    ·have d3:=t 3 (by decide) (by kernel_rfl);replace d3:vs 3=.int .i64 (A:Int):=d3;clear t;simp only[ao,d3];go_simp;all_goals exact⟨rfl,zb _ _⟩
    ·have d4:=t 4 (by decide) (by kernel_rfl);replace d4:vs 4=.int .i64 (48+(A:Int)):=d4;clear t;simp only[ao,d4];go_simp;all_goals exact⟨rfl,zb _ _⟩
    ·have d5:=t 5 (by decide) (by kernel_rfl);replace d5:vs 5=.int .u8 (48+(A:Int)):=d5;clear t;simp only[ao,d5];go_simp;exact⟨⟨_,rfl,z7 w _⟩,aD w _⟩
    ·have d6:=t 6 (by decide) (by kernel_rfl);obtain⟨g3,d6,k3⟩:=d6;have cv:(convert 44 9 (.slice (some ⟨g3,0,none⟩) 2 2)).run prog w=.ok (.string P) w:=(by rw[<-L.2.2.2.1];exact Cj k3 (v:=99) rfl L.2.2.1);clear t;simp only[ao];go_simp;all_goals exact⟨rfl,zb _ _⟩
    ·have d7:=t 7 (by decide) (by kernel_rfl);replace d7:vs 7=.string P:=d7;clear t;simp only[ao,d7];go_simp;exact(aX P w).mono (fun e a7 h=>⟨_,h.1,⟨rfl,h.2⟩⟩)
    ·have kv:=aE hK L.1;have z0:=aA kv 0;have z1:=aA kv 1;have z2:=aA kv 2;have zl:=aC kv;clear t;simp only[ao];go_simp;all_goals exact⟨rfl,zb _ _⟩
    ·clear t;simp only[ao];go_simp;all_goals exact⟨rfl,zb _ _⟩
    ·have d2:=t 2 (by decide) (by kernel_rfl);replace d2:vs 2=.agg #[.int .i64 1,.int .i64 (i:Int),.string e0]:=d2;have d8:=t 8 (by decide) (by kernel_rfl);replace d8:vs 8=.agg #[.int .i64 2,.int .i64 0,.string P]:=d8;have d9:=t 9 (by decide) (by kernel_rfl);replace d9:vs 9=.agg #[.int .i64 kd,.int .i64 nz,.string sz]:=d9;have J:=t 10 (by decide) (by kernel_rfl);replace J:vs 10=.agg #[.int .i64 0,.int .i64 0,.string e0]:=J;clear t;simp only[ao,d2,d8,d9,J];go_simp;exact⟨⟨_,rfl,z7 w _⟩,aD w _⟩
    ·have b4:=t 11 (by decide) (by kernel_rfl);obtain⟨g4,b4,k4⟩:=b4;clear t;simp only[ao];go_simp;exact uX ap [(1,(i:Int),e0),(2,0,P),(kd,nz,sz),(0,0,e0)] _ k4 rfl rfl (by decide) (by decide) hK.size
    have b5:=t 12 (by decide) (by kernel_rfl);obtain⟨g5,c5,b5,r5⟩:=b5;clear t;simp only[ao];go_simp;exact⟨⟨_,g5,c5,hK.size,rfl,z7 w _,r5.later (aD w _)⟩,aD w _⟩
   intro vs r hK G;simp only[cw,ym];have d0:=G 0 (by decide);replace d0:vs 0=(.slice p i c):=d0;have d1:=G 1 (by decide);replace d1:vs 1=.int .i64 (i:Int):=d1;have d2:=G 2 (by decide);replace d2:vs 2=.agg #[.int .i64 1,.int .i64 (i:Int),.string e0]:=d2;have d3:=G 3 (by decide);replace d3:vs 3=.int .i64 (A:Int):=d3;have d4:=G 4 (by decide);replace d4:vs 4=.int .i64 (48+(A:Int)):=d4;have d5:=G 5 (by decide);replace d5:vs 5=.int .u8 (48+(A:Int)):=d5;have d6:=G 6 (by decide);have d7:=G 7 (by decide);replace d7:vs 7=.string P:=d7;have d8:=G 8 (by decide);replace d8:vs 8=.agg #[.int .i64 2,.int .i64 0,.string P]:=d8;have d9:=G 9 (by decide);replace d9:vs 9=.agg #[.int .i64 kd,.int .i64 nz,.string sz]:=d9;have J:=G 10 (by decide);replace J:vs 10=.agg #[.int .i64 0,.int .i64 0,.string e0]:=J;have b4:=G 11 (by decide);have b5:=G 12 (by decide);have b6:=G 13 (by decide);clear G;simp only[d0,d1,d2,d3,d4,d5,d7,d8,d9,J];clear d0 d1 d2 d3 d4 d5 d7 d8 d9 J;obtain⟨g9,n1,k1,j8,b6,j9,ru⟩:=b6;rw[b6];clear b6 b5 b4 d6 q1 q2
   have e9:w6.heap.size<=wr.heap.size:=by
    have h1:=B.2.2.2.2;obtain⟨zc,h2,_⟩:=HB.2.1.b;have h3:=aC h2;omega
   obtain⟨g',m5,wz,f0,h5,h6⟩:=uY (HB.1.later L.2.1) (oH _) hK (zw e9 L.2.1.size) j8 j9 ru rfl (by omega);have a8:Z<w6.heap.size:=(by rw[B.2.2.2.2];omega);have O:=(HB.2.1.later L.2.1).on h6 a8;have k0:Below N.heap.size wr a5:=L.2.1.mono HB.2.2.size;have k2:Below N.heap.size N wz:=HB.2.2.trans (k0.trans (h6.mono (by rw[B.2.2.2.2,B.2.2.2.1];omega)));have k5:pO ap [(1,(i:Int),e0),(2,0,P),(kd,nz,sz),(0,0,e0)]=BF f i:=(by unfold BF;rw[L.2.2.2.2]);rw[k5,<-qH]at h5
   have h7:ig f (i+1)=(gd&&(decide (eu f i A=0) || decide (eu f i A=s+1))):=by
    show(ig f i&&(decide (eu f i (f i).1=0) || decide (eu f i (f i).1=(f i).2+1)))=_;rw[l.1,l.2.2.2]
   have f1:(f i).1<4:=(by rw[l.1];exact l.2.1);have h8:=(fun(h:eu f i A≠0)=>O.same (by rw[l.1];exact h));have b7:=(fun(h:eu f i A=0)=>O.set f1 (by rw[l.1];exact h) (v:=(s:Int)+1) (by rw[l.1]));rw[l.1]at b7;obtain⟨x0,xl,xf⟩:=O.get l.2.1;obtain⟨zn,f2⟩:=ag (eu f i A);rw[f2]at x0 h7 h8 b7;have HW:=aa (ab h5 (ab k2 (ab h7 (ab h8 (ab b7 a8)))));have n3:(A:Int)<4:=(by have:=l.2.1;omega);clear j9 ru h5 h6 j8 hK a8 O k0 k2 k5 h7 f1 h8 b7 f2 e9;go_upto_region 16 with (at_builtin;refine aK rfl (.tmp 62) (.tmp 75) 35 rfl rfl rfl f0 ?_);clear f0;by_cases hz:zn=0
   ·obtain⟨k6,k7⟩:=HW.2.2.2.2.1 hz;have HS:=aa (ab k6 k7);have M:ig f (i+1)=gd:=(by rw[HW.2.2.1,hz];cases gd <;> rfl);have HE:=aa M;subst hz;clear k6 k7 M;have q1:wrap64 ((s:Int)+1)=(s:Int)+1:=(by unfold wrap64;have:=l.2.2.1;omega);cases gd
    all_goals
     go_wp2_with fail;go_roundg (15-i)
     case measure=>omega
     case rel=>exact⟨i+1,_,_,by go_num,by omega,by omega,by omega,by omega,rfl,by rw[HE.out],HW.1.off (fun q h1 h2=>HS.2.block q h2 (fun e=>by cases e;have:=HW.2.2.2.2.2;omega)),HS.1,aT HW.2.1 (zm _) HS.2 (xy B.2.2.2.1)⟩
   have HS:=aa (HW.2.2.2.1 hz);have n4:((zn:Int)==0)=false:=beq_eq_false_iff_ne.2 (by omega);have q1:wrap64 ((s:Int)+1)=(s:Int)+1:=(by unfold wrap64;have:=l.2.2.1;omega);by_cases R:zn=s+1
   ·have M:ig f (i+1)=gd:=(by rw[HW.2.2.1,xd R,Bool.or_true,Bool.and_true]);have HE:=aa M;have l6:=Ls R;clear M R hz;cases gd
    all_goals
     go_wp2_with fail;go_roundg (15-i)
     case measure=>omega
     case rel=>exact⟨i+1,_,_,by go_num,by omega,by omega,by omega,by omega,rfl,by rw[HE.out],HW.1,HS.out,HW.2.1⟩
   have M:ig f (i+1)=false:=(by rw[HW.2.2.1,yw hz,yw R];cases gd <;> rfl);have HE:=aa M;have l6:=F4 R;clear M R hz;cases gd
   all_goals
    go_wp2_with fail;go_roundg (15-i)
    case measure=>omega
    case rel=>exact⟨i+1,_,_,by go_num,by omega,by omega,by omega,by omega,rfl,by rw[HE.out],HW.1,HS.out,HW.2.1⟩
  have h9:¬ (i:Int)<(n:Int)∨((i:Int)<(n:Int)/\¬ (i:Int)<(n2:Int))∨((i:Int)<(n:Int)/\(i:Int)<(n2:Int)/\¬ (i:Int)<15):=(by omega);clear b2;rcases h9 with hs|⟨hs,l7⟩ | ⟨hs,l7,n5⟩
  all_goals
   go_wp2_with fail;go_meet;exact⟨i,p,c,rfl,by rw[I],U,HB.1,HB.2.2⟩
 obtain⟨i,p,c,rfl,rfl,U,ho,hB⟩:=hcut;obtain⟨gd,I⟩:=ag (ig f i);rw[I];have a9:=GO xs ys;rw[HF.out]at a9;obtain⟨w9,l8⟩:∃z,z=wc:=⟨_,rfl⟩;subst l8;have hP:=f7.out.with hB;have Q:=qF hP (oH i) ho (fun q h1 h2=>.inr ⟨by have h3:=B.2.2.2.2;have h4:=B.2.2.2.1;omega,h2⟩) (by omega) (fun o ho=>IP ho) (oI a9 i)
 have i0:∀x∈sc f i,dw 100 x:=by
  rw[<-oI a9 i];exact fun x hx=>(dY cD x hx).mono (by rw[oH];omega)
 obtain⟨Y,a0⟩:=Kh a9 U;rw[I]at Y a0;obtain⟨X,hX⟩:=ag (sc f i);rw[hX]at Q i0 Y a0
 have b8:∃a1 a2 a3 a4,au (pre 4) (X.map (·.2))=(a1,a2,a3,a4)/\(gd=true->a1=0)/\(gd=false->a1=10/\a4=bs):=by
  cases gd
  ·obtain⟨k,hk⟩:=a0 rfl;exact⟨_,_,_,_,hk,(fun h=>by cases h),fun _=>⟨rfl,rfl⟩⟩
  exact⟨_,_,_,_,Y rfl,fun _=>rfl,(fun h=>by cases h)⟩
 obtain⟨a1,a2,a3,a4,b8,ha,k8⟩:=b8;have L:=aa (ab b8 (ab i0 (ab hB (ab ha k8))));clear hX b8 i0 hP a9 Y a0 ha k8 I U ho hB;go_upto_region 20 with (go_at_call 17;refine Q.mono ?_;rintro e n6⟨rfl,f3⟩;have f4:=aa ((f7.out.later L.2.2.1).back f3 (fun q R=>.inl R));clear Q f3);have i1:=f4.out.check bE L.2.1 (by decide);rw[L.1]at i1;go_upto_region 21 with (go_at_call 18;refine i1.mono ?_;rintro e b9⟨rfl,f5⟩;have l9:=aa f5;clear i1 f5);have i2:=aD b9 (.cells #[.int .i64 a1,.int .i64 0,.string a2,.int .i64 a3,.string a4] 39);have c4:=z7 b9 (.cells #[.int .i64 a1,.int .i64 0,.string a2,.int .i64 a3,.string a4] 39);obtain⟨wF,i3⟩:=ag (b9.alloc (.cells #[.int .i64 a1,.int .i64 0,.string a2,.int .i64 a3,.string a4] 39));obtain⟨F,hF⟩:=ag b9.heap.size;rw[i3]at i2 c4;rw[hF]at c4
 try rw[i3]
 try rw[hF]
 have i4:=aa (f4.out.later (aB l9.out i2));have E:Hid (∀y,Below wF.heap.size wF y->y.heap[F]?=some (.cells #[.int .i64 a1,.int .i64 0,.string a2,.int .i64 a3,.string a4] 39)):=aa (fun y hy=>aE hy c4)
 have k9:Hid (∀y,Below wF.heap.size wF y->Calls prog 20 #[.pointer (some ⟨b,0,none⟩)] y fun e r=>e=.returned (.agg #[.int .i64 a1,.int .i64 0,.string a2,.int .i64 a3,.string a4])/\Below y.heap.size y r):=aa (fun y hy=>by
  have:=(i4.out.later hy).ncheck bE fS (by decide) L.2.1 (by decide)
  rw[L.1]at this;exact this)
 have l0:Hid (∀y,Calls prog 19 #[.agg #[.int .i64 a1,.int .i64 0,.string a2,.int .i64 a3,.string a4],.agg #[.int .i64 a1,.int .i64 0,.string a2,.int .i64 a3,.string a4]] y fun e r=>e=.returned (.bool true)/\Below y.heap.size y r):=aa (fun y=>bR a1 0 a3 a2 a4 y);clear i2 c4 i3 hF;cases gd
 ·obtain⟨rfl,rfl⟩:=L.2.2.2.2 rfl;refine ae 25 [.pointer (some ⟨F,0,none⟩),.int .i64 10,.bool false,.bool false,.bool true,.bool true,.bool false,.bool false,.pointer (some ⟨F,0,none⟩),.int .i64 10,.bool true,.bool true,.pointer (some ⟨F,4,none⟩),.string bs,.bool true,.bool true,.bool true,.bool true,.bool true,.agg #[.int .i64 10,.int .i64 0,.string a2,.int .i64 a3,.string bs],.pointer (some ⟨b,0,none⟩),.agg #[.int .i64 10,.int .i64 0,.string a2,.int .i64 a3,.string bs],.bool true,.bool true,.bool true] (fun y=>Below wF.heap.size wF y) ?A3 ?hm3 ?hB3 ?hA3 (aF wF) ?hop3 ?hT3
  case hm3=>kernel_rfl
  case hB3=>kernel_rfl
  case hA3 =>
   simp only[am,ai,Act.put,cy,db,bt,cp,dc,da,bu,eg,ed];rfl
  case hop3 =>
   simp only[ce,ze,ah,yu];and_intros<;>intro r a<;>have HR:=aa a
   have zl:=aC (E.out r a);rotate_left;have z0:=aA (E.out r a) 0;rotate_left 7;have zl:=aC (E.out r a);rotate_left;have z0:=aA (E.out r a) 0;rotate_left 3;have zl:=aC (E.out r a);rotate_left;have z4:=aA (E.out r a) 4;rotate_left 6;have zl:=aC (E.out r a);have z0:=aA (E.out r a) 0;have z1:=aA (E.out r a) 1;have z2:=aA (E.out r a) 2;have m0:=aA (E.out r a) 3;have z4:=aA (E.out r a) 4;rotate_left 2
   ·clear a;simp only[Par.Gives];go_simp;exact(k9.out r HR.out).mono (fun e a7⟨M,S⟩=>⟨M,aB HR.out S⟩)
   ·clear a;simp only[Par.Gives];go_simp;exact(l0.out r).mono (fun e a7⟨M,S⟩=>⟨M,aB HR.out S⟩)
   rotate_left 2
   all_goals(clear a;simp only[Par.Gives];go_simp;all_goals exact HR.out)
  intro r a;simp only[cw,yq];have i5:=aB H4.out ((i4.out.later a).bel (zb _ _) (fun q R=>R));clear a;go_wp2_with fail;go_ret;exact⟨rfl,i5⟩
 obtain rfl:=L.2.2.2.1 rfl;refine ae 25 [.pointer (some ⟨F,0,none⟩),.int .i64 0,.bool true,.bool true,.bool true,.bool true,.bool true,.bool true,undef,undef,undef,undef,undef,undef,undef,undef,.bool true,.bool true,.bool true,.agg #[.int .i64 0,.int .i64 0,.string a2,.int .i64 a3,.string a4],.pointer (some ⟨b,0,none⟩),.agg #[.int .i64 0,.int .i64 0,.string a2,.int .i64 a3,.string a4],.bool true,.bool true,.bool true] (fun y=>Below wF.heap.size wF y) ?A4 ?hm4 ?hB4 ?hA4 (aF wF) ?hop4 ?hT4
 case hm4=>kernel_rfl
 case hB4=>kernel_rfl
 case hA4 =>
  simp only[am,ai,Act.put,cy,db,bt,cp,dc,da,bu,eg,ed];rfl
 case hop4 =>
  simp only[ce,ze,ah,yu];and_intros<;>intro r a<;>have HR:=aa a
  have zl:=aC (E.out r a);rotate_left;have z0:=aA (E.out r a) 0;rotate_left 18;have zl:=aC (E.out r a);have z0:=aA (E.out r a) 0;have z1:=aA (E.out r a) 1;have z2:=aA (E.out r a) 2;have m0:=aA (E.out r a) 3;have z4:=aA (E.out r a) 4;rotate_left 2
  ·clear a;simp only[Par.Gives];go_simp;exact(k9.out r HR.out).mono (fun e a7⟨M,S⟩=>⟨M,aB HR.out S⟩)
  ·clear a;simp only[Par.Gives];go_simp;exact(l0.out r).mono (fun e a7⟨M,S⟩=>⟨M,aB HR.out S⟩)
  rotate_left 2
  all_goals(clear a;simp only[Par.Gives];go_simp;all_goals exact HR.out)
 intro r a;simp only[cw,yq];have i5:=aB H4.out ((i4.out.later a).bel (zb _ _) (fun q R=>R));clear a;go_wp2_with fail;go_ret;exact⟨rfl,i5⟩
end Go.Proofs.YthlccadnojnkaaaGreat
namespace Go.Proofs.YthlccadnojnkaaaGreat
open Go.Proofs.Tryz
open Go Go.ChangeShapes Go.WideShapes Go.ChangeAt Go.RowKit
open Go.ChangeMaps (open_string shut_string)
theorem kQ(os:Os)(started:os.Started)(H:Type)(enc:TypeId×Value->H):ReturnsInHanded {} Tryz.checked os 5 .any (Rows.checkDepsSpec.pre6 enc prog Tryz.f5 Rows.checkDepsRow.domain false) (Rows.checkDepsSpec.post enc prog Tryz.f5 false true false false):=by
 refine returnsInHanded_of_change (C:=Tryz.checked) own started (by kernel_rfl) func5
  (ChangeSpec.witness6 (enc:=enc) (C:=Tryz.checked) false ⟨#[],#[.slice none 0 0,.slice none 0 0],[]⟩ 8 (by kernel_rfl) (by kernel_rfl) (by kernel_rfl) (by kernel_rfl)) ?_
 intro W c args F gs i a w _ _;have b:∀(j:Nat) t v,Tryz.f5.params[j]?=some t->args[j]?=some v->Value.okWide prog W .any c t v:=a;have k:=w;obtain⟨p,q,d,G,rfl,I,J⟩:=w;have y:DataW.TrodAll enc prog W 0 (fun _=>true) true Tryz.f5.params.toList args.toList F p:=d;rw[Tryz.params5]at y b;obtain⟨v0,L,d0,M,N,q0,l,rfl,rfl,z,r0⟩:=trodAll_cons y;obtain⟨v1,O,d1,P,Q,q1,rfl,rfl,rfl,A,r1⟩:=trodAll_cons r0;obtain⟨rfl,rfl,rfl⟩:=trodAll_nil r1;obtain rfl:args=#[v0,v1]:=(by cases args;simp_all);obtain⟨rfl,rfl⟩:=trodVars_none G;have B:=z;have n:∀x∈N,x.block<W.heap.size:=(by obtain⟨m,o⟩:=B;exact DataW.trod_lt m _ _ _ o);obtain⟨R,S,U,V,rfl,r,f,s0⟩:=kO z (okWide_slice underlying45 (b 0 45 v0 rfl rfl));subst r;have E:=A;have s:∀x∈Q,x.block<W.heap.size:=(by obtain⟨m,o⟩:=E;exact DataW.trod_lt m _ _ _ o);obtain⟨X,Y,Z,a0,rfl,u,g,s1⟩:=kO A (okWide_slice underlying45 (b 1 45 v1 rfl rfl));subst u;clear d a;refine(Ev W s0 (zw f.1 f.2) s1 (zw g.1 g.2)).mono fun e W'⟨he,bel⟩=>?_
 subst he;exact⟨_,rfl,_,_,_,[],_,[],k,trodAll_mk1 (shut_bool underlying4 _),(trodAll_cons_mk (Below.trod bP (by kernel_rfl) (wj (by kernel_rfl)) B bel n) (trodAll_cons_mk (Below.trod bP (by kernel_rfl) (wj (by kernel_rfl)) E bel s) trodAll_mk0)),rfl,bel.frame _,fun h=>by cases h⟩
theorem checkDeps_holds:Rows.CheckDepsSaid:=
 OpenClaim.holds_of_wide 5 Tryz.f5 rfl rfl rfl rfl rfl rfl rfl ⟨rfl,rfl,rfl,rfl,rfl⟩ rfl rfl rfl rfl rfl (by kernel_rfl) func5 (by kernel_rfl)
  (wj (by kernel_rfl)) (by unfold Func.isWrapper;first | (rw[zv (by decide +kernel)];kernel_rfl) | (rw[zq (by decide +kernel)];exact⟨rfl,rfl⟩))
  (fun os a H b _=>kQ os a H b)
