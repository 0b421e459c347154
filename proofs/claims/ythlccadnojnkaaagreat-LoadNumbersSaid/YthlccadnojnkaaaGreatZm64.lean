import Derived.Test.YthlccadnojnkaaaGreatZn63
import Derived.Test.YthlccadnojnkaaaGreatZn48
set_option maxHeartbeats 8000000
set_option maxRecDepth 100000
namespace Go.Proofs.YthlccadnojnkaaaGreat
open Go.Proofs.Tryz
open Go Go.RowKit Go.Proofs Co Co.S Par
def kt(w:World)(d:Nat)(L:List PT):Prop:=∃st O,Dd w d (pre 4) st O/\st.map (·.2)=L
section
variable {W w w' W0:World}{d b m:Nat}{ps:List Nat}{L:List PT}{K:Nat->Prop}{D:World->List PT->(Nat->Nat)->Prop}
theorem kt.later(h:kt W d L)(hb:Below W.heap.size W w):kt w d L:=by
 obtain⟨a,O,b,c⟩:=h;exact⟨a,O,b.later hb,c⟩
theorem PX.Ac(h:PX (DA d (pre 4) ps) K W0 w L):kt w d L:=by
 obtain⟨_,O,⟨a,b,_,c⟩,_⟩:=h;exact⟨a,O,b,c⟩
theorem PX.I9{S:Nat->Prop}(h:PX (DA d (pre 4) ps) K W0 w L)(hT:Tn S w w')(hS:∀q,S q->K q):kt w' d L:=by
 obtain⟨_,O,⟨a,b,_,c⟩,e,_⟩:=h;exact⟨a,O,b.tn hT (fun q f=>(e q (hS q f)).2),c⟩
theorem yU{G:Nat}{cs:Array Value}(k:w.heap[G]?=some (.cells cs 39))(hg:w.grownBy w' (some G)):Tn (fun q=>q=G) w w':=Tn.bq ⟨hg.os,hg.tape,hg.output,hg.size,fun q a b=>hg.block q a (fun e=>b (by cases e;rfl))⟩ (fun q _ a=>by
  rw[a];exact .inl ⟨_,39,k,rfl⟩)
theorem PX.put(h:PX D K W0 w L){G:Nat}{cs:Array Value}(hK:K G)(k:w.heap[G]?=some (.cells cs 39))(hg:w.grownBy w' (some G)):PX D (fun q=>K q/\q≠G) W0 w' L:=by
 have hT:=yU k hg;obtain⟨c,O,e,d,f⟩:=h;exact⟨c,O,c.tn e hT (fun q a=>by rw[a];exact(d G hK).2),fun q a=>d q a.1,f.trans hT (fun q _ a b=>a b.1) (fun q _ a b=>b.2 a)⟩
theorem kt.copy(h:kt W d L)(hs:∀x∈L,dw m x)(hm:m<=590):Calls prog 57 #[.pointer (some ⟨d,0,none⟩)] W fun e w'=>∃a,e=.returned (.pointer (some ⟨a,0,none⟩))/\(∃ps,PX (DA a (pre 4) ps) (fun q=>q<W.heap.size) w' w' L)/\Below W.heap.size W w':=by
 obtain⟨v,O,j,g⟩:=h;refine(pS j (bQ 4) aO Dp (fun t k=>(cL t k).1) (fun s b=>?_) (by decide)).mono ?_
 ·have l:s.2∈L:=by rw[<-g];exact uq b
  have:=(hs _ l).1
  omega
 rintro e w'⟨a,c,n,rfl,o,p,r,i⟩;exact⟨a,rfl,⟨_,C1,n,⟨c,o,rfl,p.trans g⟩,fun q f=>⟨z9 f i.size,Classical.byContradiction fun u=>by have:=r q u;have f:q<W.heap.size:=f;omega⟩,Tn.refl _ _⟩,i⟩
abbrev Dr(c:Int×ByteArray×Int×ByteArray)(n:Int):Value:=bj c.1 n c.2.1 c.2.2.1 c.2.2.2
theorem kt.check(h:kt w d L)(hm:∀x∈L,dw m x)(hm3:m<=1000):Calls prog 18 #[.pointer (some ⟨d,0,none⟩)] w fun e w'=>e=.returned (Dr (au (pre 4) (L.map (·.2))) 0)/\Below w.heap.size w w':=by
 obtain⟨a,O,b,rfl⟩:=h;have e:(a.map (·.2)).map (·.2)=rowsOf a:=(by rw[List.map_map];rfl);rw[e];refine qA b bE (fun s c=>?_)
 have:=hm _ (List.mem_map.2 ⟨s,c,rfl⟩)
 unfold dw at this;omega
end
def dn(L:List PT)(ops:List cx):Int×Int×ByteArray×Int×ByteArray:=
 if (ak (pre 4) L ops).err=0 then
  if (au (pre 4) ((ak (pre 4) L ops).rows.map (·.2))).1=0 then(0,0,e0,0,e0)else((au (pre 4) ((ak (pre 4) L ops).rows.map (·.2))).1,(ops.length:Int),(au (pre 4) ((ak (pre 4) L ops).rows.map (·.2))).2)
 else((ak (pre 4) L ops).err,(ak (pre 4) L ops).place,(ak (pre 4) L ops).tbl,0,e0)
abbrev Cl(x:Int×Int×ByteArray×Int×ByteArray):Value:=bj x.1 x.2.1 x.2.2.1 x.2.2.2.1 x.2.2.2.2
def mc(Has:World->Nat->List PT->Prop)(L:List PT)(ops:List cx)(W:World)(e:Ending)(w':World):Prop:=
 Below W.heap.size W w'/\(((dn L ops).1=0/\∃d2 p n c,e=.returned (.tuple #[.pointer (some ⟨d2,0,none⟩),.slice p n c,bj 0 0 e0 0 e0])/\n=(ak (pre 4) L ops).ids.length/\(∀w2,Tn (fun q=>q<W.heap.size) w' w2->Has w2 d2 (ak (pre 4) L ops).rows)/\Ro w' W.heap.size (.slice p n c) (ak (pre 4) L ops).ids) ∨
  ((dn L ops).1≠0/\e=.returned (.tuple #[.pointer none,.slice none 0 0,Cl (dn L ops)])))
section
variable {Has:World->Nat->List PT->Prop}{L:List PT}{ops:List cx}{W w':World}
theorem BU(hb:Below W.heap.size W w'){le:Int×Int×ByteArray×Int×ByteArray}(hle:dn L ops=le)(h:le.1≠0){v:Value}(hv:v=Cl le):mc Has L ops W (.returned (.tuple #[.pointer none,.slice none 0 0,v])) w':=by
 subst hle hv;exact⟨hb,.inr ⟨h,rfl⟩⟩
theorem DY(hb:Below W.heap.size W w'){le:Int×Int×ByteArray×Int×ByteArray}(hle:dn L ops=le)(h:le.1=0){R:List PT}{I:List Int}{er pl:Int}{tb:ByteArray}(hout:ak (pre 4) L ops=⟨R,I,er,pl,tb⟩){d2 c:Nat}{p:Option Addr}(h1:∀a,Tn (fun q=>q<W.heap.size) w' a->Has a d2 R)(h2:Ro w' W.heap.size (.slice p I.length c) I):mc Has L ops W (.returned (.tuple #[.pointer (some ⟨d2,0,none⟩),.slice p I.length c,bj 0 0 e0 0 e0])) w':=by
 subst hle;refine⟨hb,.inl ⟨h,d2,p,_,c,rfl,?_⟩⟩;rw[hout];exact⟨rfl,h1,h2⟩
theorem vL{R:List PT}{I:List Int}{er pl:Int}{tb:ByteArray}(hout:ak (pre 4) L ops=⟨R,I,er,pl,tb⟩)(h:er≠0):dn L ops=(er,pl,tb,0,e0):=by
 unfold dn;rw[hout];exact zq h
theorem vM{R:List PT}{I:List Int}{pl:Int}{tb:ByteArray}(hout:ak (pre 4) L ops=⟨R,I,0,pl,tb⟩){c1 c3:Int}{c2 c4:ByteArray}(hc:au (pre 4) (R.map (·.2))=(c1,c2,c3,c4)):dn L ops=if c1=0 then(0,0,e0,0,e0)else(c1,(ops.length:Int),c2,c3,c4):=by
 unfold dn;rw[hout];dsimp only;rw[hc,zv rfl]
end
theorem bN{W:World}{d m:Nat}{L:List PT}{tv:Value}{ops:List cx}(h:kt W d L)(ho:ga (fun q=>q<W.heap.size) W tv ops)(hs:∀x∈L,dw m x)(hm:m+ops.length<=590)(hops:∀o∈ops,ir o):Calls prog 24 #[.pointer (some ⟨d,0,none⟩),tv] W (mc kt L ops W):=by
 obtain⟨p,c0,rfl⟩:=ho.sl;obtain⟨n,hn⟩:=ag ops.length;have H:=aD W (.cells zF 39);have k1:=z7 W (.cells zF 39);obtain⟨w1,Q⟩:=ag (W.alloc (.cells zF 39));obtain⟨F,hF⟩:=ag W.heap.size;rw[Q]at H k1;rw[hF]at k1;have u:=(h.later H).copy hs (by omega);have J:=eV (ts:=pre 4) (l:=ops) hs;obtain⟨⟨R,I,S,pl,tb⟩,y⟩:∃b3,ak (pre 4) L ops=b3:=⟨_,rfl⟩;obtain⟨⟨c1,c2,c3,c4⟩,a⟩:∃c,au (pre 4) (R.map (·.2))=c:=⟨_,rfl⟩;rw[y]at J;dsimp only at J;have f:=aa (ab ho (ab hs (ab hm (ab hops (ab y (ab hn (ab J a)))))));have t:=aa (ab H (ab k1 (ab Q hF)));rw[hn];clear h ho hs hm hops y hn J a H k1 Q hF;go_enter func24,ntmps24;go_upto_region 1 with fail;rw[t.2.2.1,t.2.2.2];go_upto_region 2 with (go_at_call 57;refine u.mono ?_;rintro e w2⟨d2,rfl,⟨ps,a9⟩,b0⟩;have H2:=aa (ab a9 b0);clear u a9 b0);have O:=aB t.1 H2.2;have b1:=f.1.move (Kx:=fun q=>q<w1.heap.size) (wx:=w2) (fun q z=>z9 z t.1.size) (fun q z=>O.block q z);have b2:=f.2.2.1;have M:=vI H2.1 b1 (bQ 4) aO cL f.2.1 b2 f.2.2.2.1;rw[f.2.2.2.2.1,f.2.2.2.2.2.1]at M;dsimp only at M;clear O b1 b2;go_upto_region 3 with (go_at_call 58;refine M.mono ?_;rintro e k⟨c5,Kx,rfl,a1,a2,a3,a4,a5⟩;obtain⟨pi,ci,rfl,_,_⟩:=ac.isslice a2;have N:=aa (ab a4 (ab (a5.bel H2.2 (fun q z=>z)) (ab a2 a1)));clear M a1 a2 a3 a4 a5);have b4:=aD k (.cells #[.int .i64 S,.int .i64 pl,.string tb,.int .i64 0,.string e0] 39);have k4:=z7 k (.cells #[.int .i64 S,.int .i64 pl,.string tb,.int .i64 0,.string e0] 39);obtain⟨w4,U⟩:=ag (k.alloc (.cells #[.int .i64 S,.int .i64 pl,.string tb,.int .i64 0,.string e0] 39));obtain⟨G,hG⟩:=ag k.heap.size;rw[U]at b4 k4;rw[hG]at k4
 try rw[U]
 try rw[hG]
 have r:=aa (ab b4 (ab k4 hG));have b5:F<w1.heap.size:=aC t.2.1
 have V:Hid (∀(w s:World) (v0 v1 v2 v3 v4:Value),Below k.heap.size k w->((((w.setCell ⟨F,0,none⟩ v0).setCell ⟨F,1,none⟩ v1).setCell ⟨F,2,none⟩ v2).setCell ⟨F,3,none⟩ v3).setCell ⟨F,4,none⟩ v4=s ->
   (s.cell? ⟨F,0,none⟩=some v0/\s.cell? ⟨F,1,none⟩=some v1/\s.cell? ⟨F,2,none⟩=some v2/\s.cell? ⟨F,3,none⟩=some v3/\s.cell? ⟨F,4,none⟩=some v4)/\Below W.heap.size W s/\(∀w2,Tn (fun q=>q<W.heap.size) s w2->kt w2 d2 R)/\Ro s W.heap.size (.slice pi I.length ci) I):=aa (by
  rintro w s v0 v1 v2 v3 v4 A rfl;have b8:=aB (aB t.1 N.2.1) A;have hr:=aE (aB N.2.1 A) t.2.1;have h5:=gS hr v0 v1 v2 v3 v4;have hg:=aW w F v0 v1 v2 v3 v4;have b9:=(N.1.with A).put (G:=F) (.inl (N.2.2.2 F b5)) hr hg;refine⟨⟨aA h5 0,aA h5 1,aA h5 2,aA h5 3,aA h5 4⟩,aT b8 (zm _) hg (xy t.2.2.2),fun w2 hT=>b9.I9 hT (fun q z=>⟨.inl (N.2.2.2 q (z9 z t.1.size)),fun e=>by have h1:=t.2.2.2;have z:q<W.heap.size:=z;omega⟩),((N.2.2.1.later A).of (fun q z=>?_)).mono (zw t.1.size H2.2.size)⟩;have hl:=ac.lt N.2.2.1 q z;have c6:=H2.2.size;exact hg.block q (z9 hl.2 A.size) (fun e=>by cases e;omega))
 have X:Hid (∀w,Below k.heap.size k w->w.heap[F]?=some (.cells zF 39)):=aa (fun w A=>aE (aB N.2.1 A) t.2.1);clear b4 k4 U hG;have E:=aA r.2.1 0;have yl:=aC r.2.1;by_cases he:S=0
 ·subst he;go_upto_region 5 with fail;have Y:=((N.1.Ac).later r.1).check (m:=m+n) (by rw[<-f.2.2.2.2.2.1];exact f.2.2.2.2.2.2.1) (by have:=f.2.2.1;rw[f.2.2.2.2.2.1]at this;omega);rw[f.2.2.2.2.2.2.2]at Y;clear E yl;have FG:Hid (∀w,Below w4.heap.size w4 w->w.heap[G]?=some (.cells #[.int .i64 0,.int .i64 pl,.string tb,.int .i64 0,.string e0] 39)):=aa (fun w A=>aE A r.2.1);go_upto_region 6 with (go_at_call 18;refine Y.mono ?_;rintro e w5⟨rfl,Z⟩;have H5:=aa Z;have kg:=FG.out w5 Z;have z0:=aA kg 0;have z1:=aA kg 1;have z2:=aA kg 2;have a0:=aA kg 3;have z4:=aA kg 4;have zf:=fun i=>zo w5 G i _ _ kg;have zl:=aC kg;clear Y Z kg);clear z0 z1 z2 a0 z4 zf zl;have k6:=gS (FG.out w5 H5.out) (.int .i64 c1) (.int .i64 0) (.string c2) (.int .i64 c3) (.string c4);have b6:Below k.heap.size k _:=aT (aB r.1 H5.out) (zm _) (aW w5 G (.int .i64 c1) (.int .i64 0) (.string c2) (.int .i64 c3) (.string c4)) (xy r.2.2);obtain⟨w6,a6⟩:=ag (((((w5.setCell ⟨G,0,none⟩ (.int .i64 c1)).setCell ⟨G,1,none⟩ (.int .i64 0)).setCell ⟨G,2,none⟩ (.string c2)).setCell ⟨G,3,none⟩ (.int .i64 c3)).setCell ⟨G,4,none⟩ (.string c4));rw[a6]at k6 b6;rw[a6];have H6:=aa (ab k6 b6);have E:=aA k6 0;have yl:=aC k6;clear k6 b6 a6;have g:=vM f.2.2.2.2.1 f.2.2.2.2.2.2.2;rw[f.2.2.2.2.2.1]at g;by_cases a:c1=0
  ·subst a;rw[zv rfl]at g;have HL:=aa g;have a:=X.out w6 H6.2;have x0:=aA a 0;have x1:=aA a 1;have x2:=aA a 2;have x3:=aA a 3;have x4:=aA a 4;have xf:=(fun i=>zo w6 F i _ _ a);have xl:=aC a;clear a g;go_wp2_with fail;generalize B:((((World.setCell _ _ _).setCell _ _).setCell _ _).setCell _ _).setCell _ _=s;obtain⟨⟨E,y1,y2,y3,y4⟩,q1,q2,q3⟩:=V.out _ _ _ _ _ _ _ H6.2 B;refine ya (v:=.tuple #[.pointer (some ⟨d2,0,none⟩),.slice pi I.length ci,bj 0 0 e0 0 e0]) (by simp[results,results24,go_sem,E,y1,y2,y3,y4]) rfl ?_;exact DY q1 HL.out rfl f.2.2.2.2.1 q2 q3
  rw[zq a]at g;have HL:=aa (ab g a);have A:(c1 != 0)=true:=(by simp[a]);clear a g;have yf:=(fun i=>zo w6 G i _ _ H6.1);have y1:=aA H6.1 1;go_upto_region 8 with fail;clear E y1 yl yf;have k7:=y9 w6 G 1 #[.int .i64 c1,.int .i64 0,.string c2,.int .i64 c3,.string c4] 39 (.int .i64 (n:Int)) H6.1;have k7:(w6.setCell ⟨G,1,none⟩ (.int .i64 (n:Int))).heap[G]?=some (.cells #[.int .i64 c1,.int .i64 (n:Int),.string c2,.int .i64 c3,.string c4] 39):=k7;have b7:Below k.heap.size k _:=aT H6.2 (zm _) (aP (cK w6 (some G)) 1 (.int .i64 (n:Int))) (xy r.2.2);obtain⟨w7,a7⟩:=ag (w6.setCell ⟨G,1,none⟩ (.int .i64 (n:Int)));rw[a7]at k7 b7;rw[a7];have P:=aa (ab k7 b7);clear k7 b7 a7;refine ae 3 [bj c1 (n:Int) c2 c3 c4,.pointer none,.slice none 0 0] (fun w=>Below w7.heap.size w7 w) ?A1 ?hm1 ?hB1 ?hA1 (aF w7) ?hop1 ?hT1
  case hm1=>kernel_rfl
  case hB1=>kernel_rfl
  case hA1 =>
   simp only[am,ai,Act.put,cy,db,bt,cp,dc,da,bu,eg,ed];rfl
  case hop1 =>
   simp only[ce,ze,ah,yu];and_intros<;>intro w' b<;>have HR:=aa b
   have zl:=aC (aE b P.1);have z0:=aA (aE b P.1) 0;have z1:=aA (aE b P.1) 1;have z2:=aA (aE b P.1) 2;have a0:=aA (aE b P.1) 3;have z4:=aA (aE b P.1) 4;rotate_left 3
   all_goals(clear b;simp only[Par.Gives];go_simp;all_goals exact HR.out)
  intro w' b;simp only[cw,ym];have j:Below k.heap.size k w':=P.2.trans (b.mono P.2.size);have a:=X.out w' j;have x0:=aA a 0;have x1:=aA a 1;have x2:=aA a 2;have x3:=aA a 3;have x4:=aA a 4;have xf:=(fun i=>zo w' F i _ _ a);have xl:=aC a;have a8:=aa j;clear b j a;go_wp2_with fail;generalize B:((((World.setCell _ _ _).setCell _ _).setCell _ _).setCell _ _).setCell _ _=s;obtain⟨⟨E,y1,y2,y3,y4⟩,q1,_⟩:=V.out _ _ _ _ _ _ _ a8.out B;refine ya (v:=.tuple #[.pointer none,.slice none 0 0,bj c1 (n:Int) c2 c3 c4]) (by simp[results,results24,go_sem,E,y1,y2,y3,y4]) rfl ?_;exact BU q1 HL.1 HL.2 rfl
 have A:(S != 0)=true:=(by simp[he]);have HL:=aa (ab (vL f.2.2.2.2.1 he) he);clear he;go_upto_region 4 with fail;clear E yl;refine ae 3 [bj S pl tb 0 e0,.pointer none,.slice none 0 0] (fun w=>Below w4.heap.size w4 w) ?A2 ?hm2 ?hB2 ?hA2 (aF w4) ?hop2 ?hT2
 case hm2=>kernel_rfl
 case hB2=>kernel_rfl
 case hA2 =>
  simp only[am,ai,Act.put,cy,db,bt,cp,dc,da,bu,eg,ed];rfl
 case hop2 =>
  simp only[ce,ze,ah,yu];and_intros<;>intro w' b<;>have HR:=aa b
  have zl:=aC (aE b r.2.1);have z0:=aA (aE b r.2.1) 0;have z1:=aA (aE b r.2.1) 1;have z2:=aA (aE b r.2.1) 2;have a0:=aA (aE b r.2.1) 3;have z4:=aA (aE b r.2.1) 4;rotate_left 3
  all_goals(clear b;simp only[Par.Gives];go_simp;all_goals exact HR.out)
 intro w' b;simp only[cw,ym];have j:=aB r.1 b;have a:=X.out w' j;have x0:=aA a 0;have x1:=aA a 1;have x2:=aA a 2;have x3:=aA a 3;have x4:=aA a 4;have xf:=(fun i=>zo w' F i _ _ a);have xl:=aC a;have a8:=aa j;clear b j a;go_wp2_with fail;generalize B:((((World.setCell _ _ _).setCell _ _).setCell _ _).setCell _ _).setCell _ _=s;obtain⟨⟨E,y1,y2,y3,y4⟩,q1,_⟩:=V.out _ _ _ _ _ _ _ a8.out B;refine ya (v:=.tuple #[.pointer none,.slice none 0 0,bj S pl tb 0 e0]) (by simp[results,results24,go_sem,E,y1,y2,y3,y4]) rfl ?_;exact BU q1 HL.1 HL.2 rfl
theorem dN(n:Int)(W:World):Calls prog 27 #[.int .i64 n] W fun e w'=>e=.returned (.agg #[.int .i64 1,.int .i64 n,.string e0])/\Below W.heap.size W w':=by
 have b:=aD W (.cells #[.int .i64 0,.int .i64 0,.string e0] 32);have a:=z7 W (.cells #[.int .i64 0,.int .i64 0,.string e0] 32);obtain⟨k,c⟩:=ag (W.alloc (.cells #[.int .i64 0,.int .i64 0,.string e0] 32));obtain⟨B,h⟩:=ag W.heap.size;rw[c]at b a;rw[h]at a;have p:=aA a 0;have q:=aA a 1;have r:=aA a 2;have s:=(fun i=>zo k B i _ _ a);have t:=aC a;have d:=aa (ab c (ab h (ab b a)));clear c h b a;go_enter func27,ntmps27;go_upto_region 1 with fail;rw[d.1,d.2.1];go_wp2_with fail;generalize j:((World.setCell _ _ _).setCell _ _).setCell _ _=wz;have g:=jT d.2.2.2 (.int .i64 1) (.int .i64 n) (.string e0);have f:=bL d.2.2.1 (xy d.2.1) (.int .i64 1) (.int .i64 n) (.string e0);rw[j]at g f;have l:=aA g 0;have m:=aA g 1;have o:=aA g 2;refine ya (v:=(.agg #[.int .i64 1,.int .i64 n,.string e0])) (by simp[results,results27,go_sem,l,m,o]) rfl ?_;exact⟨rfl,f⟩
theorem oJ(s:ByteArray)(W:World):Calls prog 28 #[.string s] W fun e w'=>e=.returned (.agg #[.int .i64 2,.int .i64 0,.string s])/\Below W.heap.size W w':=by
 have b:=aD W (.cells #[.int .i64 0,.int .i64 0,.string e0] 32);have a:=z7 W (.cells #[.int .i64 0,.int .i64 0,.string e0] 32);obtain⟨k,c⟩:=ag (W.alloc (.cells #[.int .i64 0,.int .i64 0,.string e0] 32));obtain⟨B,h⟩:=ag W.heap.size;rw[c]at b a;rw[h]at a;have o:=aA a 0;have p:=aA a 1;have q:=aA a 2;have r:=(fun i=>zo k B i _ _ a);have t:=aC a;have d:=aa (ab c (ab h (ab b a)));clear c h b a;go_enter func28,ntmps28;go_upto_region 1 with fail;rw[d.1,d.2.1];go_wp2_with fail;generalize j:((World.setCell _ _ _).setCell _ _).setCell _ _=wz;have g:=jT d.2.2.2 (.int .i64 2) (.int .i64 0) (.string s);have f:=bL d.2.2.1 (xy d.2.1) (.int .i64 2) (.int .i64 0) (.string s);rw[j]at g f;have l:=aA g 0;have m:=aA g 1;have n:=aA g 2;refine ya (v:=(.agg #[.int .i64 2,.int .i64 0,.string s])) (by simp[results,results28,go_sem,l,m,n]) rfl ?_;exact⟨rfl,f⟩section
variable {W:World}{d:Nat}{L:List PT}
theorem PD.Ac{K:Nat->Prop}{W0 w:World}{b:Nat}{ps:List Nat}{L1 L2:List PT}(h:PD K W0 w d b (pre 4) ps L1 L2):kt w d L1:=by
 obtain⟨a,O,c,_,e⟩:=h.dd;exact⟨a,O,c,e⟩
theorem kt.tab(h:kt W d L){j:Nat}(hj:j<4){nm:ByteArray}(hnm:((pre 4)[j]'hj).nm=nm){x:PT}(hx:L[j]?=some x):∃tb,(∀w,Below W.heap.size W w->Calls prog 29 #[.pointer (some ⟨d,0,none⟩),.string nm] w fun e w'=>e=.returned (.pointer (some ⟨tb,0,none⟩))/\w'=w)/\(∀w,Below W.heap.size W w->Calls prog 52 #[.pointer (some ⟨tb,0,none⟩)] w fun e w'=>∃p n c,e=.returned (.agg #[.slice p n c])/\Below w.heap.size w w'/\Calls prog 53 #[.agg #[.slice p n c]] w' fun e l=>e=.returned (.int .i64 (x.2.length:Int))/\Below w'.heap.size w' l)/\(∀w,Below W.heap.size W w->Calls prog 30 #[.pointer (some ⟨tb,0,none⟩)] w fun e w'=>e=.returned (.int .i64 (x.1:Int))/\w'=w):=by
 obtain⟨g,O,k,m⟩:=h;have b:j<(pre 4).length:=hj;have a:j<g.length:=by rw[k.len];exact hj
 have e:g[j].2=x:=by
  rw[<-m,xm,z6 a]at hx;exact Option.some.inj hx
 obtain⟨o,hT,_⟩:=k.tab j b a;subst e hnm;refine⟨g[j].1,fun w f=>(k.later f).table b (aO _ (z8 _)) a,fun w f=>?_,fun w f=>qZ (hT.later f)⟩;refine(fD (hT.later f)).mono ?_;rintro e w'⟨p,n,c,rfl,q,r⟩;obtain⟨i,_,s⟩:=hT;exact⟨p,n,c,rfl,r,kL q s.srt⟩
end
section
variable {Has:World->Nat->List PT->Prop}{L R:List PT}{I:List Int}{ops:List cx}{W w':World}{e:Ending}{n:Nat}
theorem cF(h:mc Has L ops W e w')(h0:(dn L ops).1=0)(hR:(ak (pre 4) L ops).rows=R)(hI:(ak (pre 4) L ops).ids=I)(hn:I.length=n):∃a p c,e=.returned (.tuple #[.pointer (some ⟨a,0,none⟩),.slice p n c,bj 0 0 e0 0 e0])/\Has w' a R/\Ro w' W.heap.size (.slice p n c) I/\Below W.heap.size W w':=by
 subst hn hI hR;obtain⟨d,⟨_,a,p,n,c,rfl,rfl,b,f⟩ | ⟨b,_⟩⟩:=h
 ·exact⟨a,p,c,rfl,b _ (Tn.refl _ _),f,d⟩
 exact absurd h0 b
theorem vN(h:mc Has L ops W e w')(h0:(dn L ops).1=0)(hR:(ak (pre 4) L ops).rows=R)(hI:(ak (pre 4) L ops).ids=I)(hn:I.length=n):∃a p c,e=.returned (.tuple #[.pointer (some ⟨a,0,none⟩),.slice p n c,bj 0 0 e0 0 e0])/\(∀d,Tn (fun q=>q<W.heap.size) w' d->Has d a R)/\Ro w' W.heap.size (.slice p n c) I/\Below W.heap.size W w':=by
 subst hn hI hR;obtain⟨f,⟨_,a,p,n,c,rfl,rfl,b,g⟩ | ⟨b,_⟩⟩:=h
 ·exact⟨a,p,c,rfl,b,g,f⟩
 exact absurd h0 b
theorem dF(h:mc Has L ops W e w'){le:Int×Int×ByteArray×Int×ByteArray}(hle:dn L ops=le)(h0:le.1≠0):e=.returned (.tuple #[.pointer none,.slice none 0 0,Cl le])/\Below W.heap.size W w':=by
 subst hle;obtain⟨a,⟨b,_⟩ | ⟨_,rfl⟩⟩:=h
 ·exact absurd b h0
 exact⟨rfl,a⟩
end
theorem ga.later{W w:World}{tv:Value}{L:List cx}(h:ga (fun q=>q<W.heap.size) W tv L)(hb:Below W.heap.size W w):ga (fun q=>q<w.heap.size) w tv L:=h.move (fun _ a=>z9 a hb.size) (fun q a=>hb.block q a)
theorem vO(W:World):Calls prog 50 #[] W fun e w'=>e=.returned (.bool true)/\Below W.heap.size W w':=by
 have h:=vK W;go_enter func50,ntmps50;go_wp2_with (go_at_call 88;refine h.mono ?_;rintro e w'⟨rfl,a⟩);go_ret;exact⟨rfl,a⟩
theorem vP(W:World):Calls prog 51 #[] W fun e w'=>e=.returned (.bool true)/\Below W.heap.size W w':=by
 have h:=cY W;go_enter func51,ntmps51;go_wp2_with (go_at_call 12;refine h.mono ?_;rintro e w'⟨rfl,a⟩);go_ret;exact⟨rfl,a⟩
abbrev Bg:Array Value:=#[.int .i64 1,.int .i64 1,.string e0,.int .i64 2,.int .i64 0,.string bx,.int .i64 0,.int .i64 0,.string e0,.int .i64 1,.int .i64 9,.string e0]
abbrev t6:Array Value:=#[.int .i64 1,.int .i64 9,.string e0,.int .i64 0,.int .i64 0,.string e0]
abbrev Ap(g1 g2:Nat):Array Value:=#[.int .i64 1,.string ap,.int .i64 0,.string e0,.slice (some ⟨g1,0,none⟩) 4 4,.int .i64 1,.string an,.int .i64 0,.string e0,.slice (some ⟨g2,0,none⟩) 2 2]
abbrev lA:cx:=⟨1,ap,0,e0,[(1,1,e0),(2,0,bx),(0,0,e0),(1,9,e0)]⟩
abbrev lB:cx:=⟨1,an,0,e0,[(1,9,e0),(0,0,e0)]⟩
abbrev lR:List PT:=[(1,[(0,[(1,9,e0),(0,0,e0)])]),(1,[(0,[(1,1,e0),(2,0,bx),(0,0,e0),(1,9,e0)])]),(0,[]),(0,[])]
theorem Eb:dn Lz [lA,lB]=(0,0,e0,0,e0):=by kernel_rfl
theorem DH:(ak (pre 4) Lz [lA,lB]).rows=lR:=by kernel_rfl
theorem Ds:(ak (pre 4) Lz [lA,lB]).ids=[0,0]:=by kernel_rfl
theorem Ht:dn Lz [lA]=(9,1,ap,0,an):=by kernel_rfl
theorem BQ:ir lA:=cM (by decide) (by decide) (by decide) (by decide)
theorem Ct:ir lB:=cM (by decide) (by decide) (by decide) (by decide)
theorem Dx{w w5 w6:World}(h5:Below w.heap.size w w5)(h6:Below (w5.alloc (.cells Bg 32)).heap.size (w5.alloc (.cells Bg 32)) w6):Below w.heap.size w ((w6.alloc (.cells t6 32)).alloc (.cells (Ap w5.heap.size w6.heap.size) 29))/\ga (fun q=>q<((w6.alloc (.cells t6 32)).alloc (.cells (Ap w5.heap.size w6.heap.size) 29)).heap.size) ((w6.alloc (.cells t6 32)).alloc (.cells (Ap w5.heap.size w6.heap.size) 29)) (.slice (some ⟨w6.heap.size+1,0,none⟩) 2 2) [lA,lB]/\((w6.alloc (.cells t6 32)).alloc (.cells (Ap w5.heap.size w6.heap.size) 29)).heap[w6.heap.size+1]?=some (.cells (Ap w5.heap.size w6.heap.size) 29)/\ac ((w6.alloc (.cells t6 32)).alloc (.cells (Ap w5.heap.size w6.heap.size) 29)) w.heap.size 32 3 (.slice (some ⟨w5.heap.size,0,none⟩) 4 4) 4 (cells3 lA.vals)/\ac ((w6.alloc (.cells t6 32)).alloc (.cells (Ap w5.heap.size w6.heap.size) 29)) w.heap.size 32 3 (.slice (some ⟨w6.heap.size,0,none⟩) 2 2) 2 (cells3 lB.vals):=by
 have g:=aB h5 (aD w5 (.cells Bg 32));have a:=z7 w5 (.cells Bg 32);have e:=aB g h6;have a:=aE h6 a;have f:=aD w6 (.cells t6 32);have b:=z7 w6 (.cells t6 32);have c:=aD (w6.alloc (.cells t6 32)) (.cells (Ap w5.heap.size w6.heap.size) 29);have d:=z7 (w6.alloc (.cells t6 32)) (.cells (Ap w5.heap.size w6.heap.size) 29);have a:=aE c (aE f a);have b:=aE c b;have h:(w6.alloc (.cells t6 32)).heap.size=w6.heap.size+1:=zj _ _;have l3:=h5.size;have l4:=e.size;rw[h]at d;refine⟨aB (aB e f) c,ga.of (base:=w.heap.size) (fJ (v1:=.slice (some ⟨w5.heap.size,0,none⟩) 4 4) (v2:=.slice (some ⟨w6.heap.size,0,none⟩) 2 2) d rfl (by omega) ?_ ?_) (fun q _ i=>i),d,?_,?_⟩
 ·exact ac.lit a rfl rfl l3 (by unfold maxLen;decide)
 ·exact ac.lit b rfl rfl l4 (by unfold maxLen;decide)
 ·exact ac.lit a rfl rfl l3 (by unfold maxLen;decide)
 exact ac.lit b rfl rfl l4 (by unfold maxLen;decide)
theorem eI(W:World):Calls prog 21 #[] W fun e w'=>e=.returned (.bool true)/\Below W.heap.size W w':=by
 have r:=cP W;go_enter func21,ntmps21;go_upto_region 2 with (go_at_call 13;refine r.mono ?_;rintro e w1⟨d,b,ps,rfl,hP⟩;have P:=aa (ab hP.Ac (hP.bel (zb _ _) (fun q hq=>hq)));clear r hP);obtain⟨tb,ht,_,_⟩:=P.1.tab (j:=0) (by decide) (nm:=an) rfl (x:=(0,[])) rfl;have S:=ht w1 (zb _ _);clear ht;go_upto_region 4 with (go_at_call 29;refine S.mono ?_;rintro e n⟨rfl,hw⟩;subst n;clear S);have U:=dN 1 w1
 go_upto_region 5 with (first|(go_at_call 27;(with_reducible refine U.mono ?_);rintro e n⟨rfl,V⟩;have H2:=aa V;have X:=oJ bx n;clear U V)|(go_at_call 28;refine X.mono ?_;rintro e w3⟨rfl,Y⟩;have H3:=aa (aB H2.out Y);have Z:=dN 9 w3;clear X Y)|(go_at_call 27;(with_reducible refine Z.mono ?_);rintro e w4⟨rfl,a0⟩;have H4:=aa (aB H3.out a0);have a1:=dN 9 (w4.alloc (.cells Bg 32));clear Z a0)|(go_at_call 27;(with_reducible refine a1.mono ?_);rintro e w6⟨rfl,a2⟩;have H6:=aa a2;clear a1 a2))
 obtain⟨E,u,_⟩:=Dx H4.out H6.out;obtain⟨wO,F⟩:=ag ((w6.alloc (.cells t6 32)).alloc (.cells (Ap w4.heap.size w6.heap.size) 29));obtain⟨g,hg⟩:=ag (w6.heap.size+1);rw[F]at E u;rw[hg]at u
 try rw[F]
 try rw[hg]
 have Q:=aa (ab E u);clear E u F hg
 have i:Calls prog 24 #[.pointer (some ⟨d,0,none⟩),.slice (some ⟨g,0,none⟩) 2 2] wO fun e w'=>∃d2 p c,e=.returned (.tuple #[.pointer (some ⟨d2,0,none⟩),.slice p 2 c,bj 0 0 e0 0 e0])/\kt w' d2 lR/\Ro w' wO.heap.size (.slice p 2 c) [0,0]/\Below wO.heap.size wO w':=
  (bN (P.1.later Q.1) Q.2 cD (by decide) (fun o ho=>by rcases List.mem_cons.1 ho with rfl|ho;exact BQ;rw[List.mem_singleton.1 ho];exact Ct)).mono (fun e w' h=>cF h (by rw[Eb]) DH Ds rfl)
 go_upto_region 6 with (go_at_call 24;refine i.mono ?_;rintro e w7⟨x,p1,c1,rfl,hX,_,a3⟩;have H7:=aa (ab hX a3);clear i hX a3);have b8:=aD w7 (.cells zF 39);have k8:=z7 w7 (.cells zF 39);obtain⟨w8,G⟩:=ag (w7.alloc (.cells zF 39));obtain⟨F1,H⟩:=ag w7.heap.size;rw[G]at b8 k8;rw[H]at k8
 try rw[G]
 try rw[H]
 have R:=aa (ab (aB H7.2 b8) (ab k8 (H7.1.later b8)));clear b8 k8 G H;have w:ga (fun q=>q<w8.heap.size) w8 (.slice (some ⟨g,0,none⟩) 1 2) [lA]:=(Q.2.later R.1).part (c2:=2) 0 1 (by decide)
 have i:Calls prog 24 #[.pointer (some ⟨d,0,none⟩),.slice (some ⟨g,0,none⟩) 1 2] w8 fun e w'=>e=.returned (.tuple #[.pointer none,.slice none 0 0,bj 9 1 ap 0 an])/\Below w8.heap.size w8 w':=
  (bN ((P.1.later Q.1).later R.1) w cD (by decide) (fun o ho=>by rw[List.mem_singleton.1 ho];exact BQ)).mono (fun e w' h=>dF h Ht (by decide))
 clear w;go_upto_region 7 with (go_at_call 24;refine i.mono ?_;rintro e w9⟨rfl,a4⟩;have H9:=aa a4;clear i a4);have I:=aD w9 (.cells #[.int .i64 9,.int .i64 1,.string ap,.int .i64 0,.string an] 39);have v:=z7 w9 (.cells #[.int .i64 9,.int .i64 1,.string ap,.int .i64 0,.string an] 39);obtain⟨a5,s⟩:=ag (w9.alloc (.cells #[.int .i64 9,.int .i64 1,.string ap,.int .i64 0,.string an] 39));obtain⟨F2,J⟩:=ag w9.heap.size;rw[s]at I v;rw[J]at v
 try rw[s]
 try rw[J]
 have a:=aB H9.out I;have k:=aa (ab (aE a R.2.1) v);obtain⟨tx,a6,a7,_⟩:=(R.2.2.later a).tab (j:=1) (by decide) (nm:=ap) rfl (x:=(1,[(0,[(1,1,e0),(2,0,bx),(0,0,e0),(1,9,e0)])])) rfl;have L:=aB (aB Q.1 R.1) a;obtain⟨td,a8,i,_⟩:=(P.1.later L).tab (j:=1) (by decide) (nm:=ap) rfl (x:=(0,[])) rfl;have HT:=aa (ab a6 (ab a7 (ab a8 i)));have a9:=aa (aB P.2 L);clear I v s J a a6 a7 a8 i L R H9 Q H7 P H2 H3 H4 H6;have hx:=HT.1 a5 (zb _ _);go_upto_region 9 with (go_at_call 29;refine hx.mono ?_;rintro e n⟨rfl,hw⟩;subst n;clear hx);have y:=vO a5
 go_wp2_with (first|(go_at_call 50;refine y.mono ?_;rintro e b2⟨rfl,z⟩;have b3:=aa z;have A:=vP b2;clear y z)|(go_at_call 51;refine A.mono ?_;rintro e b0⟨rfl,B⟩;have f:=aa (aB b3.out B);have c0:=aA (aE f.out k.1) 0;have cl:=aC (aE f.out k.1);have f0:=aA (aE f.out k.2) 0;have f1:=aA (aE f.out k.2) 1;have f2:=aA (aE f.out k.2) 2;have f4:=aA (aE f.out k.2) 4;have fl:=aC (aE f.out k.2);have h1:=HT.2.2.1 b0 f.out;clear A B)|(go_at_call 29;(with_reducible refine h1.mono ?_);rintro e n⟨rfl,hw⟩;subst n;have h2:=HT.2.2.2 b0 f.out;clear h1)|(go_at_call 52;(with_reducible refine h2.mono ?_);rintro e M⟨pa,na,ca,rfl,t,l⟩;have l:Calls prog 53 #[.agg #[.slice pa na ca]] M fun e n=>e=.returned (.int .i64 0)/\Below M.heap.size M n:=l;have b4:=aa (aB f.out t);clear h2 t)|(go_at_call 53;(with_reducible refine l.mono ?_);rintro e b1⟨rfl,t⟩;have N:=aa (aB b4.out t);have h3:=HT.1 b1 N.out;clear l t)|(go_at_call 29;(with_reducible refine h3.mono ?_);rintro e n⟨rfl,hw⟩;subst n;have h4:=HT.2.1 b1 N.out;clear h3)|(go_at_call 52;(with_reducible refine h4.mono ?_);rintro e O⟨pb,nb,cb,rfl,t,m⟩;have m:Calls prog 53 #[.agg #[.slice pb nb cb]] O fun e n=>e=.returned (.int .i64 1)/\Below O.heap.size O n:=m;have b5:=aa (aB N.out t);clear h4 t)|(go_at_call 53;(with_reducible refine m.mono ?_);rintro e b7⟨rfl,t⟩;have b6:=aa (aB b5.out t);clear m t))
 go_ret;exact⟨rfl,aB a9.out b6.out⟩
