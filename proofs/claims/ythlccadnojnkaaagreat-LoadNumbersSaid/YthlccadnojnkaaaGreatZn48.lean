import Derived.Test.YthlccadnojnkaaaGreatZn47
set_option maxHeartbeats 8000000
set_option maxRecDepth 100000
namespace Go.Proofs.YthlccadnojnkaaaGreat
open Go.Proofs.Tryz
open Go Go.RowKit Go.Proofs Co Co.S Par
section
variable {K:Nat->Prop}{W0 w:World}{d b m:Nat}{ts:List T}{ps:List Nat}{L1 L2:List PT}
theorem PD.check(h:PD K W0 w d b ts ps L1 L2)(hok:sa ts)(hm:∀x∈L1,dw m x)(hm3:m<=1000):Calls prog 18 #[.pointer (some ⟨d,0,none⟩)] w fun e c=>e=.returned (bj (au ts (L1.map (·.2))).1 0 (au ts (L1.map (·.2))).2.1 (au ts (L1.map (·.2))).2.2.1 (au ts (L1.map (·.2))).2.2.2)/\Below w.heap.size w c:=by
 obtain⟨a,O,f,_,rfl⟩:=h.dd;have e:(a.map (·.2)).map (·.2)=rowsOf a:=(by rw[List.map_map];rfl);rw[e];refine qA f hok (fun s g=>?_)
 have:=hm _ (List.mem_map.2 ⟨s,g,rfl⟩)
 unfold dw at this;omega
theorem PD.ncheck(h:PD K W0 w d b ts ps L1 L2)(hok:sa ts)(hneg:∀t∈ts,gx t.cols e0<0)(h0t:0<ts.length)(hm:∀x∈L2,dw m x)(hm3:m<=1000):Calls prog 20 #[.pointer (some ⟨b,0,none⟩)] w fun e c=>e=.returned (bj (au ts (L2.map (·.2))).1 0 (au ts (L2.map (·.2))).2.1 (au ts (L2.map (·.2))).2.2.1 (au ts (L2.map (·.2))).2.2.2)/\Below w.heap.size w c:=by
 obtain⟨a,i,O,f,rfl⟩:=h.dbn;have e:(a.map bo).map (·.2)=lu a:=(by rw[List.map_map];rfl);rw[e];refine oB f hok hneg h0t (fun y g=>?_)
 have:=hm _ (List.mem_map.2 ⟨y,g,rfl⟩)
 unfold dw at this;have j:(bo y).2=y.A:=rfl;rw[j]at this;omega
end
def AE(t:T)(x:ByteArray):Bool:=decide (0<=gx t.cols x)
theorem rT{t:T}{x:ByteArray}(h:AE t x=true):re t x:=by
 have h:=wj h;rcases gE t.cols x with e|⟨j,a,e⟩
 ·omega
 exact⟨j,e,a⟩
def An(t:T):Bool:=(decide (t.key=e0) || AE t t.key)&&t.deps.all (fun d=>d.left.all (AE t)&&AE t d.right&&decide (d.left.length<=1000))&&decide (t.cols.length<=1000)&&decide (t.deps.length<=1000)
theorem EO{t:T}(h:An t=true):qd t:=by
 unfold An at h;simp only[zx,wm,wh,xp]at h;obtain⟨⟨⟨c,a⟩,e⟩,f⟩:=h;exact⟨c.imp id rT,fun d b=>⟨fun x g=>rT ((a d b).1.1 x g),rT (a d b).1.2,(a d b).2⟩,e,f⟩
theorem IF:((pre 4).all An)=true:=by kernel_rfl
theorem IU:((pre 4).all fun t=>(List.range t.cols.length).all fun c=>decide (gx t.cols (mx t c).nm=(c:Int)))=true:=by kernel_rfl
theorem EF:((List.range 4).all fun j=>decide (ky (pre 4) ((pre 4).getD j ⟨e0,[],e0,[]⟩).nm=(j:Int)))=true:=by kernel_rfl
theorem Ln:((pre 4).all fun t=>decide (gx t.cols e0<0))=true:=by kernel_rfl
theorem fS:∀t∈pre 4,gx t.cols e0<0:=fun t a=>wj (List.all_eq_true.1 Ln t a)
theorem bE:sa (pre 4) where
 inv:=cO 4 (by decide)
 few:=bQ 4
 sh:=aO
 n:=by decide
 form:=fun t a=>EO (List.all_eq_true.1 IF t a)
 pos:=fun t a=>(cL t a).1
 ix:=fun t a c d=>by
  have:=List.all_eq_true.1 (List.all_eq_true.1 IU t a) c (List.mem_range.2 d)
  rw[oA d]at this;exact wj this
 un:=fun j e=>by
  have b:j<4:=e
  have:=wj (List.all_eq_true.1 EF j (List.mem_range.2 b))
  rw[zu,z6 e,Option.getD_some]at this;rcases bZ (pre 4) (pre 4)[j].nm with ⟨f,_,_⟩ | ⟨k,h,f,_,g⟩
  ·omega
  ·obtain rfl:k=j:=(by omega);exact g
theorem aU(n:Int)(W:World):Calls prog 15 #[.int .i64 n] W fun e k=>e=.returned (.agg #[.int .i64 1,.int .i64 n,.string e0])/\Below W.heap.size W k:=by
 have b:=aD W (.cells #[.int .i64 0,.int .i64 0,.string e0] 32);have a:=z7 W (.cells #[.int .i64 0,.int .i64 0,.string e0] 32);obtain⟨w1,c⟩:=ag (W.alloc (.cells #[.int .i64 0,.int .i64 0,.string e0] 32));obtain⟨B,h⟩:=ag W.heap.size;rw[c]at b a;rw[h]at a;have p:=aA a 0;have q:=aA a 1;have r:=aA a 2;have s:=(fun i=>zo w1 B i _ _ a);have t:=aC a;have d:=aa (ab c (ab h (ab b a)));clear c h b a;go_enter func15,ntmps15;go_upto_region 1 with fail;rw[d.1,d.2.1];go_wp2_with fail;generalize j:((World.setCell _ _ _).setCell _ _).setCell _ _=wz;have g:=jT d.2.2.2 (.int .i64 1) (.int .i64 n) (.string e0);have f:=bL d.2.2.1 (xy d.2.1) (.int .i64 1) (.int .i64 n) (.string e0);rw[j]at g f;have l:=aA g 0;have m:=aA g 1;have o:=aA g 2;refine ya (v:=(.agg #[.int .i64 1,.int .i64 n,.string e0])) (by simp[results,results15,go_sem,l,m,o]) rfl ?_;exact⟨rfl,f⟩
theorem aX(s:ByteArray)(W:World):Calls prog 16 #[.string s] W fun e k=>e=.returned (.agg #[.int .i64 2,.int .i64 0,.string s])/\Below W.heap.size W k:=by
 have b:=aD W (.cells #[.int .i64 0,.int .i64 0,.string e0] 32);have a:=z7 W (.cells #[.int .i64 0,.int .i64 0,.string e0] 32);obtain⟨w1,c⟩:=ag (W.alloc (.cells #[.int .i64 0,.int .i64 0,.string e0] 32));obtain⟨B,h⟩:=ag W.heap.size;rw[c]at b a;rw[h]at a;have o:=aA a 0;have p:=aA a 1;have q:=aA a 2;have r:=(fun i=>zo w1 B i _ _ a);have t:=aC a;have d:=aa (ab c (ab h (ab b a)));clear c h b a;go_enter func16,ntmps16;go_upto_region 1 with fail;rw[d.1,d.2.1];go_wp2_with fail;generalize j:((World.setCell _ _ _).setCell _ _).setCell _ _=wz;have g:=jT d.2.2.2 (.int .i64 2) (.int .i64 0) (.string s);have f:=bL d.2.2.1 (xy d.2.1) (.int .i64 2) (.int .i64 0) (.string s);rw[j]at g f;have l:=aA g 0;have m:=aA g 1;have n:=aA g 2;refine ya (v:=(.agg #[.int .i64 2,.int .i64 0,.string s])) (by simp[results,results16,go_sem,l,m,n]) rfl ?_;exact⟨rfl,f⟩abbrev oF:Array Value:=#[.int .i64 0,.string e0,.int .i64 0,.string e0,.slice none 0 0]
abbrev Au(nm:ByteArray)(v:Value):Value:=.agg #[.int .i64 1,.string nm,.int .i64 0,.string e0,v]
theorem kM{S:Nat->Prop}{v:Value}{vals:List T3}(nm:ByteArray){W:World}(h:eb S W v vals)(h0:0<vals.length)(x:vals.length<=1000):Calls prog 14 #[.string nm,v] W fun e G=>∃g a,e=.returned (Au nm (.slice (some ⟨g,0,none⟩) vals.length a))/\ac G W.heap.size 32 3 (.slice (some ⟨g,0,none⟩) vals.length a) vals.length (cells3 vals)/\Below W.heap.size W G:=by
 have b:=aD W (.cells oF 29);have r:=z7 W (.cells oF 29);obtain⟨w1,k⟩:=ag (W.alloc (.cells oF 29));obtain⟨B,y⟩:=ag W.heap.size;rw[k]at b r;rw[y]at r;obtain⟨g,a,w2,d,w,l⟩:=mZ (h.later b) x h0;obtain⟨n,s⟩:=ag vals.length;rw[s]at d w;rw[s];have f:=aE l r;have N:=aA f 0;have O:=aA f 1;have P:=aA f 2;have Q:=aA f 3;have R:=aA f 4;have U:=(fun i=>zo w2 B i _ _ f);have V:=aC f
 have t:B≠g:=by
  have x:=(ac.lt w g rfl).1;have X:=aC r;omega
 have u:W.heap.size<=w1.heap.size:=b.size;obtain⟨p,c,rfl,_,_⟩:=h.slice;rw[s]at d;have j:=aa (ab k (ab y (ab f (ab (aB b l) (ab (w.mono u) t)))));rw[s];clear k y b r l w f h h0 x s t u;go_enter func14,ntmps14;go_upto_region 1 with fail;rw[j.1,j.2.1];go_wp2_with (at_builtin;refine aK rfl (.const (.slice none 0 0)) (.tmp 6) 27 rfl rfl rfl d ?_);generalize z:((((World.setCell _ _ _).setCell _ _).setCell _ _).setCell _ _).setCell _ _=wz;have o:=gS j.2.2.1 (.int .i64 1) (.string nm) (.int .i64 0) (.string e0) (.slice (some ⟨g,0,none⟩) n a);have m:=aW w2 B (.int .i64 1) (.string nm) (.int .i64 0) (.string e0) (.slice (some ⟨g,0,none⟩) n a);rw[z]at o m;have A:Below W.heap.size W wz:=aT j.2.2.2.1 (zm _) m (xy j.2.1)
 have E:ac wz W.heap.size 32 3 (.slice (some ⟨g,0,none⟩) n a) n (cells3 vals):=j.2.2.2.2.1.of (fun q F=>by
  have F:g=q:=(by simpa [Value.ownBlock]using F);subst F;exact m.block _ (ac.lt j.2.2.2.2.1 _ rfl).2 (fun e=>j.2.2.2.2.2 (Option.some.inj e).symm))
 have H:=aA o 0;have I:=aA o 1;have J:=aA o 2;have L:=aA o 3;have M:=aA o 4;refine ya (v:=Au nm (.slice (some ⟨g,0,none⟩) n a)) (by simp[results,results14,go_sem,H,I,J,L,M]) rfl ?_;exact⟨g,a,rfl,E,A⟩
theorem Ep{K:Nat->Prop}{W0 w0:World}{d b:Nat}{ts:List T}{ps:List Nat}{L1 L2:List PT}{p:Option Addr}{cap:Nat}{ops:List cx}{m:Nat}(h:PD K W0 w0 d b ts ps L1 L2)(hread:∀j (hj:j<ops.length),∃g o vv,p=some ⟨g,o,none⟩/\∀w:World,(∀q,K q->w.heap[q]?=W0.heap[q]?)->(w.cell? ⟨g,o+j*5,none⟩=some (.int .i64 ops[j].dO)/\w.cell? ⟨g,o+j*5+1,none⟩=some (.string ops[j].tbl)/\w.cell? ⟨g,o+j*5+2,none⟩=some (.int .i64 ops[j].id)/\w.cell? ⟨g,o+j*5+3,none⟩=some (.string ops[j].col)/\w.cell? ⟨g,o+j*5+4,none⟩=some vv/\g<w.heap.size)/\eb K w vv ops[j].vals)(hi:mh ts)(hfew:di ts)(a1:Short ts)(Q:∀t∈ts,0<t.cols.length/\t.cols.length<=1000)(h1:∀x∈L1,dw m x)(h2:∀x∈L2,dw m x)(hm:m+ops.length<=590)(hops:∀o∈ops,ir o):Calls prog 17 #[.pointer (some ⟨d,0,none⟩),.pointer (some ⟨b,0,none⟩),.slice p ops.length cap] w0 fun e a=>e=.returned (.tuple #[])/\PD K W0 a d b ts ps (en ts L1 ops) (en ts L2 ops):=by
 obtain⟨n,hn⟩:=ag ops.length;have c6:Hid (∀j (hj:j<ops.length),_):=aa (fun j hj=>hread j hj);have HF:=aa (ab hi (ab hfew (ab a1 (ab Q (ab h1 (ab h2 (ab hm (ab hops hn))))))));have HP:=aa h;rw[hn];clear hread hi hfew a1 Q h1 h2 hm hops hn h;go_enter func17,ntmps17;have g5:(n:Int)<=590:=(by have h1:=HF.2.2.2.2.2.2.1;have h2:=HF.2.2.2.2.2.2.2.2;omega);go_wp2_with fail;go_loopg [6] (n+1) (fun gh jv w=>∃(j:Nat),jv=.int .i64 (j:Int)/\j<=n/\n+1<=j+gh/\PD K W0 w d b ts ps (en ts L1 (ops.take j)) (en ts L2 (ops.take j)))
 case atStart=>exact⟨0,rfl,zh _,by omega,HP.out⟩
 obtain⟨j,rfl,hj,hg,R⟩:=hrel;by_cases f7:j<n
 ·have g6:(j:Int)<(n:Int):=(by omega);have b0:j<ops.length:=(by rw[HF.2.2.2.2.2.2.2.2];exact f7);obtain⟨g,go,vv,rfl,e4⟩:=c6.out j b0;obtain⟨⟨c0,c1,c2,c3,c4,gl⟩,hv⟩:=e4 wr (fun q hq=>R.still hq);obtain⟨pv,cv,rfl,_,_⟩:=hv.slice;have F:=HF.2.2.2.2.2.2.2.1 _ (z8 b0);have b4:=dY (ts:=ts) (l:=ops.take j) HF.2.2.2.2.1;have b5:=dY (ts:=ts) (l:=ops.take j) HF.2.2.2.2.2.1;have e5:(ops.take j).length=j:=(by rw[we];omega);rw[e5]at b4 b5;have G:m+j<=590:=(by have:=HF.2.2.2.2.2.2.1;omega);have a2:=nW (ts:=ts) (L:=L1) b0;have a3:=nW (ts:=ts) (L:=L2) b0;generalize en ts L1 (ops.take j)=A at R b4 a2;generalize en ts L2 (ops.take j)=B at R b5 a3;obtain⟨A',c7⟩:=ag (en ts L1 (ops.take (j+1)));obtain⟨B',c8⟩:=ag (en ts L2 (ops.take (j+1)));rw[c7]at a2;rw[c8]at a3;have H:=aa (ab c7 c8);clear c7 c8;obtain⟨o,ho⟩:=ag (ops[j]);simp only[ho]at c0 c1 c2 c3 c4 hv F a2 a3;obtain⟨k,hk⟩:=ag o.vals.length;rw[hk]at c4 hv;obtain⟨V,hV⟩:=ag wr.heap.size;have a4:=aD wr (.cells #[.int .i64 o.dO,.string o.tbl,.int .i64 o.id,.string o.col,.slice pv k cv] 29);have a5:=z7 wr (.cells #[.int .i64 o.dO,.string o.tbl,.int .i64 o.id,.string o.col,.slice pv k cv] 29);have hz:=zj wr (.cells #[.int .i64 o.dO,.string o.tbl,.int .i64 o.id,.string o.col,.slice pv k cv] 29);have a0:=R.with a4;have a6:=hv.later a4;obtain⟨w1,d0⟩:=ag (wr.alloc (.cells #[.int .i64 o.dO,.string o.tbl,.int .i64 o.id,.string o.col,.slice pv k cv] 29));rw[d0]at a4 a5 a0 hz a6;rw[hV]at a5 a0 hz;obtain⟨I,b6⟩:∃I:Nat->Prop,(fun q=>K q∨(V<=q/\q<w1.heap.size))=I:=⟨_,rfl⟩;rw[b6]at a0;have d3:∀q,K q->I q:=(fun q hq=>by rw[<-b6];exact .inl hq);have e6:I V:=(by rw[<-b6];exact .inr ⟨zm _,by omega⟩);have a6:eb I w1 (.slice pv k cv) o.vals:=a6.mono (fun q _ hq=>d3 q hq);have a7:Hid (∀w (X Y:List PT),PD I w1 w d b ts ps X Y->PD K W0 w d b ts ps X Y):=aa (fun w X Y P=>(R.later a4).back P d3)
  have i:Hid (∀(w:World) (X Y:List PT),PD I w1 w d b ts ps X Y->w.heap[V]?=some (.cells #[.int .i64 o.dO,.string o.tbl,.int .i64 o.id,.string o.col,.slice pv k cv] 29)/\eb I w (.slice pv k cv) o.vals):=aa (fun w X Y P=>by
   refine⟨(P.still e6).trans a5,?_⟩;obtain⟨st,tt,⟨_,_,_,_,_,_,_,hT⟩,_⟩:=P;exact a6.tn hT (fun q hq hn=>hn hq))
  obtain⟨g7,i0,g8,b7,f8⟩:=a0.dbn;have b8:=b7.box;have d4:=cJ (x:=o.tbl) b7.ut;have f:Hid (∀w,Below w1.heap.size w1 w->w.heap[b]?=some (.cells #[i0.sv,i0.ov,i0.nv] 71)/\w.heap[V]?=some (.cells #[.int .i64 o.dO,.string o.tbl,.int .i64 o.id,.string o.col,.slice pv k cv] 29)/\Calls prog 36 #[i0.sv,.string o.tbl] w fun e a=>e=.returned (.int .i64 (ky ts o.tbl))/\a=w):=aa (fun w hw=>⟨aE hw b8,aE hw a5,cJ (b7.later hw).ut⟩);have S:=aa (ab a0 (ab F (ab b4 (ab b5 (ab G (ab a2 (ab a3 hk)))))));clear d4 b8 b7 f8 hv e4 d3 e6 b6 a4 a5 hz a0 a6 F b4 b5 G a2 a3 hk e5;go_upto_region 4 with fail
  try rw[d0]
  try rw[hV]
  clear c0 c1 c2 c3 c4 gl d0 hV;rcases bZ ts o.tbl with ⟨e1,e2,_⟩ | ⟨t,ht,e1,e2,e3⟩
  ·have U:∀w,Below w1.heap.size w1 w->Calls prog 29 #[.pointer (some ⟨d,0,none⟩),.string o.tbl] w fun e a=>e=.returned (.pointer none)/\Below w.heap.size w a:=fun w hw=>by
    obtain⟨st,O,hD,_⟩:=(S.1.later hw).dd;exact hD.notable HF.2.1 S.2.1.tbl e2
   have HT:=aa U;have f9:=aa e1;rw[e1]at f;clear e1 e2 U;refine ae 13 [.pointer (some ⟨d,0,none⟩),.pointer (some ⟨V,1,none⟩),.string o.tbl,.pointer none,.pointer (some ⟨b,0,none⟩),.pointer (some ⟨b,0,none⟩),.pointer (some ⟨b,0,none⟩),i0.sv,.pointer (some ⟨V,1,none⟩),.string o.tbl,.int .i64 (-1),.pointer none,.int .i64 (-1)] (fun w=>Below w1.heap.size w1 w) ?A1 ?hm1 ?hB1 ?hA1 (aF w1) ?hop1 ?hT1
   case hm1=>kernel_rfl
   case hB1=>kernel_rfl
   case hA1 =>
    simp only[am,ai,Act.put,cy,db,bt,cp,dc,da,bu,eg,ed];rfl
   case hop1 =>
    simp only[ce,ze,ah,yu];and_intros<;>intro a c<;>have HR:=aa c
    rotate_left;have W:=aC (f.out a c).2.1;rotate_left;have z1:=aA (f.out a c).2.1 1;rotate_left
    ·clear c;simp only[Par.Gives];go_simp;exact(HT.out a HR.out).mono (fun e d5⟨he,hb⟩=>⟨he,aB HR.out hb⟩)
    rotate_left;have W:=aC (f.out a c).1;rotate_left;have W:=aC (f.out a c).1;rotate_left;have z1:=aA (f.out a c).1 0;rotate_left;have W:=aC (f.out a c).2.1;rotate_left;have z1:=aA (f.out a c).2.1 1;rotate_left
    ·clear c;simp only[Par.Gives];go_simp;exact((f.out a HR.out).2.2).mono (fun e d5⟨he,hb⟩=>⟨he,hb▸HR.out⟩)
    rotate_left 2
    all_goals(clear c;simp only[Par.Gives];go_simp;all_goals exact HR.out)
   intro a c;simp only[cw,yq];have e7:=a7.out _ _ _ (S.1.later c);have s:=S.2.2.2.2.2.1;have v:=S.2.2.2.2.2.2.1;rw[kK (by rw[f9.out];omega)]at s v;subst s v;have d6:=aa e7;clear c e7;go_wp2_with fail;go_roundg (n-j)
   case measure=>omega
   exact⟨j+1,rfl,by omega,by omega,by rw[H.1,H.2];exact d6.out⟩
  have hp:t<ps.length:=(by rw[S.1.len.1];exact ht);have hA:t<A.length:=(by rw[S.1.len.2.1];exact ht);have hB:t<B.length:=(by rw[S.1.len.2.2];exact ht);have a1:=HF.2.2.1 _ (z8 ht);have e8:ts[t].nm=o.tbl:=iJ e3
  have U:∀w,Below w1.heap.size w1 w->Calls prog 29 #[.pointer (some ⟨d,0,none⟩),.string o.tbl] w fun e a=>e=.returned (.pointer (some ⟨ps[t],0,none⟩))/\a=w:=fun w hw=>by
   have:=(S.1.later hw).table ht a1 hp
   rw[e8]at this;exact this
  have HT:=aa U;rw[e1]at f;have s:=S.2.2.2.2.2.1;have v:=S.2.2.2.2.2.2.1;rw[dX e1 ht hA]at s;rw[dX e1 ht hB]at v;have Q:=HF.2.2.2.1 _ (z8 ht);have F:=S.2.1;have e9:=S.2.2.1 _ (z8 hA);have f0:=S.2.2.2.1 _ (z8 hB);have G:=S.2.2.2.2.1;have hk:=S.2.2.2.2.2.2.2;have b9:Hid (∀w (X Y:List PT),PD I w1 w d b ts ps X Y->(hX:t<X.length)->dw (m+j) X[t]->Calls prog 37 #[.pointer (some ⟨ps[t],0,none⟩),.slice pv k cv] w fun e a=>(∃r1 r2,e=.returned (.tuple #[.int .i64 r1,.int .i64 r2]))/\PD I w1 a d b ts ps (X.set t (gj ts[t] X[t] o.vals)) Y):=aa (fun w X Y P hX hs=>(P.Bz ht hp hX (i.out w X Y P).2 (fun q hq=>hq) hs G Q.2 F.vals (by have:=F.few;omega)).mono (fun e a⟨h1,h2⟩=>⟨⟨_,_,h1⟩,h2⟩));have f1:Hid (∀w (X Y:List PT),PD I w1 w d b ts ps X Y->(hY:t<Y.length)->dw (m+j) Y[t]->Calls prog 38 #[.pointer (some ⟨b,0,none⟩),.int .i64 (t:Int),.slice pv k cv] w fun e a=>(∃r1 r2,e=.returned (.tuple #[.int .i64 r1,.int .i64 r2]))/\PD I w1 a d b ts ps X (Y.set t (gj ts[t] Y[t] o.vals))):=aa (fun w X Y P hY hs=>(P.jx ht hY (i.out w X Y P).2 (fun q hq=>hq) hs G Q.2 Q.1 F.vals (by have:=F.few;omega)).mono (fun e a⟨h1,h2⟩=>⟨⟨_,_,h1⟩,h2⟩));have c5:Hid (∀w (X Y:List PT),PD I w1 w d b ts ps X Y->(hX:t<X.length)->dw (m+j) X[t]->Calls prog 39 #[.pointer (some ⟨ps[t],0,none⟩),.int .i64 o.id] w fun e a=>(∃r,e=.returned (.bool r))/\PD I w1 a d b ts ps (X.set t (kh X[t] o.id)) Y):=aa (fun w X Y P hX hs=>(P.CB ht hp hX F.id hs G Q.2).mono (fun e a⟨h1,h2⟩=>⟨⟨_,h1⟩,h2⟩));have f2:Hid (∀w (X Y:List PT),PD I w1 w d b ts ps X Y->(hY:t<Y.length)->dw (m+j) Y[t]->Calls prog 40 #[.pointer (some ⟨b,0,none⟩),.int .i64 (t:Int),.int .i64 o.id] w fun e a=>(∃r,e=.returned (.bool r))/\PD I w1 a d b ts ps X (Y.set t (kh Y[t] o.id))):=aa (fun w X Y P hY hs=>(P.Bd ht hY o.id hs G).mono (fun e a⟨h1,h2⟩=>⟨⟨_,h1⟩,h2⟩));have a8:Hid (∀w (X Y:List PT) (u:T3),u.2.2.size<=maxLen->PD I w1 w d b ts ps X Y->(hX:t<X.length)->dw (m+j) X[t]->Calls prog 41 #[.pointer (some ⟨ps[t],0,none⟩),.int .i64 o.id,.string o.col,.agg #[.int .i64 u.1,.int .i64 u.2.1,.string u.2.2]] w fun e a=>(∃r,e=.returned (.int .i64 r))/\PD I w1 a d b ts ps (X.set t (js ts[t] X[t] o.id o.col u)) Y):=aa (fun w X Y u hu P hX hs=>(P.Ce ht hp hX F.id o.col u hu hs G).mono (fun e a⟨h1,h2⟩=>⟨⟨_,h1⟩,h2⟩));have f3:Hid (∀w (X Y:List PT) (u:T3),u.2.2.size<=maxLen->PD I w1 w d b ts ps X Y->(hY:t<Y.length)->dw (m+j) Y[t]->Calls prog 42 #[.pointer (some ⟨b,0,none⟩),.int .i64 (t:Int),.int .i64 o.id,.string o.col,.agg #[.int .i64 u.1,.int .i64 u.2.1,.string u.2.2]] w fun e a=>(∃r,e=.returned (.int .i64 r))/\PD I w1 a d b ts ps X (Y.set t (js ts[t] Y[t] o.id o.col u))):=aa (fun w X Y u hu P hY hs=>(P.Ba ht hY o.id o.col u hu Q.1 hs G).mono (fun e a⟨h1,h2⟩=>⟨⟨_,h1⟩,h2⟩));have z:=aa (ab hA (ab hB (ab e9 f0)));have g0:=aa F.vals;obtain⟨pt,f4⟩:=ag (ps[t]);simp only[f4]at HT b9 c5 a8;have g9:¬ (t:Int)<0:=(by omega);have HN:=aa (ab s (ab v hk));clear U e1 e2 e3 a1 e8 s v Q F e9 f0 G hk f4;refine ae 13 [.pointer (some ⟨d,0,none⟩),.pointer (some ⟨V,1,none⟩),.string o.tbl,.pointer (some ⟨pt,0,none⟩),.pointer (some ⟨b,0,none⟩),.pointer (some ⟨b,0,none⟩),.pointer (some ⟨b,0,none⟩),i0.sv,.pointer (some ⟨V,1,none⟩),.string o.tbl,.int .i64 (t:Int),.pointer (some ⟨pt,0,none⟩),.int .i64 (t:Int)] (fun w=>Below w1.heap.size w1 w) ?A2 ?hm2 ?hB2 ?hA2 (aF w1) ?hop2 ?hT2
  case hm2=>kernel_rfl
  case hB2=>kernel_rfl
  case hA2 =>
   simp only[am,ai,Act.put,cy,db,bt,cp,dc,da,bu,eg,ed];rfl
  case hop2 =>
   simp only[ce,ze,ah,yu];and_intros<;>intro a c<;>have HR:=aa c
   rotate_left;have W:=aC (f.out a c).2.1;rotate_left;have z1:=aA (f.out a c).2.1 1;rotate_left
   ·clear c;simp only[Par.Gives];go_simp;exact(HT.out a HR.out).mono (fun e d5⟨he,hb⟩=>⟨he,hb▸HR.out⟩)
   rotate_left;have W:=aC (f.out a c).1;rotate_left;have W:=aC (f.out a c).1;rotate_left;have z1:=aA (f.out a c).1 0;rotate_left;have W:=aC (f.out a c).2.1;rotate_left;have z1:=aA (f.out a c).2.1 1;rotate_left
   ·clear c;simp only[Par.Gives];go_simp;exact((f.out a HR.out).2.2).mono (fun e d5⟨he,hb⟩=>⟨he,hb▸HR.out⟩)
   rotate_left 2
   all_goals(clear c;simp only[Par.Gives];go_simp;all_goals exact HR.out)
  intro a c;simp only[cw,yq];have y:=aa (S.1.later c);have v2:=(f.out a c).2.1;have z0:=aA v2 0;have z2:=aA v2 2;have d7:=aA v2 3;have z4:=aA v2 4;have W:=aC v2;clear v2 c;obtain⟨w2,rfl⟩:∃x,x=a:=⟨_,rfl⟩;by_cases d1:o.dO=1
  ·rw[d1]at z0;have J:=b9.out w2 A B y.out z.1 z.2.2.1;obtain⟨s,v,_⟩:=HN.out;rw[zv d1]at s v;subst s v;clear d1
   go_wp2_with (first|(go_at_call 37;refine J.mono ?_;rintro e w3⟨⟨r1,r2,rfl⟩,M⟩;have E:=f1.out w3 _ B M z.2.1 z.2.2.2;have v3:=(i.out w3 _ _ M).1;have y4:=aA v3 4;have yl:=aC v3;clear J z0 z2 d7 z4 W v3 M)|(go_at_call 38;refine E.mono ?_;rintro e w4⟨⟨r3,r4,rfl⟩,Z⟩;have a9:=aa Z;clear E y4 yl Z))
   go_roundg (n-j)
   case measure=>omega
   exact⟨j+1,rfl,by omega,by omega,by rw[H.1,H.2];exact a7.out _ _ _ a9.out⟩
  have b1:(o.dO==1)=false:=beq_eq_false_iff_ne.2 d1;by_cases d2:o.dO=2
  ·rw[d2]at z0;have J:=c5.out w2 A B y.out z.1 z.2.2.1;obtain⟨s,v,_⟩:=HN.out;rw[zq d1,zv d2]at s v;subst s v;clear d1 d2 b1
   go_wp2_with (first|(go_at_call 39;refine J.mono ?_;rintro e w3⟨⟨r1,rfl⟩,M⟩;have E:=f2.out w3 _ B M z.2.1 z.2.2.2;have v3:=(i.out w3 _ _ M).1;have y4:=aA v3 2;have yl:=aC v3;clear J z0 z2 d7 z4 W v3 M)|(go_at_call 40;refine E.mono ?_;rintro e w4⟨⟨r3,rfl⟩,Z⟩;have a9:=aa Z;clear E y4 yl Z))
   go_roundg (n-j)
   case measure=>omega
   exact⟨j+1,rfl,by omega,by omega,by rw[H.1,H.2];exact a7.out _ _ _ a9.out⟩
  have b2:(o.dO==2)=false:=beq_eq_false_iff_ne.2 d2;by_cases dk:k=1
  ·subst dk;have f5:o.vals.length=1:=HN.2.2;obtain⟨u,hu⟩:=ag (o.vals.getD 0 z3);have d8:o.vals[0]'(by omega)=u:=(by rw[<-hu,zu,z6 (by omega)];rfl);obtain⟨vb,vo,rfl,g1,g2⟩:=eb.val (i.out w2 A B y.out).2 (j:=0) (by omega);clear g2 g1
   have HU:Hid (∀(w:World) (X Y:List PT),PD I w1 w d b ts ps X Y->w.cell? ⟨vb,vo,none⟩=some (.int .i64 u.1)/\w.cell? ⟨vb,vo+1,none⟩=some (.int .i64 u.2.1)/\w.cell? ⟨vb,vo+2,none⟩=some (.string u.2.2)/\vb<w.heap.size):=aa (fun w X Y P=>by
    obtain⟨b',o',e,q1,q2,q3,q4⟩:=eb.val (i.out w X Y P).2 (j:=0) (by omega);cases e;rw[d8]at q2 q3 q4;exact⟨q2,q3,q4,q1⟩)
   have d9:u.2.2.size<=maxLen:=(by rw[<-d8];exact g0.out _ (z8 _));have f6:=aa d9;have J:=a8.out w2 A B u d9 y.out z.1 z.2.2.1;obtain⟨s,v,_⟩:=HN.out;rw[zq d1,zq d2,zv f5,hu]at s v;subst s v;have h0:(0:Int)<1:=(by decide);clear d1 d2 f5 hu d8 d9 J;go_upto_region 13 with fail;clear z0 z2 d7 z4 W;refine ae 9 [.pointer (some ⟨pt,0,none⟩),.pointer (some ⟨V,2,none⟩),.int .i64 o.id,.pointer (some ⟨V,3,none⟩),.string o.col,.pointer (some ⟨V,4,none⟩),.slice (some ⟨vb,vo,none⟩) 1 cv,.pointer (some ⟨vb,vo,none⟩),.agg #[.int .i64 u.1,.int .i64 u.2.1,.string u.2.2]] (fun w=>Below w2.heap.size w2 w) ?A3 ?hm3 ?hB3 ?hA3 (aF w2) ?hop3 ?hT3
   case hm3=>kernel_rfl
   case hB3=>kernel_rfl
   case hA3 =>
    simp only[am,ai,Act.put,cy,db,bt,cp,dc,da,bu,eg,ed];rfl
   case hop3 =>
    simp only[ce,ze,ah,yu];and_intros<;>intro a c<;>have HR:=aa c
    rotate_left;have W:=aC (i.out a _ _ (y.out.later c)).1;rotate_left;have z1:=aA (i.out a _ _ (y.out.later c)).1 2;rotate_left;have W:=aC (i.out a _ _ (y.out.later c)).1;rotate_left;have z1:=aA (i.out a _ _ (y.out.later c)).1 3;rotate_left;have W:=aC (i.out a _ _ (y.out.later c)).1;rotate_left;have z1:=aA (i.out a _ _ (y.out.later c)).1 4;rotate_left 2;have z1:=(HU.out a _ _ (y.out.later c)).1;have z2:=(HU.out a _ _ (y.out.later c)).2.1;have g3:=(HU.out a _ _ (y.out.later c)).2.2.1;rotate_left
    all_goals(clear c;simp only[Par.Gives];go_simp;all_goals exact HR.out)
   intro a c;simp only[cw,ym];have J:=a8.out a A B u f6.out (y.out.later c) z.1 z.2.2.1;clear c;go_upto_region 14 with (go_at_call 41;refine J.mono ?_;rintro e w3⟨⟨r1,rfl⟩,M⟩;have N:=aa M;clear J M);refine ae 10 [.pointer (some ⟨b,0,none⟩),.int .i64 (t:Int),.pointer (some ⟨V,2,none⟩),.int .i64 o.id,.pointer (some ⟨V,3,none⟩),.string o.col,.pointer (some ⟨V,4,none⟩),.slice (some ⟨vb,vo,none⟩) 1 cv,.pointer (some ⟨vb,vo,none⟩),.agg #[.int .i64 u.1,.int .i64 u.2.1,.string u.2.2]] (fun w=>Below w3.heap.size w3 w) ?A4 ?hm4 ?hB4 ?hA4 (aF w3) ?hop4 ?hT4
   case hm4=>kernel_rfl
   case hB4=>kernel_rfl
   case hA4 =>
    simp only[am,ai,Act.put,cy,db,bt,cp,dc,da,bu,eg,ed];rfl
   case hop4 =>
    simp only[ce,ze,ah,yu];and_intros<;>intro a c<;>have HR:=aa c
    rotate_left 2;have W:=aC (i.out a _ _ (N.out.later c)).1;rotate_left;have z1:=aA (i.out a _ _ (N.out.later c)).1 2;rotate_left;have W:=aC (i.out a _ _ (N.out.later c)).1;rotate_left;have z1:=aA (i.out a _ _ (N.out.later c)).1 3;rotate_left;have W:=aC (i.out a _ _ (N.out.later c)).1;rotate_left;have z1:=aA (i.out a _ _ (N.out.later c)).1 4;rotate_left 2;have z1:=(HU.out a _ _ (N.out.later c)).1;have z2:=(HU.out a _ _ (N.out.later c)).2.1;have g3:=(HU.out a _ _ (N.out.later c)).2.2.1;rotate_left
    all_goals(clear c;simp only[Par.Gives];go_simp;all_goals exact HR.out)
   intro a c;simp only[cw,ym];have E:=f3.out a _ B u f6.out (N.out.later c) z.2.1 z.2.2.2;clear c;go_wp2_with (go_at_call 42;refine E.mono ?_;rintro e w4⟨⟨r2,rfl⟩,Z⟩;have a9:=aa Z;clear E Z);go_roundg (n-j)
   case measure=>omega
   exact⟨j+1,rfl,by omega,by omega,by rw[H.1,H.2];exact a7.out _ _ _ a9.out⟩
  have b3:((k:Int)==1)=false:=beq_eq_false_iff_ne.2 (by omega);obtain⟨s,v,hk⟩:=HN.out;rw[zq d1,zq d2,zq (by omega)]at s v;subst s v;have d6:=aa (a7.out _ _ _ y.out);clear d1 d2 dk hk;go_wp2_with fail;go_roundg (n-j)
  case measure=>omega
  exact⟨j+1,rfl,by omega,by omega,by rw[H.1,H.2];exact d6.out⟩
 obtain rfl:j=n:=(by omega);have e1:ops.take j=ops:=(by rw[yy (by rw[HF.2.2.2.2.2.2.2.2];exact zm _)]);rw[e1]at R;have g4:=aa R;clear R e1;go_wp2_with fail
 go_end0
 exact⟨rfl,g4.out⟩
abbrev sS:ByteArray:=⟨#[115]⟩
abbrev Bo:cx:=⟨1,ap,0,e0,[(1,1,e0),(2,0,bx),(2,0,sN),(0,0,e0)]⟩
abbrev Bn:cx:=⟨1,ap,0,e0,[(1,2,e0),(2,0,bx),(2,0,sS),(0,0,e0)]⟩
theorem DF:au (pre 4) (Lz.map (·.2))=(0,e0,0,e0):=by kernel_rfl
theorem CF:au (pre 4) ((en (pre 4) Lz [Bo,Bn]).map (·.2))=(10,ap,1,bs):=by kernel_rfl
theorem IR:∀o∈[Bo,Bn],ir o:=fun o a=>by
 have h:o=Bo∨o=Bn:=(by simpa using a);rcases h with rfl|rfl
 ·exact cM (by decide) (by decide) (by decide) (by decide)
 ·exact cM (by decide) (by decide) (by decide) (by decide)
abbrev cV(i:Int)(s:ByteArray):Array Value:=#[.int .i64 1,.int .i64 i,.string e0,.int .i64 2,.int .i64 0,.string bx,.int .i64 2,.int .i64 0,.string s,.int .i64 0,.int .i64 0,.string e0]
abbrev AX(g1 k1 g2 k2:Nat):Array Value:=#[.int .i64 1,.string ap,.int .i64 0,.string e0,.slice (some ⟨g1,0,none⟩) 4 k1,.int .i64 1,.string ap,.int .i64 0,.string e0,.slice (some ⟨g2,0,none⟩) 4 k2]
section
variable {w w1 w2:World}
theorem CO(i:Int)(s:ByteArray)(w1:World):Calls prog 14 #[.string ap,.slice (some ⟨w1.heap.size,0,none⟩) 4 4] (w1.alloc (.cells (cV i s) 32)) fun e c=>∃g a,e=.returned (Au ap (.slice (some ⟨g,0,none⟩) 4 a))/\ac c w1.heap.size 32 3 (.slice (some ⟨g,0,none⟩) 4 a) 4 (cells3 [(1,i,e0),(2,0,bx),(2,0,s),(0,0,e0)])/\Below w1.heap.size w1 c:=by
 have k:=z7 w1 (.cells (cV i s) 32);have b:=aD w1 (.cells (cV i s) 32);have h:ac (w1.alloc (.cells (cV i s) 32)) w1.heap.size 32 3 (.slice (some ⟨w1.heap.size,0,none⟩) 4 4) 4 (cells3 [(1,i,e0),(2,0,bx),(2,0,s),(0,0,e0)]):=ac.lit k rfl rfl (zm _) (by unfold maxLen;decide);refine(kM ap (eb.jk h rfl) (by simp) (by simp)).mono ?_;rintro e c⟨g,a,rfl,d,f⟩;exact⟨g,a,rfl,d.mono b.size,aB b f⟩
end
theorem qB(a c d:Int)(t u:ByteArray)(w:World):(Instr.field 39 (.agg #[.int .i64 a,.int .i64 c,.string t,.int .i64 d,.string u]) 0).run prog w=.ok (.int .i64 a) w:=by kernel_rfl
theorem jN{K:Nat->Prop}{W0 w0:World}{d b:Nat}{ts:List T}{ps:List Nat}{L1 L2:List PT}{p:Option Addr}{cap:Nat}{ops:List cx}{base m:Nat}(h:PD K W0 w0 d b ts ps L1 L2)(ho:ef W0 base (.slice p ops.length cap) ops)(hK:∀q,base<=q->q<W0.heap.size->K q)(hi:mh ts)(hfew:di ts)(hsz:Short ts)(hcs:∀t∈ts,0<t.cols.length/\t.cols.length<=1000)(h1:∀x∈L1,dw m x)(h2:∀x∈L2,dw m x)(hm:m+ops.length<=590)(hops:∀o∈ops,ir o):Calls prog 17 #[.pointer (some ⟨d,0,none⟩),.pointer (some ⟨b,0,none⟩),.slice p ops.length cap] w0 fun e c=>e=.returned (.tuple #[])/\PD K W0 c d b ts ps (en ts L1 ops) (en ts L2 ops):=by
 refine Ep h (fun j f=>?_) hi hfew hsz hcs h1 h2 hm hops;obtain⟨g,a,i,e,k⟩:=uK ho hK f;cases e;refine⟨g,0,i,rfl,fun w l=>?_⟩;obtain⟨⟨c0,c1,c2,c3,c4,n⟩,_,r⟩:=k w l;rw[xq];exact⟨⟨c0,c1,c2,c3,c4,n⟩,r⟩
theorem cY(W:World):Calls prog 12 #[] W fun e Z=>e=.returned (.bool true)/\Below W.heap.size W Z:=by
 have l:=cP W;go_enter func12,ntmps12;go_upto_region 2 with (go_at_call 13;refine l.mono ?_;rintro e w1⟨d,b,ps,rfl,hP⟩;clear l)
 obtain⟨p0,p1,p2,p3,rfl⟩:∃p0 p1 p2 p3,ps=[p0,p1,p2,p3]:=by
  have:=hP.len.1
  match ps,this with
  | [a,b,c,d],_=>exact⟨a,b,c,d,rfl⟩
 have a0:Calls prog 29 #[.pointer (some ⟨d,0,none⟩),.string ap] w1 fun e Z=>e=.returned (.pointer (some ⟨p1,0,none⟩))/\Z=w1:=hP.table (j:=1) (by decide) (aO _ (z8 _)) (by decide:1<4)
 have i:=hP.check bE cD (by decide);rw[DF]at i;have a1:=aa hP;clear hP;go_upto_region 4 with (go_at_call 29;refine a0.mono ?_;rintro e w2⟨rfl,hw⟩;subst w2;clear a0);go_upto_region 5 with (go_at_call 18;refine i.mono ?_;rintro e w2⟨rfl,a2⟩;have a3:=aa (a1.out.later a2);clear i a2 a1);have bA:=aD w2 (.cells zF 39);have kA:=z7 w2 (.cells zF 39);obtain⟨wA,y⟩:=ag (w2.alloc (.cells zF 39));rw[y]at bA kA;have HA:=aa (ab bA (ab kA y))
 try rw[y]
 clear bA kA y;have a4:=aU 1 wA
 go_upto_region 6 with (first|(go_at_call 15;(with_reducible refine a4.mono ?_);rintro e w3⟨rfl,a5⟩;have B3:=aa a5;have a6:=aX bx w3;clear a4 a5)|(go_at_call 16;(with_reducible refine a6.mono ?_);rintro e w4⟨rfl,a7⟩;have B4:=aa (aB B3.out a7);have a8:=aX sN w4;clear a6 a7)|(go_at_call 16;(with_reducible refine a8.mono ?_);rintro e w5⟨rfl,a9⟩;have B5:=aa (aB B4.out a9);have b0:=CO 1 sN w5;clear a8 a9)|(go_at_call 14;(with_reducible refine b0.mono ?_);rintro e w7⟨g1,k1,rfl,b1,b2⟩;have B7:=aa (ab (aB B5.out b2) (b1.mono B5.out.size));have b3:=aU 2 w7;clear b0 b1 b2)|(go_at_call 15;(with_reducible refine b3.mono ?_);rintro e w8⟨rfl,O⟩;have B8:=aa (ab (aB B7.1 O) (B7.2.later O));have b4:=aX bx w8;clear b3 O)|(go_at_call 16;(with_reducible refine b4.mono ?_);rintro e w9⟨rfl,P⟩;have B9:=aa (ab (aB B8.1 P) (B8.2.later P));have b5:=aX sS w9;clear b4 P)|(go_at_call 16;(with_reducible refine b5.mono ?_);rintro e c1⟨rfl,m⟩;have Q:=aa (ab (aB B9.1 m) (B9.2.later m));have b6:=CO 2 sS c1;clear b5 m)|(go_at_call 14;(with_reducible refine b6.mono ?_);rintro e n⟨g2,k2,rfl,E,o⟩;have p:=aD n (.cells (AX g1 k1 g2 k2) 29);have b7:=z7 n (.cells (AX g1 k1 g2 k2) 29);have g:=aB Q.1 o;have k:=aB HA.1 g;have F:ef (n.alloc (.cells (AX g1 k1 g2 k2) 29)) wA.heap.size (.slice (some ⟨n.heap.size,0,none⟩) 2 2) [Bo,Bn]:=fJ (v1:=.slice (some ⟨g1,0,none⟩) 4 k1) (v2:=.slice (some ⟨g2,0,none⟩) 4 k2) b7 rfl g.size ((Q.2.later o).later p) ((E.mono Q.1.size).later p);have r:=aB k p;have G:=a3.out.with r;have s:Calls prog 17 #[.pointer (some ⟨d,0,none⟩),.pointer (some ⟨b,0,none⟩),.slice (some ⟨n.heap.size,0,none⟩) 2 2] _ _:=jN (ops:=[Bo,Bn]) G F (fun q h1 h2=>.inr ⟨zw HA.1.size h1,h2⟩) (cO 4 (by decide)) (bQ 4) aO cL cD cD (by decide) IR;have R:=aa (ab r (aE (aB g p) HA.2.1));clear p b7 g k F r G b6 E o)|(go_at_call 17;refine s.mono ?_;rintro e d1⟨rfl,H⟩;have I:=aa H;clear s H))
 have J:=(I.out.still (.inr ⟨zm _,aC R.2⟩)).trans R.2;have S:=(a3.out.later R.1).back I.out (fun q hq=>.inl hq);have U:∀x∈en (pre 4) Lz [Bo,Bn],dw 2 x:=(fun x hx=>dY cD x hx);have i:=S.check bE U (by decide);rw[CF]at i;have c4:=aa U;have c5:=aa S;have b8:=aa J;clear J S U;go_upto_region 7 with (go_at_call 18;refine i.mono ?_;rintro e z⟨rfl,L⟩;have b9:=aa L;clear i L);have A:=aD z (.cells #[.int .i64 10,.int .i64 0,.string ap,.int .i64 1,.string bs] 39);have B:=z7 z (.cells #[.int .i64 10,.int .i64 0,.string ap,.int .i64 1,.string bs] 39);obtain⟨c6,t⟩:=ag (z.alloc (.cells #[.int .i64 10,.int .i64 0,.string ap,.int .i64 1,.string bs] 39));rw[t]at A B
 try rw[t]
 obtain⟨F1,V⟩:=ag w2.heap.size;obtain⟨F2,X⟩:=ag z.heap.size;have kF:=aE (aB b9.out A) b8.out;rw[V]at kF;rw[X]at B
 try rw[V]
 try rw[X]
 have h:=aa (ab (aB b9.out A) (ab kF B));have M:=lJ c6;have d5:=(fun w=>qB 10 0 1 ap bs w);clear A B kF t V X
 go_wp2_with (first|(go_at_call 31;refine M.mono ?_;rintro e Y⟨rfl,f⟩;have c0:=aA (aE f h.2.1) 0;have cl:=aC (aE f h.2.1);have d0:=aA (aE f h.2.2) 0;have d2:=aA (aE f h.2.2) 2;have d3:=aA (aE f h.2.2) 3;have d4:=aA (aE f h.2.2) 4;have dl:=aC (aE f h.2.2);have u:=c5.out.later (aB h.1 f);have v:=u.ncheck bE fS (by decide) c4.out (by decide);rw[CF]at v;have v:Calls prog 20 #[.pointer (some ⟨b,0,none⟩)] Y fun e Z=>e=.returned (.agg #[.int .i64 10,.int .i64 0,.string ap,.int .i64 1,.string bs])/\Below Y.heap.size Y Z:=v;have c7:=aa (u.bel (zb _ _) (fun q hq=>hq));clear M f u)|(go_at_call 20;refine v.mono ?_;rintro e d6⟨rfl,N⟩;have c8:=aa (aB c7.out N);clear v N))
 go_ret;exact⟨rfl,c8.out⟩
