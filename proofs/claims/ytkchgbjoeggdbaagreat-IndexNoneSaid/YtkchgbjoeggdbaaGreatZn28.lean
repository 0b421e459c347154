import Derived.Test.YtkchgbjoeggdbaaGreatZn27
set_option maxHeartbeats 4000000
set_option maxRecDepth 100000
namespace Go.Proofs.YtkchgbjoeggdbaaGreat
open Go.Proofs.Tryz
open Go Go.RowKit Go.Proofs
variable{mv:Value}
def Sch(mv:Value)(W:World)(sb:Nat)(ts:List T):Prop:=ts.length<=8/\∃xs rest,W.heap[sb]?=some (.cells (xs++(rest++[.int .i64 ts.length,mv])).toArray 66)/\xs.length+rest.length=32/\ju W xs ts
theorem Sch.later{W W':World}{sb:Nat}{ts:List T}(h:Sch mv W sb ts)(hb:Below W.heap.size W W'):Sch mv W' sb ts:=by
 obtain⟨a,b,rest,c,d,e⟩:=h;exact⟨a,b,rest,aE hb c,d,e.kp (.below hb)⟩
theorem Sch.num{W:World}{sb:Nat}{ts:List T}(h:Sch mv W sb ts):sb<W.heap.size/\W.cell? ⟨sb,32,none⟩=some (.int .i64 ts.length):=by
 obtain⟨c,b,rest,a,d,e⟩:=h;refine⟨aB a,?_⟩;rw[aA a,List.getElem?_toArray,ya (by omega),ya (by omega),show 32-b.length-rest.length=0 by omega];rfl
theorem Sch.tabs{W:World}{sb:Nat}{ts:List T}(h:Sch mv W sb ts):iq W (.slice (some ⟨sb,0,none⟩) ts.length 8) ts:=by
 obtain⟨d,a,rest,b,g,e⟩:=h;refine⟨_,8,a,rfl,d,by unfold maxLen;omega,fun _=>⟨sb,0,rfl,aB b,fun j u c=>?_⟩,e⟩;have f:j<a.length:=(List.getElem?_eq_some_iff.1 c).1;rw[aA b,xj,List.getElem?_toArray,xu f];exact c
def mh(mv:Value)(W:World)(pv:Value)(ts:List T):Prop:=(pv=.pointer none/\ts=[])∨∃sb,pv=.pointer (some ⟨sb,0,none⟩)/\Sch mv W sb ts
theorem mh.later{W W':World}{pv:Value}{ts:List T}(h:mh mv W pv ts)(hb:Below W.heap.size W W'):mh mv W' pv ts:=by
 rcases h with h|⟨a,b,c⟩
 ·exact .inl h
 exact .inr ⟨a,b,c.later hb⟩
theorem Id(sb n:Nat)(h:n<=8)(w:World):(Instr.sliceAt 61 (.pointer (some ⟨sb,0,none⟩)) none (some (.int .i64 n)) none).run prog w=.ok (.slice (some ⟨sb,0,none⟩) n 8) w:=by
 have a:prog.arrayLen 61=8:=(by kernel_rfl);have b:prog.elem 61=60:=(by kernel_rfl);rw[run_sliceAt_array_h w 61 ⟨sb,0,none⟩ (by kernel_rfl) .i64 (n:Int) (by omega) (by rw[a];omega),a,b];go_simp
theorem oR{pv:Value}{ts:List T}{W:World}(h:mh mv W pv ts):Calls prog 109 #[pv] W fun e w'=>∃v,e=.returned v/\iq w' v ts/\Below W.heap.size W w':=by
 rcases h with ⟨rfl,rfl⟩ | ⟨a,rfl,h⟩
 ·go_enter func109,ntmps109;go_wp2_with fail;go_ret;exact⟨_,rfl,iq.nil W,zg _ _⟩
 have g:=aa h;have d:=h.1;obtain⟨n,c⟩:=ae ts.length;rw[c]at d;have f:=aa c;clear h c;go_enter func109,ntmps109;go_upto_region 3 with fail;refine Par.ag 9 [.pointer (some ⟨a,0,none⟩),.pointer (some ⟨a,0,none⟩),.pointer (some ⟨a,0,none⟩),.pointer (some ⟨a,0,none⟩),.pointer (some ⟨a,0,none⟩),.pointer (some ⟨a,32,none⟩),.int .i64 n,.slice (some ⟨a,0,none⟩) n 8,.slice (some ⟨a,0,none⟩) n 8] (fun w=>Sch mv w a ts/\Below W.heap.size W w) ?A1 ?hm1 ?hB1 ?hA1 (⟨g.out.later (aF W 1),aF W 1⟩) ?hop1 ?hT1
 case hm1=>kernel_rfl
 case hB1=>kernel_rfl
 case hA1 =>
  simp only[Par.am,Par.ai,Act.put,eh,ez,dz,eo,ew,ey,ed,ic,gy];rfl
 case hop1 =>
  simp only[en,zh,Par.ah,yo];and_intros<;>intro w' b<;>have i:=aa b
  rotate_left 6;have k:=f.out▸b.1.num.2;rotate_left;have k:=Id a n d w';rotate_left 2
  all_goals(clear b;simp only[Par.Gives];go_simp;all_goals exact i.out)
 intro w' b;simp only[ex,ym];go_wp2_with fail;go_ret;exact⟨_,rfl,f.out▸b.1.tabs,b.2⟩
theorem yF{x:World}{b:Nat}{cur:Array Value}{e:TypeId}(h:x.heap[b]?=some (.cells cur e))(he:mt e=true)(a c d f:Value):Kp x ((((x.setCell ⟨b,0,none⟩ a).setCell ⟨b,1,none⟩ c).setCell ⟨b,2,none⟩ d).setCell ⟨b,3,none⟩ f):=by
 intro q l o m j p n
 have k:q≠b:=by
  rintro rfl;rw[h]at j;cases j;rw[he]at n;cases n
 have g:∀(y:World) (i:Nat) (u:Value),(y.setCell ⟨b,i,none⟩ u).heap[q]?=y.heap[q]?:=(fun y i u=>y9 y ⟨b,i,none⟩ q u k);rw[g,g,g,g];exact j
def ma(t:T)(ok:Bool)(W:World)(e:Ending)(w':World):Prop:=∃p1 n1 c1 p2 n2 c2,e=.returned (.tuple #[.agg #[.string t.nm,.slice p1 n1 c1,.string t.key,.slice p2 n2 c2],.bool ok])/\dw w' (.slice p1 n1 c1) (.slice p2 n2 c2) t/\Below W.heap.size W w'
theorem fU{pv:Value}{ts:List T}{x:ByteArray}{W:World}(h:mh mv W pv ts):Calls prog 78 #[pv,.string x] W (ma (nu (bg ts x)) (fe ts x) W):=by
 obtain⟨S,F⟩:=ae W.heap.size;have l:=aD W (ar e0 (.slice none 0 0) e0 (.slice none 0 0));have O:=z7 W (ar e0 (.slice none 0 0) e0 (.slice none 0 0));have R:(W.alloc (ar e0 (.slice none 0 0) e0 (.slice none 0 0))).heap.size=S+1:=(by rw[zm,F]);have m:=oR (h.later l);obtain⟨w0,o⟩:=ae (W.alloc (ar e0 (.slice none 0 0) e0 (.slice none 0 0)));rw[o]at l O m R;rw[F]at O;have U:=aa (ab l (ab O (ab R F)));clear h l O R;have HW:=aa o;have HS:=aa F;clear o F;go_enter func78,ntmps78;go_upto_region 1 with fail;rw[HW.out,HS.out];go_wp2_with (go_at_call 109;refine m.mono ?_;rintro e w1⟨v,rfl,V,X⟩;clear m;obtain⟨p,Y,hv,hc,hm⟩:=V.slice;obtain⟨n,Z⟩:=ae ts.length;rw[Z]at hv hc;subst hv;have A:=aa (ab V (ab X Z));clear V X Z);unfold maxLen at hm;go_loopg [11] (n+1) (fun gh jv w=>∃(j:Nat),jv=.int .i64 (j:Int)/\j<=n/\n+1<=j+gh/\(∀i (h:i<ts.length),i<j->qb x ts[i]=false)/\Below w1.heap.size w1 w)
 case atStart=>exact⟨0,rfl,zj _,by omega,fun i _ B=>by omega,zg _ _⟩
 obtain⟨j,rfl,hj,hg,G,H⟩:=hrel;have a:=aE H (aE A.2.1 U.2.1);have I:Below W.heap.size W wr:=aC (aC U.1 A.2.1) H;have q:iq wr (.slice p n Y) ts:=A.1.later H;have r:=aa (ab G (ab H I));have J:W.heap.size<=S:=xn U.2.2.2;clear G H I;by_cases L:j<n
 ·have a0:j<ts.length:=(by rw[A.2.2];exact L);obtain⟨b,a5,cv,dv,rfl,X,c0,c1,c2,c3,g⟩:=iq.tab q a0;obtain⟨t,s⟩:=ae (ts[j]);rw[s]at c0 c2 g;obtain⟨y,d,rfl,_,_⟩:=g.1.slice;obtain⟨z,f,rfl,_,_⟩:=g.2.slice;generalize a1:t.cols.length=m1 at *;generalize a2:t.deps.length=m2 at *;have P:=aa (ab s g);clear s g q a1 a2;cases E:qb x t
  ·have HX:=aa E;have a3:(t.nm.toList==x.toList)=false:=(by rw[aQ];exact E);clear E a;go_wp2_with fail;go_roundg (n-j)
   case measure=>omega
   refine⟨j+1,by go_num,by omega,by omega,fun i B a6=>?_,r.2.1.alloc r.2.1.size _⟩;by_cases e:i=j
   ·subst e;rw[P.1];exact HX.out
   exact r.1 i B (by omega)
  have HX:=aa E;have a3:(t.nm.toList==x.toList)=true:=(by rw[aQ];exact E);have z0:=aA a 0;have z1:=aA a 1;have z2:=aA a 2;have z3:=aA a 3;have zf:∀i,wr.frozen? ⟨S,i,none⟩=false:=(fun i=>zq wr S i _ _ a);have a4:S<wr.heap.size:=aB a;have Q:=aa a;clear E a;go_wp2_with fail;have c:=cR (u:=ar t.nm (.slice y m1 d) t.key (.slice z m2 f)) (mn Q.out (.string t.nm) (.slice y m1 d) (.string t.key) (.slice z m2 f));have k:=bB r.2.2 J (.string t.nm) (.slice y m1 d) (.string t.key) (.slice z m2 f);have M:=k.alloc k.size (ar t.nm (.slice y m1 d) t.key (.slice z m2 f));have N:Kp wr (((((wr.setCell _ _).setCell _ _).setCell _ _).setCell _ _).alloc (ar t.nm (.slice y m1 d) t.key (.slice z m2 f))):=(yF Q.out rfl (.string t.nm) (.slice y m1 d) (.string t.key) (.slice z m2 f)).trans (.below (aD _ _));generalize ((((wr.setCell _ _).setCell _ _).setCell _ _).setCell _ _).alloc _=wz at c M N ⊢;have y0:=aA c 0;have y1:=aA c 1;have y2:=aA c 2;have y3:=aA c 3;obtain⟨f1,f2,_⟩:=dT (p:=qb x) ts j (by rw[A.2.2];exact L) (by rw[P.1];exact HX.out) (fun i B=>r.1 i _ B);refine y8 (v:=.tuple #[.agg #[.string t.nm,(.slice y m1 d),.string t.key,(.slice z m2 f)],.bool true]) (by simp[results,results78,go_sem,y0,y1,y2,y3]) rfl ?_;have e1:nu (bg ts x)=t:=(by unfold nu bg;rw[f1,P.1];rfl);have e2:fe ts x=true:=f2;rw[e1,e2];exact⟨_,_,_,_,_,_,rfl,P.2.kp N,M⟩
 have z0:=aA a 0;have z1:=aA a 1;have z2:=aA a 2;have z3:=aA a 3;have zf:∀i,wr.frozen? ⟨S,i,none⟩=false:=(fun i=>zq wr S i _ _ a);have a4:S<wr.heap.size:=aB a;have Q:=aa a;clear a q;go_wp2_with fail;have c:=mn Q.out (.string e0) (.slice none 0 0) (.string e0) (.slice none 0 0);have k:=bB r.2.2 J (.string e0) (.slice none 0 0) (.string e0) (.slice none 0 0);generalize (((wr.setCell _ _).setCell _ _).setCell _ _).setCell _ _=wz at c k ⊢;have y0:=aA c 0;have y1:=aA c 1;have y2:=aA c 2;have y3:=aA c 3;obtain⟨f1,f2,_⟩:=iH (p:=qb x) ts (fun i B=>r.1 i B (by have:=A.2.2;omega));refine y8 (v:=.tuple #[.agg #[.string e0,(.slice none 0 0),.string e0,(.slice none 0 0)],.bool false]) (by simp[results,results78,go_sem,y0,y1,y2,y3]) rfl ?_;have e1:nu (bg ts x)=ot:=(by unfold nu bg;rw[f1];rfl);have e2:fe ts x=false:=f2;rw[e1,e2];exact⟨_,_,_,_,_,_,rfl,rN _,k⟩
theorem cU(ts:List T)(x:ByteArray):fe ts x=(bg ts x).isSome:=jM ts
theorem oS(l:List C)(x:ByteArray):cp l x=(dt l x).isSome:=jM l
theorem ED{pv:Value}{ts:List T}{x:ByteArray}{W:World}(h:mh mv W pv ts)(hs:x.size<=maxLen):Calls prog 145 #[pv,.string x] W fun e w'=>e=.returned (.bool (free ts x))/\Below W.heap.size W w':=by
 have a:=fU (x:=x) h;cases b:named x
 ·have d:Hid (free ts x=false):=aa (by unfold free;rw[b];rfl);have f:=(fun w=>dH b w hs);generalize fe ts x=ok at a;generalize nu (bg ts x)=t at a;clear h hs b;go_enter func145,ntmps145
  go_wp2_with (first|(go_at_call 78;refine a.mono ?_;rintro e g⟨i,j,c1,k,l,c2,rfl,m,c⟩)|(go_at_call 176;refine(f _).mono ?_;rintro e n⟨rfl,rfl⟩))
  go_ret;exact⟨aH d.out.symm,c.alloc c.size _⟩
 have f:=(fun w=>dH b w hs);have d:Hid (free ts x=!fe ts x):=aa (by unfold free;rw[b];rfl);generalize fe ts x=ok at a d;generalize nu (bg ts x)=t at a;clear h hs b;go_enter func145,ntmps145
 go_wp2_with (first|(go_at_call 78;refine a.mono ?_;rintro e g⟨i,j,c1,k,l,c2,rfl,m,c⟩)|(go_at_call 176;refine(f _).mono ?_;rintro e n⟨rfl,rfl⟩))
 go_ret;exact⟨aH d.out.symm,c.alloc c.size _⟩
theorem CY{pv:Value}{ts:List T}{c:C}{W:World}(h:mh mv W pv ts):Calls prog 150 #[pv,.agg #[.string c.nm,.int .i64 c.kd,.bool c.mu,.string c.tgt]] W fun e w'=>e=.returned (.int .i64 (leads ts c))/\Below W.heap.size W w':=by
 have m:=aD W (.cells #[.string c.nm,.int .i64 c.kd,.bool c.mu,.string c.tgt] 107);have B:=z7 W (.cells #[.string c.nm,.int .i64 c.kd,.bool c.mu,.string c.tgt] 107);have j:=fU (x:=c.tgt) (h.later m);cases G:ip c.tgt e0
 ·have L:c.tgt.toList.isEmpty=false:=(by rw[cK];exact G);obtain⟨S,M⟩:=ae W.heap.size;have I:=aa M;obtain⟨O,E⟩:=ae (W.alloc (.cells #[.string c.nm,.int .i64 c.kd,.bool c.mu,.string c.tgt] 107));rw[E]at m B j;rw[M]at B;have r:=aa (ab m B);have J:=aa E;have X:=aA B 3;have Q:=aB B;rw[cU]at j;have N:=aa G;clear h m B E M G;cases a:bg ts c.tgt with
  | none =>
   rw[a]at j;have q:Hid (leads ts c=3):=aa (by unfold leads;rw[N.out,a];rfl);change Calls _ _ _ _ (ma ot false _)at j;generalize ot=t at j;go_enter func150,ntmps150;go_upto_region 1 with fail;rw[J.out,I.out];go_wp2_with (go_at_call 78;refine j.mono ?_;rintro e l⟨s,u,c1,y,z,c2,rfl,A,f⟩);go_ret;exact⟨aP q.out.symm,(aC r.1 f).alloc (aC r.1 f).size _⟩
  | some t =>
   rw[a]at j;change Calls _ _ _ _ (ma t true _)at j;have b:=(fun(w:World) (v:Value) (A:fj w v t.cols)=>gO (x:=t.key) A);rw[oS]at b;cases i:dt t.cols t.key with
   | none =>
    have q:Hid (leads ts c=9):=aa (by unfold leads;rw[N.out,a];show(match dt t.cols t.key with|none=>(9:Int) | some k=>if k.kd=c.kd then 0 else 4)=9;rw[i]);simp only[i]at b;change ∀(w:World) (v:Value),fj w v t.cols->Calls _ _ _ _ (fun e w'=>e=.returned (.tuple #[.agg #[.string dx.nm,.int .i64 dx.kd,.bool dx.mu,.string dx.tgt],.bool false])/\_)at b;generalize dx=k at b;clear i a;go_enter func150,ntmps150;go_upto_region 1 with fail;rw[J.out,I.out]
    go_wp2_with (first|(go_at_call 78;refine j.mono ?_;rintro e l⟨s,u,c1,y,z,c2,rfl,A,f⟩;have n:=A.1.later (aD l (ar t.nm (.slice s u c1) t.key (.slice y z c2)));have p:=(aC r.1 f).alloc (aC r.1 f).size (ar t.nm (.slice s u c1) t.key (.slice y z c2)))|(go_at_call 85;refine(b _ _ n).mono ?_;rintro e F⟨rfl,g⟩;have d:=aC p g))
    go_ret;exact⟨aP q.out.symm,d.alloc d.size _⟩
   | some k =>
    have q:Hid (leads ts c=if k.kd=c.kd then 0 else 4):=aa (by unfold leads;rw[N.out,a];show(match dt t.cols t.key with|none=>(9:Int) | some k=>if k.kd=c.kd then 0 else 4)=_;rw[i]);simp only[i]at b;change ∀(w:World) (v:Value),fj w v t.cols->Calls _ _ _ _ (fun e w'=>e=.returned (.tuple #[.agg #[.string k.nm,.int .i64 k.kd,.bool k.mu,.string k.tgt],.bool true])/\_)at b;clear i a
    have P:∀{l F:World} {o:Obj},Below O.heap.size O l->Below (l.alloc o).heap.size (l.alloc o) F->S<F.heap.size/\F.cell? ⟨S,1,none⟩=some (.int .i64 c.kd):=fun{l F o} ha f=>by
     have:=aE f (aE (aD l o) (aE ha r.2))
     exact⟨aB this,aA this 1⟩
    by_cases H:k.kd=c.kd
    ·have R:(k.kd != c.kd)=false:=(by simp[H]);rw[zw H]at q;clear H;go_enter func150,ntmps150;go_upto_region 1 with fail;rw[J.out,I.out]
     go_wp2_with (first|(go_at_call 78;refine j.mono ?_;rintro e l⟨s,u,c1,y,z,c2,rfl,A,f⟩;have n:=A.1.later (aD l (ar t.nm (.slice s u c1) t.key (.slice y z c2)));have p:=(aC r.1 f).alloc (aC r.1 f).size (ar t.nm (.slice s u c1) t.key (.slice y z c2)))|(go_at_call 85;refine(b _ _ n).mono ?_;rintro e F⟨rfl,g⟩;obtain⟨U,V⟩:=P f g;have d:=aC p g))
     go_ret;exact⟨aP q.out.symm,d.alloc d.size _⟩
    ·have R:(k.kd != c.kd)=true:=(by simp[H]);rw[zu H]at q;clear H;go_enter func150,ntmps150;go_upto_region 1 with fail;rw[J.out,I.out]
     go_wp2_with (first|(go_at_call 78;refine j.mono ?_;rintro e l⟨s,u,c1,y,z,c2,rfl,A,f⟩;have n:=A.1.later (aD l (ar t.nm (.slice s u c1) t.key (.slice y z c2)));have p:=(aC r.1 f).alloc (aC r.1 f).size (ar t.nm (.slice s u c1) t.key (.slice y z c2)))|(go_at_call 85;refine(b _ _ n).mono ?_;rintro e F⟨rfl,g⟩;obtain⟨U,V⟩:=P f g;have d:=aC p g))
     go_ret;exact⟨aP q.out.symm,d.alloc d.size _⟩
 have L:c.tgt.toList.isEmpty=true:=(by rw[cK];exact G);have q:Hid (leads ts c=0):=aa (by unfold leads;rw[G];rfl);clear h j B G;go_enter func150,ntmps150;go_wp2_with fail;go_ret;exact⟨aP q.out.symm,m⟩
structure r9 (mv:Value) (B:Nat) (W0:World) (S0:Nat) (t:T) (cv dv:Value) (sb:Nat) (ts:List T) (w:World):Prop where
 tb:ep B W0 S0 t cv dv w
 sch:Sch mv w sb ts
theorem r9.on{B:Nat}{W0:World}{S0:Nat}{t:T}{cv dv:Value}{sb:Nat}{ts:List T}{w w':World}(h:r9 mv B W0 S0 t cv dv sb ts w)(hb:Below w.heap.size w w'):r9 mv B W0 S0 t cv dv sb ts w':=⟨h.tb.on hb,h.sch.later hb⟩
theorem Sch.p{W:World}{sb:Nat}{ts:List T}(h:Sch mv W sb ts):mh mv W (.pointer (some ⟨sb,0,none⟩)) ts:=.inr ⟨sb,rfl,h⟩
theorem eP{t:T}{cv dv:Value}{W:World}{b:Bool}(h:dw W cv dv t)(hb:qe t=b):Calls prog 144 #[.agg #[.string t.nm,cv,.string t.key,dv]] W fun e w'=>e=.returned (.bool b)/\Below W.heap.size W w':=hb▸F0 h
theorem fV{pv:Value}{ts:List T}{x:ByteArray}{W:World}{b:Bool}(h:mh mv W pv ts)(hs:x.size<=maxLen)(hb:free ts x=b):Calls prog 145 #[pv,.string x] W fun e w'=>e=.returned (.bool b)/\Below W.heap.size W w':=hb▸ED h hs
theorem bX{l:List C}{v:Value}{W:World}{b:Bool}(h:fj W v l)(hs:BS l)(hb:jl l=b):Calls prog 146 #[v] W fun e w'=>e=.returned (.bool b)/\Below W.heap.size W w':=hb▸nT h hs
theorem dP{t:T}{cv dv:Value}{W:World}{b:Bool}(h:dw W cv dv t)(hb:bm t=b):Calls prog 147 #[.agg #[.string t.nm,cv,.string t.key,dv]] W fun e w'=>e=.returned (.bool b)/\Below W.heap.size W w':=hb▸qI h
theorem eQ{t:T}{cv dv:Value}{W:World}{b:Bool}(h:dw W cv dv t)(hb:jd t.cols t.deps=b):Calls prog 148 #[.agg #[.string t.nm,cv,.string t.key,dv]] W fun e w'=>e=.returned (.bool b)/\Below W.heap.size W w':=hb▸nV h
theorem sT{l:List C}{v:Value}{W:World}{b:Bool}(h:fj W v l)(hb:db l=b):Calls prog 149 #[v] W fun e w'=>e=.returned (.bool b)/\Below W.heap.size W w':=hb▸vS h
theorem E2{ts:List T}{t:T}(h:ts.length<=8):lim ts t=(decide (ts.length=8) || !qe t):=by
 unfold lim qe;rw[wu];simp only[wh,xz,Bool.not_eq_true',Bool.and_eq_false_iff,ww];omega
theorem Hn{t:T}{cv dv:Value}{sb:Nat}{ts:List T}{W:World}(h:dw W cv dv t)(hs:Sch mv W sb ts)(hsm:t6 t):Calls prog 120 #[.pointer (some ⟨sb,0,none⟩),.agg #[.string t.nm,cv,.string t.key,dv]] W fun e w'=>e=.returned (.int .i64 (dg ts t))/\Below W.heap.size W w':=by
 have u:=aa (show r9 mv W.heap.size W W.heap.size t cv dv sb ts _ from⟨ep.new h,hs.later (aD W (ar t.nm cv t.key dv))⟩);obtain⟨pc,cc,c4,d6,d7⟩:=h.1.slice;obtain⟨p,c5,c6,_,_⟩:=h.2.slice;obtain⟨n,hn⟩:=ae t.cols.length;obtain⟨nd,c7⟩:=ae t.deps.length;obtain⟨B,hB⟩:=ae W.heap.size;unfold maxLen at d7;rw[c7]at c6;rw[hn]at c4 d6;subst c4 c6;rw[hB]at u;have HB:=aa hB;have HN:=aa hn;have R:=aa (ab hsm.1 hsm.2);have a9:=hs.1;obtain⟨m,hm⟩:=ae ts.length;have l:=E2 (t:=t) a9;rw[hm]at a9 l;clear h hs hsm hn c7 hB;go_enter func120,ntmps120;go_upto_region 1 with fail;obtain⟨w0,b0⟩:=ae (W.alloc (ar t.nm (.slice pc n cc) t.key (.slice p nd c5)));rw[HB.out,b0];rw[b0]at u;clear b0;obtain⟨d8,d9,e1,e2,e3⟩:=u.out.tb.cells;obtain⟨v0,v1⟩:=u.out.sch.num;rw[hm]at v1;clear hm;by_cases a2:m=8
 ·have c8:((m:Int)==8)=true:=beq_iff_eq.2 (by omega);have A:Hid (dg ts t=5):=aa (by unfold dg;rw[l,yy a2];rfl);clear l a2;go_wp2_with fail;go_ret;exact⟨aP A.out.symm,HB.out▸u.out.tb.below⟩
 have c8:((m:Int)==8)=false:=beq_eq_false_iff_ne.2 (by omega);rw[yp a2,Bool.false_or]at l;clear a2 a9;cases s:qe t
 ·have A:Hid (dg ts t=5):=aa (by unfold dg;rw[l,s];rfl);clear l
  go_wp2_with (first|(go_at_call 144;refine(eP u.out.tb.tab s).mono ?_;rintro e w1⟨rfl,a⟩;have g:=aa (u.out.on a);obtain⟨E,F,G,H,I⟩:=g.out.tb.cells;clear a))
  go_ret;exact⟨aP (A.out.symm),HB.out▸g.out.tb.below⟩
 have HL:Hid (dg ts t=if aq ts t=true then(if db t.cols=true then dc (t.cols.map (leads ts))else 4)else 3):=aa (by unfold dg;rw[l,s];rfl);clear l;cases k:free ts t.nm
 ·have A:Hid (dg ts t=3):=aa (by rw[HL.out];unfold aq;rw[k];rfl)
  go_wp2_with (first|(go_at_call 144;refine(eP u.out.tb.tab s).mono ?_;rintro e w1⟨rfl,a⟩;have g:=aa (u.out.on a);obtain⟨E,F,G,H,I⟩:=g.out.tb.cells;clear a)|(go_at_call 145;refine(fV g.out.sch.p R.1 k).mono ?_;rintro e w2⟨rfl,d⟩;have o:=aa (g.out.on d);obtain⟨M,N,O,P,Q⟩:=o.out.tb.cells;clear d))
  go_ret;exact⟨aP (A.out.symm),HB.out▸o.out.tb.below⟩
 cases q:jl t.cols
 ·have A:Hid (dg ts t=3):=aa (by rw[HL.out];unfold aq;rw[k,q];rfl)
  go_wp2_with (first|(go_at_call 144;refine(eP u.out.tb.tab s).mono ?_;rintro e w1⟨rfl,a⟩;have g:=aa (u.out.on a);obtain⟨E,F,G,H,I⟩:=g.out.tb.cells;clear a)|(go_at_call 145;refine(fV g.out.sch.p R.1 k).mono ?_;rintro e w2⟨rfl,d⟩;have o:=aa (g.out.on d);obtain⟨M,N,O,P,Q⟩:=o.out.tb.cells;clear d)|(go_at_call 146;refine(bX o.out.tb.tab.c R.2 q).mono ?_;rintro e w3⟨rfl,f⟩;have v:=aa (o.out.on f);obtain⟨S,U,V,X,Y⟩:=v.out.tb.cells;clear f))
  go_ret;exact⟨aP (A.out.symm),HB.out▸v.out.tb.below⟩
 cases x:bm t
 ·have A:Hid (dg ts t=3):=aa (by rw[HL.out];unfold aq;rw[k,q,x];rfl)
  go_wp2_with (first|(go_at_call 144;refine(eP u.out.tb.tab s).mono ?_;rintro e w1⟨rfl,a⟩;have g:=aa (u.out.on a);obtain⟨E,F,G,H,I⟩:=g.out.tb.cells;clear a)|(go_at_call 145;refine(fV g.out.sch.p R.1 k).mono ?_;rintro e w2⟨rfl,d⟩;have o:=aa (g.out.on d);obtain⟨M,N,O,P,Q⟩:=o.out.tb.cells;clear d)|(go_at_call 146;refine(bX o.out.tb.tab.c R.2 q).mono ?_;rintro e w3⟨rfl,f⟩;have v:=aa (o.out.on f);obtain⟨S,U,V,X,Y⟩:=v.out.tb.cells;clear f)|(go_at_call 147;refine(dP v.out.tb.tab x).mono ?_;rintro e w4⟨rfl,r⟩;have J:=aa (v.out.on r);obtain⟨a3,a4,a5,a6,a7⟩:=J.out.tb.cells;clear r))
  go_ret;exact⟨aP (A.out.symm),HB.out▸J.out.tb.below⟩
 cases L:jd t.cols t.deps
 ·have A:Hid (dg ts t=3):=aa (by rw[HL.out];unfold aq;rw[k,q,x,L];rfl)
  go_wp2_with (first|(go_at_call 144;refine(eP u.out.tb.tab s).mono ?_;rintro e w1⟨rfl,a⟩;have g:=aa (u.out.on a);obtain⟨E,F,G,H,I⟩:=g.out.tb.cells;clear a)|(go_at_call 145;refine(fV g.out.sch.p R.1 k).mono ?_;rintro e w2⟨rfl,d⟩;have o:=aa (g.out.on d);obtain⟨M,N,O,P,Q⟩:=o.out.tb.cells;clear d)|(go_at_call 146;refine(bX o.out.tb.tab.c R.2 q).mono ?_;rintro e w3⟨rfl,f⟩;have v:=aa (o.out.on f);obtain⟨S,U,V,X,Y⟩:=v.out.tb.cells;clear f)|(go_at_call 147;refine(dP v.out.tb.tab x).mono ?_;rintro e w4⟨rfl,r⟩;have J:=aa (v.out.on r);obtain⟨a3,a4,a5,a6,a7⟩:=J.out.tb.cells;clear r)|(go_at_call 148;refine(eQ J.out.tb.tab L).mono ?_;rintro e w5⟨rfl,y⟩;have Z:=aa (J.out.on y);obtain⟨b1,b2,b3,b4,b5⟩:=Z.out.tb.cells;clear y))
  go_ret;exact⟨aP (A.out.symm),HB.out▸Z.out.tb.below⟩
 cases a0:db t.cols
 ·have A:Hid (dg ts t=4):=aa (by rw[HL.out];unfold aq;rw[k,q,x,L,a0];rfl)
  go_wp2_with (first|(go_at_call 144;refine(eP u.out.tb.tab s).mono ?_;rintro e w1⟨rfl,a⟩;have g:=aa (u.out.on a);obtain⟨E,F,G,H,I⟩:=g.out.tb.cells;clear a)|(go_at_call 145;refine(fV g.out.sch.p R.1 k).mono ?_;rintro e w2⟨rfl,d⟩;have o:=aa (g.out.on d);obtain⟨M,N,O,P,Q⟩:=o.out.tb.cells;clear d)|(go_at_call 146;refine(bX o.out.tb.tab.c R.2 q).mono ?_;rintro e w3⟨rfl,f⟩;have v:=aa (o.out.on f);obtain⟨S,U,V,X,Y⟩:=v.out.tb.cells;clear f)|(go_at_call 147;refine(dP v.out.tb.tab x).mono ?_;rintro e w4⟨rfl,r⟩;have J:=aa (v.out.on r);obtain⟨a3,a4,a5,a6,a7⟩:=J.out.tb.cells;clear r)|(go_at_call 148;refine(eQ J.out.tb.tab L).mono ?_;rintro e w5⟨rfl,y⟩;have Z:=aa (J.out.on y);obtain⟨b1,b2,b3,b4,b5⟩:=Z.out.tb.cells;clear y)|(go_at_call 149;refine(sT Z.out.tb.tab.c a0).mono ?_;rintro e w6⟨rfl,a1⟩;have K6:=aa (Z.out.on a1);obtain⟨c9,d0,d1,d2,d3⟩:=K6.out.tb.cells;clear a1))
  go_ret;exact⟨aP (A.out.symm),HB.out▸K6.out.tb.below⟩
 have A:Hid (dg ts t=dc (t.cols.map (leads ts))):=aa (by rw[HL.out];unfold aq;rw[k,q,x,L,a0];rfl)
 go_wp2_with (first|(go_at_call 144;refine(eP u.out.tb.tab s).mono ?_;rintro e w1⟨rfl,a⟩;have g:=aa (u.out.on a);obtain⟨E,F,G,H,I⟩:=g.out.tb.cells;clear a)|(go_at_call 145;refine(fV g.out.sch.p R.1 k).mono ?_;rintro e w2⟨rfl,d⟩;have o:=aa (g.out.on d);obtain⟨M,N,O,P,Q⟩:=o.out.tb.cells;clear d)|(go_at_call 146;refine(bX o.out.tb.tab.c R.2 q).mono ?_;rintro e w3⟨rfl,f⟩;have v:=aa (o.out.on f);obtain⟨S,U,V,X,Y⟩:=v.out.tb.cells;clear f)|(go_at_call 147;refine(dP v.out.tb.tab x).mono ?_;rintro e w4⟨rfl,r⟩;have J:=aa (v.out.on r);obtain⟨a3,a4,a5,a6,a7⟩:=J.out.tb.cells;clear r)|(go_at_call 148;refine(eQ J.out.tb.tab L).mono ?_;rintro e w5⟨rfl,y⟩;have Z:=aa (J.out.on y);obtain⟨b1,b2,b3,b4,b5⟩:=Z.out.tb.cells;clear y)|(go_at_call 149;refine(sT Z.out.tb.tab.c a0).mono ?_;rintro e w6⟨rfl,a1⟩;have K6:=aa (Z.out.on a1);obtain⟨c9,d0,d1,d2,d3⟩:=K6.out.tb.cells;clear a1))
 clear s k q x L a0 HL d8 d9 e1 e2 e3 v0 v1 E F G H I M N O P Q S U V X Y a3 a4 a5 a6 a7 b1 b2 b3 b4 b5 c9 d0 d1 d2 d3 c8 g o v J Z;go_loopg [6,7,49] (n+1) (fun gh _ _ jv w=>∃(j:Nat),jv=.int .i64 (j:Int)/\j<=n/\n+1<=j+gh/\(∀i (h:i<t.cols.length),i<j->leads ts t.cols[i]=0)/\r9 mv B W B t (.slice pc n cc) (.slice p nd c5) sb ts w)
 case atStart=>exact⟨0,rfl,zj _,by omega,fun i _ hi=>by omega,K6.out⟩
 obtain⟨j,rfl,hj,hg,d4,hK⟩:=hrel;have HI:=aa (ab d4 hK);clear d4;by_cases e4:j<n
 ·have d5:j<t.cols.length:=(by rw[HN.out];exact e4);obtain⟨b,e6,rfl,hb,c0,c1,c2,c3⟩:=fj.col hK.tb.tab.1 d5;obtain⟨c,b6⟩:=ae (t.cols[j]);rw[b6]at c0 c1 c2 c3;have HC:=aa b6;have a8:=CY (c:=c) (hK.on (aD wr (.cells #[.string c.nm,.int .i64 c.kd,.bool c.mu,.string c.tgt] 107))).sch.p;clear hK b6;have b7:j<(t.cols.map (leads ts)).length:=(by rw[yd];exact d5);by_cases hz:leads ts c=0
  ·have HZ:=aa hz;rw[hz]at a8;clear hz b7;go_wp2_with (go_at_call 150;refine a8.mono ?_;rintro e w7⟨rfl,b8⟩);go_roundg (n-j)
   case measure=>omega
   refine⟨j+1,by go_num,by omega,by omega,fun i hi e7=>?_,(HI.2.on (aD wr _)).on b8⟩;by_cases e:i=j
   ·subst e;rw[HC.out];exact HZ.out
   exact HI.1 i hi (by omega)
  have e5:(leads ts c != 0)=true:=(by simp[hz]);have HZ:=aa hz;clear hz;obtain⟨z,b9⟩:=ae (leads ts c);rw[b9]at a8 e5
  have HE:Hid (dc (t.cols.map (leads ts))=z):=aa (by
   have:=fD (t.cols.map (leads ts)) j b7 (by rw[yw,HC.out];exact HZ.out) (fun i hi=>by rw[yw];exact HI.1 i (by omega) hi)
   rw[this,yw,HC.out];exact b9)
  clear b9 b7;go_wp2_with (go_at_call 150;refine a8.mono ?_;rintro e w7⟨rfl,b8⟩);go_ret;exact⟨aP (by rw[A.out,HE.out]),HB.out▸((HI.2.on (aD wr _)).on b8).tb.below⟩
 go_wp2_with fail;go_ret;exact⟨aP (by rw[A.out];exact(dS _ (fun i hi=>by rw[yw];rw[yd]at hi;exact HI.1 i hi (by have:=HN.out;omega))).symm),HB.out▸HI.2.tb.below⟩
section
variable{S:Nat}{W w w':World}{t:T}{cv dv:Value}
end
section
variable{S base:Nat}{W w:World}{t:T}{cv dv:Value}{ps:List Value}{j:Nat}
end
theorem kG{t:T}{cv dv:Value}{W:World}(h:dw W cv dv t)(hf:Few t):Calls prog 79 #[.agg #[.string t.nm,cv,.string t.key,dv]] W fun e w'=>∃p1 c1 p2 c2 ps,e=.returned (.agg #[.string t.nm,.slice p1 t.cols.length c1,.string t.key,.slice p2 t.deps.length c2])/\fw w' (W.heap.size+2) (.slice p1 t.cols.length c1) (.slice p2 t.deps.length c2) t ps/\Below W.heap.size W w':=by
 obtain⟨pc,cc,a3,c4,c5⟩:=h.1.slice;obtain⟨p,Q,a4,b2,b3⟩:=h.2.slice;obtain⟨n,hn⟩:=ae t.cols.length;obtain⟨nd,a5⟩:=ae t.deps.length;obtain⟨S,hS⟩:=ae W.heap.size;have R:=aD W (ar t.nm cv t.key dv);have r:=R.alloc R.size (ar e0 (.slice none 0 0) e0 (.slice none 0 0));have U:=cR (u:=ar e0 (.slice none 0 0) e0 (.slice none 0 0)) (z7 W (ar t.nm cv t.key dv));have k1:=z7 (W.alloc (ar t.nm cv t.key dv)) (ar e0 (.slice none 0 0) e0 (.slice none 0 0));rw[hS]at U;rw[zm,hS]at k1;have A:=lZ (h.1.later r) hf.1;have B:((W.alloc (ar t.nm cv t.key dv)).alloc (ar e0 (.slice none 0 0) e0 (.slice none 0 0))).heap.size=S+2:=(by rw[zm,zm,hS]);obtain⟨w0,V⟩:=ae ((W.alloc (ar t.nm cv t.key dv)).alloc (ar e0 (.slice none 0 0) e0 (.slice none 0 0)));rw[V]at U k1 r A B;rw[B,hn]at A;rw[hS]at r;rw[a5]at a4 b2;rw[hn]at a3;unfold maxLen at b3;have HW:=aa V;have HS:=aa hS;have HB:=aa (ab U (ab k1 (ab r B)));have X:=aa (ab hn a5);have HR:=aa (ab h.2 hf.2);have z1:=aA U 1;have zf:=zq w0 S 1 _ _ U;have zl:=aB U;subst a3 a4;clear h hf V hS U k1 R r B;go_enter func79,ntmps79;go_upto_region 1 with fail;rw[HW.out,HS.out];go_upto_region 2 with (go_at_call 110;(with_reducible refine A.mono ?_);rintro e M⟨v',rfl,hr,hb⟩;obtain⟨pv,o,rfl,_,_⟩:=ac.isslice hr;have x:=(hb.block S (by omega)).trans HB.1;have z1:=aA x 1;have zf:=zq M S 1 _ _ x;have zl:=aB x;have H1:=aa (ab hr (ab hb x));clear hr hb x)
 have hI:jp S W t (.slice pv n o) (.slice p nd Q) (M.setCell ⟨S,1,none⟩ (.slice pv n o)):=by
  have a6:∀(q:Nat),q≠S->(M.setCell ⟨S,1,none⟩ (.slice pv n o)).heap[q]?=M.heap[q]?:=(fun q h=>y9 M ⟨S,1,none⟩ q _ h);refine⟨y7 _ S 1 _ _ _ H1.2.2,(a6 _ (by omega)).trans ((H1.2.1.block (S+1) (by omega)).trans HB.2.1),?_,?_⟩
  ·rw[X.1];exact H1.1.of (fun k hk=>a6 k (by have:=(H1.1.lt k hk).1;omega))
  exact(HB.2.2.1.trans (H1.2.1.mono (by omega))).setCell (p:=⟨S,1,none⟩) (zo _) _
 obtain⟨y2,a7⟩:=ae (M.setCell ⟨S,1,none⟩ (.slice pv n o));rw[a7]at hI ⊢;clear a7 H1 A;have c3:=hI.cells.2.2.2.2;have HI:=aa hI;clear hI;have Y:∀a w,(callFunc 111 a).run prog w=.ok (.enter 111 a) w:=(by intro a w;rfl);go_wp2_with fail;clear c3;go_loopg [3,13] (nd+1) (fun gh v jv w=>∃(j:Nat) (ps:List Value),jv=.int .i64 (j:Int)/\j<=nd/\nd+1<=j+gh/\jp S W t (.slice pv n o) (.slice p nd Q) w/\jx w (S+2) v (t.deps.take j) ps)
 case atStart=>exact⟨0,[],rfl,zj _,by omega,HI.out,jx.nil _ _⟩
 obtain⟨j,ps,rfl,hj,hg,Z,hD⟩:=hrel;have s:(t.deps.take j).length=j:=(by rw[xq,X.2];omega);have b4:=HR.2.1;rw[X.2]at b4;obtain⟨pd,cd,hv,_,_⟩:=ac.isslice hD.d;rw[s]at hv;subst hv;by_cases b5:j<nd
 ·have a8:j<t.deps.length:=(by rw[X.2];exact b5);have N:px wr (.slice p nd Q) t.deps:=HR.1.later (Z.below.mono (xn HS.out));obtain⟨b,c6,lv,rfl,hb,c0,c1,E⟩:=px.dep N a8;obtain⟨d,F⟩:=ae (t.deps[j]);have y:t.deps.take (j+1)=t.deps.take j++[d]:=(by rw[yi a8,F]);have a9:d.left.length<=1000:=HR.2.2 d (by rw[<-F];exact z8 _);rw[F]at c1 E;obtain⟨pl,cl,rfl,_,_⟩:=E.slice;have O:=z7 wr (.cells #[.slice pl d.left.length cl,.string d.right] 155);have G:=aD wr (.cells #[.slice pl d.left.length cl,.string d.right] 155);have H:=mA ((E.later G).later (aG _)) a9;have I:=aa (ab ((Z.on G).on (aG _)) (ab ((hD.later G).later (aG _)) (ab (aE (aG _) O) y)));have HL:=aa s;clear F N E a9 Z hD O G s y;go_upto_region 6 with fail;obtain⟨nl,a0⟩:=ae d.left.length;obtain⟨w1,J⟩:=ae (wr.alloc (.cells #[.slice pl d.left.length cl,.string d.right] 155));obtain⟨S1,a1⟩:=ae wr.heap.size;rw[J,a1]at I;rw[J]at H;rw[J,a1];clear J a1 c0 c1 hb;rw[a0]at H I ⊢;have b6:=aa a0;clear a0;have x0:=aA I.2.2.1 0;have x1:=aA I.2.2.1 1;have xl:=aB I.2.2.1
  go_region_law (first|(refine bM Y [.slice pl nl cl] (by simp[Act.eval]) ?_;(with_reducible refine Calls.mono H ?_);rintro e y2⟨c7,rfl,a2,r⟩;obtain⟨c8,c9,rfl,_,_⟩:=ac.isslice a2;have q2:=aE r I.2.2.1;have q0:=aA q2 1;have ql:=aB q2;obtain⟨g,b9,w3,P,I3,D3⟩:=jY (d:=d) I.1 I.2.1 r (by rw[b6.out];exact a2) (by rw[HL.out];omega);rw[HL.out]at P D3;have H3:=aa (ab I3 D3);clear I3 D3 a2 r q2 H;refine⟨_,rfl,?_⟩)|refine bE rfl (.tmp 17) (.tmp 24) 58 rfl rfl rfl P ?_)
  all_goals
   go_wp2_with fail;go_roundg (nd-j)
   case measure=>omega
   case rel=>exact⟨j+1,_,by go_num,by omega,by omega,H3.1,by rw[I.2.2.2];exact H3.2⟩
 obtain rfl:j=nd:=(by omega);have y:t.deps.take j=t.deps:=yu (by rw[X.2];exact zo _);rw[y]at hD;have f:=Z.box;have m:=Z.res;have z0:=aA f 0;have z1:=aA f 1;have z2:=aA f 2;have z3:=aA f 3;have zf:=(fun i=>zq wr S i _ _ f);have zl:=aB f;have r0:=aA m 0;have r1:=aA m 1;have r2:=aA m 2;have r3:=aA m 3;have rf:=(fun i=>zq wr (S+1) i _ _ m);have rl:=aB m;have HK:=aa (ab Z hD);clear Z hD f m y s;go_wp2_with fail;obtain⟨wa,L⟩:=ae (wr.setCell ⟨S,3,none⟩ (.slice pd j cd));have ha:∀q:Nat,q≠S->wa.heap[q]?=wr.heap[q]?:=(fun q h=>by rw[<-L];exact y9 wr ⟨S,3,none⟩ q _ h);have b7:Below S W wa:=(by rw[<-L];exact HK.1.below.setCell (p:=⟨S,3,none⟩) (zo _) _);have b8:=(ha (S+1) (by omega)).trans HK.1.res;rw[L];clear L;have z:=mn b8 (.string t.nm) (.slice pv n o) (.string t.key) (.slice pd j cd);have b0:=bB b7 (show S<=S+1 by omega) (.string t.nm) (.slice pv n o) (.string t.key) (.slice pd j cd);have hO:=cA wa (S+1);have ho:∀q:Nat,S+2<=q->((((wa.setCell ⟨S+1,0,none⟩ (.string t.nm)).setCell ⟨S+1,1,none⟩ (.slice pv n o)).setCell ⟨S+1,2,none⟩ (.string t.key)).setCell ⟨S+1,3,none⟩ (.slice pd j cd)).heap[q]?=wr.heap[q]?:=(fun q h=>(hO q (by omega) _ _ _ _).trans (ha q (by omega)));generalize (((wa.setCell _ _).setCell _ _).setCell _ _).setCell _ _=wz at z b0 ho ⊢;have y0:=aA z 0;have M:=aA z 1;have y2:=aA z 2;have y3:=aA z 3;refine y8 (v:=.agg #[.string t.nm,(.slice pv n o),.string t.key,(.slice pd j cd)]) (by simp[results,results79,go_sem,y0,M,y2,y3]) rfl ?_;rw[X.1,X.2,HS.out];have b1:fw wr (S+2) (.slice pv n o) (.slice pd j cd) t ps:=⟨HK.1.c,HK.2.n,HK.2.d,HK.2.l⟩;exact⟨_,_,_,_,ps,rfl,b1.of ho,b0⟩
theorem sU{t:T}{cv dv:Value}{base:Nat}{ps:List Value}{W:World}(h:fw W base cv dv t ps)(hf:t.cols.length<=1000):Calls prog 121 #[.agg #[.string t.nm,cv,.string t.key,dv]] W fun e w'=>e=.returned (.agg #[.string t.nm,cv,.string t.key,dv])/\fw w' base cv dv (bj t) ps/\Chg (fun b=>cv.ownBlock=some b) W w':=by
 obtain⟨pc,B,Q,Z,a0⟩:=ac.isslice h.c;obtain⟨p,y,R,a1,a2⟩:=ac.isslice h.d;obtain⟨n,hn⟩:=ae t.cols.length;obtain⟨nd,H⟩:=ae t.deps.length;obtain⟨S,U⟩:=ae W.heap.size;have I:=aD W (ar t.nm cv t.key dv);have J:=I.alloc I.size (ar e0 (.slice none 0 0) e0 (.slice none 0 0));have k0:=cR (u:=ar e0 (.slice none 0 0) e0 (.slice none 0 0)) (z7 W (ar t.nm cv t.key dv));have k1:=z7 (W.alloc (ar t.nm cv t.key dv)) (ar e0 (.slice none 0 0) e0 (.slice none 0 0))
 have Y:jw S W base t cv dv ps 0 ((W.alloc (ar t.nm cv t.key dv)).alloc (ar e0 (.slice none 0 0) e0 (.slice none 0 0))):=
  ⟨by rw[U]at k0;exact k0,by rw[zm,U]at k1;exact k1,by rw[mC];exact h.later J,Chg.of_below J,fun b hb=>by rw[<-U];exact(h.c.lt b hb).2⟩
 obtain⟨w0,L⟩:=ae ((W.alloc (ar t.nm cv t.key dv)).alloc (ar e0 (.slice none 0 0) e0 (.slice none 0 0)));rw[L]at Y;have HW:=aa L;have HS:=aa U;rw[hn]at Q Z hf;rw[H]at R;unfold maxLen at a0;have V:=aa (ab hn H);have HM:=aa Y;obtain⟨zl,z1,z2⟩:=Y.cells;subst Q R;clear h L U I J k0 k1 Y hn H a1 a2;go_enter func121,ntmps121;go_upto_region 1 with fail;rw[HW.out,HS.out];go_wp2_with fail;clear z1 z2 zl;go_loopg [3,7] (n+1) (fun gh _ jv w=>∃(j:Nat),jv=.int .i64 (j:Int)/\j<=n/\n+1<=j+gh/\jw S W base t (.slice pc n B) (.slice p nd y) ps j w)
 case atStart=>exact⟨0,rfl,zj _,by omega,HM.out⟩
 obtain⟨j,rfl,hj,hg,E⟩:=hrel;by_cases a3:j<n
 ·have M:j<t.cols.length:=(by rw[V.1];exact a3);have z:=E.own.c;have z:ac wr base 107 4 (.slice pc n B) (bq t.key t.cols j).length (be (bq t.key t.cols j)):=z;rw[bU,V.1]at z;obtain⟨g,a6,a4,_,_⟩:=ac.slice z (by omega);obtain⟨rfl,-,rfl⟩:=Value.slice.inj a4;obtain⟨zl,z1,z2⟩:=E.cells;obtain⟨gl,g0,⟨b,g2⟩,gf⟩:=E.col V.1 M;have F:=aa E;have a7:(j:Int)<(n:Int):=(by omega);clear E z;obtain⟨c,N⟩:=ae (t.cols[j]);rw[N]at g0;have HC:=aa N;clear N;cases P:ip c.nm t.key
  ·have HX:=aa P;have a5:(c.nm.toList==t.key.toList)=false:=(by rw[aQ];exact P);clear P;go_upto_region 4 with fail;refine Par.ag 9 [.pointer (some ⟨S,1,none⟩),.slice (some ⟨g,0,none⟩) n B,.int .i64 (j:Int),.pointer (some ⟨g,j*4,none⟩),.pointer (some ⟨g,j*4,none⟩),.string (c.nm),.pointer (some ⟨S,2,none⟩),.string (t.key),.bool false] (fun w=>w=wr.drew) ?A1 ?hm1 ?hB1 ?hA1 (rfl) ?hop1 ?hT1
   case hm1=>kernel_rfl
   case hB1=>kernel_rfl
   case hA1 =>
    simp only[Par.am,Par.ai,Act.put,eh,ez,dz,eo,ew,ey,ed,ic,gy];rfl
   case hop1 =>
    simp only[en,zh,Par.ah,yo];and_intros<;>intro w' f
    ·have o:=aa f;obtain rfl:=f;simp only[Par.Gives];go_simp;all_goals exact o.out
    ·have o:=aa f;obtain rfl:=f;simp only[Par.Gives];go_simp;all_goals exact o.out
    ·have o:=aa f;obtain rfl:=f;simp only[Par.Gives];go_simp;all_goals exact o.out
    ·have o:=aa f;obtain rfl:=f;simp only[Par.Gives];go_simp;all_goals exact o.out
    ·have o:=aa f;obtain rfl:=f;simp only[Par.Gives];go_simp;all_goals exact o.out
    ·have o:=aa f;obtain rfl:=f;simp only[Par.Gives];go_simp;all_goals exact o.out
    ·have o:=aa f;obtain rfl:=f;simp only[Par.Gives];go_simp;all_goals exact o.out
    ·have o:=aa f;obtain rfl:=f;simp only[Par.Gives];go_simp;all_goals exact o.out
    have o:=aa f;obtain rfl:=f;simp only[Par.Gives];go_simp;all_goals exact o.out
   intro w' f;simp only[ex,ym];obtain rfl:=f;go_wp2_with fail;go_roundg (n-j)
   case measure=>omega
   exact⟨j+1,by go_num,by omega,by omega,F.out.drew.skip M (by rw[HC.out];exact HX.out)⟩
  have HX:=aa P;have a5:(c.nm.toList==t.key.toList)=true:=(by rw[aQ];exact P);clear P;go_upto_region 4 with fail;refine Par.ag 9 [.pointer (some ⟨S,1,none⟩),.slice (some ⟨g,0,none⟩) n B,.int .i64 (j:Int),.pointer (some ⟨g,j*4,none⟩),.pointer (some ⟨g,j*4,none⟩),.string (c.nm),.pointer (some ⟨S,2,none⟩),.string (t.key),.bool true] (fun w=>w=wr.drew) ?A2 ?hm2 ?hB2 ?hA2 (rfl) ?hop2 ?hT2
  case hm2=>kernel_rfl
  case hB2=>kernel_rfl
  case hA2 =>
   simp only[Par.am,Par.ai,Act.put,eh,ez,dz,eo,ew,ey,ed,ic,gy];rfl
  case hop2 =>
   simp only[en,zh,Par.ah,yo];and_intros<;>intro w' f
   ·have o:=aa f;obtain rfl:=f;simp only[Par.Gives];go_simp;all_goals exact o.out
   ·have o:=aa f;obtain rfl:=f;simp only[Par.Gives];go_simp;all_goals exact o.out
   ·have o:=aa f;obtain rfl:=f;simp only[Par.Gives];go_simp;all_goals exact o.out
   ·have o:=aa f;obtain rfl:=f;simp only[Par.Gives];go_simp;all_goals exact o.out
   ·have o:=aa f;obtain rfl:=f;simp only[Par.Gives];go_simp;all_goals exact o.out
   ·have o:=aa f;obtain rfl:=f;simp only[Par.Gives];go_simp;all_goals exact o.out
   ·have o:=aa f;obtain rfl:=f;simp only[Par.Gives];go_simp;all_goals exact o.out
   ·have o:=aa f;obtain rfl:=f;simp only[Par.Gives];go_simp;all_goals exact o.out
   have o:=aa f;obtain rfl:=f;simp only[Par.Gives];go_simp;all_goals exact o.out
  intro w' f;simp only[ex,ym];obtain rfl:=f;go_wp2_with fail;go_roundg (n-j)
  case measure=>omega
  exact⟨j+1,by go_num,by omega,by omega,F.out.drew.take V.1 M (by rw[HC.out];exact HX.out)⟩
 obtain rfl:j=n:=(by omega);have O:=E.own;have e:bq t.key t.cols j=t.cols.map (lu t.key):=(by rw[<-V.1,oE]);rw[e]at O;have O:fw wr base (.slice pc j B) (.slice p nd y) (bj t) ps:=O;have x:=E.box;have r:=E.res;have z0:=aA x 0;have z1:=aA x 1;have z2:=aA x 2;have z3:=aA x 3;have zl:=aB x;have r0:=aA r 0;have r1:=aA r 1;have r2:=aA r 2;have r3:=aA r 3;have rf:=(fun i=>zq wr (S+1) i _ _ r);have rl:=aB r;have F:=aa (ab E O);clear E O x r e;go_wp2_with fail;have A:=mn F.1.res (.string t.nm) (.slice pc j B) (.string t.key) (.slice p nd y);have O:=cA wr (S+1);have ho:∀q:Nat,q≠S+1->((((wr.setCell ⟨S+1,0,none⟩ (.string t.nm)).setCell ⟨S+1,1,none⟩ (.slice pc j B)).setCell ⟨S+1,2,none⟩ (.string t.key)).setCell ⟨S+1,3,none⟩ (.slice p nd y)).heap[q]?=wr.heap[q]?:=(fun q h=>O q h _ _ _ _);have G:∀(b:Nat),b<W.heap.size->b≠S+1:=fun b h=>by rw[HS.out]at h;omega
 have X:Chg (fun b=>(Value.slice pc j B).ownBlock=some b) W ((((wr.setCell ⟨S+1,0,none⟩ (.string t.nm)).setCell ⟨S+1,1,none⟩ (.slice pc j B)).setCell ⟨S+1,2,none⟩ (.string t.key)).setCell ⟨S+1,3,none⟩ (.slice p nd y)):=
  (((F.1.chg.setCell (p:=⟨S+1,0,none⟩) (fun h=>absurd rfl (G _ h)) _).setCell (p:=⟨S+1,1,none⟩) (fun h=>absurd rfl (G _ h)) _).setCell (p:=⟨S+1,2,none⟩) (fun h=>absurd rfl (G _ h)) _).setCell (p:=⟨S+1,3,none⟩) (fun h=>absurd rfl (G _ h)) _
 generalize (((wr.setCell _ _).setCell _ _).setCell _ _).setCell _ _=wz at A X ho ⊢;have y0:=aA A 0;have y1:=aA A 1;have y2:=aA A 2;have y3:=aA A 3;refine y8 (v:=.agg #[.string t.nm,(.slice pc j B),.string t.key,(.slice p nd y)]) (by simp[results,results121,go_sem,y0,y1,y2,y3]) rfl ?_;refine⟨rfl,?_,X⟩;have r:=F.1.res
 have hq:∀{e:TypeId} {s:Nat} {v:Value} {m:Nat} {xs:List Value},ac wr base e s v m xs->e≠60->ac wz base e s v m xs:=fun{e s v m xs} hr he=>hr.of (fun k hk=>ho k (fun eq=>by
  obtain⟨_,a8,h1⟩:=hr.block k hk;rw[eq,r]at h1;cases h1;exact he rfl))
 exact⟨hq F.2.c (by decide),F.2.n,hq F.2.d (by decide),fun a b c=>hq (F.2.l a b c) (by decide)⟩
theorem CJ{ts:List T}{t:T}(h:dg ts t=0):Few t:=by
 obtain⟨c,a,_,_⟩:=fT h;unfold lim at c;simp only[Bool.or_eq_false_iff,ww]at c;unfold aq at a;simp only[zy]at a;refine⟨by omega,by omega,fun d f=>?_⟩;have b:=a.2.2.2;obtain⟨j,e,rfl⟩:=xp f;unfold jd at b;rw[xi]at b
 have:=b j (List.mem_range.2 e)
 unfold jo at this;rw[z6 e]at this;simp only at this;unfold qa fm at this;simp only[zy,xz]at this;omega
theorem fW(xs:List Value)(j i:Nat)(L:List Value)(u:Value)(h:xs.length=j):(xs++L).set (j+i) u=xs++L.set i u:=by
 rw[List.set_append_right _ _ (by omega),h,Nat.add_sub_cancel_left]
theorem Sch.room{W:World}{sb:Nat}{ts:List T}(h:Sch mv W sb ts){n:Nat}(hn:ts.length=n)(h8:n<8):∃a c d e f r,W.heap[sb]?=some (.cells (a++(c::d::e::f::(r++[.int .i64 n,mv]))).toArray 66)/\a.length=n*4/\n*4+4+r.length=32/\ju W a ts:=by
 obtain⟨k,a,rest,g,b,i⟩:=h;have j:=i.1;rw[hn]at j g;rcases rest with _|⟨c,_|⟨d,_|⟨e,_|⟨f,r⟩⟩⟩⟩
 ·simp at b;omega
 ·simp at b;omega
 ·simp at b;omega
 ·simp at b;omega
 simp only[xa]at b;exact⟨a,c,d,e,f,r,g,j,by omega,i⟩
theorem Ch{x:World}{sb n:Nat}{xs r:List Value}{a0 a1 a2 a3:Value}{tl:List Value}{t:TypeId}(h:x.heap[sb]?=some (.cells (xs++(a0::a1::a2::a3::(r++tl))).toArray t))(hx:xs.length=n*4)(a c d e:Value):((((x.setCell ⟨sb,n*4,none⟩ a).setCell ⟨sb,n*4+1,none⟩ c).setCell ⟨sb,n*4+2,none⟩ d).setCell ⟨sb,n*4+3,none⟩ e).heap[sb]?=some (.cells (xs++(a::c::d::e::(r++tl))).toArray t):=by
 have s0:((xs++(a0::a1::a2::a3::(r++tl))).toArray.setIfInBounds (n*4) a)=(xs++(a::a1::a2::a3::(r++tl))).toArray:=by
  rw[List.setIfInBounds_toArray,show n*4=n*4+0 from rfl,fW xs (n*4) 0 _ _ hx];rfl
 have s1:((xs++(a::a1::a2::a3::(r++tl))).toArray.setIfInBounds (n*4+1) c)=(xs++(a::c::a2::a3::(r++tl))).toArray:=by
  rw[List.setIfInBounds_toArray,fW xs (n*4) 1 _ _ hx];rfl
 have s2:((xs++(a::c::a2::a3::(r++tl))).toArray.setIfInBounds (n*4+2) d)=(xs++(a::c::d::a3::(r++tl))).toArray:=by
  rw[List.setIfInBounds_toArray,fW xs (n*4) 2 _ _ hx];rfl
 have s3:((xs++(a::c::d::a3::(r++tl))).toArray.setIfInBounds (n*4+3) e)=(xs++(a::c::d::e::(r++tl))).toArray:=by
  rw[List.setIfInBounds_toArray,fW xs (n*4) 3 _ _ hx];rfl
 have b:=y7 x sb (n*4) _ _ a h;rw[s0]at b;have f:=y7 _ sb (n*4+1) _ _ c b;rw[s1]at f;have g:=y7 _ sb (n*4+2) _ _ d f;rw[s2]at g;have i:=y7 _ sb (n*4+3) _ _ e g;rw[s3]at i;exact i
theorem DM{x:World}{sb:Nat}{L tl:List Value}{m u:Value}{t:TypeId}(h:x.heap[sb]?=some (.cells (L++(m::tl)).toArray t))(hL:L.length=32):(x.setCell ⟨sb,32,none⟩ u).heap[sb]?=some (.cells (L++(u::tl)).toArray t):=by
 have a:=y7 x sb 32 _ _ u h;rw[List.setIfInBounds_toArray,show 32=32+0 from rfl,fW L 32 0 _ _ hL]at a;exact a
theorem mV{x:World}{sb n:Nat}{xs r:List Value}{a0 a1 a2 a3 m:Value}{tl:List Value}{t:TypeId}(h:x.heap[sb]?=some (.cells (xs++(a0::a1::a2::a3::(r++(m::tl)))).toArray t))(hx:xs.length=n*4)(hr:n*4+4+r.length=32):x.cell? ⟨sb,n*4,none⟩=some a0/\x.cell? ⟨sb,n*4+1,none⟩=some a1/\x.cell? ⟨sb,n*4+2,none⟩=some a2/\x.cell? ⟨sb,n*4+3,none⟩=some a3/\x.cell? ⟨sb,32,none⟩=some m:=by
 refine⟨?_,?_,?_,?_,?_⟩ <;> rw[aA h,List.getElem?_toArray,ya (by omega),hx]
 ·simp
 ·simp
 ·simp
 ·simp
 rw[show 32-n*4=r.length+1+1+1+1 by omega];simp only[dz];rw[ya (zo _),Nat.sub_self];rfl
theorem Hj{w1 y2 y3:World}{sb:Nat}{ts:List T}{t:T}{n m:Nat}{p1:Option Addr}{c1:Nat}{dv:Value}{ps:List Value}(hs:Sch mv w1 sb ts)(d:Below w1.drew.heap.size w1.drew y2)(hO:fw y2 (w1.drew.heap.size+2) (.slice p1 n c1) dv t ps)(hch:Chg (fun b=>(Value.slice p1 n c1).ownBlock=some b) y2 y3)(hm:ts.length=m)(h8:m<8):∃a e f g i r,y3.heap[sb]?=some (.cells (a++(e::f::g::i::(r++[.int .i64 m,mv]))).toArray 66)/\a.length=m*4/\m*4+4+r.length=32/\ju y3 a ts/\Below w1.heap.size w1 y3:=by
 have k:Below w1.drew.heap.size y2 y3:=hch.below d.size (fun b d h=>by have:=(hO.c.lt b h).1;omega);have l:Below w1.drew.heap.size w1.drew y3:=d.trans k;have j:Below w1.heap.size w1 y3:=aC (aG w1) l;obtain⟨a,e,f,g,i,r,o,p,q,s⟩:=(hs.later j).room hm h8;exact⟨a,e,f,g,i,r,o,p,q,s,j⟩
theorem CE{x y:World}{b:Nat}{cur:Array Value}{e:TypeId}{f:Nat×Nat}(h:x.heap[b]?=some (.cells cur e f))(he:mt e=true)(ho:∀q:Nat,q≠b->y.heap[q]?=x.heap[q]?):Kp x y:=by
 intro q d i m a j g
 have c:q≠b:=by
  rintro rfl;rw[h]at a;cases a;rw[he]at g;cases g
 rw[ho q c];exact a
theorem G1{W y3:World}{sb base m:Nat}{ts:List T}{t:T}{cv dv:Value}{ps xs r:List Value}{a0 a1 a2 a3:Value}{m1:Int}(hO:fw y3 base cv dv (bj t) ps)(hk:y3.heap[sb]?=some (.cells (xs++(a0::a1::a2::a3::(r++[.int .i64 m,mv]))).toArray 66))(hx:xs.length=m*4)(hr:m*4+4+r.length=32)(ht:ju y3 xs ts)(hb:Below W.heap.size W y3)(hm:ts.length=m)(h8:m<8)(hm1:m1=(m:Int)+1):Sch mv (((((y3.setCell ⟨sb,m*4,none⟩ (.string t.nm)).setCell ⟨sb,m*4+1,none⟩ cv).setCell ⟨sb,m*4+2,none⟩ (.string t.key)).setCell ⟨sb,m*4+3,none⟩ dv).setCell ⟨sb,32,none⟩ (.int .i64 m1)) sb (ts++[bj t])/\Chg (fun b=>b=sb) W (((((y3.setCell ⟨sb,m*4,none⟩ (.string t.nm)).setCell ⟨sb,m*4+1,none⟩ cv).setCell ⟨sb,m*4+2,none⟩ (.string t.key)).setCell ⟨sb,m*4+3,none⟩ dv).setCell ⟨sb,32,none⟩ (.int .i64 m1)):=by
 have a:∀(y:World) (i:Nat) (u:Value),Chg (fun b=>b=sb) W y->Chg (fun b=>b=sb) W (y.setCell ⟨sb,i,none⟩ u):=(fun y i u h=>h.setCell (p:=⟨sb,i,none⟩) (fun _=>rfl) u);have f:=Ch hk hx (.string t.nm) cv (.string t.key) dv;have e:(xs++(.string t.nm::cv::.string t.key::dv::(r++[.int .i64 (m:Int),mv])))=((xs++[.string t.nm,cv,.string t.key,dv])++r)++[.int .i64 (m:Int),mv]:=(by simp);rw[e]at f;have g:=DM (u:=.int .i64 m1) f (by simp;omega)
 have j:∀q:Nat,q≠sb->(((((y3.setCell ⟨sb,m*4,none⟩ (.string t.nm)).setCell ⟨sb,m*4+1,none⟩ cv).setCell ⟨sb,m*4+2,none⟩ (.string t.key)).setCell ⟨sb,m*4+3,none⟩ dv).setCell ⟨sb,32,none⟩ (.int .i64 m1)).heap[q]?=y3.heap[q]?:=fun q k=>by
  have c:∀(y:World) (i:Nat) (u:Value),(y.setCell ⟨sb,i,none⟩ u).heap[q]?=y.heap[q]?:=(fun y i u=>y9 y ⟨sb,i,none⟩ q u k);rw[c,c,c,c,c]
 have d:=CE hk rfl j;refine⟨⟨by have:=h8;simp;omega,xs++[.string t.nm,cv,.string t.key,dv],r,?_,by simp;omega,?_⟩,a _ _ _ (a _ _ _ (a _ _ _ (a _ _ _ (a _ _ _ (Chg.of_below hb)))))⟩
 ·rw[g,List.append_assoc,y6,hm,hm1];rfl
 exact(ht.kp d).snoc (hO.rd.kp d)
def bs(ts:List T):Prop:=∀t∈ts,Few t
theorem Dw:Few ot:=⟨by decide,by decide,fun d h=>by simp[ot]at h⟩
theorem sV{ts:List T}(h:bs ts)(x:ByteArray):Few (nu (bg ts x)):=by
 unfold nu;cases a:bg ts x with
 | none=>exact Dw
 | some t=>exact h t (List.mem_of_find?_eq_some a)
theorem dZ{pv:Value}{ts:List T}{x:ByteArray}{W:World}(h:mh mv W pv ts)(hf:bs ts):Calls prog 38 #[pv,.string x] W (ma (nu (bg ts x)) (fe ts x) W):=by
 have b:=sV hf x;have f:=aD W (ar e0 (.slice none 0 0) e0 (.slice none 0 0));have o:=z7 W (ar e0 (.slice none 0 0) e0 (.slice none 0 0));have c:=fU (x:=x) (h.later f);generalize nu (bg ts x)=t at c b ⊢;generalize fe ts x=ok at c ⊢;obtain⟨S,u⟩:=ae W.heap.size;obtain⟨Q,g⟩:=ae (W.alloc (ar e0 (.slice none 0 0) e0 (.slice none 0 0)));rw[g]at f o c;rw[u]at o;have w:=aa (ab f (ab o b));have F:=aa g;have y:=aa u;clear h hf g u f o b;go_enter func38,ntmps38;go_upto_region 1 with fail;rw[F.out,y.out]
 go_wp2_with (first|(go_at_call 78;refine c.mono ?_;rintro e G⟨H,I,c1,J,L,c2,rfl,z,A⟩;have j:=aD G (ar t.nm (.slice H I c1) t.key (.slice J L c2));have l:=kG (z.later j) w.2.2;have p:=aa (ab A j);clear A j z c)|(go_at_call 79;refine l.mono ?_;rintro e B⟨q,d1,r,d2,ps,rfl,E,k⟩;have a:=aE k (aE p.2 (aE p.1 w.2.1));have R:=aA a 0;have U:=aA a 1;have V:=aA a 2;have z3:=aA a 3;have X:=fun i=>zq B S i _ _ a;have Y:=aB a;have s:=aa (ab E (ab (aC (aC (aC w.1 p.1) p.2) k) a));clear E k l a))
 have d:=mn s.2.2 (.string t.nm) (.slice q t.cols.length d1) (.string t.key) (.slice r t.deps.length d2);have m:=bB s.2.1 (xn y.out) (.string t.nm) (.slice q t.cols.length d1) (.string t.key) (.slice r t.deps.length d2);have n:=yF s.2.2 rfl (.string t.nm) (.slice q t.cols.length d1) (.string t.key) (.slice r t.deps.length d2);generalize (((B.setCell _ _).setCell _ _).setCell _ _).setCell _ _=wz at d m n ⊢;have M:=aA d 0;have N:=aA d 1;have O:=aA d 2;have P:=aA d 3;refine y8 (v:=.tuple #[.agg #[.string t.nm,(.slice q t.cols.length d1),.string t.key,(.slice r t.deps.length d2)],.bool ok]) (by simp[results,results38,go_sem,M,N,O,P]) rfl ?_;exact⟨_,_,_,_,_,_,rfl,s.1.rd.kp n,m⟩
theorem sW{pv:Value}{ts:List T}{x c:ByteArray}{W:World}(h:mh mv W pv ts):Calls prog 46 #[pv,.string x,.string c] W fun e w'=>e=.returned (.tuple #[dy (sg (dt (nu (bg ts x)).cols c)),.bool (cp (nu (bg ts x)).cols c)])/\Below W.heap.size W w':=by
 have g:=aD W (.cells #[.string e0,.int .i64 0,.bool false,.string e0] 107);have p:=z7 W (.cells #[.string e0,.int .i64 0,.bool false,.string e0] 107);have b:=fU (x:=x) (h.later g);generalize nu (bg ts x)=t at b ⊢;generalize fe ts x=ok at b ⊢;have d:=(fun(w:World) (v:Value) (q:fj w v t.cols)=>gO (x:=c) q);generalize sg (dt t.cols c)=k at d ⊢;generalize cp t.cols c=ok2 at d ⊢;unfold dy at d ⊢;obtain⟨S,s⟩:=ae W.heap.size;obtain⟨P,j⟩:=ae (W.alloc (.cells #[.string e0,.int .i64 0,.bool false,.string e0] 107));rw[j]at g p b;rw[s]at p;have u:=aa (ab g p);have E:=aa j;have y:=aa s;clear h j s g p;go_enter func46,ntmps46;go_upto_region 1 with fail;rw[E.out,y.out]
 go_wp2_with (first|(go_at_call 78;refine b.mono ?_;rintro e F⟨G,H,c1,I,J,c2,rfl,q,z⟩;have l:=aD F (ar t.nm (.slice G H c1) t.key (.slice I J c2));have n:=d _ _ (q.later l).c;have r:=aa (ab z l);clear z l q b d)|(go_at_call 85;refine n.mono ?_;rintro e A⟨rfl,m⟩;have a:=aE m (aE r.2 (aE r.1 u.2));have Q:=aA a 0;have R:=aA a 1;have U:=aA a 2;have z3:=aA a 3;have V:=fun i=>zq A S i _ _ a;have X:=aB a;have B:=aa (ab (aC (aC (aC u.1 r.1) r.2) m) a);clear m n a))
 have f:=mn B.2 (.string k.nm) (.int .i64 k.kd) (.bool k.mu) (.string k.tgt);have o:=bB B.1 (xn y.out) (.string k.nm) (.int .i64 k.kd) (.bool k.mu) (.string k.tgt);generalize (((A.setCell _ _).setCell _ _).setCell _ _).setCell _ _=wz at f o ⊢;have L:=aA f 0;have M:=aA f 1;have N:=aA f 2;have O:=aA f 3;refine y8 (v:=.tuple #[.agg #[.string k.nm,.int .i64 k.kd,.bool k.mu,.string k.tgt],.bool ok2]) (by simp[results,results46,go_sem,L,M,N,O]) rfl ?_;exact⟨rfl,o⟩
theorem vT{pv:Value}{ts:List T}{W:World}(h:mh mv W pv ts)(hl:ts.length<=1000):Calls prog 161 #[pv] W fun e w'=>∃I,e=.returned I/\ac w' W.heap.size 9 1 I ts.length (cellsS (ts.map T.nm))/\Below W.heap.size W w':=by
 have m:=oR h;clear h;obtain⟨n,A⟩:=ae ts.length;rw[A]at hl ⊢;have o:=aa A;clear A;go_enter func161,ntmps161;go_wp2_with (go_at_call 109;refine m.mono ?_;rintro e z⟨v,rfl,B,E⟩;clear m;obtain⟨p,F,J,S,U⟩:=B.slice;rw[o.out]at J S;subst J;have q:=aa (ab B (ab E o.out));clear B E);clear U;go_loopg [3,9] (n+1) (fun V v X w=>∃(j:Nat),X=.int .i64 (j:Int)/\j<=n/\n+1<=j+V/\ac w z.heap.size 9 1 v j (cellsS ((ts.take j).map T.nm))/\Below z.heap.size z w)
 case atStart=>exact⟨0,rfl,zj _,by omega,ac.nil,zg _ _⟩
 obtain⟨j,rfl,hj,hg,l,d⟩:=hrel;obtain⟨Y,Z,rfl,_,_⟩:=l.isslice;have i:iq wr (.slice p n F) ts:=q.1.later d;have L:=aa (ab l d);by_cases G:j<n
 ·have r:j<ts.length:=(by rw[q.2.2];exact G);obtain⟨b,a0,cv,dv,rfl,E,c0,c1,c2,c3,c⟩:=iq.tab i r;obtain⟨t,k⟩:=ae (ts[j]);rw[k]at c0 c2 c;obtain⟨M,s,rfl,_,_⟩:=c.1.slice;obtain⟨N,x,rfl,_,_⟩:=c.2.slice;generalize t.cols.length=m1 at *;generalize t.deps.length=m2 at *;have a:=aD wr (ar t.nm (.slice M m1 s) t.key (.slice N m2 x));obtain⟨g,O,w3,f,P,Q,o3⟩:=lj (ty:=42) underlying42 BH (by kernel_rfl) (by decide) (by decide) (wr.alloc (ar t.nm (.slice M m1 s) t.key (.slice N m2 x))) z.heap.size (l.later a) (by omega) (zx d.size a.size) #[.string t.nm] rfl (by intro u R;simp only[xy,vk,or_false]at R;subst R;rfl);have y:cellsS ((ts.take (j+1)).map T.nm)=cellsS ((ts.take j).map T.nm)++[.string t.nm]:=(by rw[yi r,k];simp[cellsS]);have H:=aa (ab P (ab ((d.alloc d.size _).trans (fO (l.later a) Q (zo _) (zx d.size a.size))) y));rw[zm]at f;clear l d c i a P Q o3 k y;go_wp2_with (at_builtin;refine aT rfl (.tmp 13) (.tmp 16) 42 rfl rfl rfl f ?_);go_roundg (n-j)
  case measure=>omega
  exact⟨j+1,by go_num,by omega,by omega,by rw[H.2.2];exact H.1,H.2.1⟩
 obtain rfl:j=n:=(by omega);clear l d i;go_wp2_with fail;go_ret;have e:ts.take j=ts:=yu (by rw[q.2.2];exact zo _);refine⟨_,rfl,?_,aC q.2.1 L.2⟩
 have:=L.1
 rw[e]at this;exact this.mono q.2.1.size
theorem GO{pv:Value}{ts:List T}{x c:ByteArray}{W:World}{nm tg:ByteArray}{kd:Int}{mu ok:Bool}(h:mh mv W pv ts)(hk:sg (dt (nu (bg ts x)).cols c)=⟨nm,kd,mu,tg⟩)(ho:cp (nu (bg ts x)).cols c=ok):Calls prog 46 #[pv,.string x,.string c] W fun e w'=>e=.returned (.tuple #[.agg #[.string nm,.int .i64 kd,.bool mu,.string tg],.bool ok])/\Below W.heap.size W w':=by
 have:=sW (x:=x) (c:=c) h
 rw[hk,ho]at this;exact this
