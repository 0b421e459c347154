import Derived.Test.YthlccadnojnkaaaGreatZn31
import Derived.Test.YthlccadnojnkaaaGreatZn33
import Derived.Test.YthlccadnojnkaaaGreatZn32
set_option maxHeartbeats 8000000
set_option maxRecDepth 100000
namespace Go.Proofs.YthlccadnojnkaaaGreat
open Go.Proofs.Tryz
open Go Go.RowKit Go.Proofs Co Co.S
def pu(ts:List T)(x y:ByteArray):ByteArray:=(ss (eo (el ts x) y)).tgt
def jb(ts:List T)(As:List (List R1))(x:ByteArray):List R1:=(As[(ky ts x).toNat]?).getD []
def oy(A:List R1)(k:Nat)(id:Int):T3:=((A.find? fun a=>decide (a.1=id)).map fun a=>a.2.getD k z3).getD z3
def dg(A:List R1)(id:Int):Bool:=A.any fun a=>decide (a.1=id)
def cellP(ts:List T)(As:List (List R1))(x:ByteArray)(id:Int)(y:ByteArray):T3:=oy (jb ts As x) (gx (el ts x) y).toNat id
def oq(ts:List T)(As:List (List R1)):ByteArray->Int->List ByteArray->T3
 | _,_,[]=>z3
 | x,id,y::r=>if r.isEmpty=true then cellP ts As x id y else match bg ts As (pu ts x y) (cellP ts As x id y)with
  | none=>z3
  | some i=>oq ts As (pu ts x y) i r
def ep(ts:List T)(As:List (List R1))(x:ByteArray)(id:Int)(p:List ByteArray):T3×Bool:=
 if (iz ts x p).2.2=0/\dg (jb ts As x) id=true then(oq ts As x id p,true)else(z3,false)
section
variable {ts:List T}{As:List (List R1)}{x y:ByteArray}{id:Int}{p:List ByteArray}{j:Nat}
theorem kE(p:List ByteArray){j:Nat}(hj:j<p.length):(p.drop (j+1)).isEmpty=true↔j+1=p.length:=by
 constructor
 ·intro h;rw[List.isEmpty_iff]at h
  have:=congrArg List.length h
  simp only[ua,vp]at this;omega
 intro h;rw[List.drop_of_length_le (by omega)];rfl
theorem Lh(hj:j<p.length)(h:j+1=p.length):oq ts As x id (p.drop j)=cellP ts As x id p[j]:=by
 rw[vw hj,oq,zv ((kE p hj).2 h)]
theorem GP(hj:j<p.length)(h:j+1≠p.length)(hb:bg ts As (pu ts x p[j]) (cellP ts As x id p[j])=none):oq ts As x id (p.drop j)=z3:=by
 rw[vw hj,oq,zq (fun e=>h ((kE p hj).1 e)),hb]
theorem FV(hj:j<p.length)(h:j+1≠p.length){i:Int}(hb:bg ts As (pu ts x p[j]) (cellP ts As x id p[j])=some i):oq ts As x id (p.drop j)=oq ts As (pu ts x p[j]) i (p.drop (j+1)):=by
 rw[vw hj,oq,zq (fun e=>h ((kE p hj).1 e)),hb]
theorem D5(hj:j<p.length)(h:(pcol ts x (p.drop j)).2.2=0):dr (el ts x) p[j]=true/\(j+1≠p.length->(pcol ts (pu ts x p[j]) (p.drop (j+1))).2.2=0):=by
 rw[Dw ts x p hj]at h;split at h
 ·rename_i b;refine⟨b,fun a=>?_⟩;rw[zq a]at h;split at h
  ·exact absurd h (by decide)
  exact h
 exact absurd h (by decide)
theorem FN(h:dr (el ts x) y=true):∃(j:Nat) (c:j<ts.length),ts[j].nm=x/\ky ts x=(j:Int)/\be ts x=some ts[j]/\el ts x=ts[j].cols/\∃k,k<ts[j].cols.length/\gx ts[j].cols y=(k:Int):=by
 rcases bZ ts x with ⟨_,_,a⟩ | ⟨j,c,d,_,a⟩
 ·rw[el,a]at h;simp[dr,oe,pw]at h
 have e:el ts x=ts[j].cols:=(by rw[el,a];rfl);rw[e]at h;rcases cI ts[j].cols y with ⟨_,b,_⟩ | ⟨k,f,b,_⟩
 ·rw[b]at h;cases h
 have g:ts[j].nm=x:=by
  have:=List.find?_some (l:=ts) (p:=qc x) a
  exact dQ (by simpa [qc,it]using this)
 exact⟨j,c,g,d,a,e,k,f,b⟩
theorem Kv{A:List R1}{k:Nat}{v:T3}{i:Int}(h:jg A k v=some i):dg A i=true:=by
 unfold jg at h;cases b:A.find? (fun a=>decide (a.2.getD k z3=v))with
 | none=>rw[b]at h;cases h
 | some a =>
  rw[b]at h;simp only[Option.map_some,Option.some.injEq]at h;unfold dg;rw[vq];exact⟨a,List.mem_of_find?_eq_some b,by simpa using h⟩
theorem xQ{v:T3}{i:Int}(h:bg ts As x v=some i):dg (jb ts As x) i=true:=by
 unfold bg at h;split at h
 ·rename_i t A b a;rw[jb,a];split at h
  ·cases h
  split at h
  ·cases h
  split at h
  ·cases h
  exact Kv h
 cases h
theorem kG{A:List R1}{i:Int}:dg A i=true↔∃a∈A,a.1=i:=by
 unfold dg;rw[vq]
 simp
theorem nN{A:List R1}{i:Int}:dg A i=false↔∀a∈A,a.1≠i:=by
 unfold dg;rw[vn]
 simp
theorem F6{A:List R1}{i:Int}(h:dg A i=true):∃a∈A,a.1=i/\∀k,oy A k i=a.2.getD k z3:=by
 unfold dg at h;have c:(A.find? fun a=>decide (a.1=i)).isSome=true:=List.find?_isSome.2 (List.any_eq_true.1 h);obtain⟨a,b⟩:=Option.isSome_iff_exists.1 c;refine⟨a,List.mem_of_find?_eq_some b,by simpa using List.find?_some b,fun k=>?_⟩;unfold oy;rw[b];rfl
theorem JZ{A:List R1}{i:Int}(h:dg A i=false)(k:Nat):oy A k i=z3:=by
 have:A.find? (fun a=>decide (a.1=i))=none:=by
  rw[ud];unfold dg at h;rw[vn]at h;exact h
 unfold oy;rw[this];rfl
end
section
variable {W W':World}{d:Nat}{ts:List T}{st:List DT}{O O':Nat->Nat}{S:Nat->Prop}{t:T}{cv dv:Value}
theorem lU{ts:List T}{x:ByteArray}(h:ft ts x=false){j:Nat}(hj:j<ts.length):ts[j].nm≠x:=fun e=>by
 unfold ft at h;have a:=List.any_eq_false.1 h ts[j] (z8 hj);unfold qc it at a;rw[e]at a;simp at a
theorem Kq{ts:List T}{x:ByteArray}(h:ft ts x=false):be ts x=none:=by
 unfold be;rw[ud];unfold ft at h;intro a b;simpa using List.any_eq_false.1 h a b
theorem tY(t:T):qc t.nm (bh t)=true:=by unfold qc it bh;simp
theorem xR{ts:List T}{t:T}(h:ft ts t.nm=false):be (ts++[bh t]) t.nm=some (bh t):=by
 have a:=Kq h;unfold be at a ⊢;rw[List.find?_append,a];simp[tY]
theorem Jv{ts:List T}{t:T}{x:ByteArray}(h:ft (ts++[bh t]) x=false):ft ts x=false/\t.nm≠x:=by
 unfold ft at h ⊢;rw[List.any_append,Bool.or_eq_false_iff]at h;refine⟨h.1,fun e=>?_⟩;have a:=h.2;simp only[List.any_cons,List.any_nil,Bool.or_false]at a;rw[<-e,tY]at a;cases a
theorem tZ(h:Few t):Few (bh t):=⟨by unfold bh;simpa using h.1,h.2.1,h.2.2⟩
theorem Ky(h:dy t.cols=true):∀c∈(bh t).cols,c.kd=1∨c.kd=2:=fun c d=>by
 unfold bh at d;obtain⟨c0,a,rfl⟩:=List.mem_map.1 d;obtain⟨j,e,rfl⟩:=xz a;unfold dy at h;have b:=List.all_eq_true.1 h j (List.mem_range.2 e);unfold ot at b;rw[z6 e]at b;exact wj b
theorem JJ(h:ea ts t=0):ft ts t.nm=false:=by
 obtain⟨_,a,_⟩:=gG h;unfold aw free at a;simp only[zx,Bool.not_eq_true']at a;exact a.1.2
theorem Lw(h:Dd W d ts st O)(hT:ey W cv dv t)(hsm:xb t)(hno:ea ts t≠0):Calls prog 34 #[.pointer (some ⟨d,0,none⟩),.agg #[.string t.nm,cv,.string t.key,dv]] W fun e k=>e=.returned (.int .i64 (ea ts t))/\Dd k d ts st O/\Tn (fun q=>O q=1) W k:=by
 obtain⟨pc,kc,rfl,_,_⟩:=hT.1.slice;obtain⟨pd,kd,rfl,_,_⟩:=hT.2.slice;obtain⟨nc,p⟩:=ag t.cols.length;obtain⟨nd,s⟩:=ag t.deps.length;obtain⟨nm,u⟩:=ag t.nm;obtain⟨key,l⟩:=ag t.key;have i:=aD W (.cells #[.string nm,.slice pc nc kc,.string key,.slice pd nd kd] 77);have L:=z7 W (.cells #[.string nm,.slice pc nc kc,.string key,.slice pd nd kd] 77);have v:=hT.kp (Tn.of_below (S:=fun _=>False) i).qu;have E:=h.later i;obtain⟨B,x⟩:=ag (W.alloc (.cells #[.string nm,.slice pc nc kc,.string key,.slice pd nd kd] 77));obtain⟨V,y⟩:=ag W.heap.size;rw[x]at i L v E;rw[y]at L;obtain⟨r,M⟩:=ag (ea ts t)
 have g:∀w,Below B.heap.size B w->Calls prog 66 #[.pointer (some ⟨d,0,none⟩),.agg #[.string nm,.slice pc nc kc,.string key,.slice pd nd kd]] w fun e k=>e=.returned (.int .i64 r)/\Dd k d ts st O/\Tn (fun b=>b=d) w k:=fun w hw=>by
  have z:=E.later hw;obtain⟨mv,f,n,P,Q,k3,k4,k5⟩:=z.own
  have:=tX (v.kp (Tn.of_below (S:=fun _=>False) hw).qu) P hsm
  rw[u,l,p,s,M]at this;refine this.mono ?_;rintro e k⟨rfl,F,N⟩;have F:Sch mv k d ts:=by unfold su at F;rw[zq hno]at F;exact F
  have o:Tn (fun q=>q=d) w k:=Tn.bq N (fun q _ A=>by
   obtain⟨_,xs,rest,R,_⟩:=P;exact .inl (by rw[A];exact⟨_,122,R,rfl⟩))
  refine⟨rfl,?_,o⟩;refine⟨⟨mv,f,n,F,Q.of (fun b G=>o.chg.block b (Q.lt b G) (fun e=>?_)),k3,k4,k5⟩,z.len,z.nd,z.od,fun j a c=>?_,fun q A=>z9 (z.lt q A) o.size⟩
  ·have e:b=d:=e;subst e;rcases Q with ⟨rfl,_⟩ | ⟨b',rfl,U⟩
   ·cases G
   cases G;obtain⟨es,ck,R⟩:=U.isMap;obtain⟨_,xs,rest,e2,_⟩:=P;rw[R]at e2;cases e2
  obtain⟨X,q1,q2⟩:=z.tab j a c;exact⟨X,q1.tn o (fun q A=>Classical.byContradiction fun hn=>by have:=q2 q hn;rw[A,z.od]at this;omega),q2⟩
 have H:=E.lt d (by rw[E.od];decide);have HA:=aa g;have I:=aa (ab L (ab i H));have HW:=aa (ab x y);have Y:=h.od;have Z:¬ r=0:=(by rw[<-M];exact hno);have a0:Below W.heap.size W B:=i;rw[M,u,l,p,s];clear h E hT v hsm L i g hno x y M u l p s H;go_enter func34,ntmps34;go_upto_region 1 with fail;rw[HW.1,HW.2];refine Par.ae 3 [.pointer (some ⟨d,0,none⟩),.pointer (some ⟨d,0,none⟩),.agg #[.string nm,.slice pc nc kc,.string key,.slice pd nd kd]] (fun w=>Below B.heap.size B w) ?A1 ?hm1 ?hB1 ?hA1 (aF B) ?hop1 ?hT1
 case hm1=>kernel_rfl
 case hB1=>kernel_rfl
 case hA1 =>
  simp only[Par.am,Par.ai,Act.put,cy,db,bt,cp,dc,da,bu,eg,ed];rfl
 case hop1 =>
  simp only[ce,ze,Par.ah,yu];and_intros<;>intro k m<;>have J:=aa m
  rotate_left
  ·clear m;simp only[Par.Gives];go_simp;exact(bF (z9 I.2.2 J.out.size)).mono (fun e a2⟨he,G⟩=>⟨he,(G▸J.out)⟩)
  have x0:=aA (aE m I.1) 0;have x1:=aA (aE m I.1) 1;have x2:=aA (aE m I.1) 2;have x3:=aA (aE m I.1) 3;rotate_left
  all_goals(clear m;simp only[Par.Gives];go_simp;all_goals exact J.out)
 intro k m;simp only[cw,ym];have J:=aa m;have g:=HA.out k m;clear m;have a1:(r==0)=false:=(by simpa using Z);go_wp2_with (go_at_call 66;refine g.mono ?_;rintro e w4⟨rfl,hD,N⟩;have H4:=aa (ab hD N);clear g hD N);go_ret;exact⟨rfl,H4.1,(Tn.of_below (S:=fun q=>O q=1) (aB a0 J.out)).trans H4.2 (fun _ _ h=>h) (fun q _ A=>by have e:q=d:=A;rw[e];exact Y)⟩
theorem Ga(h:Dd W d ts st O)(hT:ey W cv dv t)(hsm:xb t)(hyes:ea ts t=0)(hfew:di ts):Calls prog 34 #[.pointer (some ⟨d,0,none⟩),.agg #[.string t.nm,cv,.string t.key,dv]] W fun e o=>e=.returned (.int .i64 0)/\∃tb O',Dd o d (ts++[bh t]) (st++[(tb,0,[])]) O'/\Ext W O O'/\Tn (fun q=>O q=1) W o:=by
 obtain⟨pc,kc,rfl,_,_⟩:=hT.1.slice;obtain⟨pd,kd,rfl,_,_⟩:=hT.2.slice;obtain⟨nc,Q⟩:=ag t.cols.length;obtain⟨nd,R⟩:=ag t.deps.length;obtain⟨nm,a⟩:=ag t.nm;obtain⟨key,v⟩:=ag t.key;have i:=JJ hyes;rw[a]at i;have y:=aD W (.cells #[.string nm,.slice pc nc kc,.string key,.slice pd nd kd] 77);have hV:=z7 W (.cells #[.string nm,.slice pc nc kc,.string key,.slice pd nd kd] 77);have U:=hT.kp (Tn.of_below (S:=fun _=>False) y).qu;have s:=h.later y;obtain⟨w1,X⟩:=ag (W.alloc (.cells #[.string nm,.slice pc nc kc,.string key,.slice pd nd kd] 77));obtain⟨V,Y⟩:=ag W.heap.size;rw[X]at y hV U s;rw[Y]at hV
 have h8:ts.length<=8:=by
  obtain⟨mv,f,n,I,_⟩:=h.own;exact I.1
 have l:∀w,Below w1.heap.size w1 w->Calls prog 66 #[.pointer (some ⟨d,0,none⟩),.agg #[.string nm,.slice pc nc kc,.string key,.slice pd nd kd]] w fun e o=>e=.returned (.int .i64 0)/\Tn (fun b=>b=d) w o/\∃mv f n,Sch mv o d (ts++[bh t])/\sn o mv f n ts.length/\(∀j (h:j<ts.length) (h':j<st.length),f ts[j].nm=some st[j].1)/\(∀x,ft ts x=false->f x=none)/\∀b,mblk mv=some b->O b=1:=fun w hw=>by
  have h2:=s.later hw;obtain⟨mv,f,n,I,J,k3,Z,k5⟩:=h2.own
  have:=tX (U.kp (Tn.of_below (S:=fun _=>False) hw).qu) I hsm
  rw[a,v,Q,R,hyes]at this;refine this.mono ?_;rintro e o⟨rfl,hS,A⟩;have hS:Sch mv o d (ts++[bh t]):=by unfold su at hS;rw[zv hyes]at hS;exact hS
  have p:Tn (fun q=>q=d) w o:=Tn.bq A (fun q _ c=>by
   obtain⟨_,xs,rest,e1,_⟩:=I;exact .inl (by rw[c];exact⟨_,122,e1,rfl⟩))
  refine⟨rfl,p,mv,f,n,hS,J.of (fun b hb=>p.chg.block b (J.lt b hb) (fun e=>?_)),k3,Z,k5⟩;have e:b=d:=e;subst e;rcases J with ⟨rfl,_⟩ | ⟨b',rfl,a0⟩
  ·cases hb
  cases hb;obtain⟨es,ck,e1⟩:=a0.isMap;obtain⟨_,xs,rest,B,_⟩:=I;rw[e1]at B;cases B
 have a5:=s.lt d (by rw[s.od];decide);have L:nm.size<=maxLen:=(by rw[<-a];exact hsm.1);have r:=xR (ts:=ts) (t:=t) (by rw[a];exact i)
 have a1:ft (ts++[bh t]) nm=true:=by
  rw[dK,<-a,r];rfl
 rw[a]at r
 have a2:di (ts++[bh t]):=fun u hu=>by
  rcases List.mem_append.1 hu with h|h
  ·exact hfew u h
  rw[List.mem_singleton.1 h];exact tZ (Dl hyes)
 have a3:=Ky (gG hyes).2.2.1;have a6:d≠V:=(by have:=h.lt d (by rw[h.od];decide);omega);have HA:=aa l;have F:=aa (ab hV (ab y (ab a5 a6)));have HW:=aa (ab X Y);have M:=aa (ab h (ab i (ab r (ab a1 (ab a2 (ab a3 (ab a (ab h8 L))))))));rw[a,v,Q,R];clear h s hT U hsm hV y l hyes X Y a v Q R a5 i r a1 a2 a3 a6 h8 hfew;go_enter func34,ntmps34;go_upto_region 1 with fail;rw[HW.1,HW.2];refine Par.ae 3 [.pointer (some ⟨d,0,none⟩),.pointer (some ⟨d,0,none⟩),.agg #[.string nm,.slice pc nc kc,.string key,.slice pd nd kd]] (fun w=>Below w1.heap.size w1 w) ?A2 ?hm2 ?hB2 ?hA2 (aF w1) ?hop2 ?hT2
 case hm2=>kernel_rfl
 case hB2=>kernel_rfl
 case hA2 =>
  simp only[Par.am,Par.ai,Act.put,cy,db,bt,cp,dc,da,bu,eg,ed];rfl
 case hop2 =>
  simp only[ce,ze,Par.ah,yu];and_intros<;>intro o z<;>have HR:=aa z
  rotate_left
  ·clear z;simp only[Par.Gives];go_simp;exact(bF (z9 F.2.2.1 HR.out.size)).mono (fun e a8⟨he,hb⟩=>⟨he,(hb▸HR.out)⟩)
  have x0:=aA (aE z F.1) 0;have x1:=aA (aE z F.1) 1;have x2:=aA (aE z F.1) 2;have x3:=aA (aE z F.1) 3;rotate_left
  all_goals(clear z;simp only[Par.Gives];go_simp;all_goals exact HR.out)
 intro o z;simp only[cw,ym];have HR:=aa z;have l:=HA.out o z;clear z;go_upto_region 3 with (go_at_call 66;(with_reducible refine l.mono ?_);rintro e w4⟨rfl,A,hD⟩;have H4:=aa (ab A hD);clear l A hD);obtain⟨A,mv,f,n,I,J,k3,Z,k5⟩:=H4.out;have a4:w4.heap[V]?=some (.cells #[.string nm,.slice pc nc kc,.string key,.slice pd nd kd] 77):=(A.chg.block V (aC (aE HR.out F.1)) (fun e=>F.2.2.2 e.symm)).trans (aE HR.out F.1);have v0:=aA a4 0;have vl:=aC a4;have N:=xP I J M.2.2.2.2.2.2.2.2 (Z nm M.2.1) M.2.2.2.1 M.2.2.2.2.1 (by rw[M.2.2.1];exact M.2.2.2.2.2.1) (by have:=M.2.2.2.2.2.2.2.1;omega);have HK:=aa (ab A (ab J (ab k3 (ab Z k5))));clear A I J k3 Z k5 a4;go_wp2_with (go_at_call 29;refine N.mono ?_;rintro e w5⟨tb,b,m,rfl,hN⟩;have HN:=aa hN;clear N hN);go_ret;obtain⟨q1,q2,q3,q4,q5,q6⟩:=HN.out;obtain⟨A,J,k3,Z,k5⟩:=HK.out;obtain⟨h,i,r,a1,a2,a3,a,h8,L⟩:=M.out;rw[r]at q3;have q3:Tb w5 tb (bh t) 0 [] m:=q3;have a7:Below W.heap.size W o:=aB F.2.1 HR.out;have P:Tn (fun q=>O q=1) W w4:=(Tn.of_below (S:=fun q=>O q=1) a7).trans A (fun _ _ h=>h) (fun q _ c=>by have e:q=d:=c;show O q=1;rw[e];exact h.od);have a9:W.heap.size<=w4.heap.size:=P.size
 have p:Tn (fun q=>O q=1) W w5:=P.trans q6 (fun _ _ h=>h) (fun q _ c=>by
  rcases c with c|c
  ·show O q=1;rw[c];exact h.od
  exact k5 q c)
 have hE:∀q,q<W.heap.size->(if q<W.heap.size then O q else if q=b then 1 else if m q≠0 then ts.length+2 else 0)=O q:=(fun q c=>zv c);have g:=h.len;refine⟨rfl,tb,fun q=>if q<W.heap.size then O q else if q=b then 1 else if m q≠0 then ts.length+2 else 0,⟨⟨.map (some b),_,_,q1,.inr ⟨b,rfl,by rw[y8];exact q2⟩,fun j E G=>?_,fun x hx=>?_,fun b' a0=>?_⟩,by simp[g],fun j k E hk e=>?_,(hE d (h.lt d (by rw[h.od];decide))).trans h.od,fun j E G=>?_,fun q c=>?_⟩,hE,p⟩
 ·unfold At;by_cases e:j<ts.length
  ·rw[xc e,xc (by rw[g];exact e),zq (lU i e)];exact k3 j e (by rw[g];exact e)
  have B:j=ts.length:=(by simp at E;omega);subst B;have e3:(ts++[bh t])[ts.length]'E=bh t:=(by simp);have e4:(st++[((tb,0,[]):DT)])[ts.length]'G=(tb,0,[]):=(by simp[<-g]);rw[e3,e4,zv (show(bh t).nm=nm from a)]
 ·obtain⟨s,h2⟩:=Jv hx;unfold At;rw[zq (fun e=>h2 (a.trans e.symm))];exact Z x s
 ·cases a0;show(if b<W.heap.size then O b else if b=b then 1 else _)=1;rcases q5 with s|s
  ·by_cases H:b<W.heap.size
   ·rw[zv H];exact k5 b s
   rw[zq H,zv rfl]
  rw[zq (by omega),zv rfl]
 ·by_cases ej:j<ts.length <;> by_cases ek:k<ts.length
  ·rw[xc ej,xc ek]at e;exact h.nd j k ej ek e
  ·have B:k=ts.length:=(by simp at hk;omega);subst B;rw[xc ej]at e;have e3:(ts++[bh t])[ts.length]'hk=bh t:=(by simp);rw[e3]at e;exact absurd (e.trans a) (lU i ej)
  ·have B:j=ts.length:=(by simp at E;omega);subst B;rw[xc ek]at e;have e3:(ts++[bh t])[ts.length]'E=bh t:=(by simp);rw[e3]at e;exact absurd (e.symm.trans a) (lU i ek)
  simp at E hk;omega
 ·by_cases e:j<ts.length
  ·have e1:(ts++[bh t])[j]'E=ts[j]:=xc e;have es:j<st.length:=(by rw[g];exact e);have B:(st++[((tb,0,[]):DT)])[j]'G=st[j]:=xc es;rw[e1,B];obtain⟨lm,m1,m2⟩:=h.tab j e es;exact⟨lm,m1.tn p (fun q c=>Classical.byContradiction fun hn=>by have s:=m2 q hn;have h2:O q=1:=c;omega),fun q c=>(hE q (m1.lt q c)).trans (m2 q c)⟩
  have e0:j=ts.length:=(by simp at E;omega);subst e0;have e3:(ts++[bh t])[ts.length]'E=bh t:=(by simp);have e4:(st++[((tb,0,[]):DT)])[ts.length]'G=(tb,0,[]):=(by simp[<-g]);rw[e3,e4];refine⟨m,q3,fun q c=>?_⟩;obtain⟨s,h2⟩:=q4 q c;show(if q<W.heap.size then O q else if q=b then 1 else if m q≠0 then ts.length+2 else 0)=ts.length+2;rw[zq (by omega),zq h2,zv c]
 have c:(if q<W.heap.size then O q else if q=b then 1 else if m q≠0 then ts.length+2 else 0)≠0:=c;by_cases H:q<W.heap.size
 ·have:=p.size;omega
 rw[zq H]at c;by_cases e:q=b
 ·rw[e];exact q2.lt
 rw[zq e]at c;by_cases hl:m q≠0
 ·exact q3.lt q hl
 rw[zq hl]at c;exact absurd rfl c
end
theorem FL{dv pv v mv:Value}{ts:List T}{x:ByteArray}{p:List ByteArray}{id:Int}{W:World}(hd:∀w,Below W.heap.size W w->Calls prog 43 #[dv] w fun e q=>e=.returned pv/\q=w)(h:mg mv W pv ts)(hp:Wd W v p)(hno:(iz ts x p).2.2≠0):Calls prog 99 #[dv,.string x,.int .i64 id,v] W fun e q=>e=.returned (.tuple #[.agg #[.int .i64 0,.int .i64 0,.string e0],.bool false])/\Below W.heap.size W q:=by
 have b:=aD W (.cells #[.int .i64 0,.int .i64 0,.string e0] 32);have o:=z7 W (.cells #[.int .i64 0,.int .i64 0,.string e0] 32);obtain⟨z,f⟩:=ag (W.alloc (.cells #[.int .i64 0,.int .i64 0,.string e0] 32));obtain⟨B,r⟩:=ag W.heap.size;rw[f]at b o;have t:=hd z b;have k:=lI (tb:=x) (h.later b) (hp.later b);obtain⟨err,d⟩:=ag ((iz ts x p).2.2);obtain⟨s2,l⟩:=ag ((iz ts x p).2.1);obtain⟨A,s⟩:=ag ((iz ts x p).1);rw[d]at k hno;rw[l,s]at k;obtain⟨nm,kd,mu,tg⟩:=A;rw[show fx ⟨nm,kd,mu,tg⟩=.agg #[.string nm,.int .i64 kd,.bool mu,.string tg]from rfl]at k;rw[r]at o;have m:=aa (ab f (ab r (ab b o)));clear f r b o hd h hp d l;go_enter func99,ntmps99;go_upto_region 1 with fail;rw[m.1,m.2.1]
 go_wp2_with (first|(go_at_call 43;refine t.mono ?_;rintro e E⟨rfl,I⟩;subst E;clear t)|(go_at_call 131;refine k.mono ?_;rintro e u⟨rfl,g⟩;have j:=aD u (.cells #[.string nm,.int .i64 kd,.bool mu,.string tg] 95);have a:=aE j (aE g m.2.2.2);have J:=aA a 0;have L:=aA a 1;have M:=aA a 2;have N:=fun i=>zo (u.alloc (.cells #[.string nm,.int .i64 kd,.bool mu,.string tg] 95)) B i _ _ a;have O:=aC a;have y:=aa (ab (aB (aB m.2.2.1 g) j) a);clear k g j a))
 have c:=jT y.2 (.int .i64 0) (.int .i64 0) (.string e0);have n:=bL y.1 (xy m.2.1) (.int .i64 0) (.int .i64 0) (.string e0);generalize ((World.setCell _ _ _).setCell _ _).setCell _ _=wz at c n ⊢;have F:=aA c 0;have G:=aA c 1;have H:=aA c 2;refine ya (v:=.tuple #[.agg #[.int .i64 0,.int .i64 0,.string e0],.bool false]) (by simp[results,results99,go_sem,F,G,H]) rfl ?_;exact⟨rfl,n⟩
theorem Df{w:World}{a b:Nat}{x y u v:Value}{t1 t2:TypeId}(h1:w.heap[a]?=some (.cells #[x] t1))(h2:w.heap[b]?=some (.cells #[y] t2))(hne:a≠b):((w.setCell ⟨a,0,none⟩ u).setCell ⟨b,0,none⟩ v).cell? ⟨a,0,none⟩=some u/\((w.setCell ⟨a,0,none⟩ u).setCell ⟨b,0,none⟩ v).cell? ⟨b,0,none⟩=some v:=by
 have c:=y9 w a 0 #[x] t1 u h1;have d:(w.setCell ⟨a,0,none⟩ u).heap[b]?=some (.cells #[y] t2):=(yd w ⟨a,0,none⟩ b u (fun e=>hne e.symm)).trans h2;have f:=y9 (w.setCell ⟨a,0,none⟩ u) b 0 #[y] t2 v d;have g:((w.setCell ⟨a,0,none⟩ u).setCell ⟨b,0,none⟩ v).heap[a]?=_:=(yd (w.setCell ⟨a,0,none⟩ u) ⟨b,0,none⟩ a v hne).trans c;exact⟨aA g 0,aA f 0⟩
theorem kH{dv pv mv:Value}{ts:List T}{x:ByteArray}{u:T3}{W:World}(hd:∀w,Below W.heap.size W w->Calls prog 43 #[dv] w fun e z=>e=.returned pv/\z=w)(h:mg mv W pv ts)(hfew:di ts)(hno:(oe (be ts x)).key=e0∨u.1=0):Calls prog 100 #[dv,.string x,.agg #[.int .i64 u.1,.int .i64 u.2.1,.string u.2.2]] W fun e z=>e=.returned (.tuple #[.int .i64 0,.bool false])/\Below W.heap.size W z:=by
 have o:=aD W (.cells #[.int .i64 u.1,.int .i64 u.2.1,.string u.2.2] 32);have n:=z7 W (.cells #[.int .i64 u.1,.int .i64 u.2.1,.string u.2.2] 32);have k:=aD (W.alloc (.cells #[.int .i64 u.1,.int .i64 u.2.1,.string u.2.2] 32)) (.cells #[.int .i64 0] 3);have l:=z7 (W.alloc (.cells #[.int .i64 u.1,.int .i64 u.2.1,.string u.2.2] 32)) (.cells #[.int .i64 0] 3);have a:=aD ((W.alloc (.cells #[.int .i64 u.1,.int .i64 u.2.1,.string u.2.2] 32)).alloc (.cells #[.int .i64 0] 3)) (.cells #[.bool false] 4);have q:=z7 ((W.alloc (.cells #[.int .i64 u.1,.int .i64 u.2.1,.string u.2.2] 32)).alloc (.cells #[.int .i64 0] 3)) (.cells #[.bool false] 4);have n:=aE a (aE k n);have l:=aE a l;have a:=aB (aB o k) a;obtain⟨U,m⟩:=ag (((W.alloc (.cells #[.int .i64 u.1,.int .i64 u.2.1,.string u.2.2] 32)).alloc (.cells #[.int .i64 0] 3)).alloc (.cells #[.bool false] 4));obtain⟨B,A⟩:=ag W.heap.size;simp only[zj]at l q;rw[m]at a n l q;rw[A]at n l q;have J:=hd U a;have g:=eP (x:=x) (h.later a) hfew;generalize oe (be ts x)=t at g hno;generalize ft ts x=ok at g;have j:=aa (ab m (ab A (ab a (ab n (ab l q)))));clear m A o k a n l q hd h hfew;have Y:∃b:Bool,b=decide (t.key=e0):=⟨_,rfl⟩;go_enter func100,ntmps100;go_upto_region 1 with fail;rw[j.1,j.2.1]
 go_upto_region 2 with (first|(go_at_call 43;(with_reducible refine J.mono ?_);rintro e V⟨rfl,Z⟩;subst V;clear J)|(go_at_call 45;(with_reducible refine g.mono ?_);rintro e E⟨L,M,c1,N,O,c2,rfl,_,d⟩;have f:=aD E (.cells #[.string t.nm,.slice L M c1,.string t.key,.slice N O c2] 77);have P:=z7 E (.cells #[.string t.nm,.slice L M c1,.string t.key,.slice N O c2] 77);have Q:=aa (ab (aB j.2.2.1 (aB d f)) (ab (aE f (aE d j.2.2.2.1)) (ab (aE f (aE d j.2.2.2.2.1)) (ab (aE f (aE d j.2.2.2.2.2)) P))));clear g d f P))
 generalize E.alloc _=w4 at Q ⊢;obtain⟨R,F,r,s,G⟩:=Q.out;have z2:=aA G 2;have v0:=aA F 0;have r0:=aA r 0;have r1:=aA s 0;have f0:=(fun i=>zo w4 (B+1) i _ _ r);have f1:=(fun i=>zo w4 (B+1+1) i _ _ s);have l0:=aC r;have l1:=aC s;have l2:=aC G;have l3:=aC F;have y:=Df (u:=.int .i64 0) (v:=.bool false) r s (by omega);have c:Below B W ((w4.setCell ⟨B+1,0,none⟩ (.int .i64 0)).setCell ⟨B+1+1,0,none⟩ (.bool false)):=((j.2.1▸R).setCell (p:=⟨B+1,0,none⟩) (by show B<=B+1;omega) _).setCell (p:=⟨B+1+1,0,none⟩) (by show B<=B+1+1;omega) _;have S:=aa (ab y c);clear R F r s G y c;by_cases X:t.key=e0
 ·go_upto_region 3 with fail
  all_goals (go_wp2_with fail)
  all_goals
   obtain⟨⟨H,I⟩,c⟩:=S.out;refine ya (v:=.tuple #[.int .i64 0,.bool false]) (by simp[results,results100,go_sem,H,I]) rfl ?_;exact⟨rfl,j.2.1▸c⟩
 obtain hu:u.1=0:=hno.resolve_left X;go_upto_region 3 with fail
 all_goals (go_wp2_with fail)
 all_goals
  obtain⟨⟨H,I⟩,c⟩:=S.out;refine ya (v:=.tuple #[.int .i64 0,.bool false]) (by simp[results,results100,go_sem,H,I]) rfl ?_;exact⟨rfl,j.2.1▸c⟩
def sx(x:T3):T3:=(x.1,x.2.1,lq 20 x.2.2)
def qx(N:Nat)(xs:List T3):List T3:=(xs.map sx).take N
theorem ET(N:Nat)(xs:List T3):(qx N xs).length<=N:=by simp[qx];omega
theorem Jd(xs:List T3)(k:Nat)(h:k<xs.length):cells3 ((xs.map sx).take (k+1))=cells3 ((xs.map sx).take k)++[.int .i64 xs[k].1,.int .i64 xs[k].2.1,.string (lq 20 xs[k].2.2)]:=by
 rw[yp (by simpa using h),gT];simp[cells3,sx]
theorem GC{S:Nat->Prop}{v:Value}{xs:List T3}{W:World}{N:Nat}(hN:N<=1000)(h:eb S W v xs)(hs:∀x∈xs,x.2.2.size<=maxLen):Calls prog 56 #[v,.int .i64 (N:Int)] W fun e L=>∃M,e=.returned M/\ac L W.heap.size 32 3 M (qx N xs).length (cells3 (qx N xs))/\Below W.heap.size W L:=by
 obtain⟨p,c,rfl,_,O⟩:=h.slice;obtain⟨n,J⟩:=ag xs.length;have Y:(n:Int)<=9223372036854775807:=(by unfold maxLen at O;omega);have G:=aa J;have Z:=aa h;have HS:=aa hs;rw[J];clear h hs O J;go_enter func56,ntmps56;go_wp2_with fail;go_loopg [5,6] (N+1) (fun gh tv iv w=>∃(k:Nat),k<=n/\k<=N/\N+1<=k+gh/\iv=.int .i64 (k:Int)/\ac w W.heap.size 32 3 tv k (cells3 ((xs.map sx).take k))/\Below W.heap.size W w)
 case atStart=>exact⟨0,zh _,zh _,by omega,rfl,ac.nil,zb _ _⟩
 obtain⟨k,hk,a0,hg,rfl,j,d⟩:=hrel;obtain⟨pt,ct,rfl,_,_⟩:=j.isslice;by_cases t:k<n/\k<N
 ·obtain⟨h1,h2⟩:=t;have r:k<xs.length:=(by rw[G.out];exact h1);have a1:(k:Int)<(N:Int):=(by omega);have a2:(k:Int)<(n:Int):=(by omega);obtain⟨b1,o1,rfl,a3,y0,y1,y2⟩:=(Z.out.later d).val r;have a:=Jd xs k r;have s:=HS.out _ (z8 r);obtain⟨u,P⟩:=ag (xs[k]);rw[P]at y0 y1 y2 a s;have m:=F5 u.1 u.2.1 u.2.2 wr s;have z:=(fun y(Q:Below wr.heap.size wr y)=>Co.S.jr y W.heap.size (j.later Q) (by omega) (zw d.size Q.size) u.1 u.2.1 (lq 20 u.2.2));have HB:=aa (ab d (ab a j));clear d a s P j
  go_wp2_with (first|(go_at_call 92;refine m.mono ?_;rintro e H⟨rfl,b⟩;obtain⟨g,a4,w3,A,I,o,o3⟩:=z H b;have H3:=aa (ab I (ab o b));clear m z I o o3 b)|(at_builtin;refine aK rfl (.tmp 18) (.tmp 24) 27 rfl rfl rfl A ?_))
  go_roundg (N-k)
  case measure=>omega
  obtain⟨d,a,j⟩:=HB.out;obtain⟨I,o,b⟩:=H3.out;refine⟨k+1,by omega,by omega,by omega,rfl,by rw[a];exact I,?_⟩;have B:=d.trans (b.mono d.size);refine B.trans ⟨o.os,o.tape,o.output,zw (aD H _).size o.size,fun q hq=>?_⟩;have E:q<H.heap.size:=z9 hq B.size;rw[o.block q (by rw[zj];omega) (fun e=>by have:=(ac.lt j q e.symm).1;omega)];exact(aD H _).block q E
 have f:¬ k<n∨(k<n/\¬ k<N):=(by omega);have R:=aa (ab j d)
 have F:qx N xs=(xs.map sx).take k:=by
  unfold qx;rcases f with F|⟨_,F⟩
  ·rw[yy (l:=xs.map sx) (i:=k) (by rw[yh,G.out];omega),yy (by rw[yh,G.out];omega)]
  obtain rfl:k=N:=(by omega);rfl
 have U:(qx N xs).length=k:=(by rw[F,we,yh,G.out];omega);have V:=aa (ab F U);clear t j d F U;rcases f with f|⟨f,X⟩
 all_goals
  go_wp2_with fail;go_ret;exact⟨_,rfl,by rw[V.2,V.1];exact R.1,R.2⟩
