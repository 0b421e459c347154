import Derived.Test.YthlccadnojnkaaaGreatZn55
set_option maxHeartbeats 8000000
set_option maxRecDepth 100000
namespace Go.Proofs.YthlccadnojnkaaaGreat
open Go.Proofs.Tryz
open Go Go.RowKit Go.Proofs Co Co.S Par
def Ao(k:Nat):ByteArray:=⟨#[UInt8.ofNat (97+k / 10),UInt8.ofNat (48+k % 10)]⟩
def rk(w i:Nat):List T3:=[(1,(i:Int),e0),(2,0,Ao (i % w))]
def BM(w i:Nat):cx:=pO an (rk w i)
def rq(w n:Nat):List cx:=(List.range n).map (BM w)
def qh(w n:Nat):List R1:=(List.range n).map fun i:Nat=>((i:Int),rk w i)
def x9(w n:Nat):List PT:=[(n,qh w n),(0,[]),(0,[]),(0,[])]
theorem qG(w n:Nat):rq w (n+1)=rq w n++[BM w n]:=by unfold rq;rw[List.range_succ,uc];rfl
theorem FO(w n:Nat):qh w (n+1)=qh w n++[((n:Int),rk w n)]:=by unfold qh;rw[List.range_succ,uc];rfl
theorem gO(w n:Nat):(qh w n).length=n:=by unfold qh;rw[yh,List.length_range]
theorem oE(w n:Nat):(rq w n).length=n:=by unfold rq;rw[yh,List.length_range]
theorem G7:((List.range 50).all fun k=>decide (dj (pre 4)[0] [(1,0,e0),(2,0,Ao k)]=0))=true:=by kernel_rfl
theorem Kr:((List.range 50).all fun a=>(List.range 50).all fun b=>decide (Ao a=Ao b->a=b))=true:=by kernel_rfl
theorem FF{a b:Nat}(c:a<50)(d:b<50)(h:Ao a=Ao b):a=b:=
 wj (List.all_eq_true.1 (List.all_eq_true.1 Kr a (List.mem_range.2 c)) b (List.mem_range.2 d)) h
theorem J8(v:Int)(s:ByteArray):dj (pre 4)[0] [(1,v,e0),(2,0,s)]=dj (pre 4)[0] [(1,0,e0),(2,0,s)]:=by kernel_rfl
theorem GH{w i:Nat}(a:0<w)(b:w<=50):dj (pre 4)[0] (rk w i)=0:=by
 unfold rk;rw[J8];exact wj (List.all_eq_true.1 G7 _ (List.mem_range.2 (by have:=Nat.mod_lt i a;omega)))
theorem Fx{w n:Nat}(a:0<w)(b:w<=50):lh (pre 4) (x9 w n) (BM w n)=x9 w (n+1):=by
 rw[dX (j:=0) (by kernel_rfl) (by decide) (by show 0<4;decide)]
 have h:(x9 w n).set 0 (gj (pre 4)[0] (n,qh w n) (rk w n))=x9 w (n+1):=by
  unfold gj;rw[zv (GH a b)];unfold x9;rw[FO];rfl
 exact h
theorem oG{w:Nat}(a:0<w)(b:w<=50):∀n,en (pre 4) Lz (rq w n)=x9 w n
 | 0=>rfl
 | n+1=>by
  have h:=oG a b n;unfold en at h ⊢;rw[qG,List.foldl_append,h];exact Fx a b
theorem IC{w:Nat}{o:cx}{n:Nat}(h:o∈rq w n):ir o:=by
 unfold rq at h;obtain⟨i,_,rfl⟩:=List.mem_map.1 h;refine cM (tb:=an) (by decide) (by decide) (fun x a=>?_) (by show 2<=10;decide);have h:x=(1,(i:Int),e0)∨x=(2,0,Ao (i % w)):=(by simpa [rk]using a);rcases h with rfl|rfl
 ·exact zh _
 show 2<=100;decide
theorem Gd(v:Int)(s:ByteArray):aq (eh (pre 4)[0] [(1,v,e0),(2,0,s)]) (pre 4)[0].cols.length=none:=by kernel_rfl
theorem Lp(v:Int)(s:ByteArray)(a:List (List R1)):aq (iw (pre 4) a (pre 4)[0] [(1,v,e0),(2,0,s)]) (pre 4)[0].cols.length=none:=by kernel_rfl
theorem I5(v u:Int)(s a:ByteArray):ar (pre 4)[0] oj [(1,v,e0),(2,0,s)] [(1,u,e0),(2,0,a)]=decide (v=u):=by
 have h:ar (pre 4)[0] oj [(1,v,e0),(2,0,s)] [(1,u,e0),(2,0,a)]=decide (((1:Int),v,e0)=((1:Int),u,e0)):=rfl;rw[h,decide_eq_decide];constructor
 ·intro e;exact(Prod.mk.inj (Prod.mk.inj e).2).1
 rintro rfl;rfl
theorem G9{w n i:Nat}(a:i<=n):bk (qh w n) i=(List.range i).map (rk w):=by
 unfold bk qh;rw[<-List.map_take,List.take_range,List.map_map,Nat.min_eq_left a];rfl
theorem J5{w i:Nat}(b:List (List R1)):fg (pre 4) b (pre 4)[0] (rk w i) ((List.range i).map (rk w))=(0,e0):=by
 have c:jd (pre 4)[0] (rk w i) ((List.range i).map (rk w))=false:=by
  have h:jd (pre 4)[0] (rk w i) ((List.range i).map (rk w))=(true&&((List.range i).map (rk w)).any fun a=>ar (pre 4)[0] oj (rk w i) a):=rfl;rw[h,vt,vn];intro a e;obtain⟨j,d,rfl⟩:=List.mem_map.1 e;have d:=List.mem_range.1 d;unfold rk;rw[I5]
  simp
  omega
 unfold fg;have f:=Gd (i:Int) (Ao (i % w));have g:=Lp (i:Int) (Ao (i % w)) b;unfold rk at c ⊢;rw[f,g,c];rfl
theorem Ld{w n i:Nat}(a:i<n):rowAt (qh w n) i=((i:Int),rk w i):=by
 unfold rowAt qh;rw[zu,xm,List.getElem?_range a];rfl
theorem Fi{w n i:Nat}(a:i<n)(b:List (List R1)):ge (pre 4) b (pre 4)[0] (qh w n) i=false:=by
 unfold ge;rw[Ld a,G9 (by omega),J5];rfl
theorem KP{w n i:Nat}(d:0<w)(g:w<=50)(f:i<n):firstT ((qh w n).map fun a=>a.2.getD 1 z3) i=decide (i<w):=by
 have c:∀j,j<n->((qh w n).map fun a=>a.2.getD 1 z3).getD j z3=(2,0,Ao (j % w)):=fun j b=>by
  unfold qh;rw[zu,xm,xm,List.getElem?_range b];rfl
 unfold firstT;rw[c i f];have k:=Nat.mod_lt i d;by_cases h:i<w
 ·rw[xd h,zx];refine⟨rfl,List.all_eq_true.2 fun j b=>xd fun e=>?_⟩;have b:=List.mem_range.1 b;rw[c j (by omega)]at e;have e:=(Prod.mk.inj (Prod.mk.inj e).2).2;have l:=Nat.mod_lt j d
  have:=FF (by omega) (by omega) e
  rw[Nat.mod_eq_of_lt h,Nat.mod_eq_of_lt (by omega)]at this;omega
 rw[yw h,Bool.and_eq_false_iff];refine .inr (List.all_eq_false.2 ⟨i % w,List.mem_range.2 (by omega),?_⟩);rw[c _ (by omega),Nat.mod_mod]
 simp
theorem uZ(w:Nat):∀n,((List.range n).filter fun i=>decide (i<w)).length=min n w
 | 0=>by simp
 | n+1=>by
  rw[List.range_succ,List.filter_append,y8,uZ w n];by_cases h:n<w
  ·rw[List.filter_cons_of_pos (by simpa using h)]
   simp
   omega
  ·rw[List.filter_cons_of_neg (by simpa using h)]
   simp
   omega
theorem vA{w n:Nat}(a:0<w)(b:w<=50):fy (qh w n) 1=min n w:=by
 unfold fy;rw[gO,<-uZ w n]
 congr 1
 refine List.filter_congr (fun i c=>?_);exact KP a b (List.mem_range.1 c)
theorem vB(w n:Nat):fy (qh w n) 0=0:=by
 unfold fy;rw[gO,List.length_eq_zero_iff,List.filter_eq_nil_iff];intro i b;have b:=List.mem_range.1 b;unfold firstT
 have c:((qh w n).map fun a=>a.2.getD 0 z3).getD i z3=(1,(i:Int),e0):=by
  unfold qh;rw[zu,xm,xm,List.getElem?_range b];rfl
 rw[c]
 simp
theorem K9{w n:Nat}(e:0<w)(f:w<=50):(bm (pre 4) ((x9 w n).map (·.2)) 0).1=if n<=64/\min n w<=40 then 0 else 5:=by
 have h:bm (pre 4) ((x9 w n).map (·.2)) 0=lj (pre 4) ((x9 w n).map (·.2)) (pre 4)[0] (qh w n):=rfl;rw[h];by_cases c:64<n
 ·have a:jp (pre 4)[0] (qh w n)=(5,0,e0):=(by unfold jp;rw[zv (by rw[gO];exact c)]);unfold lj;rw[a,zq (by decide),zq (by omega)]
 by_cases b:40<min n w
 ·have a:jp (pre 4)[0] (qh w n)=((5:Int),(0:Int),(mx (pre 4)[0] 1).nm):=by
   unfold jp
   rw[zq (by rw[gO];exact c),aZ (k:=1) (by decide) (xd (by rw[vA e f];exact b)) (fun j d=>by
    obtain rfl:j=0:=(by omega);rw[vB];rfl)]
  unfold lj;rw[a,zq (by decide),zq (by omega)]
 have a:jp (pre 4)[0] (qh w n)=(0,0,e0):=by
  unfold jp
  rw[zq (by rw[gO];exact c),aV (fun j d=>by
   have d:j<2:=d;rcases(show j=0∨j=1 by omega)with rfl|rfl
   ·rw[vB];rfl
   rw[vA e f];exact yw b)]
 unfold lj;rw[a,zv rfl,zv (by omega),cU (fun m b=>Fi (by rw[gO]at b;exact b) _)]
theorem Hz{w n:Nat}(c:0<w)(d:w<=50):(au (pre 4) ((x9 w n).map (·.2))).1=if n<=64/\min n w<=40 then 0 else 5:=by
 have a:=K9 (n:=n) c d;by_cases h:n<=64/\min n w<=40
 ·rw[zv h]at a ⊢;rw[cX (fun i b=>?_)]
  match i,b with
  | 0,_=>exact a
  | 1,_=>rfl
  | 2,_=>rfl
  | 3,_=>rfl
 rw[zq h]at a ⊢;rw[cW (j:=0) (by decide) (by rw[a];decide) (fun i b=>absurd b (yo i))];exact a
theorem Id:∀k,k<50->((UInt8.ofNat (97+k / 10)).toNat:Int)=97+((k / 10:Nat):Int)/\((UInt8.ofNat (48+k % 10)).toNat:Int)=48+((k % 10:Nat):Int):=by decide +kernel
theorem vC(a0 J:Int)(W:World):Calls prog 4 #[.int .i64 a0,.int .i64 J] W fun e f=>e=.returned (.bool true)/\Below W.heap.size W f:=by
 have A:=cY W;by_cases f2:a0<0
 ·go_enter func4,ntmps4;go_wp2_with (go_at_call 12;refine A.mono ?_;rintro e w4⟨rfl,v⟩);go_ret;exact⟨rfl,v⟩
 by_cases f3:a0>70
 ·go_enter func4,ntmps4;go_wp2_with (go_at_call 12;refine A.mono ?_;rintro e w4⟨rfl,v⟩);go_ret;exact⟨rfl,v⟩
 by_cases f4:J<1
 ·go_enter func4,ntmps4;go_wp2_with (go_at_call 12;refine A.mono ?_;rintro e w4⟨rfl,v⟩);go_ret;exact⟨rfl,v⟩
 by_cases f5:J>50
 ·go_enter func4,ntmps4;go_wp2_with (go_at_call 12;refine A.mono ?_;rintro e w4⟨rfl,v⟩);go_ret;exact⟨rfl,v⟩
 obtain⟨n,rfl⟩:∃n:Nat,a0=(n:Int):=⟨a0.toNat,by omega⟩;obtain⟨G,rfl⟩:∃n:Nat,J=(n:Int):=⟨J.toNat,by omega⟩;have c0:0<G:=(by omega);have a6:G<=50:=(by omega);have a7:n<=70:=(by omega);go_enter func4,ntmps4;go_upto_region 6 with (go_at_call 12;refine A.mono ?_;rintro e w4⟨rfl,v⟩;have H4:=aa v;clear A v);have S:=cP w4;go_upto_region 7 with (go_at_call 13;refine S.mono ?_;rintro e w5⟨d,b,ps,rfl,c1⟩;have c4:=aa c1;clear S c1);have T:=aa (ab c0 (ab a6 a7));clear f2 f3 f4 f5 c0 a6 a7;go_wp2_with fail;go_loopg [8,9] (n+1) (fun gh lv jv w=>∃(j:Nat) (p:Option Addr) (c:Nat),jv=.int .i64 (j:Int)/\j<=n/\n+1<=j+gh/\lv=.slice p j c/\ef w w5.heap.size (.slice p j c) (rq G j)/\Below w5.heap.size w5 w)
 case atStart=>exact⟨0,none,0,rfl,zh _,by omega,rfl,ef.nil,zb _ _⟩
 obtain⟨j,p,c,rfl,hj,hg,rfl,ho,hB⟩:=hrel;have HB:=aa (ab ho hB);clear ho hB;by_cases f6:j<n
 ·have g7:(j:Int)<(n:Int):=(by omega);have g8:(0:Int)<(G:Int):=(by have:=T.1;omega);have g9:((G:Int)==0)=false:=beq_eq_false_iff_ne.2 (by omega);obtain⟨k,hk⟩:=ag (j % G);have c6:k<50:=(by have h1:=Nat.mod_lt j T.1;have h2:=T.2.1;omega);have e1:(j:Int).tmod (G:Int)=(k:Int):=(by rw[<-hk];rfl);obtain⟨q,R⟩:=ag (k / 10);obtain⟨r,hr⟩:=ag (k % 10);have e2:(k:Int).tdiv 10=(q:Int):=(by rw[<-R];rfl);have e3:(k:Int).tmod 10=(r:Int):=(by rw[<-hr];rfl);have h0:q<5:=(by omega);have g0:r<10:=(by omega);obtain⟨O,b1⟩:=ag (Ao (j % G));have b2:=Id k c6;rw[R,hr]at b2;have U:(⟨#[UInt8.ofNat (97+k / 10),UInt8.ofNat (48+k % 10)]⟩:ByteArray)=O:=(by rw[<-b1,hk];rfl);rw[R,hr]at U;have Z:=aa (ab b2 (ab U b1));clear b2 U b1 hk R hr;have w0:IntKind.i64.wrap (q:Int)=(q:Int):=(by rw[IntKind.wrap_i64];omega);have w1:IntKind.i64.wrap (97+(q:Int))=97+(q:Int):=(by rw[IntKind.wrap_i64];omega);have w2:IntKind.u8.wrap (97+(q:Int))=97+(q:Int):=(by rw[IntKind.wrap_u8];omega);have w3:IntKind.i64.wrap (48+(r:Int))=48+(r:Int):=(by rw[IntKind.wrap_i64];omega);have f7:IntKind.u8.wrap (48+(r:Int))=48+(r:Int):=(by rw[IntKind.wrap_u8];omega);go_upto_region 12 with fail;refine ip 17 (fun w=>Below wr.heap.size wr w) (VL [(.eq (.slice p j c)),(.eq (.int .i64 (j:Int))),(.eq (.agg #[.int .i64 1,.int .i64 (j:Int),.string e0])),(.eq (.int .i64 (k:Int))),(.eq (.int .i64 (q:Int))),(.eq (.int .i64 (97+(q:Int)))),(.eq (.int .u8 (97+(q:Int)))),(.eq (.int .i64 (k:Int))),(.eq (.int .i64 (r:Int))),(.eq (.int .i64 (48+(r:Int)))),(.eq (.int .u8 (48+(r:Int)))),(.obj (fun g=>.slice (some ⟨g,0,none⟩) 2 2) (.cells #[.int .u8 (97+(q:Int)),.int .u8 (48+(r:Int))] 5)),(.eq (.string O)),(.eq (.agg #[.int .i64 2,.int .i64 0,.string O])),(.obj (fun g=>.slice (some ⟨g,0,none⟩) 2 2) (.cells #[.int .i64 1,.int .i64 (j:Int),.string e0,.int .i64 2,.int .i64 0,.string O] 32)),(AZ wr.heap.size an [(1,(j:Int),e0),(2,0,O)] 2),(CK wr.heap.size an [(1,(j:Int),e0),(2,0,O)] 2)]) ?A1 ?hm1 ?hB1 (fun w f h P=>aB h P) (Par.VL.mono _) ?hA1 (aF wr) ?hop1 ?hT1
  case hm1=>kernel_rfl
  case hB1=>kernel_rfl
  case hA1 =>
   intro t;simp only[am,ai,Act.put,cy,db,bt,cp,dc,da,bu];rfl
  case hop1 =>
   simp only[ce,ze,iq,yu];and_intros<;>intro t w hK l
   ·clear l;simp only[ao];go_simp;all_goals exact⟨rfl,zb _ _⟩
   ·clear l;simp only[ao];go_simp;all_goals exact⟨rfl,zb _ _⟩
   ·have d1:=l 1 (by decide) (by kernel_rfl);replace d1:t 1=.int .i64 (j:Int):=d1;clear l;simp only[ao,d1];go_simp;exact(aU (j:Int) w).mono (fun e H h=>⟨_,h.1,⟨rfl,h.2⟩⟩)
   ·clear l;simp only[ao];go_simp;all_goals exact⟨rfl,zb _ _⟩
   ·have d3:=l 3 (by decide) (by kernel_rfl);replace d3:t 3=.int .i64 (k:Int):=d3;clear l;simp only[ao,d3];go_simp;all_goals exact⟨rfl,zb _ _⟩
   ·have d4:=l 4 (by decide) (by kernel_rfl);replace d4:t 4=.int .i64 (q:Int):=d4;clear l;simp only[ao,d4];go_simp;all_goals exact⟨rfl,zb _ _⟩
   ·have d5:=l 5 (by decide) (by kernel_rfl);replace d5:t 5=.int .i64 (97+(q:Int)):=d5;clear l;simp only[ao,d5];go_simp;all_goals exact⟨rfl,zb _ _⟩
   ·clear l;simp only[ao];go_simp;all_goals exact⟨rfl,zb _ _⟩
   ·have d7:=l 7 (by decide) (by kernel_rfl);replace d7:t 7=.int .i64 (k:Int):=d7;clear l;simp only[ao,d7];go_simp;all_goals exact⟨rfl,zb _ _⟩
   ·have d8:=l 8 (by decide) (by kernel_rfl);replace d8:t 8=.int .i64 (r:Int):=d8;clear l;simp only[ao,d8];go_simp;all_goals exact⟨rfl,zb _ _⟩
   ·have d9:=l 9 (by decide) (by kernel_rfl);replace d9:t 9=.int .i64 (48+(r:Int)):=d9;clear l;simp only[ao,d9];go_simp;all_goals exact⟨rfl,zb _ _⟩
   ·have d6:=l 6 (by decide) (by kernel_rfl);replace d6:t 6=.int .u8 (97+(q:Int)):=d6;have C:=l 10 (by decide) (by kernel_rfl);replace C:t 10=.int .u8 (48+(r:Int)):=C;clear l;simp only[ao,d6,C];go_simp;exact⟨⟨_,rfl,z7 w _⟩,aD w _⟩
   ·have m:=l 11 (by decide) (by kernel_rfl);obtain⟨g3,m,k3⟩:=m;have cv:(convert 44 9 (.slice (some ⟨g3,0,none⟩) 2 2)).run prog w=.ok (.string O) w:=(by rw[<-Z.2.1];exact Cj k3 Z.1.1 Z.1.2);clear l;simp only[ao];go_simp;all_goals exact⟨rfl,zb _ _⟩
   ·have D:=l 12 (by decide) (by kernel_rfl);replace D:t 12=.string O:=D;clear l;simp only[ao,D];go_simp;exact(aX O w).mono (fun e H h=>⟨_,h.1,⟨rfl,h.2⟩⟩)
   ·have d2:=l 2 (by decide) (by kernel_rfl);replace d2:t 2=.agg #[.int .i64 1,.int .i64 (j:Int),.string e0]:=d2;have E:=l 13 (by decide) (by kernel_rfl);replace E:t 13=.agg #[.int .i64 2,.int .i64 0,.string O]:=E;clear l;simp only[ao,d2,E];go_simp;exact⟨⟨_,rfl,z7 w _⟩,aD w _⟩
   ·have s:=l 14 (by decide) (by kernel_rfl);obtain⟨g4,s,k4⟩:=s;clear l;simp only[ao];go_simp;exact uX an [(1,(j:Int),e0),(2,0,O)] _ k4 rfl rfl (by decide) (by decide) hK.size
   have a1:=l 15 (by decide) (by kernel_rfl);obtain⟨g5,c5,a1,r5⟩:=a1;clear l;simp only[ao];go_simp;exact⟨⟨_,g5,c5,hK.size,rfl,z7 w _,r5.later (aD w _)⟩,aD w _⟩
  intro t f hK B;simp only[cw,ym];have d0:=B 0 (by decide);replace d0:t 0=(.slice p j c):=d0;have d1:=B 1 (by decide);replace d1:t 1=.int .i64 (j:Int):=d1;have d2:=B 2 (by decide);replace d2:t 2=.agg #[.int .i64 1,.int .i64 (j:Int),.string e0]:=d2;have d3:=B 3 (by decide);replace d3:t 3=.int .i64 (k:Int):=d3;have d4:=B 4 (by decide);replace d4:t 4=.int .i64 (q:Int):=d4;have d5:=B 5 (by decide);replace d5:t 5=.int .i64 (97+(q:Int)):=d5;have d6:=B 6 (by decide);replace d6:t 6=.int .u8 (97+(q:Int)):=d6;have d7:=B 7 (by decide);replace d7:t 7=.int .i64 (k:Int):=d7;have d8:=B 8 (by decide);replace d8:t 8=.int .i64 (r:Int):=d8;have d9:=B 9 (by decide);replace d9:t 9=.int .i64 (48+(r:Int)):=d9;have C:=B 10 (by decide);replace C:t 10=.int .u8 (48+(r:Int)):=C;have m:=B 11 (by decide);have D:=B 12 (by decide);replace D:t 12=.string O:=D;have E:=B 13 (by decide);replace E:t 13=.agg #[.int .i64 2,.int .i64 0,.string O]:=E;have s:=B 14 (by decide);have a1:=B 15 (by decide);have a2:=B 16 (by decide);clear B;simp only[d0,d1,d2,d3,d4,d5,d6,d7,d8,d9,C,D,E];clear d0 d1 d2 d3 d4 d5 d6 d7 d8 d9 C D E;obtain⟨g2,g1,k1,c7,a2,c8,e4⟩:=a2;rw[a2];clear a2 a1 s m e1 e2 e3 w0 w1 w2 w3 f7;obtain⟨g',g6,wz,e5,e6,e7⟩:=uY HB.1 (oE _ _) hK HB.2.size c7 c8 e4 rfl (by omega);have HZ:=aa (ab e6 (HB.2.trans e7));clear c8 e4 e6 e7 c7 hK;go_wp2_with (at_builtin;refine aK rfl (.tmp 41) (.tmp 57) 35 rfl rfl rfl e5 ?_);go_roundg (n-j)
  case measure=>omega
  exact⟨j+1,_,_,by go_num,by omega,by omega,rfl,by rw[qG];unfold BM rk;rw[Z.2.2];exact HZ.1,HZ.2⟩
 obtain rfl:j=n:=(by omega);have hP:=c4.out.with HB.2;have I:=qF hP (oE G j) HB.1 (fun q h1 h2=>.inr ⟨h1,h2⟩) (by have:=T.2.2;omega) (fun o ho=>IC ho) (oG T.1 T.2.1 j)
 have b3:∀x∈x9 G j,dw 100 x:=by
  rw[<-oG T.1 T.2.1 j];exact fun x hx=>(dY cD x hx).mono (by have:=T.2.2;rw[oE];omega)
 have i:=Hz (n:=j) T.1 T.2.1;obtain⟨X,hX⟩:=ag (x9 G j);rw[hX]at I b3 i;obtain⟨⟨J,K,L,M⟩,b4⟩:∃x,au (pre 4) (X.map (·.2))=x:=⟨_,rfl⟩;rw[b4]at i;dsimp only at i;obtain⟨wc,f8⟩:∃z,z=wr:=⟨_,rfl⟩;subst f8;have HC:=aa (ab b4 (ab b3 (ab HB.2 i)));clear hX b4 b3 hP i hj hg f6;go_upto_region 14 with (go_at_call 17;refine I.mono ?_;rintro e h3⟨rfl,a8⟩;have a9:=aa ((c4.out.later HC.2.2.1).back a8 (fun q R=>.inl R));clear I a8);have b5:=a9.out.check bE HC.2.1 (by decide);rw[HC.1]at b5;go_upto_region 15 with (go_at_call 18;refine b5.mono ?_;rintro e a3⟨rfl,b0⟩;have f9:=aa b0;clear b5 b0);have b6:=aD a3 (.cells #[.int .i64 J,.int .i64 0,.string K,.int .i64 L,.string M] 39);have a4:=z7 a3 (.cells #[.int .i64 J,.int .i64 0,.string K,.int .i64 L,.string M] 39);obtain⟨Q,b7⟩:=ag (a3.alloc (.cells #[.int .i64 J,.int .i64 0,.string K,.int .i64 L,.string M] 39));obtain⟨F,hF⟩:=ag a3.heap.size;rw[b7]at b6 a4;rw[hF]at a4
 try rw[b7]
 try rw[hF]
 have a5:=aa (a9.out.later (aB f9.out b6));have u:Hid (∀y,Below Q.heap.size Q y->y.heap[F]?=some (.cells #[.int .i64 J,.int .i64 0,.string K,.int .i64 L,.string M] 39)):=aa (fun y hy=>aE hy a4)
 have b8:Hid (∀y,Below Q.heap.size Q y->Calls prog 20 #[.pointer (some ⟨b,0,none⟩)] y fun e f=>e=.returned (.agg #[.int .i64 J,.int .i64 0,.string K,.int .i64 L,.string M])/\Below y.heap.size y f):=aa (fun y hy=>by
  have:=(a5.out.later hy).ncheck bE fS (by decide) HC.2.1 (by decide)
  rw[HC.1]at this;exact this)
 have b9:Hid (∀y,Calls prog 19 #[.agg #[.int .i64 J,.int .i64 0,.string K,.int .i64 L,.string M],.agg #[.int .i64 J,.int .i64 0,.string K,.int .i64 L,.string M]] y fun e f=>e=.returned (.bool true)/\Below y.heap.size y f):=aa (fun y=>bR J 0 L K M y);clear b6 a4 b7 hF;obtain⟨mn,e8⟩:=ag (min j G);have h4:min (j:Int) (G:Int)=(mn:Int):=(by rw[<-e8];omega);have i:=HC.2.2.2;rw[e8]at i;by_cases e9:j<=64
 ·by_cases f0:mn<=40
  ·rw[zv ⟨e9,f0⟩]at i;subst i;have x1:(j:Int)<=64:=(by omega);have x2:(mn:Int)<=40:=(by omega);refine ae 19 [.pointer (some ⟨F,0,none⟩),.int .i64 0,.bool true,.int .i64 (j:Int),.bool true,.bool true,.int .i64 (j:Int),.int .i64 (G:Int),.int .i64 (mn:Int),.bool true,.bool true,.bool true,.bool true,.agg #[.int .i64 0,.int .i64 0,.string K,.int .i64 L,.string M],.pointer (some ⟨b,0,none⟩),.agg #[.int .i64 0,.int .i64 0,.string K,.int .i64 L,.string M],.bool true,.bool true,.bool true] (fun y=>Below Q.heap.size Q y) ?A2 ?hm2 ?hB2 ?hA2 (aF Q) ?hop2 ?hT2
   case hm2=>kernel_rfl
   case hB2=>kernel_rfl
   case hA2 =>
    simp only[am,ai,Act.put,cy,db,bt,cp,dc,da,bu,eg,ed];rfl
   case hop2 =>
    simp only[ce,ze,ah,yu];and_intros<;>intro f a<;>have N:=aa a
    have zl:=aC (u.out f a);rotate_left;have z0:=aA (u.out f a) 0;rotate_left 12;have zl:=aC (u.out f a);have z0:=aA (u.out f a) 0;have z1:=aA (u.out f a) 1;have z2:=aA (u.out f a) 2;have f1:=aA (u.out f a) 3;have z4:=aA (u.out f a) 4;rotate_left 2
    ·clear a;simp only[Par.Gives];go_simp;exact(b8.out f N.out).mono (fun e H⟨V,P⟩=>⟨V,aB N.out P⟩)
    ·clear a;simp only[Par.Gives];go_simp;exact(b9.out f).mono (fun e H⟨V,P⟩=>⟨V,aB N.out P⟩)
    rotate_left 2
    all_goals(clear a;simp only[Par.Gives];go_simp;all_goals exact N.out)
   intro f a;simp only[cw,yq];have Y:=aB H4.out ((a5.out.later a).bel (zb _ _) (fun q R=>R));clear a;go_wp2_with fail;go_ret;exact⟨rfl,Y⟩
  rw[zq (fun h=>f0 h.2)]at i;subst i;have x1:(j:Int)<=64:=(by omega);have x2:¬ (mn:Int)<=40:=(by omega);refine ae 19 [.pointer (some ⟨F,0,none⟩),.int .i64 5,.bool false,.int .i64 (j:Int),.bool true,.bool true,.int .i64 (j:Int),.int .i64 (G:Int),.int .i64 (mn:Int),.bool false,.bool false,.bool true,.bool true,.agg #[.int .i64 5,.int .i64 0,.string K,.int .i64 L,.string M],.pointer (some ⟨b,0,none⟩),.agg #[.int .i64 5,.int .i64 0,.string K,.int .i64 L,.string M],.bool true,.bool true,.bool true] (fun y=>Below Q.heap.size Q y) ?A3 ?hm3 ?hB3 ?hA3 (aF Q) ?hop3 ?hT3
  case hm3=>kernel_rfl
  case hB3=>kernel_rfl
  case hA3 =>
   simp only[am,ai,Act.put,cy,db,bt,cp,dc,da,bu,eg,ed];rfl
  case hop3 =>
   simp only[ce,ze,ah,yu];and_intros<;>intro f a<;>have N:=aa a
   have zl:=aC (u.out f a);rotate_left;have z0:=aA (u.out f a) 0;rotate_left 12;have zl:=aC (u.out f a);have z0:=aA (u.out f a) 0;have z1:=aA (u.out f a) 1;have z2:=aA (u.out f a) 2;have f1:=aA (u.out f a) 3;have z4:=aA (u.out f a) 4;rotate_left 2
   ·clear a;simp only[Par.Gives];go_simp;exact(b8.out f N.out).mono (fun e H⟨V,P⟩=>⟨V,aB N.out P⟩)
   ·clear a;simp only[Par.Gives];go_simp;exact(b9.out f).mono (fun e H⟨V,P⟩=>⟨V,aB N.out P⟩)
   rotate_left 2
   all_goals(clear a;simp only[Par.Gives];go_simp;all_goals exact N.out)
  intro f a;simp only[cw,yq];have Y:=aB H4.out ((a5.out.later a).bel (zb _ _) (fun q R=>R));clear a;go_wp2_with fail;go_ret;exact⟨rfl,Y⟩
 rw[zq (fun h=>e9 h.1)]at i;subst i;have x1:¬ (j:Int)<=64:=(by omega);refine ae 19 [.pointer (some ⟨F,0,none⟩),.int .i64 5,.bool false,.int .i64 (j:Int),.bool false,.bool false,undef,undef,undef,undef,.bool false,.bool true,.bool true,.agg #[.int .i64 5,.int .i64 0,.string K,.int .i64 L,.string M],.pointer (some ⟨b,0,none⟩),.agg #[.int .i64 5,.int .i64 0,.string K,.int .i64 L,.string M],.bool true,.bool true,.bool true] (fun y=>Below Q.heap.size Q y) ?A4 ?hm4 ?hB4 ?hA4 (aF Q) ?hop4 ?hT4
 case hm4=>kernel_rfl
 case hB4=>kernel_rfl
 case hA4 =>
  simp only[am,ai,Act.put,cy,db,bt,cp,dc,da,bu,eg,ed];rfl
 case hop4 =>
  simp only[ce,ze,ah,yu];and_intros<;>intro f a<;>have N:=aa a
  have zl:=aC (u.out f a);rotate_left;have z0:=aA (u.out f a) 0;rotate_left 12;have zl:=aC (u.out f a);have z0:=aA (u.out f a) 0;have z1:=aA (u.out f a) 1;have z2:=aA (u.out f a) 2;have f1:=aA (u.out f a) 3;have z4:=aA (u.out f a) 4;rotate_left 2
  ·clear a;simp only[Par.Gives];go_simp;exact(b8.out f N.out).mono (fun e H⟨V,P⟩=>⟨V,aB N.out P⟩)
  ·clear a;simp only[Par.Gives];go_simp;exact(b9.out f).mono (fun e H⟨V,P⟩=>⟨V,aB N.out P⟩)
  rotate_left 2
  all_goals(clear a;simp only[Par.Gives];go_simp;all_goals exact N.out)
 intro f a;simp only[cw,yq];have Y:=aB H4.out ((a5.out.later a).bel (zb _ _) (fun q R=>R));clear a;go_wp2_with fail;go_ret;exact⟨rfl,Y⟩
