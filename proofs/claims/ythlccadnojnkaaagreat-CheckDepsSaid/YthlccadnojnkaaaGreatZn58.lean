import Derived.Test.YthlccadnojnkaaaGreatZn49
namespace Go.Proofs.YthlccadnojnkaaaGreat
open Go Go.RowKit Go.Proofs Co Co.S
def Aw(c:Nat):ByteArray:=⟨#[99,UInt8.ofNat (48+c)]⟩
def BS(z:Nat):ByteArray:=⟨#[122,UInt8.ofNat (48+z)]⟩
def so(z:Nat):T3:=if z=0 then(0,0,e0)else(2,0,BS z)
def ng(f:Nat->Nat×Nat)(i:Nat):List T3:=[(1,(i:Int),e0),(2,0,Aw (f i).1),so (f i).2,(0,0,e0)]
def BF(f:Nat->Nat×Nat)(i:Nat):cx:=pO ap (ng f i)
def qv(f:Nat->Nat×Nat)(n:Nat):List cx:=(List.range n).map (BF f)
def qa(f:Nat->Nat×Nat)(n:Nat):List R1:=(List.range n).map fun i:Nat=>((i:Int),ng f i)
def sc(f:Nat->Nat×Nat)(n:Nat):List PT:=[(0,[]),(n,qa f n),(0,[]),(0,[])]
def eu(f:Nat->Nat×Nat):Nat->Nat->Nat
 | 0,_=>0
 | i+1,c=>if eu f i c=0 then(if (f i).1=c then(f i).2+1 else 0)else eu f i c
def ig(f:Nat->Nat×Nat):Nat->Bool
 | 0=>true
 | i+1=>ig f i&&(decide (eu f i (f i).1=0) || decide (eu f i (f i).1=(f i).2+1))
def Ae(f:Nat->Nat×Nat)(k:Nat):Bool:=(List.range k).any fun j=>decide ((f k).1=(f j).1)&&!decide ((f k).2=(f j).2)
section
variable {f:Nat->Nat×Nat}
theorem CU:∀{i c:Nat},eu f i c≠0->∃j,j<i/\(f j).1=c
 | 0,c,h=>absurd rfl h
 | i+1,c,h=>by
  unfold eu at h;by_cases a:eu f i c=0
  ·rw[zv a]at h;by_cases b:(f i).1=c
   ·exact⟨i,by omega,b⟩
   ·rw[zq b]at h;exact absurd rfl h
  ·obtain⟨j,d,e⟩:=CU a;exact⟨j,by omega,e⟩
theorem lX:∀{n j:Nat},ig f n=true->j<n->eu f n (f j).1=(f j).2+1
 | 0,j,_,hj=>absurd hj (yo j)
 | n+1,j,h,hj=>by
  unfold ig at h;rw[zx,wm,wh,wh]at h;obtain⟨b,a⟩:=h;unfold eu;by_cases e:j=n
  ·subst e;rcases a with a|a
   ·rw[zv a,zv rfl]
   ·rw[zq (by omega)];exact a
  ·have:=lX b (j:=j) (by omega)
   rw[zq (by omega)];exact this
theorem Dn{k:Nat}:Ae f k=true↔∃j,j<k/\(f k).1=(f j).1/\(f k).2≠(f j).2:=by
 unfold Ae;rw[vq];constructor
 ·rintro⟨j,a,h⟩;rw[zx,wh,Bool.not_eq_true',vk]at h;exact⟨j,List.mem_range.1 a,h⟩
 rintro⟨j,a,h⟩;refine⟨j,List.mem_range.2 a,?_⟩;rw[zx,wh,Bool.not_eq_true',vk];exact h
theorem KE{n:Nat}(h:ig f n=true):∀k,k<n->Ae f k=false:=fun k a=>Bool.eq_false_iff.2 fun b=>by
 obtain⟨j,g,c,i⟩:=Dn.1 b;have d:=lX h a;have e:=lX h (j:=j) (by omega);rw[<-c,d]at e;omega
theorem vD:∀{n:Nat},ig f n=false->∃k,k<n/\Ae f k=true
 | 0,h=>by cases h
 | n+1,h=>by
  cases a:ig f n with
  | false =>
   obtain⟨k,g,e⟩:=vD a;exact⟨k,by omega,e⟩
  | true =>
   unfold ig at h;rw[a,vt,Bool.or_eq_false_iff,vk,vk]at h;obtain⟨j,b,e⟩:=CU h.1;have c:=lX a b;refine⟨n,by omega,Dn.2 ⟨j,b,e.symm,fun d=>h.2 ?_⟩⟩;rw[<-e,c,d]
theorem IP{o:cx}{n:Nat}(h:o∈qv f n):ir o:=by
 unfold qv at h;obtain⟨i,_,rfl⟩:=List.mem_map.1 h;refine cM (tb:=ap) (by decide) (by decide) (fun x a=>?_) (by show 4<=10;decide);have h:x=(1,(i:Int),e0)∨x=(2,0,Aw (f i).1)∨x=so (f i).2∨x=(0,0,e0):=(by simpa [ng]using a);rcases h with rfl|rfl|rfl|rfl
 ·exact zh _
 ·show 2<=100;decide
 ·unfold so;split
  ·exact zh _
  show 2<=100;decide
 exact zh _
theorem qH(n:Nat):qv f (n+1)=qv f n++[BF f n]:=by unfold qv;rw[List.range_succ,uc];rfl
theorem KN(n:Nat):qa f (n+1)=qa f n++[((n:Int),ng f n)]:=by unfold qa;rw[List.range_succ,uc];rfl
theorem I4(n:Nat):(qa f n).length=n:=by unfold qa;rw[yh,List.length_range]
theorem oH(n:Nat):(qv f n).length=n:=by unfold qv;rw[yh,List.length_range]
end
theorem Io:((List.range 4).all fun c=>(List.range 3).all fun z=>decide (dj (pre 4)[1] [(1,0,e0),(2,0,Aw c),so z,(0,0,e0)]=0))=true:=by kernel_rfl
theorem I1:((List.range 4).all fun a=>(List.range 4).all fun b=>decide (Aw a=Aw b->a=b))=true:=by kernel_rfl
theorem GA:((List.range 3).all fun a=>(List.range 3).all fun b=>decide (so a=so b->a=b))=true:=by kernel_rfl
theorem JQ(v:Int)(s:ByteArray)(x:T3):dj (pre 4)[1] [(1,v,e0),(2,0,s),x,(0,0,e0)]=dj (pre 4)[1] [(1,0,e0),(2,0,s),x,(0,0,e0)]:=by kernel_rfl
theorem Ek(v:Int)(s:ByteArray)(x:T3):aq (eh (pre 4)[1] [(1,v,e0),(2,0,s),x,(0,0,e0)]) (pre 4)[1].cols.length=none:=by kernel_rfl
theorem E8(v:Int)(s:ByteArray)(x:T3)(As:List (List R1)):aq (iw (pre 4) As (pre 4)[1] [(1,v,e0),(2,0,s),x,(0,0,e0)]) (pre 4)[1].cols.length=none:=by kernel_rfl
theorem Fj(v u:Int)(s s':ByteArray)(x x':T3)(h:v≠u):ar (pre 4)[1] oj [(1,v,e0),(2,0,s),x,(0,0,e0)] [(1,u,e0),(2,0,s'),x',(0,0,e0)]=false:=by
 have e:ar (pre 4)[1] oj [(1,v,e0),(2,0,s),x,(0,0,e0)] [(1,u,e0),(2,0,s'),x',(0,0,e0)]=decide (((1:Int),v,e0)=((1:Int),u,e0)):=rfl;rw[e,vk];intro e;exact h (Prod.mk.inj (Prod.mk.inj e).2).1
theorem KG(v:Int)(s:ByteArray)(x:T3)(B:List (List T3)):dh (pre 4)[1] ((pre 4)[1].deps.getD 0 ⟨[],e0⟩) [(1,v,e0),(2,0,s),x,(0,0,e0)] B=B.any fun a=>(ar (pre 4)[1] qm [(1,v,e0),(2,0,s),x,(0,0,e0)] a&&true)&&!ar (pre 4)[1] bs [(1,v,e0),(2,0,s),x,(0,0,e0)] a:=rfl
theorem FC(v u:Int)(s s':ByteArray)(x x':T3):ar (pre 4)[1] qm [(1,v,e0),(2,0,s),x,(0,0,e0)] [(1,u,e0),(2,0,s'),x',(0,0,e0)]=decide (((2:Int),(0:Int),s)=((2:Int),(0:Int),s')):=rfl
theorem Lb(v u:Int)(s s':ByteArray)(x x':T3):ar (pre 4)[1] bs [(1,v,e0),(2,0,s),x,(0,0,e0)] [(1,u,e0),(2,0,s'),x',(0,0,e0)]=decide (x=x'):=rfl
section
variable {f:Nat->Nat×Nat}
theorem Jm(hf:∀i,(f i).1<4/\(f i).2<3)(i:Nat):dj (pre 4)[1] (ng f i)=0:=by
 unfold ng;rw[JQ];exact wj (List.all_eq_true.1 (List.all_eq_true.1 Io _ (List.mem_range.2 (hf i).1)) _ (List.mem_range.2 (hf i).2))
theorem Jg(hf:∀i,(f i).1<4/\(f i).2<3)(n:Nat):lh (pre 4) (sc f n) (BF f n)=sc f (n+1):=by
 rw[dX (j:=1) (by kernel_rfl) (by decide) (by show 1<4;decide)]
 have h:(sc f n).set 1 (gj (pre 4)[1] (n,qa f n) (ng f n))=sc f (n+1):=by
  unfold gj;rw[zv (Jm hf n)];unfold sc;rw[KN];rfl
 exact h
theorem oI(hf:∀i,(f i).1<4/\(f i).2<3):∀n,en (pre 4) Lz (qv f n)=sc f n
 | 0=>rfl
 | n+1=>by
  have h:=oI hf n;unfold en at h ⊢;rw[qH,List.foldl_append,h];exact Jg hf n
theorem DP(hf:∀i,(f i).1<4/\(f i).2<3){i:Nat}(As:List (List R1)):fg (pre 4) As (pre 4)[1] (ng f i) ((List.range i).map (ng f))=if Ae f i=true then(10,bs)else(0,e0):=by
 have n:jd (pre 4)[1] (ng f i) ((List.range i).map (ng f))=false:=by
  have h:jd (pre 4)[1] (ng f i) ((List.range i).map (ng f))=(true&&((List.range i).map (ng f)).any fun a=>ar (pre 4)[1] oj (ng f i) a):=rfl;rw[h,vt,vn];intro a o;obtain⟨j,b,rfl⟩:=List.mem_map.1 o;have b:=List.mem_range.1 b;unfold ng;rw[Fj _ _ _ _ _ _ (by omega)];decide
 have d:dh (pre 4)[1] ((pre 4)[1].deps.getD 0 ⟨[],e0⟩) (ng f i) ((List.range i).map (ng f))=Ae f i:=by
  unfold Ae;rw[show ng f i=[(1,(i:Int),e0),(2,0,Aw (f i).1),so (f i).2,(0,0,e0)]from rfl,KG,List.any_map]
  congr 1
  funext j
  show((ar (pre 4)[1] qm _ (ng f j)&&true)&&!ar (pre 4)[1] bs _ (ng f j))=_;unfold ng;rw[FC,Lb,Bool.and_true]
  congr 1
  ·rw[decide_eq_decide];refine⟨fun e=>?_,fun e=>by rw[e]⟩;exact wj (List.all_eq_true.1 (List.all_eq_true.1 I1 _ (List.mem_range.2 (hf i).1)) _ (List.mem_range.2 (hf j).1)) (Prod.mk.inj (Prod.mk.inj e).2).2
  congr 1
  rw[decide_eq_decide];refine⟨fun e=>?_,fun e=>by rw[e]⟩;exact wj (List.all_eq_true.1 (List.all_eq_true.1 GA _ (List.mem_range.2 (hf i).2)) _ (List.mem_range.2 (hf j).2)) e
 unfold fg;have g:=Ek (i:Int) (Aw (f i).1) (so (f i).2);have l:=E8 (i:Int) (Aw (f i).1) (so (f i).2) As;have e:ng f i=[(1,(i:Int),e0),(2,0,Aw (f i).1),so (f i).2,(0,0,e0)]:=rfl;rw[<-e]at g l;rw[g,l,n]
 show(match aq (fun k=>dh (pre 4)[1] ((pre 4)[1].deps.getD k ⟨[],e0⟩) (ng f i) ((List.range i).map (ng f))) 1 with
   | some k=>((10:Int),((pre 4)[1].deps.getD k ⟨[],e0⟩).right)
   | none=>((0:Int),e0))=_
 cases m:Ae f i with
 | true=>rw[aZ (k:=0) (by decide) (d.trans m) (fun j b=>absurd b (yo j))];rfl
 | false =>
  have c:∀j,j<1->dh (pre 4)[1] ((pre 4)[1].deps.getD j ⟨[],e0⟩) (ng f i) ((List.range i).map (ng f))=false:=fun j b=>by
   obtain rfl:j=0:=(by omega);exact d.trans m
  rw[aV c];rfl
theorem yO(hf:∀i,(f i).1<4/\(f i).2<3){n i:Nat}(hi:i<n)(As:List (List R1)):ge (pre 4) As (pre 4)[1] (qa f n) i=Ae f i/\(rowAt (qa f n) i).2=ng f i/\bk (qa f n) i=(List.range i).map (ng f):=by
 have a:rowAt (qa f n) i=((i:Int),ng f i):=by
  unfold rowAt qa;rw[zu,xm,List.getElem?_range hi];rfl
 have b:bk (qa f n) i=(List.range i).map (ng f):=by
  unfold bk qa;rw[<-List.map_take,List.take_range,List.map_map,Nat.min_eq_left (by omega)];rfl
 refine⟨?_,by rw[a],b⟩;unfold ge;rw[a,b,DP hf];cases Ae f i <;> rfl
theorem Fg(hf:∀i,(f i).1<4/\(f i).2<3){n:Nat}(hn:n<=15):(ig f n=true->bm (pre 4) ((sc f n).map (·.2)) 1=(0,0,e0))/\(ig f n=false->∃k:Int,bm (pre 4) ((sc f n).map (·.2)) 1=(10,k,bs)):=by
 have h:bm (pre 4) ((sc f n).map (·.2)) 1=lj (pre 4) ((sc f n).map (·.2)) (pre 4)[1] (qa f n):=rfl;have r:=I4 (f:=f) n;rw[h];unfold lj;rw[eU (by omega) (fun m _=>by have:=jM (A:=qa f n) (c:=m);omega),zv rfl];refine⟨fun b=>cU (fun m j=>?_),fun b=>?_⟩
 ·rw[(yO hf (by omega) _).1];exact KE b m (by omega)
 cases a:aq (Ae f) n with
 | none =>
  obtain⟨k,d,e⟩:=vD b;unfold aq at a;rw[ud]at a;exact absurd e (by simpa using a k (List.mem_range.2 d))
 | some k =>
  obtain⟨o,l,q⟩:=dZ a;have g:k<(qa f n).length:=(by omega);have i:=yO hf o ((sc f n).map (·.2));refine⟨(rowAt (qa f n) k).1,?_⟩;unfold gk;rw[aZ (p:=ge (pre 4) ((sc f n).map (·.2)) (pre 4)[1] (qa f n)) g (i.1.trans l) (fun m j=>by rw[(yO hf (by omega) _).1];exact q m j)];show((fg _ _ _ (rowAt (qa f n) k).2 (bk (qa f n) k)).1,(rowAt (qa f n) k).1,(fg _ _ _ (rowAt (qa f n) k).2 (bk (qa f n) k)).2)=_;rw[i.2.1,i.2.2,DP hf,zv l]
theorem Kh(hf:∀i,(f i).1<4/\(f i).2<3){n:Nat}(hn:n<=15):(ig f n=true->au (pre 4) ((sc f n).map (·.2))=(0,e0,0,e0))/\(ig f n=false->∃k:Int,au (pre 4) ((sc f n).map (·.2))=(10,ap,k,bs)):=by
 obtain⟨e,g⟩:=Fg hf hn;refine⟨fun a=>cX (fun i c=>?_),fun a=>?_⟩
 ·match i,c with
  | 0,_=>rfl
  | 1,_=>rw[e a]
  | 2,_=>rfl
  | 3,_=>rfl
 obtain⟨k,d⟩:=g a;refine⟨k,?_⟩
 have b:∀i,i<1->(bm (pre 4) ((sc f n).map (·.2)) i).1=0:=fun i c=>by
  obtain rfl:i=0:=(by omega);rfl
 rw[cW (j:=1) (by decide) (by rw[d];show(10:Int)≠0;decide) b,d];rfl
end
