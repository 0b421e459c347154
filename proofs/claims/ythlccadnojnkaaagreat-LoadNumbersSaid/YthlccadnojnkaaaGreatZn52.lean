import Derived.Test.YthlccadnojnkaaaGreatZn49
namespace Go.Proofs.YthlccadnojnkaaaGreat
open Go Go.RowKit Go.Proofs Co Co.S
def ph(v:Int):List T3:=[(1,v,e0),(0,0,e0)]
def Bf(v:Int):cx:=pO an (ph v)
def rh(vs:List Int):List R1:=vs.zipIdx.map fun p=>((p.2:Int),ph p.1)
theorem IQ(us:List Int)(v:Int):rh (us++[v])=rh us++[((us.length:Int),ph v)]:=by
 unfold rh;rw[List.zipIdx_append,uc]
 simp
theorem rU(vs:List Int):(rh vs).length=vs.length:=by unfold rh;rw[yh,List.length_zipIdx]
theorem G3(v:Int):dj (pre 4)[0] (ph v)=0:=by kernel_rfl
def r'(vs:List Int):List PT:=[(vs.length,rh vs),(0,[]),(0,[]),(0,[])]
theorem Ff(us:List Int)(v:Int):lh (pre 4) (r' us) (Bf v)=r' (us++[v]):=by
 rw[dX (j:=0) (by kernel_rfl) (by decide) (by show 0<4;decide)]
 have h:(r' us).set 0 (gj (pre 4)[0] (us.length,rh us) (ph v))=r' (us++[v]):=by
  unfold gj;rw[zv (G3 v)];unfold r';rw[IQ,y8];rfl
 exact h
theorem Dq:∀(vs a:List Int),(vs.map Bf).foldl (lh (pre 4)) (r' a)=r' (a++vs)
 | [],a=>by rw[List.append_nil];rfl
 | v::vs,a=>by rw[List.map_cons,List.foldl_cons,Ff,Dq vs,List.append_assoc];rfl
theorem uW(vs:List Int):en (pre 4) Lz (vs.map Bf)=r' vs:=Dq vs []
def ln(vs:List Int)(k:Nat):Bool:=(vs.take k).any fun u=>decide (vs.getD k 0=u)
theorem Gs(v u:Int):ar (pre 4)[0] oj (ph v) (ph u)=decide (v=u):=by
 have h:ar (pre 4)[0] oj (ph v) (ph u)=decide (((1:Int),v,e0)=((1:Int),u,e0)):=rfl;rw[h,decide_eq_decide];constructor
 ·intro e;exact(Prod.mk.inj (Prod.mk.inj e).2).1
 rintro rfl;rfl
theorem Do(v:Int)(us:List Int):jd (pre 4)[0] (ph v) (us.map ph)=us.any fun u=>decide (v=u):=by
 have h:jd (pre 4)[0] (ph v) (us.map ph)=(true&&(us.map ph).any fun a=>ar (pre 4)[0] oj (ph v) a):=rfl;rw[h,vt,List.any_map]
 congr 1
 funext u
 exact Gs v u
theorem E3(v:Int):aq (eh (pre 4)[0] (ph v)) (pre 4)[0].cols.length=none:=by kernel_rfl
theorem Lr(v:Int)(As:List (List R1)):aq (iw (pre 4) As (pre 4)[0] (ph v)) (pre 4)[0].cols.length=none:=by kernel_rfl
theorem CN(v:Int)(As:List (List R1))(B:List (List T3)):fg (pre 4) As (pre 4)[0] (ph v) B=if jd (pre 4)[0] (ph v) B=true then(8,oj)else(0,e0):=by
 unfold fg;rw[E3 v,Lr v As];rfl
theorem DI(vs:List Int)(k:Nat):bk (rh vs) k=(vs.take k).map ph:=by
 unfold bk rh;rw[<-List.map_take,List.map_map]
 have h:(vs.take k)=(vs.zipIdx.take k).map (·.1):=by
  rw[List.map_take,List.zipIdx_map_fst]
 rw[h,List.map_map];rfl
theorem Ca{vs:List Int}{k:Nat}(hk:k<(rh vs).length):(rh vs)[k]=((k:Int),ph (vs.getD k 0)):=by
 have a:k<vs.length:=by rw[rU]at hk;exact hk
 have h:(rh vs)[k]?=some ((k:Int),ph (vs.getD k 0)):=by
  unfold rh;rw[xm,List.getElem?_zipIdx,zu,z6 a]
  simp
 rw[z6 hk]at h;exact Option.some.inj h
theorem CY{vs:List Int}{k:Nat}(hk:k<vs.length)(As:List (List R1)):ge (pre 4) As (pre 4)[0] (rh vs) k=ln vs k:=by
 have a:k<(rh vs).length:=(by rw[rU];exact hk);unfold ge rowAt;rw[zu,z6 a,Option.getD_some,Ca a,CN,DI,Do];unfold ln;cases(vs.take k).any fun u=>decide (vs.getD k 0=u) <;> rfl
def Bj(vs:List Int):Int×ByteArray×Int×ByteArray:=
 match aq (ln vs) vs.length with
 | some k=>(8,an,(k:Int),oj)
 | none=>(0,e0,0,e0)
theorem I'{vs:List Int}(hv:vs.length<=30):bm (pre 4) ((r' vs).map (·.2)) 0=match aq (ln vs) vs.length with
 | some k=>(8,(k:Int),oj)
 | none=>(0,0,e0):=by
 have h:bm (pre 4) ((r' vs).map (·.2)) 0=lj (pre 4) ((r' vs).map (·.2)) (pre 4)[0] (rh vs):=rfl;rw[h];unfold lj;have l:=rU vs;rw[eU (by omega) (fun m _=>by have:=jM (A:=rh vs) (c:=m);omega),zv rfl];cases b:aq (ln vs) vs.length with
 | none =>
  exact cU (fun m f=>by
   rw[CY (by omega)];unfold aq at b;rw[ud]at b;simpa using b m (List.mem_range.2 (by omega)))
 | some k =>
  obtain⟨n,g,i⟩:=dZ b;have d:k<(rh vs).length:=(by omega);have e:=CN (vs.getD k 0) ((r' vs).map (·.2)) (bk (rh vs) k);have a:jd (pre 4)[0] (ph (vs.getD k 0)) (bk (rh vs) k)=true:=(by rw[DI,Do];exact g);rw[zv a]at e;have j:=fR (ts:=pre 4) (As:=(r' vs).map (·.2)) (t:=(pre 4)[0]) d (by rw[Ca d,e];decide) (fun m f=>by rw[CY (by omega)];exact i m f);rw[j,Ca d,e]
theorem EI{vs:List Int}(hv:vs.length<=30):au (pre 4) ((r' vs).map (·.2))=Bj vs:=by
 have a:=I' hv;unfold Bj;cases c:aq (ln vs) vs.length with
 | none =>
  rw[c]at a;refine cX (fun i b=>?_)
  match i,b with
  | 0,_=>rw[a]
  | 1,_=>rfl
  | 2,_=>rfl
  | 3,_=>rfl
 | some k =>
  rw[c]at a;rw[cW (j:=0) (by decide) (by rw[a];show(8:Int)≠0;decide) (fun i b=>absurd b (yo i)),a];rfl
