import Derived.Test.YthlccadnojnkaaaGreatZn52
import Derived.Test.YthlccadnojnkaaaGreatZn3
namespace Go.Proofs.YthlccadnojnkaaaGreat
open Go.Proofs.Tryz
open Go Go.RowKit Go.ChangeShapes Go.Proofs Co Co.S
def BW(W:World)(p:Option Addr)(xs:List Int):Prop:=∀j (_:j<xs.length),∃b off,p=some ⟨b,off,none⟩/\b<W.heap.size/\W.cell? ⟨b,off+j,none⟩=some (.int .i64 (xs.getD j 0))
theorem kO{H:Type}{enc:TypeId×Value->H}{W:World}{v:Value}{d:DataW H}{p:List MemPlace}(h:DataW.Trod enc prog W 0 (fun _=>true) true 45 v d p)(hv:∃a l c,v=.slice a l c):∃q o len f,v=.slice q len f/\o.length=len/\(len<=f/\f<=maxLen)/\BW W q o:=by
 obtain⟨E,k,c0,rfl⟩:=hv;obtain⟨s,u⟩:=h;rcases open_ints underlying45 underlying3 (by kernel_rfl) u with ⟨e,_⟩ | ⟨a,len,f,w,e,_,x,y,z,_,t,_⟩
 ·simp[Value.cells]at e;obtain⟨rfl,rfl,rfl⟩:=e;exact⟨none,[],0,0,rfl,rfl,⟨zm _,zh _⟩,fun r A=>by simp at A⟩
 simp[Value.cells]at e;obtain⟨rfl,rfl,rfl⟩:=e;simp only[if_true]at z;refine⟨some a,w.take k,k,c0,rfl,by rw[we];omega,⟨x,y⟩,fun j B=>?_⟩;have m:j<k:=(by rw[we]at B;omega);have n:=World.cell?_spot (t 0 (by omega));have n:a.spot=none:=(by simpa [Addr.add]using n);obtain⟨b,i,spot⟩:=a;obtain rfl:spot=none:=n;have g:=t j (by omega);rw[Addr.add_lit]at g;refine⟨b,i,rfl,xn W ⟨b,i+j,none⟩ g,?_⟩;rw[g]
 congr 2
 rw[zu,zu,List.getElem?_take_of_lt m]
def sk(xs:List Int)(i:Nat):List Int:=(xs.take i).map fun x=>x.tmod 20
theorem JP{xs:List Int}{i:Nat}(h:i<xs.length):sk xs (i+1)=sk xs i++[(xs.getD i 0).tmod 20]:=by
 unfold sk;rw[yp h,uc,zu,z6 h];rfl
theorem rV{xs:List Int}{i:Nat}(h:i<=xs.length):(sk xs i).length=i:=by unfold sk;rw[yh,we];omega
theorem IW{xs:List Int}{i j:Nat}(hj:j<i)(hi:i<=xs.length)(v:Int):((sk xs i).take (j+1)).any (fun u=>decide (v=u))=(((sk xs i).take j).any (fun u=>decide (v=u)) || decide (v=(xs.getD j 0).tmod 20)):=by
 have a:j<(sk xs i).length:=(by rw[rV hi];exact hj);rw[yp a,List.any_append]
 have h:(sk xs i)[j]=(xs.getD j 0).tmod 20:=by
  have h:(sk xs i)[j]?=some ((xs.getD j 0).tmod 20):=by
   unfold sk;rw[xm,List.getElem?_take_of_lt hj,zu,z6 (by omega)];rfl
  rw[z6 a]at h;exact Option.some.inj h
 rw[h]
 simp
def mm(vs:List Int):Int:=match aq (ln vs) vs.length with
 | some k=>(k:Int)
 | none=>-1
def oo(vs:List Int)(v:Int)(i j:Nat):Int:=if mm vs<0 then(if ((vs.take j).any fun u=>decide (v=u))=true then(i:Int)else -1)else mm vs
theorem jP{vs us:List Int}{k:Nat}(hk:k<vs.length):ln (vs++us) k=ln vs k:=by
 unfold ln;rw[List.take_append_of_le_length (by omega),zu,zu,wf hk]
theorem qE(vs:List Int)(v:Int):ln (vs++[v]) vs.length=vs.any fun u=>decide (v=u):=by
 unfold ln;rw[List.take_left,zu,ye (zm _)]
 simp
theorem gN{vs:List Int}(h:aq (ln vs) vs.length=none):mm vs=-1:=by unfold mm;rw[h]
theorem dM{vs:List Int}{k:Nat}(h:aq (ln vs) vs.length=some k):mm vs=(k:Int):=by unfold mm;rw[h]
theorem Gt(vs:List Int)(v:Int):mm (vs++[v])=oo vs v vs.length vs.length:=by
 unfold oo;rw[List.take_length];have d:(vs++[v]).length=vs.length+1:=(by rw[y8];rfl);cases b:aq (ln vs) vs.length with
 | some k =>
  obtain⟨g,h,i⟩:=dZ b;rw[dM b,zq (by omega)];refine dM ?_;rw[d];exact aZ (by omega) (by rw[jP g];exact h) (fun j a=>by rw[jP (by omega)];exact i j a)
 | none =>
  have f:∀j,j<vs.length->ln vs j=false:=fun j a=>by
   unfold aq at b;rw[ud]at b;simpa using b j (List.mem_range.2 a)
  rw[gN b,zv (by decide)];by_cases c:(vs.any fun u=>decide (v=u))=true
  ·rw[zv c];refine dM ?_;rw[d];exact aZ (by omega) (by rw[qE];exact c) (fun j a=>by rw[jP a];exact f j a)
  ·rw[zq c];refine gN ?_;rw[d];refine aV (fun j a=>?_);by_cases e:j=vs.length
   ·subst e;rw[qE];exact Bool.eq_false_iff.2 c
   ·rw[jP (by omega)];exact f j (by omega)
theorem JT(vs:List Int)(v:Int)(i:Nat):oo vs v i 0=mm vs:=by
 unfold oo;rw[ze];split
 ·rename_i h;cases a:aq (ln vs) vs.length with
  | none=>rw[gN a];rfl
  | some k=>rw[dM a]at h;omega
 rfl
theorem Gc{vs:List Int}(h:mm vs<0):Bj vs=(0,e0,0,e0):=by
 unfold Bj;cases a:aq (ln vs) vs.length with
 | none=>rfl
 | some k=>rw[dM a]at h;omega
theorem Jb{vs:List Int}(h:¬ mm vs<0):Bj vs=(8,an,mm vs,oj):=by
 unfold Bj;cases a:aq (ln vs) vs.length with
 | none=>rw[gN a]at h;exact absurd (by decide) h
 | some k=>rw[dM a]
