import Derived.Test.YtkchgbjoeggdbaaGreatZn1
import Derived.WalkKit
import Derived.ProofKit
import Derived.BigQuiet
import Derived.StillTailTactics
import Derived.Deep.RegionHeld3
import Derived.Deep.CutBlock
import Derived.Deep.RegionLaw
import Derived.Deep.Onto
import Derived.Maps.OwnIn
namespace Go.Proofs.YtkchgbjoeggdbaaGreat
open Go Go.RowKit Go.Proofs
theorem aB{W:World}{b:Nat}{o:Obj}(h:W.heap[b]?=some o):b<W.heap.size:=(Array.getElem?_eq_some_iff.1 h).1
theorem aA{W:World}{b:Nat}{cs:Array Value}{t:TypeId}(h:W.heap[b]?=some (.cells cs t))(i:Nat):W.cell? ⟨b,i,none⟩=cs[i]?:=by simp[World.cell?,h]
theorem aC{W A B:World}(h:Below W.heap.size W A)(k:Below A.heap.size A B):Below W.heap.size W B:=h.trans (k.mono h.size)
theorem aD(W:World)(o:Obj):Below W.heap.size W (W.alloc o):=(zg _ W).alloc (zo _) o
theorem aF(W:World)(q:Nat):Below W.heap.size W (W.drewN q):=⟨rfl,rfl,rfl,zo _,fun _ _=>rfl⟩
def ac(w:World)(base:Nat)(e:TypeId)(size:Nat)(v:Value)(n:Nat)(xs:List Value):Prop:=
 xs.length=n*size/\((v=.slice none 0 0/\n=0) ∨
  ∃g cap cur,v=.slice (some ⟨g,0,none⟩) n cap/\base<=g/\w.heap[g]?=some (.cells cur e (0,0))/\n<=cap/\cap<=maxLen/\cap*size<=cur.size/\cur.toList.take (n*size)=xs)
section
variable{w:World}{base:Nat}{e:TypeId}{size:Nat}{v:Value}{n:Nat}{xs:List Value}
theorem ac.lh(h:w.ownsRow base e size v n xs):ac w base e size v n xs:=by
 refine⟨h.1,?_⟩;rcases h.2 with b|⟨g,cap,a,c,d,f,i,j,k,l⟩
 ·exact .inl b
 exact .inr ⟨g,cap,a,c,d,f,i,j,xn k.symm,l⟩
theorem ac.nil:ac w base e size (.slice none 0 0) 0 []:=ac.lh (World.ownsRow_nil _ _ _ _)
theorem ac.lt(h:ac w base e size v n xs):∀k,v.ownBlock=some k->base<=k/\k<w.heap.size:=by
 intro k a;rcases h.2 with ⟨rfl,_⟩ | ⟨g,cap,b,rfl,c,d,_⟩
 ·simp[Value.ownBlock]at a
 simp[Value.ownBlock]at a;subst a;exact⟨c,(Array.getElem?_eq_some_iff.1 d).1⟩
theorem ac.block(h:ac w base e size v n xs):∀q,v.ownBlock=some q->base<=q/\∃a,w.heap[q]?=some (.cells a e):=by
 intro k b;rcases h.2 with ⟨rfl,_⟩ | ⟨g,cap,a,rfl,c,d,_⟩
 ·simp[Value.ownBlock]at b
 simp[Value.ownBlock]at b;subst b;exact⟨c,a,d⟩
theorem ac.of(h:ac w base e size v n xs){w':World}(hk:∀k,v.ownBlock=some k->w'.heap[k]?=w.heap[k]?):ac w' base e size v n xs:=by
 refine⟨h.1,?_⟩;rcases h.2 with b|⟨g,cap,a,rfl,c,d,rest⟩
 ·exact .inl b
 exact .inr ⟨g,cap,a,rfl,c,(hk g (by simp[Value.ownBlock])).trans d,rest⟩
theorem ac.later(h:ac w base e size v n xs){w':World}(hb:Below w.heap.size w w'):ac w' base e size v n xs:=
 h.of (fun k a=>hb.block k (h.lt k a).2)
theorem ac.chg(h:ac w base e size v n xs){w':World}{mb:Nat}(hm:mb<base)(hc:Chg (fun b=>b=mb) w w'):ac w' base e size v n xs:=
 h.of (fun k a=>hc.block k (h.lt k a).2 (fun e=>by have:=(h.lt k a).1;omega))
variable{g cap:Nat}
theorem ac.slice(h:ac w base e size v n xs)(hn:0<n):∃g cap,v=.slice (some ⟨g,0,none⟩) n cap/\n<=cap/\cap<=maxLen:=by
 rcases h.2 with ⟨_,c⟩ | ⟨d,a,f,c,k,l,i,j,_,b⟩
 ·omega
 exact⟨d,a,c,i,j⟩
theorem ac.isslice(h:ac w base e size v n xs):∃p cap,v=.slice p n cap/\n<=cap/\cap<=maxLen:=by
 rcases h.2 with ⟨b,d⟩ | ⟨j,a,f,b,k,l,g,i,_,c⟩
 ·subst d;exact⟨none,0,b,zo _,zj _⟩
 exact⟨_,a,b,g,i⟩
theorem ac.form(h:ac w base e size (.slice (some ⟨g,0,none⟩) n cap) n xs):∃a,base<=g/\w.heap[g]?=some (.cells a e (0,0))/\n<=cap/\cap<=maxLen/\cap*size<=a.size/\a.toList.take (n*size)=xs:=by
 rcases h.2 with ⟨b,_⟩ | ⟨i,c,a,b,d,f,rest⟩
 ·simp at b
 simp only[Value.slice.injEq,Option.some.injEq,Addr.mk.injEq,yo,true_and]at b;obtain⟨rfl,rfl⟩:=b;exact⟨a,d,f,rest⟩
theorem ac.cellAt(h:ac w base e size (.slice (some ⟨g,0,none⟩) n cap) n xs)(j:Nat)(hj:j<n*size):w.cell? ⟨g,j,none⟩=xs[j]?:=by
 obtain⟨b,_,c,_,_,_,a⟩:=h.form;rw[cell_of_row w g j b e (0,0) c,<-a,List.getElem?_take,zw hj]
 simp
theorem ac.cell(h:ac w base e size (.slice (some ⟨g,0,none⟩) n cap) n xs){j:Nat}{u:Value}(hj:xs[j]?=some u):w.cell? ⟨g,j,none⟩=some u:=by
 have:j<xs.length:=(List.getElem?_eq_some_iff.1 hj).1;rw[h.cellAt j (by rw[<-h.1];exact this),hj]
theorem ac.ti(h:ac w base e size (.slice (some ⟨g,0,none⟩) n cap) n xs){j:Nat}{u:Value}(hj:xs[j]?=some u):w.cell? ((⟨g,0,none⟩:Addr).add j)=some u:=by
 rw[Addr.add_lit,xj];exact h.cell hj
theorem ac.frozenAt(h:ac w base e size (.slice (some ⟨g,0,none⟩) n cap) n xs)(j:Nat):w.frozen? ⟨g,j,none⟩=false:=by
 obtain⟨a,_,b,_⟩:=h.form;exact zq w g j a e b
theorem ac.stored(h:ac w base e size (.slice (some ⟨g,0,none⟩) n cap) n xs)(j:Nat)(u:Value):ac (w.setCell ⟨g,j,none⟩ u) base e size (.slice (some ⟨g,0,none⟩) n cap) n (xs.set j u)/\w.grownBy (w.setCell ⟨g,j,none⟩ u) (some g):=by
 obtain⟨b,i,l,c,d,f,a⟩:=h.form
 refine⟨⟨by simpa using h.1,.inr ⟨g,cap,b.setIfInBounds j u,rfl,i,y7 w g j b e u l,c,d,by simpa using f,?_⟩⟩,
  ⟨rfl,rfl,rfl,by simp,fun k _ m=>y9 w ⟨g,j,none⟩ k u (fun e=>m (by simp[e]))⟩⟩
 rw[Array.toList_setIfInBounds,<-a,List.take_set]
end
section
variable{P:Program}(w:World)
theorem aS(base:Nat)(t ty e:TypeId)(i:TypeInfo)(z:Value)(size bytes:Nat)(ht:P.underlying t=some (.slice e))(hi:P.info? e=some i)(hz:i.zero=some z)(hsize:i.size=size)(hby:i.bytes=bytes)(hzs:z.cells.size=size)(hsz:0<size){v:Value}{n:Nat}{xs:List Value}(hown:ac w base e size v n xs)(a:Addr)(m c:Nat)(news:List Value)(hl:news.length=m*size)(hnews:∀j u,news[j]?=some u->w.cell? (a.add j)=some u)(A:∀u∈news,u.oneCell'=true)(hm:0<m)(h63:n+m<=maxLen)(hbytes:(n+m)*bytes<=140737488355328)(hbase:base<=w.heap.size):∃g cap b,(Builtin.append_ #[t,t] ty #[v,.slice (some a) m c]).run P w=.ok (.slice (some ⟨g,0,none⟩) (n+m) cap) b/\ac b base e size (.slice (some ⟨g,0,none⟩) (n+m) cap) (n+m) (xs++news)/\w.grownBy b v.ownBlock/\(v.ownBlock=some g∨w.heap.size<=g):=by
 have r:(∃l b,(Builtin.append_ #[t,t] ty #[v,.slice (some a) m c]).run P w=.ok l b/\ac b base e size l (n+m) (xs++news)/\w.grownBy b v.ownBlock/\(∀q,l.ownBlock=some q->v.ownBlock=some q∨w.heap.size<=q))->∃g cap b,(Builtin.append_ #[t,t] ty #[v,.slice (some a) m c]).run P w=.ok (.slice (some ⟨g,0,none⟩) (n+m) cap) b/\ac b base e size (.slice (some ⟨g,0,none⟩) (n+m) cap) (n+m) (xs++news)/\w.grownBy b v.ownBlock/\(v.ownBlock=some g∨w.heap.size<=g):=by
  rintro⟨l,b,A,o,h,I⟩;obtain⟨g,cap,rfl,_⟩:=o.slice (by omega);exact⟨g,cap,b,A,o,h,I g rfl⟩
 apply r;rcases hown.2 with ⟨rfl,rfl⟩ | ⟨g,cap,f,rfl,B,G,J,E,L,p⟩
 ·have M:xs=[]:=wg (by simpa using hown.1);subst M;obtain⟨l,b,s,o,h,_,O⟩:=run_append_own_at (P:=P) w w.heap.size t ty e i z size bytes ht hi hz hsize hby hzs hsz (.slice none 0 0) 0 [] (World.ownsRow_nil _ _ _ _) a m c news hl hnews A (by omega) (by omega) (zo _);exact⟨l,b,s,ac.lh (o.mono hbase),h,fun q x=>.inr ((ac.lh o).lt q x).1⟩
 by_cases d:n+m<=cap
 ·subst hsize;have H:n*i.size+news.length<=cap*i.size:=(by rw[hl,<-Nat.add_mul];exact Nat.mul_le_mul_right _ d);have s:=run_append_room (P:=P) w t ty e i ht hi g n cap f G a m c news hl hnews A d (by omega);have y:f.toList.length=f.size:=Array.length_toList;refine⟨_,_,s,⟨by rw[y6,hown.1,hl,Nat.add_mul],.inr ⟨g,cap,_,rfl,B,setRow_heap w g f _ e _ G,d,E,?_,?_⟩⟩,⟨rfl,rfl,rfl,by simp,fun k _ F=>setRow_other w g k _ (fun e=>F (by simp[Value.ownBlock,e]))⟩,fun q x=>.inl x⟩
  ·simp only[List.size_toArray,y6,xq,vt,y];omega
  show List.take ((n+m)*i.size) (f.toList.take (n*i.size)++news++_)=_;rw[List.take_append_of_le_length (by simp only[y6,xq,y];rw[Nat.add_mul];omega),p,yu (by rw[y6,hown.1,hl,Nat.add_mul];exact zo _)]
 obtain⟨l,b,s,o,h⟩:=run_append_arg_grows (P:=P) w t ty e i z size bytes ht hi hz hsize hby hzs hsz ⟨g,0,none⟩ n cap xs hown.1 (fun j u N=>hown.ti N) a m c news hl hnews (by omega) h63 hbytes;refine⟨l,b,s,ac.lh (o.mono hbase),⟨h.os,h.tape,h.output,h.size,fun k F _=>h.block k F (by simp)⟩,fun q x=>.inr ((ac.lh o).lt q x).1⟩
end
section
variable{P:Program}
theorem aT{w w':World}{ops:Array Oper}{rest:List Oper}{o:Oper}{a:Act}{Q:Exit->Act->World->Prop}{vs vx v':Value}(hgd:o.guard=none)(s x:Operand)(t:TypeId)(ho:o.op=.call { callee:=.builtin .append,args:=#[s,x],argTypes:=#[t,t] })(hs:a.eval s=vs)(hx:a.eval x=vx)(hr:(Builtin.append_ #[t,t] o.type #[vs,vx]).run P w=.ok v' w')(h:wpList P ops Q rest (a.put o.dst v') w'):wpList P ops Q (o::rest) a w:=
 wpList_plain hgd fun _ b=>by
  unfold Oper.wp execOp;simp only[ho,resolve,invoke,builtin,Sem.run_bind,Sem.run_pure,Result.andThen_ok,List.map_toArray,List.map_cons,List.map_nil,hs,hx,hr];exact b _ _ h
theorem bE{w w':World}{ops:Array Oper}{o:Oper}{a:Act}{K:Act->World->Prop}{Q:Exit->Act->World->Prop}{E:Prop}{vs vx v':Value}(hgd:o.guard=none)(s x:Operand)(t:TypeId)(ho:o.op=.call { callee:=.builtin .append,args:=#[s,x],argTypes:=#[t,t] })(hs:a.eval s=vs)(hx:a.eval x=vx)(hr:(Builtin.append_ #[t,t] o.type #[vs,vx]).run P w=.ok v' w')(h:K (a.put o.dst v') w'):if Region.wanted o (yielded ops a.tmps)=true then Oper.wp P o a w K Q else E:=by
 have b:Region.wanted o (yielded ops a.tmps)=true:=(by simp[Region.wanted,hgd]);rw[zw b];unfold Oper.wp execOp;simp only[ho,resolve,invoke,builtin,Sem.run_bind,Sem.run_pure,Result.andThen_ok,List.map_toArray,List.map_cons,List.map_nil,hs,hx,hr];exact h
end
end Go.Proofs.YtkchgbjoeggdbaaGreat
namespace Go.Proofs.YtkchgbjoeggdbaaGreat.Par
open Go
section
variable{P:Program}{ops:Array Oper}{Q:Exit->Act->World->Prop}
def Gives(P:Program)(ops:Array Oper)(A:Act)(R:World->Prop)(o:Oper)(v:Value)(w:World):Prop:=
 if Region.wanted o (yielded ops A.tmps)=true then
  match (execOp A.eval o).run P w with
  | .ok (.value u) w'=>u=v/\R w'
  | .ok (.enter f args) w'=>Calls P f args w' fun e w''=>e=.returned v/\R w''
  | _=>False
 else v=undef/\R w
def ai(ops:Array Oper)(i:Nat):Option Tmp:=(ops[i]?).bind (·.dst)
def bu(ops:Array Oper)(vs:Nat->Value)(listed:Array Bool):Nat->Act->Act
 | 0,a=>a
 | m+1,a=>if listed.getD m false=true then(bu ops vs listed m a).put (ai ops m) (vs m)else bu ops vs listed m a
def am(ops:Array Oper)(vs:Nat->Value):Nat->Act->Act
 | 0,a=>a
 | m+1,a=>(am ops vs m a).put (ai ops m) (vs m)
theorem xU{vs:Nat->Value}{listed:Array Bool}{a:Act}{i:Nat}:∀m,m<=i->bu ops vs (listed.setIfInBounds i true) m a=bu ops vs listed m a
 | 0,_=>rfl
 | m+1,h=>by
  have b:=xU (vs:=vs) (listed:=listed) (a:=a) (i:=i) m (by omega);simp only[bu,getD_set_ne false (show i≠m by omega),b]
theorem dU{vs:Nat->Value}{listed:Array Bool}{a:Act}{i:Nat}(hun:listed.getD i true=false):∀m,i<m ->
  (∀j k,j<m->k<m->j≠k->∀d,ai ops j=some d->ai ops k≠some d)->bu ops vs (listed.setIfInBounds i true) m a=(bu ops vs listed m a).put (ai ops i) (vs i)
 | 0,h,_=>absurd h (yh i)
 | m+1,h,hd=>by
  have b:i<listed.size:=by
   rcases wm i listed.size with c | c
   ·exact c
   ·simp[wt c]at hun
  by_cases e:i=m
  ·subst e;have g:listed.getD i false=false:=getD_both hun;have f:(listed.setIfInBounds i true).getD i false=true:=(by simp[b]);simp only[bu,g,f,xU i (zo i),if_true];rfl
  ·have l:=dU (vs:=vs) (a:=a) hun m (by omega) (fun j k o p=>hd j k (by omega) (by omega));simp only[bu,getD_set_ne false e,l];split
   ·rw[Act.put_comm];intro d f n;exact hd i m (by omega) (by omega) e d f n
   ·rfl
theorem dV{vs:Nat->Value}{listed:Array Bool}{a:Act}:∀m,(∀j,j<m->listed.getD j false=true)->bu ops vs listed m a=am ops vs m a
 | 0,_=>rfl
 | m+1,h=>by
  simp only[bu,am,h m (by omega),if_true,dV m (fun j b=>h j (by omega))]
theorem rS(a:Act)(d:Option Tmp)(v:Value):(a.put d v).tmps.size=a.tmps.size:=by cases d <;> simp[Act.put]
theorem jH{vs:Nat->Value}{listed:Array Bool}{a:Act}:∀m,(bu ops vs listed m a).tmps.size=a.tmps.size
 | 0=>rfl
 | m+1=>by
  simp only[bu];split
  ·rw[rS,jH m]
  ·exact jH m
theorem oI{vs:Nat->Value}{a:Act}:∀m,(am ops vs m a).tmps.size=a.tmps.size
 | 0=>rfl
 | m+1=>by simp only[am];rw[rS,oI m]
theorem qB(a:Act)(d:Option Tmp)(v:Value)(t:Nat):(a.put d v).tmps[t]?=if d=some t then(if t<a.tmps.size then some v else none)else a.tmps[t]?:=by
 cases d with
 | none=>simp[Act.put]
 | some d =>
  simp only[Act.put,Array.getElem?_setIfInBounds,Option.some.injEq];split
  ·rename_i h;subst h;rfl
  ·rfl
theorem cS{vs:Nat->Value}{listed:Array Bool}{a:Act}{t:Nat}:∀m,(∀j,j<m->ai ops j=some t->listed.getD j false=true) ->
  (bu ops vs listed m a).tmps[t]?=(am ops vs m a).tmps[t]?
 | 0,_=>rfl
 | m+1,h=>by
  have b:=cS (vs:=vs) (a:=a) m (fun j c=>h j (by omega));by_cases e:ai ops m=some t
  ·simp only[bu,am,h m (by omega) e,if_true,qB,e,jH,oI]
  ·simp only[bu,am,qB,e,if_false];split
   ·rw[qB,zu e];exact b
   ·exact b
def fu(listed:Array Bool):Nat->Nat
 | 0=>0
 | m+1=>fu listed m+if listed.getD m true=false then 1 else 0
theorem xV{listed:Array Bool}{i:Nat}:∀m,m<=i->fu (listed.setIfInBounds i true) m=fu listed m
 | 0,_=>rfl
 | m+1,h=>by
  have a:=xV (listed:=listed) (i:=i) m (by omega);simp only[fu,getD_set_ne true (show i≠m by omega),a]
theorem dW{listed:Array Bool}{i:Nat}(hun:listed.getD i true=false):∀m,i<m->fu listed m=fu (listed.setIfInBounds i true) m+1
 | 0,h=>absurd h (yh i)
 | m+1,h=>by
  by_cases e:i=m
  ·subst e
   have b:(listed.setIfInBounds i true).getD i true=true:=by
    rcases wm i listed.size with a | a
    ·simp[a]
    ·simp[wt a]at hun
   simp only[fu,hun,b,xV i (zo i),if_true]
   simp
  ·have c:=dW hun m (by omega);simp only[fu,c,getD_set_ne true e];omega
theorem cB{listed:Array Bool}:∀m,fu listed m=0->∀j,j<m->listed.getD j true=true
 | 0,_,j,hj=>absurd hj (yh j)
 | m+1,h,j,hj=>by
  simp only[fu]at h;by_cases e:j=m
  ·subst e;cases a:listed.getD j true
   ·rw[a]at h;simp at h
   ·rfl
  ·exact cB m (by omega) j (by omega)
theorem dX{listed:Array Bool}:∀m,0<fu listed m->∃j,j<m/\listed.getD j true=false/\∀k,k<j->listed.getD k true=true
 | 0,h=>absurd h (vu 0)
 | m+1,h=>by
  by_cases a:0<fu listed m
  ·obtain⟨j,f,b,c⟩:=dX m a;exact⟨j,by omega,b,c⟩
  ·refine⟨m,by omega,?_,fun k d=>cB m (by omega) k d⟩;simp only[fu]at h;cases e:listed.getD m true
   ·rfl
   ·rw[e]at h;simp at h;omega
def ao(n size:Nat):Array Bool:=Array.ofFn (n:=size) fun i=>decide (i.val<n)
def jq(ops:Array Oper)(n:Nat):Bool:=
 Region.noSelect ops&&decide (n<=ops.size) &&
 ((List.range n).all fun i=>match ops[i]? with
  | none=>false
  | some o=>o.after.all (fun e=>!Region.binds .any e || decide (e.on<i)) &&
   (List.range n).all fun j=>match ai ops j with
    | none=>true
    | some d=>(j==i || ai ops i != some d)&&(!(o.looksAt ops).contains d || o.after.any fun e=>Region.binds .any e&&e.on==j)) &&
 (n==ops.size || (Region.sinkB .any ops n&&Region.chainB .any ops n))&&Region.seqB .any ops (ops.size-n) n (ao n ops.size)
theorem dD{o:Oper}{a a':Act}(h:∀t,t∈o.looksAt ops->a.tmps[t]?=a'.tmps[t]?):(∀x∈o.op.operands,a.eval x=a'.eval x)/\Region.wanted o (yielded ops a.tmps)=Region.wanted o (yielded ops a'.tmps):=by
 constructor
 ·intro x c;cases x with
  | tmp t =>
   have d:=h t (List.mem_append_left _ (List.mem_filterMap.2 ⟨.tmp t,by simpa using c,rfl⟩));simp only[Act.eval,Array.getD_eq_getD_getElem?,d]
  | const v=>rfl
  | global g=>rfl
  | func f=>rfl
 unfold Region.wanted;cases e:o.guard with
 | none=>rfl
 | some gw =>
  obtain⟨g,b⟩:=gw
  have i:yielded ops a.tmps g=yielded ops a'.tmps g:=by
   unfold yielded;cases j:(ops[g]?).bind (·.dst)with
   | none=>rfl
   | some t=>simp only[eo,h t (List.mem_append_right _ (by simp[e,j]))]
  simp only[i]
theorem CU{o:Oper}{v:Value}{A a:Act}{w:World}{R:World->Prop}{K:Act->World->Prop}{i:Nat}(hi:ops[i]?=some o)(hs:∀cs b,o.op≠.select cs b)(hl:∀t,t∈o.looksAt ops->a.tmps[t]?=A.tmps[t]?)(h:Gives P ops A R o v w)(hK:∀c,R c->K (a.put o.dst v) c):wpOp P ops Q i K a w:=by
 obtain⟨k,l⟩:=dD hl;unfold wpOp;simp only[hi,l];unfold Gives at h;split at h
 ·rename_i g;rw[zw g];refine .inl ?_;unfold Oper.wp;rw[execOp_congr o hs k]
  revert h
  generalize (execOp A.eval o).run P w=r;intro h;cases r with
  | halt x c=>exact absurd h (by simp)
  | ok n c =>
   cases n <;> simp only[Oper.upon]at h ⊢
   case value u=>obtain⟨rfl,d⟩:=h;exact hK c d
   case enter f args =>
    refine Calls.mono h fun e j m=>?_
    obtain⟨rfl,d⟩:=m;exact hK j d
 rename_i g;rw[zu g];obtain⟨rfl,d⟩:=h;exact hK w d
theorem Dz{n g:Nat}{a:Act}{vs:Nat->Value}{R:World->Prop}(hB:jq ops n=true)(hop:∀i o,i<n->ops[i]?=some o->∀w,R w->Gives P ops (am ops vs n a) R o (vs i) w)(hT:∀f w,HeadInv .any ops n f->(∀j,j<n->f.getD j false=true)->R w->wpAny P .any ops Q g f (am ops vs n a) w):∀c f w,HeadInv .any ops n f->fu f n=c->R w->wpAny P .any ops Q (c+g) f (bu ops vs f n a) w:=by
 simp only[jq,zy,xz,xi,xd]at hB;obtain⟨⟨⟨⟨z,hn⟩,l⟩,r⟩,_⟩:=hB
 have X:∀j k,j<n->k<n->j≠k->∀d,ai ops j=some d->ai ops k≠some d:=fun j k A Y M d y B=>by
  have u:=l k Y;cases q:ops[k]? with
  | none=>simp[q]at u
  | some o =>
   simp only[q,zy,xi,xd]at u;have x:=u.2 j A;simp only[y,B,zy,wh,vq,bne_self_eq_false,Bool.false_eq_true,or_false]at x;exact M x.1
 intro c
 induction c with
 | zero =>
  intro f w inv V N
  have p:∀j,j<n->f.getD j false=true:=fun j A=>by
   have y:=cB n V j A;have B:j<f.size:=(by rw[inv.size];omega);simpa [B]using y
  rw[dV n p,xj];exact hT f w inv p N
 | succ c ih =>
  intro f w inv V N;obtain⟨m,W,E,F⟩:=dX n (by omega:0<fu f n)
  have G:m∈Region.ready .any ops f:=by
   rw[mem_ready];have u:=l m W;cases q:ops[m]? with
   | none=>simp[q]at u
   | some o =>
    refine⟨E,o,rfl,fun e O H=>?_⟩;simp only[q,zy,Array.all_eq_true_iff_forall_mem,wh,Bool.not_eq_true',xz]at u;have x:=(u.1 e O).resolve_left (by simp[H]);have I:=F e.on x;have Z:e.on<f.size:=(by rw[inv.size];omega);simpa [Z]using I
  rw[show c+1+g=(c+g)+1 by omega];refine⟨fun h0=>(by rw[h0]at G;cases G),fun i L=>?_⟩
  have s:i<n:=by
   rcases wm i n with h|h
   ·exact h
   ·obtain⟨_,o,q,_⟩:=mem_ready.1 L;have a0:i<ops.size:=(Array.getElem?_eq_some_iff.1 q).1;simp only[wh,vq,zy]at r;rcases r with y|⟨y,B⟩
    ·omega
    ·exact absurd L (tail_waits y B (by omega) inv _ m rfl W E i h)
  obtain⟨v,o,q,p⟩:=mem_ready.1 L;have J:o.dst=ai ops i:=(by simp[ai,q]);refine CU q (fun cs b=>Region.noSelect_spec z i o cs b q) (fun t ht=>cS n fun j A S=>?_) (hop i o s q w N) fun w' U=>?_
  ·have u:=l i s;simp only[q,zy,xi,xd]at u;have x:=u.2 j A;simp only[S,zy,wh,Bool.not_eq_true',List.contains_eq_mem,ww]at x;rcases x.2 with I|I
   ·exact absurd ht I
   ·obtain⟨e,O,H⟩:=Array.any_eq_true'.1 I;simp only[zy,vq]at H;rw[<-H.2];exact p e O H.1
  ·rw[J,<-dU v n s X];exact ih _ w' (inv.set L s) (by have:=dW v n s;omega) U
def ah(P:Program)(ops:Array Oper)(A:Act)(R:World->Prop):List Oper->List Value->Prop
 | [],_=>True
 | _::_,[]=>False
 | o::os,v::vs=>(∀w,R w->Gives P ops A R o v w)/\ah P ops A R os vs
theorem ah.at_{A:Act}{R:World->Prop}:∀(os:List Oper) (vs:List Value),ah P ops A R os vs->∀i o,os[i]?=some o->∀w,R w->Gives P ops A R o (vs.getD i undef) w
 | [],_,_,i,o,h,_,_=>by simp at h
 | _::_,[],hg,_,_,_,_,_=>absurd hg (by simp[ah])
 | o::os,v::vs,hg,0,o',h,w,hR=>by
  have:o=o':=(by simpa using h);subst this;exact hg.1 w hR
 | o::os,v::vs,hg,i+1,o',h,w,hR=>by
  have:=ah.at_ os vs hg.2 i o' (by simpa using h) w hR
  simpa using this
theorem ag{id:Nat}{l:List Oper}{a:Act}{w:World}(n:Nat)(vs:List Value)(R:World->Prop)(A:Act)(hm:P.follows .mixedOrders=true)(hB:jq l.toArray n=true)(hA:am l.toArray (fun i=>vs.getD i undef) n a=A)(hR:R w.drew)(hop:ah P l.toArray A R (l.take n) vs)(hT:∀c,R c->wpList P l.toArray Q (l.drop n) A c):(Code.region id l.toArray true).wp P Q a w:=by
 subst hA;have p:=hB;simp only[jq,zy,xz]at p;obtain⟨⟨⟨⟨_,B⟩,_⟩,_⟩,q⟩:=p;have F:n<=l.length:=by simpa using B
 have r:HeadInv .any l.toArray n (Array.replicate l.toArray.size false):=
  ⟨by simp,fun j M _ s=>(by rw[getD_replicate_false]at s;cases s),fun t _ G=>getD_in (by simpa using G) (getD_replicate_false _ _)⟩
 have u:∀m,m<=l.toArray.size->fu (Array.replicate l.toArray.size false) m=m:=fun m z=>by
  induction m with
  | zero=>rfl
  | succ m ih =>
   have f:(Array.replicate l.toArray.size false).getD m true=false:=getD_in (by simp at z ⊢;omega) (getD_replicate_false _ _);simp only[fu,ih (by omega),f,if_true]
 have v:∀m,bu l.toArray (fun i=>vs.getD i undef) (Array.replicate l.toArray.size false) m a=a:=fun m=>by
  induction m with
  | zero=>rfl
  | succ m ih=>simp only[bu,getD_replicate_false,Bool.false_eq_true,if_false,ih]
 refine wp_region_any hm ?_
 have H:=Dz (P:=P) (Q:=Q) (g:=l.toArray.size-n) (a:=a) (vs:=fun i=>vs.getD i undef) (R:=R) hB
  (fun i o I J c d=>hop.at_ _ _ i o (by simpa [I]using J) c d)
  (fun b c inv x d=>by
   have e:b=ao n l.toArray.size:=by
    refine Array.ext_getElem? fun j=>?_
    rcases wm j l.toArray.size with k|k
    ·have f:j<b.size:=(by rw[inv.size];exact k);have E:j<l.length:=(by simpa using k);rcases wm j n with h|h
     ·have y:=x j h;simp[f]at y;simp[ao,f,E,y,h]
     ·have y:=inv.tail j h k;simp[f]at y;have L:¬ j<n:=(by omega);simp[ao,f,E,y,L]
    ·rw[wt (by rw[inv.size];exact k),wt (by simpa [ao]using k)]
   subst e;have s:(l.drop n).length=l.toArray.size-n:=by simp
   have:=wpAny_of_seq (md:=.any) (Q':=Q) (l.drop n) n (ao n l.toArray.size) (am l.toArray (fun i=>vs.getD i undef) n a) c (fun j=>by simp[List.getElem?_drop]) (by rw[s];exact q) (hT c d)
   rwa [s]at this)
  n (Array.replicate l.toArray.size false) w.drew r (u n B) hR
 rw[v,show n+(l.toArray.size-n)=l.toArray.size by omega]at H;exact H
end
end Go.Proofs.YtkchgbjoeggdbaaGreat.Par
namespace Go.Proofs.YtkchgbjoeggdbaaGreat.Par
open Go Go.RowKit
section
variable{P:Program}{ops:Array Oper}{Q:Exit->Act->World->Prop}
def au(P:Program)(ops:Array Oper)(A:Act)(R:Value->World->Prop)(o:Oper)(w:World):Prop:=
 if Region.wanted o (yielded ops A.tmps)=true then
  match (execOp A.eval o).run P w with
  | .ok (.value u) w'=>R u w'
  | .ok (.enter f args) w'=>Calls P f args w' fun e w''=>∃v,e=.returned v/\R v w''
  | _=>False
 else R undef w
theorem zQ{o:Oper}{A a:Act}{w:World}{R:Value->World->Prop}{K:Act->World->Prop}{i:Nat}(hi:ops[i]?=some o)(hs:∀cs b,o.op≠.select cs b)(hl:∀t,t∈o.looksAt ops->a.tmps[t]?=A.tmps[t]?)(h:au P ops A R o w)(hK:∀v c,R v c->K (a.put o.dst v) c):wpOp P ops Q i K a w:=by
 obtain⟨j,k⟩:=dD hl;unfold wpOp;simp only[hi,k];unfold au at h;split at h
 ·rename_i d;rw[zw d];refine .inl ?_;unfold Oper.wp;rw[execOp_congr o hs j]
  revert h
  generalize (execOp A.eval o).run P w=r;intro h;cases r with
  | halt x c=>exact absurd h (by simp)
  | ok n c =>
   cases n <;> simp only[Oper.upon]at h ⊢
   case value u=>exact hK u c h
   case enter f args =>
    refine Calls.mono h fun e g l=>?_
    obtain⟨v,rfl,m⟩:=l;exact hK v g m
 rename_i d;rw[zu d];exact hK undef w h
theorem dE{vs vs':Nat->Value}{listed:Array Bool}{a:Act}:∀m,(∀j,j<m->listed.getD j false=true->vs j=vs' j)->bu ops vs listed m a=bu ops vs' listed m a
 | 0,_=>rfl
 | m+1,h=>by
  have b:=dE (a:=a) m (fun j d=>h j (by omega));simp only[bu,b];split
  ·rename_i c;rw[h m (by omega) c]
  ·rfl
def fy(ops:Array Oper)(i j:Nat):Bool:=match ops[i]? with|none=>false|some o=>o.after.any fun e=>Region.binds .any e&&e.on==j
theorem EQ{n g:Nat}{a:Act}{K:World->Prop}{V:Nat->Value->World->Prop}(hB:jq ops n=true)(hmK:∀w z,K w->Below w.heap.size w z->K z)(hmV:∀j v w z,V j v w->Below w.heap.size w z->V j v z)(hop:∀i o,i<n->ops[i]?=some o->∀(vs:Nat->Value) w,K w->(∀j,j<n->fy ops i j=true->V j (vs j) w)->au P ops (am ops vs n a) (fun v z=>V i v z/\Below w.heap.size w z) o w)(hT:∀(vs:Nat->Value) f w,HeadInv .any ops n f->(∀j,j<n->f.getD j false=true)->K w->(∀j,j<n->V j (vs j) w)->wpAny P .any ops Q g f (am ops vs n a) w):∀c f (vs:Nat->Value) w,HeadInv .any ops n f->fu f n=c->K w->(∀j,j<n->f.getD j false=true->V j (vs j) w)->wpAny P .any ops Q (c+g) f (bu ops vs f n a) w:=by
 simp only[jq,zy,xz,xi,xd]at hB;obtain⟨⟨⟨⟨H,hn⟩,p⟩,s⟩,_⟩:=hB
 have hd:∀j k,j<n->k<n->j≠k->∀d,ai ops j=some d->ai ops k≠some d:=fun j k r hk Z d G I=>by
  have A:=p k hk;cases q:ops[k]? with
  | none=>simp[q]at A
  | some o =>
   simp only[q,zy,xi,xd]at A;have F:=A.2 j r;simp only[G,I,zy,wh,vq,bne_self_eq_false,Bool.false_eq_true,or_false]at F;exact Z F.1
 intro c
 induction c with
 | zero =>
  intro f vs w inv hc W X
  have l:∀j,j<n->f.getD j false=true:=fun j r=>by
   have G:=cB n hc j r;have I:j<f.size:=(by rw[inv.size];omega);simpa [I]using G
  rw[dV n l,xj];exact hT vs f w inv l W (fun j r=>X j r (l j r))
 | succ c ih =>
  intro f vs w inv hc W X;obtain⟨m,hm,J,L⟩:=dX n (by omega:0<fu f n)
  have M:m∈Region.ready .any ops f:=by
   rw[mem_ready];have A:=p m hm;cases q:ops[m]? with
   | none=>simp[q]at A
   | some o =>
    refine⟨J,o,rfl,fun e N B=>?_⟩;simp only[q,zy,Array.all_eq_true_iff_forall_mem,wh,Bool.not_eq_true',xz]at A;have F:=(A.1 e N).resolve_left (by simp[B]);have O:=L e.on F;have h6:e.on<f.size:=(by rw[inv.size];omega);simpa [h6]using O
  rw[show c+1+g=(c+g)+1 by omega];refine⟨fun h0=>(by rw[h0]at M;cases M),fun i Y=>?_⟩
  have u:i<n:=by
   rcases wm i n with h|h
   ·exact h
   ·obtain⟨_,o,q,_⟩:=mem_ready.1 Y;have a2:i<ops.size:=(Array.getElem?_eq_some_iff.1 q).1;simp only[wh,vq,zy]at s;rcases s with G|⟨G,I⟩
    ·omega
    ·exact absurd Y (tail_waits G I (by omega) inv _ m rfl hm J i h)
  obtain⟨x,o,q,l⟩:=mem_ready.1 Y;have R:o.dst=ai ops i:=(by simp[ai,q]);refine zQ q (fun cs b=>Region.noSelect_spec H i o cs b q) (fun t ht=>cS n fun j r a0=>?_) (hop i o u q vs w W fun j r y=>?_) fun v z a1=>?_
  ·have A:=p i u;simp only[q,zy,xi,xd]at A;have F:=A.2 j r;simp only[a0,zy,wh,Bool.not_eq_true',List.contains_eq_mem,ww]at F;rcases F.2 with O|O
   ·exact absurd ht O
   ·obtain⟨e,N,B⟩:=Array.any_eq_true'.1 O;simp only[zy,vq]at B;rw[<-B.2];exact l e N B.1
  ·unfold fy at y;simp only[q]at y;obtain⟨e,N,B⟩:=Array.any_eq_true'.1 y;simp only[zy,vq]at B
   have:=l e N B.1
   rw[B.2]at this;exact X j r this
  ·obtain⟨hv,E⟩:=a1;have S:f.getD i false=false:=getD_both x
   have key:(bu ops vs f n a).put o.dst v=bu ops (fun j=>if j=i then v else vs j) (f.setIfInBounds i true) n a:=by
    rw[dU x n u hd,R];simp only[if_true]
    congr 1
    exact dE n fun j r U=>by
     have:j≠i:=(fun e=>by rw[e,S]at U;cases U);simp[this]
   rw[key];refine ih _ _ z (inv.set Y u) (by have:=dW x n u;omega) (hmK _ _ W E) fun j r U=>?_
   by_cases e:j=i
   ·subst e;simpa using hv
   ·simp only[e,if_false];rw[getD_set_ne false (fun h=>e h.symm)]at U;exact hmV _ _ _ _ (X j r U) E
def fo(P:Program)(ops:Array Oper)(n:Nat)(A:(Nat->Value)->Act)(K:World->Prop)(V:Nat->Value->World->Prop):Nat->List Oper->Prop
 | _,[]=>True
 | i,o::os=>(∀(vs:Nat->Value) w,K w->(∀j,j<n->fy ops i j=true->V j (vs j) w)->au P ops (A vs) (fun v w'=>V i v w'/\Below w.heap.size w w') o w)/\fo P ops n A K V (i+1) os
theorem fo.at_{n:Nat}{A:(Nat->Value)->Act}{K:World->Prop}{V:Nat->Value->World->Prop}:∀(os:List Oper) (k:Nat),fo P ops n A K V k os->∀i o,os[i]?=some o->∀(vs:Nat->Value) w,K w->(∀j,j<n->fy ops (k+i) j=true->V j (vs j) w)->au P ops (A vs) (fun v a=>V (k+i) v a/\Below w.heap.size w a) o w
 | [],_,_,i,o,h=>by simp at h
 | o::os,k,hg,0,o',h=>by
  have:o=o':=(by simpa using h);subst this;exact hg.1
 | o::os,k,hg,i+1,o',h=>by
  have:=fo.at_ os (k+1) hg.2 i o' (by simpa using h)
  rw[show k+1+i=k+(i+1)by omega]at this;exact this
def VW:Type:={ R:Value->World->Prop // ∀v w w',R v w->Below w.heap.size w w'->R v w' }
def VW.eq(x:Value):VW:=⟨fun v _=>v=x,fun _ _ _ h _=>h⟩
def VW.any:VW:=⟨fun _ _=>True,fun _ _ _ h _=>h⟩
def VW.obj(f:Nat->Value)(o:Obj):VW:=⟨fun v w=>∃g,v=f g/\w.heap[g]?=some o,fun v w w' h hb=>by
 obtain⟨g,h1,h2⟩:=h;exact⟨g,h1,(hb.block g (aB h2)).trans h2⟩⟩
def VW.B0(B:Nat)(f:Nat->Value)(o:Obj):VW:=⟨fun v w=>∃g,B<=g/\v=f g/\w.heap[g]?=some o,fun v w w' h hb=>by
 obtain⟨g,h0,h1,h2⟩:=h;exact⟨g,h0,h1,(hb.block g (aB h2)).trans h2⟩⟩
def VL(l:List VW)(j:Nat)(v:Value)(w:World):Prop:=(l.getD j VW.any).1 v w
theorem VL.mono(l:List VW)(j:Nat)(v:Value)(w w':World)(h:VL l j v w)(hb:Below w.heap.size w w'):VL l j v w':=(l.getD j VW.any).2 v w w' h hb
theorem ij{id:Nat}{l:List Oper}{a:Act}{w:World}(n:Nat)(K:World->Prop)(V:Nat->Value->World->Prop)(A:(Nat->Value)->Act)(hm:P.follows .mixedOrders=true)(hB:jq l.toArray n=true)(hmK:∀w b,K w->Below w.heap.size w b->K b)(hmV:∀j v w b,V j v w->Below w.heap.size w b->V j v b)(hA:∀vs,am l.toArray vs n a=A vs)(hK:K w.drew)(hop:fo P l.toArray n A K V 0 (l.take n))(hT:∀(vs:Nat->Value) b,K b->(∀j,j<n->V j (vs j) b)->wpList P l.toArray Q (l.drop n) (A vs) b):(Code.region id l.toArray true).wp P Q a w:=by
 simp only[<-hA]at hT;have q:=hB;simp only[jq,zy,xz]at q;obtain⟨⟨⟨⟨_,G⟩,_⟩,_⟩,r⟩:=q;have J:n<=l.length:=by simpa using G
 have s:HeadInv .any l.toArray n (Array.replicate l.toArray.size false):=
  ⟨by simp,fun j R _ d=>(by rw[getD_replicate_false]at d;cases d),fun t _ L=>getD_in (by simpa using L) (getD_replicate_false _ _)⟩
 have u:∀m,m<=l.toArray.size->fu (Array.replicate l.toArray.size false) m=m:=fun m E=>by
  induction m with
  | zero=>rfl
  | succ m ih =>
   have k:(Array.replicate l.toArray.size false).getD m true=false:=getD_in (by simp at E ⊢;omega) (getD_replicate_false _ _);simp only[fu,ih (by omega),k,if_true]
 have x:∀m,bu l.toArray (fun _=>undef) (Array.replicate l.toArray.size false) m a=a:=fun m=>by
  induction m with
  | zero=>rfl
  | succ m ih=>simp only[bu,getD_replicate_false,Bool.false_eq_true,if_false,ih]
 refine wp_region_any hm ?_
 have H:=EQ (P:=P) (Q:=Q) (g:=l.toArray.size-n) (a:=a) (K:=K) (V:=V) hB hmK hmV
  (fun i o M N vs b f y=>by
   have:=hop.at_ _ _ i o (by simpa [M]using N) vs b f (by rw[xj];exact y)
   rw[xj]at this;rw[hA];exact this)
  (fun vs c b inv z f F=>by
   have e:c=ao n l.toArray.size:=by
    refine Array.ext_getElem? fun j=>?_
    rcases wm j l.toArray.size with p|p
    ·have k:j<c.size:=(by rw[inv.size];exact p);have I:j<l.length:=(by simpa using p);rcases wm j n with h|h
     ·have B:=z j h;simp[k]at B;simp[ao,k,I,B,h]
     ·have B:=inv.tail j h p;simp[k]at B;have O:¬ j<n:=(by omega);simp[ao,k,I,B,O]
    ·rw[wt (by rw[inv.size];exact p),wt (by simpa [ao]using p)]
   subst e;have d:(l.drop n).length=l.toArray.size-n:=by simp
   have:=wpAny_of_seq (md:=.any) (Q':=Q) (l.drop n) n (ao n l.toArray.size) (am l.toArray vs n a) b (fun j=>by simp[List.getElem?_drop]) (by rw[d];exact r) (hT vs b f F)
   rwa [d]at this)
  n (Array.replicate l.toArray.size false) (fun _=>undef) w.drew s (u n G) hK (fun j _ d=>(by rw[getD_replicate_false]at d;cases d))
 rw[x,show n+(l.toArray.size-n)=l.toArray.size by omega]at H;exact H
end
section
variable{P:Program}{ops:Array Oper}{Q:Exit->Act->World->Prop}
def fg(l:Nat->Bool)(i:Nat):Nat->Bool:=fun j=>if j=i then true else l j
def ef(vs:Nat->Value)(i:Nat)(v:Value):Nat->Value:=fun j=>if j=i then v else vs j
def uv(P:Program)(ops:Array Oper)(A:(Nat->Value)->Act)(J:(Nat->Bool)->(Nat->Value)->World->Prop):Nat->List Oper->Prop
 | _,[]=>True
 | i,o::os=>(∀(l:Nat->Bool) (vs:Nat->Value) w,J l vs w->l i=false->(∀j,fy ops i j=true->l j=true)->(∀a b,fy ops a b=true->l a=true->l b=true)->au P ops (A vs) (fun v w'=>J (fg l i) (ef vs i v) w') o w)/\uv P ops A J (i+1) os
end
section
variable{P:Program}{ops:Array Oper}{Q:Exit->Act->World->Prop}
def af(P:Program)(ops:Array Oper)(A:Act)(R:Value->World->Prop)(o:Oper)(w:World):Prop:=
 if Region.wanted o (yielded ops A.tmps)=true then
  match (execOp A.eval o).run P w with
  | .ok (.value u) w'=>R u w'
  | .ok .skip w'=>R undef w'
  | .ok (.enter f args) w'=>Calls P f args w' fun e w''=>∃v,e=.returned v/\R v w''
  | _=>False
 else R undef w
theorem zR{o:Oper}{A a:Act}{w:World}{R:Value->World->Prop}{K:Act->World->Prop}{i:Nat}(hi:ops[i]?=some o)(hs:∀cs b,o.op≠.select cs b)(hl:∀t,t∈o.looksAt ops->a.tmps[t]?=A.tmps[t]?)(h:af P ops A R o w)(hK:∀v c,R v c->K (a.put o.dst v) c):wpOp P ops Q i K a w:=by
 obtain⟨j,k⟩:=dD hl;unfold wpOp;simp only[hi,k];unfold af at h;split at h
 ·rename_i d;rw[zw d];refine .inl ?_;unfold Oper.wp;rw[execOp_congr o hs j]
  revert h
  generalize (execOp A.eval o).run P w=r;intro h;cases r with
  | halt x c=>exact absurd h (by simp)
  | ok n c =>
   cases n <;> simp only[Oper.upon]at h ⊢
   case value u=>exact hK u c h
   case skip=>exact hK undef c h
   case enter f args =>
    refine Calls.mono h fun e g l=>?_
    obtain⟨v,rfl,m⟩:=l;exact hK v g m
 rename_i d;rw[zu d];exact hK undef w h
theorem IA{n g:Nat}{a:Act}{J:(Nat->Bool)->(Nat->Value)->World->Prop}(hB:jq ops n=true)(hop:∀i o,i<n->ops[i]?=some o->∀(l:Nat->Bool) (vs:Nat->Value) w,J l vs w->l i=false->(∀j,fy ops i j=true->l j=true)->(∀a b,fy ops a b=true->l a=true->l b=true)->af P ops (am ops vs n a) (fun v w'=>J (fg l i) (ef vs i v) w') o w)(hT:∀(vs:Nat->Value) f w,HeadInv .any ops n f->(∀j,j<n->f.getD j false=true)->J (fun j=>f.getD j false) vs w->wpAny P .any ops Q g f (am ops vs n a) w):∀c f (vs:Nat->Value) w,HeadInv .any ops n f->fu f n=c->J (fun j=>f.getD j false) vs w->wpAny P .any ops Q (c+g) f (bu ops vs f n a) w:=by
 simp only[jq,zy,xz,xi,xd]at hB;obtain⟨⟨⟨⟨N,hn⟩,r⟩,z⟩,_⟩:=hB
 have hd:∀j k,j<n->k<n->j≠k->∀d,ai ops j=some d->ai ops k≠some d:=fun j k L hk a0 d M O=>by
  have E:=r k hk;cases s:ops[k]? with
  | none=>simp[s]at E
  | some o =>
   simp only[s,zy,xi,xd]at E;have G:=E.2 j L;simp only[M,O,zy,wh,vq,bne_self_eq_false,Bool.false_eq_true,or_false]at G;exact a0 G.1
 intro c
 induction c with
 | zero =>
  intro f vs w inv hc hJ
  have p:∀j,j<n->f.getD j false=true:=fun j L=>by
   have M:=cB n hc j L;have O:j<f.size:=(by rw[inv.size];omega);simpa [O]using M
  rw[dV n p,xj];exact hT vs f w inv p hJ
 | succ c ih =>
  intro f vs w inv hc hJ;obtain⟨m,hm,R,S⟩:=dX n (by omega:0<fu f n)
  have U:m∈Region.ready .any ops f:=by
   rw[mem_ready];have E:=r m hm;cases s:ops[m]? with
   | none=>simp[s]at E
   | some o =>
    refine⟨R,o,rfl,fun e H u=>?_⟩;simp only[s,zy,Array.all_eq_true_iff_forall_mem,wh,Bool.not_eq_true',xz]at E;have G:=(E.1 e H).resolve_left (by simp[u]);have V:=S e.on G;have h6:e.on<f.size:=(by rw[inv.size];omega);simpa [h6]using V
  rw[show c+1+g=(c+g)+1 by omega];refine⟨fun h0=>(by rw[h0]at U;cases U),fun i Z=>?_⟩
  have A:i<n:=by
   rcases wm i n with h|h
   ·exact h
   ·obtain⟨_,o,s,_⟩:=mem_ready.1 Z;have a4:i<ops.size:=(Array.getElem?_eq_some_iff.1 s).1;simp only[wh,vq,zy]at z;rcases z with M|⟨M,O⟩
    ·omega
    ·exact absurd Z (tail_waits M O (by omega) inv _ m rfl hm R i h)
  obtain⟨q,o,s,p⟩:=mem_ready.1 Z;have W:o.dst=ai ops i:=(by simp[ai,s]);refine zR s (fun cs b=>Region.noSelect_spec N i o cs b s) (fun t ht=>cS n fun j L a1=>?_) (hop i o A s (fun j=>f.getD j false) vs w hJ (getD_both q) (fun j B=>?_) fun x y F hx=>?_) fun v w' a2=>?_
  ·have E:=r i A;simp only[s,zy,xi,xd]at E;have G:=E.2 j L;simp only[a1,zy,wh,Bool.not_eq_true',List.contains_eq_mem,ww]at G;rcases G.2 with V|V
   ·exact absurd ht V
   ·obtain⟨e,H,u⟩:=Array.any_eq_true'.1 V;simp only[zy,vq]at u;rw[<-u.2];exact p e H u.1
  ·unfold fy at B;simp only[s]at B;obtain⟨e,H,u⟩:=Array.any_eq_true'.1 B;simp only[zy,vq]at u
   have:=p e H u.1
   rw[u.2]at this;exact this
  ·unfold fy at F;cases I:ops[x]? with
   | none=>simp[I]at F
   | some ox =>
    simp only[I]at F;obtain⟨e,H,u⟩:=Array.any_eq_true'.1 F;simp only[zy,vq]at u
    have:=inv.closed x ox I hx e H u.1
    rw[u.2]at this;exact this
  ·have X:f.getD i false=false:=getD_both q
   have key:(bu ops vs f n a).put o.dst v=bu ops (ef vs i v) (f.setIfInBounds i true) n a:=by
    rw[dU q n A hd,W];simp only[ef,if_true]
    congr 1
    exact dE n fun j L hl=>by
     have:j≠i:=(fun e=>by rw[e,X]at hl;cases hl);simp[ef,this]
   rw[key];refine ih _ _ w' (inv.set Z A) (by have:=dW q n A;omega) ?_
   have e:(fun j=>(f.setIfInBounds i true).getD j false)=fg (fun j=>f.getD j false) i:=by
    funext j
    by_cases h:j=i
    ·subst h
     have a3:j<f.size:=by
      rcases wm j f.size with Y | Y
      ·exact Y
      ·simp[wt Y]at q
     simp[fg,a3]
    ·rw[getD_set_ne false (fun Y=>h Y.symm)];simp[fg,h]
   rw[e];exact a2
def ce(P:Program)(ops:Array Oper)(A:(Nat->Value)->Act)(J:(Nat->Bool)->(Nat->Value)->World->Prop):Nat->List Oper->Prop
 | _,[]=>True
 | i,o::os=>(∀(l:Nat->Bool) (vs:Nat->Value) w,J l vs w->l i=false->(∀j,fy ops i j=true->l j=true)->(∀a b,fy ops a b=true->l a=true->l b=true)->af P ops (A vs) (fun v w'=>J (fg l i) (ef vs i v) w') o w)/\ce P ops A J (i+1) os
theorem ce.at_{A:(Nat->Value)->Act}{J:(Nat->Bool)->(Nat->Value)->World->Prop}:∀(os:List Oper) (k:Nat),ce P ops A J k os->∀i o,os[i]?=some o->∀(l:Nat->Bool) (vs:Nat->Value) w,J l vs w->l (k+i)=false->(∀j,fy ops (k+i) j=true->l j=true)->(∀a b,fy ops a b=true->l a=true->l b=true)->af P ops (A vs) (fun v c=>J (fg l (k+i)) (ef vs (k+i) v) c) o w
 | [],_,_,i,o,h=>by simp at h
 | o::os,k,hg,0,o',h=>by
  have:o=o':=(by simpa using h);subst this;exact hg.1
 | o::os,k,hg,i+1,o',h=>by
  have:=ce.at_ os (k+1) hg.2 i o' (by simpa using h)
  rw[show k+1+i=k+(i+1)by omega]at this;exact this
theorem bo{id:Nat}{l:List Oper}{a:Act}{w:World}(n:Nat)(J:(Nat->Bool)->(Nat->Value)->World->Prop)(A:(Nat->Value)->Act)(hm:P.follows .mixedOrders=true)(hB:jq l.toArray n=true)(hA:∀vs,am l.toArray vs n a=A vs)(hJ:∀vs,J (fun _=>false) vs w.drew)(hop:ce P l.toArray A J 0 (l.take n))(hT:∀(G:Nat->Bool) (vs:Nat->Value) d,(∀j,j<n->G j=true)->J G vs d->wpList P l.toArray Q (l.drop n) (A vs) d):(Code.region id l.toArray true).wp P Q a w:=by
 simp only[<-hA]at hT;have r:=hB;simp only[jq,zy,xz]at r;obtain⟨⟨⟨⟨_,I⟩,_⟩,_⟩,s⟩:=r;have M:n<=l.length:=by simpa using I
 have u:HeadInv .any l.toArray n (Array.replicate l.toArray.size false):=
  ⟨by simp,fun j U _ f=>(by rw[getD_replicate_false]at f;cases f),fun t _ N=>getD_in (by simpa using N) (getD_replicate_false _ _)⟩
 have v:∀m,m<=l.toArray.size->fu (Array.replicate l.toArray.size false) m=m:=fun m B=>by
  induction m with
  | zero=>rfl
  | succ m ih =>
   have p:(Array.replicate l.toArray.size false).getD m true=false:=getD_in (by simp at B ⊢;omega) (getD_replicate_false _ _);simp only[fu,ih (by omega),p,if_true]
 have x:∀m,bu l.toArray (fun _=>undef) (Array.replicate l.toArray.size false) m a=a:=fun m=>by
  induction m with
  | zero=>rfl
  | succ m ih=>simp only[bu,getD_replicate_false,Bool.false_eq_true,if_false,ih]
 refine wp_region_any hm ?_
 have H:=IA (P:=P) (Q:=Q) (g:=l.toArray.size-n) (a:=a) (J:=J) hB
  (fun i o O R lb vs d k f y E=>by
   have:=hop.at_ _ _ i o (by simpa [O]using R) lb vs d k (by rw[xj];exact f) (by rw[xj];exact y) E
   rw[xj]at this;rw[hA];exact this)
  (fun vs b d inv c k=>by
   have e:b=ao n l.toArray.size:=by
    refine Array.ext_getElem? fun j=>?_
    rcases wm j l.toArray.size with q|q
    ·have p:j<b.size:=(by rw[inv.size];exact q);have L:j<l.length:=(by simpa using q);rcases wm j n with h|h
     ·have z:=c j h;simp[p]at z;simp[ao,p,L,z,h]
     ·have z:=inv.tail j h q;simp[p]at z;have S:¬ j<n:=(by omega);simp[ao,p,L,z,S]
    ·rw[wt (by rw[inv.size];exact q),wt (by simpa [ao]using q)]
   have f:(l.drop n).length=l.toArray.size-n:=(by simp);have F:=hT (fun j=>b.getD j false) vs d c k;subst e
   have:=wpAny_of_seq (md:=.any) (Q':=Q) (l.drop n) n (ao n l.toArray.size) (am l.toArray vs n a) d (fun j=>by simp[List.getElem?_drop]) (by rw[f];exact s) F
   rwa [f]at this)
  n (Array.replicate l.toArray.size false) (fun _=>undef) w.drew u (v n I) (by
   have e:(fun j=>(Array.replicate l.toArray.size false).getD j false)=fun _=>false:=by funext j;rw[getD_replicate_false]
   rw[e];exact hJ _)
 rw[x,show n+(l.toArray.size-n)=l.toArray.size by omega]at H;exact H
end
structure Turn (B:Nat) (ty:TypeId) (w w':World):Prop where
 below:Below B w w'
 size:w.heap.size<=w'.heap.size
 keep:∀(b:Nat) (cur:Array Value) (e:TypeId) (m:Nat×Nat),w.heap[b]?=some (Obj.cells cur e m)->e≠ty->w'.heap[b]?=some (Obj.cells cur e m)
theorem Turn.of_below{B:Nat}{ty:TypeId}{w w':World}(h:Below w.heap.size w w')(hB:B<=w.heap.size):Turn B ty w w':=
 ⟨h.mono hB,h.size,fun b _ _ _ x _=>(h.block b (aB x)).trans x⟩
theorem Turn.r'{B:Nat}{ty:TypeId}{w w':World}{g:Nat}{c:Array Value}(h:w.grownBy w' (some g))(hg:w.heap[g]?=some (.cells c ty))(hB:B<=g):Turn B ty w w':=
 ⟨⟨h.os,h.tape,h.output,h.size,fun k i=>h.block k (by have:=aB hg;omega) (fun e=>by cases e;omega)⟩,h.size,fun b a e m x d=>(h.block b (aB x) (fun f=>by
  cases f;rw[hg]at x;cases x;exact d rfl)).trans x⟩
def Filled(w:World)(g:Nat)(o:Obj):Prop:=w.heap[g]?=some o
inductive Kd|val|new|put
def ki(ia is i:Nat):Kd:=if i=ia then .new else if i=is then .put else .val
section
variable{P:Program}{ops:Array Oper}{Q:Exit->Act->World->Prop}
theorem af.mono{A:Act}{R R':Value->World->Prop}{o:Oper}{w:World}(h:af P ops A R o w)(hr:∀v a,R v a->R' v a):af P ops A R' o w:=by
 unfold af at h ⊢;split at h
 ·rename_i b;rw[zw b]
  revert h
  generalize (execOp A.eval o).run P w=r;intro h;cases r with
  | halt x a=>exact h
  | ok n a =>
   cases n
   case value u=>exact hr _ _ h
   case skip=>exact hr _ _ h
   case enter f args=>exact Calls.mono h fun e c⟨v,d,g⟩=>⟨v,d,hr _ _ g⟩
   all_goals exact h
 rename_i b;rw[zu b];exact hr _ _ h
def cw(P:Program)(ops:Array Oper)(n ia is id:Nat)(A:(Nat->Value)->Act)(ty:TypeId)(c0:Array Value)(c1:Value->Array Value)(K:World->Prop)(V:Nat->Value->World->Prop):Nat->List Kd->List Oper->Prop
 | i,.val::ks,o::os=>(∀(vs:Nat->Value) w,K w->(∀j,j<n->j≠ia->j≠is->fy ops i j=true->V j (vs j) w)->af P ops (A vs) (fun v w'=>V i v w'/\Below w.heap.size w w') o w)/\cw P ops n ia is id A ty c0 c1 K V (i+1) ks os
 | i,.new::ks,o::os=>(∀(vs:Nat->Value) w,K w->af P ops (A vs) (fun v w'=>v=.pointer (some ⟨w.heap.size,0,none⟩)/\w'=w.alloc (.cells c0 ty)) o w)/\cw P ops n ia is id A ty c0 c1 K V (i+1) ks os
 | i,.put::ks,o::os=>(∀(vs:Nat->Value) w (g:Nat),K w->(∀j,j<n->j≠ia->j≠is->fy ops i j=true->V j (vs j) w)->vs ia=.pointer (some ⟨g,0,none⟩)->w.heap[g]?=some (.cells c0 ty)->af P ops (A vs) (fun _ w'=>w.grownBy w' (some g)/\Filled w' g (.cells (c1 (vs id)) ty)) o w)/\cw P ops n ia is id A ty c0 c1 K V (i+1) ks os
 | _,_,_=>True
theorem cw.at_{n ia is id:Nat}{A:(Nat->Value)->Act}{ty:TypeId}{c0:Array Value}{c1:Value->Array Value}{K:World->Prop}{V:Nat->Value->World->Prop}:∀(ks:List Kd) (os:List Oper) (k:Nat),cw P ops n ia is id A ty c0 c1 K V k ks os->∀i o kd,os[i]?=some o->ks[i]?=some kd ->
  cw P ops n ia is id A ty c0 c1 K V (k+i) [kd] [o]
 | [],_,_,_,i,o,kd,_,h2=>by simp at h2
 | _::_,[],_,_,i,o,kd,h1,_=>by simp at h1
 | q::ks,o::os,k,hg,0,o',kd,h1,h2=>by
  have b:o=o':=(by simpa using h1);have c:q=kd:=(by simpa using h2);subst b c;cases q <;> exact⟨hg.1,trivial⟩
 | q::ks,o::os,k,hg,i+1,o',kd,h1,h2=>by
  have a:cw P ops n ia is id A ty c0 c1 K V (k+1) ks os:=by cases q <;> exact hg.2
  have:=cw.at_ ks os (k+1) a i o' kd (by simpa using h1) (by simpa using h2)
  rw[show k+1+i=k+(i+1)by omega]at this;exact this
structure JB (n ia is id B:Nat) (ty:TypeId) (c0:Array Value) (c1:Value->Array Value) (K:World->Prop) (V:Nat->Value->World->Prop) (l:Nat->Bool) (vs:Nat->Value) (w:World):Prop where
 k:K w
 v:∀j,j<n->j≠ia->j≠is->l j=true->V j (vs j) w
 b:l ia=true->∃g,vs ia=.pointer (some ⟨g,0,none⟩)/\B<=g/\w.heap[g]?=some (.cells (if l is=true then c1 (vs id)else c0) ty)
theorem ms{rg:Nat}{l:List Oper}{a:Act}{w:World}(n ia is id B:Nat)(ty:TypeId)(c0:Array Value)(c1:Value->Array Value)(K:World->Prop)(V:Nat->Value->World->Prop)(A:(Nat->Value)->Act)(hm:P.follows .mixedOrders=true)(hB:jq l.toArray n=true)(hmK:∀w c,K w->Turn B ty w c->K c)(hmV:∀j v w c,V j v w->Turn B ty w c->V j v c)(hBK:∀w,K w->B<=w.heap.size)(hA:∀vs,am l.toArray vs n a=A vs)(hK:K w.drew)(hia:ia<n)(his:is<n)(hne:ia≠is)(hdep:fy l.toArray is ia=true)(hdep2:fy l.toArray is id=true)(hida:id≠is)(hop:cw P l.toArray n ia is id A ty c0 c1 K V 0 ((List.range n).map (ki ia is)) (l.take n))(hT:∀(vs:Nat->Value) c (g:Nat),K c->(∀j,j<n->j≠ia->j≠is->V j (vs j) c)->vs ia=.pointer (some ⟨g,0,none⟩)->B<=g->c.heap[g]?=some (.cells (c1 (vs id)) ty)->wpList P l.toArray Q (l.drop n) (A vs) c):(Code.region rg l.toArray true).wp P Q a w:=by
 have y:=hB;simp only[jq,zy,xz]at y;obtain⟨⟨⟨⟨_,Y⟩,_⟩,_⟩,_⟩:=y;have Z:n<=l.length:=by simpa using Y
 have z:∀i o,(l.take n)[i]?=some o->i<n/\cw P l.toArray n ia is id A ty c0 c1 K V i [ki ia is i] [o]:=fun i o L=>by
  have O:i<n:=by
   have:=(List.getElem?_eq_some_iff.1 L).1
   rw[xq]at this;omega
  have:=hop.at_ _ _ 0 i o (ki ia is i) L (by rw[xe,List.getElem?_range O];rfl)
  rw[xj]at this;exact⟨O,this⟩
 have key:∀i o,(l.take n)[i]?=some o->∀(lb:Nat->Bool) (vs:Nat->Value) w,JB n ia is id B ty c0 c1 K V lb vs w->lb i=false->(∀j,fy l.toArray i j=true->lb j=true)->(∀a b,fy l.toArray a b=true->lb a=true->lb b=true)->af P l.toArray (A vs) (fun v c=>JB n ia is id B ty c0 c1 K V (fg lb i) (ef vs i v) c) o w:=by
  intro i o L lb vs w f r W E;obtain⟨O,x⟩:=z i o L;have t:=hBK _ f.k;have F:∀j,j<n->j≠ia->j≠is->fy l.toArray i j=true->V j (vs j) w:=(fun j p m d q=>f.v j p m d (W j q));by_cases G:i=ia
  ·subst G;rw[show ki i is i=.new by unfold ki;rw[zw rfl]]at x;refine(x.1 vs w f.k).mono ?_;rintro v c⟨rfl,rfl⟩;have s:Turn B ty w (w.alloc (.cells c0 ty)):=.of_below (aD w _) t
   have R:lb is=false:=by
    cases H:lb is with
    | false=>rfl
    | true=>rw[E is i hdep H]at r;cases r
   refine⟨hmK _ _ f.k s,fun j p m d q=>?_,fun _=>⟨w.heap.size,by simp[ef],t,?_⟩⟩
   ·simp only[fg,ef,zu m]at q ⊢;exact hmV _ _ _ _ (f.v j p m d q) s
   simp only[fg,zu (Ne.symm hne),R];exact z7 w _
  by_cases S:i=is
  ·subst S;rw[show ki ia i i=.put by unfold ki;rw[zu G,zw rfl]]at x;obtain⟨g,p,m,d⟩:=f.b (W ia hdep);simp only[r,Bool.false_eq_true,if_false]at d;refine(x.1 vs w g f.k F p d).mono ?_;rintro v c⟨U,M⟩;have s:Turn B ty w c:=.r' U d m;refine⟨hmK _ _ f.k s,fun j p m d q=>?_,fun _=>⟨g,?_,m,?_⟩⟩
   ·simp only[fg,ef,zu d]at q ⊢;exact hmV _ _ _ _ (f.v j p m d q) s
   ·simp only[ef,zu hne];exact p
   simp only[fg,ef,zu hida];exact M
  rw[show ki ia is i=.val by unfold ki;rw[zu G,zu S]]at x;refine(x.1 vs w f.k F).mono ?_;rintro v c⟨U,M⟩;have s:Turn B ty w c:=.of_below M t;refine⟨hmK _ _ f.k s,fun j p m d q=>?_,fun h=>?_⟩
  ·by_cases e:j=i
   ·subst e;simp only[ef];exact U
   simp only[fg,ef,zu e]at q ⊢;exact hmV _ _ _ _ (f.v j p m d q) s
  simp only[fg,zu (Ne.symm G)]at h;obtain⟨g,p,m,d⟩:=f.b h;refine⟨g,by simp only[ef,zu (Ne.symm G)];exact p,m,?_⟩;simp only[fg,zu (Ne.symm S)];have N:=(M.block g (aB d)).trans d;cases H:lb is with
  | false=>rw[H]at N;exact N
  | true =>
   have I:lb id=true:=E is id hdep2 H;have e3:id≠i:=(fun e=>by rw[e,r]at I;cases I);rw[H]at N;simp only[ef,zu e3];exact N
 have u:∀(os:List Oper) (k:Nat),(∀i o,os[i]?=some o->(l.take n)[k+i]?=some o)->ce P l.toArray A (JB n ia is id B ty c0 c1 K V) k os:=by
  intro os
  induction os with
  | nil=>intro k _;trivial
  | cons o os ih =>
   intro k J;refine⟨?_,ih (k+1) fun i o' h=>?_⟩
   ·exact key k o (by have:=J 0 o rfl;simpa using this)
   ·have:=J (i+1) o' (by simpa using h)
    rw[show k+(i+1)=k+1+i by omega]at this;exact this
 refine bo n (JB n ia is id B ty c0 c1 K V) A hm hB hA (fun vs=>⟨hK,fun _ _ _ _ h=>(by cases h),fun h=>(by cases h)⟩) (u _ 0 fun i o h=>by rw[xj];exact h) ?_;intro lb vs c r f;obtain⟨g,p,m,d⟩:=f.b (r ia hia);rw[r is his,zw rfl]at d;exact hT vs c g f.k (fun j X a2 a3=>f.v j X a2 a3 (r j X)) p m d
end
def AQ:Value->Array Value | .agg xs=>xs|_=>#[]
def VB(B:Nat)(ty:TypeId):Type:={ R:Value->World->Prop // ∀v w w',R v w->Turn B ty w w'->R v w' }
def VB.eq{B:Nat}{ty:TypeId}(x:Value):VB B ty:=⟨fun v _=>v=x,fun _ _ _ h _=>h⟩
def VB.any{B:Nat}{ty:TypeId}:VB B ty:=⟨fun _ _=>True,fun _ _ _ h _=>h⟩
def Am{B:Nat}{ty:TypeId}(l:List (VB B ty))(j:Nat)(v:Value)(w:World):Prop:=(l.getD j VB.any).1 v w
theorem Am.mono{B:Nat}{ty:TypeId}(l:List (VB B ty))(j:Nat)(v:Value)(w w':World)(h:Am l j v w)(hb:Turn B ty w w'):Am l j v w':=(l.getD j VB.any).2 v w w' h hb
section
variable{P:Program}{ops:Array Oper}{Q:Exit->Act->World->Prop}
theorem qC{F:Fence}{n:Nat}{K K':Act->World->Prop}{a:Act}{w:World}{i:Nat}(hK:∀a w,K a w->K' a w)(h:wpOpIn F n P ops Q i K a w):wpOpIn F n P ops Q i K' a w:=wpOpIn_mono hK h
theorem dF{F:Fence}{m:Nat}{md:Region.Mode}:∀(l:List Oper) (k:Nat) (b:Array Bool) (a:Act) (w:World),(∀j,l[j]?=ops[k+j]?) ->
  Region.seqB md ops l.length k b=true->wpListIn F m P ops Q l a w->wpAnyIn F m P md ops Q l.length b a w
 | [],_,_,_,_,_,hB,h=>⟨by simpa [Region.seqB]using hB,h⟩
 | o::l,k,b,a,w,hl,hB,h=>by
  have f:ops[k]?=some o:=(by simpa using (hl 0).symm);simp only[xa,Region.seqB,zy,xz]at hB;refine⟨fun d=>(by rw[hB.1]at d;cases d),fun i e=>?_⟩;rw[hB.1]at e;have c:i=k:=(by simpa using e);subst c;have g:wpOpIn F m P ops Q i (wpListIn F m P ops Q l) a w:=(by unfold wpOpIn;simp only[f];exact h);exact qC (fun n p q=>dF l (i+1) _ n p (fun j=>by have:=hl (j+1);simpa [Nat.add_assoc,Nat.add_comm 1 j]using this) hB.2 q) g
def mo(ops:Array Oper):Bool:=ops.all fun o=>match o.op with | .defer _=>false|_=>true
theorem iJ(h:mo ops=true)(i:Nat)(o:Oper)(hi:ops[i]?=some o):∀c,o.op≠.defer c:=by
 intro c a
 have:=Array.all_eq_true_iff_forall_mem.1 h o (Array.mem_of_getElem? hi)
 rw[a]at this;cases this
theorem rT{F:Fence}{mm:Nat}(hF:F.plain=Fence.wide){o:Oper}{A a:Act}{w:World}{R:Value->World->Prop}{K:Act->World->Prop}{i:Nat}(hi:ops[i]?=some o)(hs:∀cs b,o.op≠.select cs b)(hd:∀c,o.op≠.defer c)(hl:∀t,t∈o.looksAt ops->a.tmps[t]?=A.tmps[t]?)(h:af P ops A R o w)(hK:∀v d,R v d->K (a.put o.dst v) d):wpOpIn F mm P ops Q i K a w:=by
 have g:∀f,F.fn f:=fun f=>by
  have:F.plain.fn f:=by rw[hF];trivial
  exact this
 have j:F.depth=none:=by
  have:F.plain.depth=none:=by rw[hF];rfl
  exact this
 obtain⟨m,n⟩:=dD hl;unfold wpOpIn;simp only[hi,n];unfold af at h;split at h
 ·rename_i k;rw[zw k];unfold Oper.wpIn;refine⟨fun f _=>g f,?_⟩;rw[Oper.semAt_plain F _ _ hd,execOp_congr o hs m]
  revert h
  generalize (execOp A.eval o).run P w=r;intro h;cases r with
  | halt x d=>exact absurd h (by simp)
  | ok nx d =>
   cases nx <;> simp only at h
   case value u=>exact hK u d h
   case skip=>exact hK undef d h
   case enter f args =>
    refine⟨fun h=>by simp[j]at h,(aI hF h).mono fun e l p=>?_⟩;obtain⟨v,rfl,q⟩:=p;exact hK v l q
 rename_i k;rw[zu k];exact⟨fun f _=>g f,hK undef w h⟩
theorem vM{F:Fence}{mm:Nat}(hF:F.plain=Fence.wide)(hnd:mo ops=true){n g:Nat}{a:Act}{J:(Nat->Bool)->(Nat->Value)->World->Prop}(hB:jq ops n=true)(hop:∀i o,i<n->ops[i]?=some o->∀(l:Nat->Bool) (vs:Nat->Value) w,J l vs w->l i=false->(∀j,fy ops i j=true->l j=true)->(∀a b,fy ops a b=true->l a=true->l b=true)->af P ops (am ops vs n a) (fun v w'=>J (fg l i) (ef vs i v) w') o w)(hT:∀(vs:Nat->Value) f w,HeadInv .any ops n f->(∀j,j<n->f.getD j false=true)->J (fun j=>f.getD j false) vs w->wpAnyIn F mm P .any ops Q g f (am ops vs n a) w):∀c f (vs:Nat->Value) w,HeadInv .any ops n f->fu f n=c->J (fun j=>f.getD j false) vs w->wpAnyIn F mm P .any ops Q (c+g) f (bu ops vs f n a) w:=by
 simp only[jq,zy,xz,xi,xd]at hB;obtain⟨⟨⟨⟨O,hn⟩,r⟩,z⟩,_⟩:=hB
 have hd:∀j k,j<n->k<n->j≠k->∀d,ai ops j=some d->ai ops k≠some d:=fun j k M hk a0 d N R=>by
  have E:=r k hk;cases s:ops[k]? with
  | none=>simp[s]at E
  | some o =>
   simp only[s,zy,xi,xd]at E;have H:=E.2 j M;simp only[N,R,zy,wh,vq,bne_self_eq_false,Bool.false_eq_true,or_false]at H;exact a0 H.1
 intro c
 induction c with
 | zero =>
  intro f vs w inv hc hJ
  have p:∀j,j<n->f.getD j false=true:=fun j M=>by
   have N:=cB n hc j M;have R:j<f.size:=(by rw[inv.size];omega);simpa [R]using N
  rw[dV n p,xj];exact hT vs f w inv p hJ
 | succ c ih =>
  intro f vs w inv hc hJ;obtain⟨m,hm,S,U⟩:=dX n (by omega:0<fu f n)
  have V:m∈Region.ready .any ops f:=by
   rw[mem_ready];have E:=r m hm;cases s:ops[m]? with
   | none=>simp[s]at E
   | some o =>
    refine⟨S,o,rfl,fun e I u=>?_⟩;simp only[s,zy,Array.all_eq_true_iff_forall_mem,wh,Bool.not_eq_true',xz]at E;have H:=(E.1 e I).resolve_left (by simp[u]);have W:=U e.on H;have h6:e.on<f.size:=(by rw[inv.size];omega);simpa [h6]using W
  rw[show c+1+g=(c+g)+1 by omega];refine⟨fun h0=>(by rw[h0]at V;cases V),fun i hi=>?_⟩
  have A:i<n:=by
   rcases wm i n with h|h
   ·exact h
   ·obtain⟨_,o,s,_⟩:=mem_ready.1 hi;have a4:i<ops.size:=(Array.getElem?_eq_some_iff.1 s).1;simp only[wh,vq,zy]at z;rcases z with N|⟨N,R⟩
    ·omega
    ·exact absurd hi (tail_waits N R (by omega) inv _ m rfl hm S i h)
  obtain⟨q,o,s,p⟩:=mem_ready.1 hi;have X:o.dst=ai ops i:=(by simp[ai,s]);refine rT hF s (fun cs b=>Region.noSelect_spec O i o cs b s) (iJ hnd i o s) (fun t ht=>cS n fun j M a1=>?_) (hop i o A s (fun j=>f.getD j false) vs w hJ (getD_both q) (fun j B=>?_) fun x y G hx=>?_) fun v w' a2=>?_
  ·have E:=r i A;simp only[s,zy,xi,xd]at E;have H:=E.2 j M;simp only[a1,zy,wh,Bool.not_eq_true',List.contains_eq_mem,ww]at H;rcases H.2 with W|W
   ·exact absurd ht W
   ·obtain⟨e,I,u⟩:=Array.any_eq_true'.1 W;simp only[zy,vq]at u;rw[<-u.2];exact p e I u.1
  ·unfold fy at B;simp only[s]at B;obtain⟨e,I,u⟩:=Array.any_eq_true'.1 B;simp only[zy,vq]at u
   have:=p e I u.1
   rw[u.2]at this;exact this
  ·unfold fy at G;cases L:ops[x]? with
   | none=>simp[L]at G
   | some ox =>
    simp only[L]at G;obtain⟨e,I,u⟩:=Array.any_eq_true'.1 G;simp only[zy,vq]at u
    have:=inv.closed x ox L hx e I u.1
    rw[u.2]at this;exact this
  ·have Y:f.getD i false=false:=getD_both q
   have key:(bu ops vs f n a).put o.dst v=bu ops (ef vs i v) (f.setIfInBounds i true) n a:=by
    rw[dU q n A hd,X];simp only[ef,if_true]
    congr 1
    exact dE n fun j M hl=>by
     have:j≠i:=(fun e=>by rw[e,Y]at hl;cases hl);simp[ef,this]
   rw[key];refine ih _ _ w' (inv.set hi A) (by have:=dW q n A;omega) ?_
   have e:(fun j=>(f.setIfInBounds i true).getD j false)=fg (fun j=>f.getD j false) i:=by
    funext j
    by_cases h:j=i
    ·subst h
     have a3:j<f.size:=by
      rcases wm j f.size with Z | Z
      ·exact Z
      ·simp[wt Z]at q
     simp[fg,a3]
    ·rw[getD_set_ne false (fun Z=>h Z.symm)];simp[fg,h]
   rw[e];exact a2
theorem kz{F:Fence}{mm:Nat}(hF:F.plain=Fence.wide){id:Nat}{l:List Oper}{a:Act}{w:World}(n:Nat)(J:(Nat->Bool)->(Nat->Value)->World->Prop)(A:(Nat->Value)->Act)(hnd:mo l.toArray=true)(hm:P.follows .mixedOrders=true)(hB:jq l.toArray n=true)(hA:∀vs,am l.toArray vs n a=A vs)(hJ:∀vs,J (fun _=>false) vs w.drew)(hop:ce P l.toArray A J 0 (l.take n))(hT:∀(I:Nat->Bool) (vs:Nat->Value) d,(∀j,j<n->I j=true)->J I vs d->wpListIn F mm P l.toArray Q (l.drop n) (A vs) d):(Code.region id l.toArray true).wpIn F mm P Q a w:=by
 simp only[<-hA]at hT;have r:=hB;simp only[jq,zy,xz]at r;obtain⟨⟨⟨⟨_,L⟩,_⟩,_⟩,s⟩:=r;have N:n<=l.length:=by simpa using L
 have u:HeadInv .any l.toArray n (Array.replicate l.toArray.size false):=
  ⟨by simp,fun j V _ f=>(by rw[getD_replicate_false]at f;cases f),fun t _ O=>getD_in (by simpa using O) (getD_replicate_false _ _)⟩
 have v:∀m,m<=l.toArray.size->fu (Array.replicate l.toArray.size false) m=m:=fun m B=>by
  induction m with
  | zero=>rfl
  | succ m ih =>
   have p:(Array.replicate l.toArray.size false).getD m true=false:=getD_in (by simp at B ⊢;omega) (getD_replicate_false _ _);simp only[fu,ih (by omega),p,if_true]
 have x:∀m,bu l.toArray (fun _=>undef) (Array.replicate l.toArray.size false) m a=a:=fun m=>by
  induction m with
  | zero=>rfl
  | succ m ih=>simp only[bu,getD_replicate_false,Bool.false_eq_true,if_false,ih]
 refine wpIn_region_any hm ?_
 have H:=vM (P:=P) (Q:=Q) (mm:=mm) hF hnd (g:=l.toArray.size-n) (a:=a) (J:=J) hB
  (fun i o R S lb vs d k f y E=>by
   have:=hop.at_ _ _ i o (by simpa [R]using S) lb vs d k (by rw[xj];exact f) (by rw[xj];exact y) E
   rw[xj]at this;rw[hA];exact this)
  (fun vs b d inv c k=>by
   have e:b=ao n l.toArray.size:=by
    refine Array.ext_getElem? fun j=>?_
    rcases wm j l.toArray.size with q|q
    ·have p:j<b.size:=(by rw[inv.size];exact q);have M:j<l.length:=(by simpa using q);rcases wm j n with h|h
     ·have z:=c j h;simp[p]at z;simp[ao,p,M,z,h]
     ·have z:=inv.tail j h q;simp[p]at z;have U:¬ j<n:=(by omega);simp[ao,p,M,z,U]
    ·rw[wt (by rw[inv.size];exact q),wt (by simpa [ao]using q)]
   have f:(l.drop n).length=l.toArray.size-n:=(by simp);have G:=hT (fun j=>b.getD j false) vs d c k;subst e
   have:=dF (P:=P) (F:=F) (m:=mm) (md:=.any) (Q:=Q) (l.drop n) n (ao n l.toArray.size) (am l.toArray vs n a) d (fun j=>by simp[List.getElem?_drop]) (by rw[f];exact s) G
   rwa [f]at this)
  n (Array.replicate l.toArray.size false) (fun _=>undef) w.drew u (v n L) (by
   have e:(fun j=>(Array.replicate l.toArray.size false).getD j false)=fun _=>false:=by funext j;rw[getD_replicate_false]
   rw[e];exact hJ _)
 rw[x,show n+(l.toArray.size-n)=l.toArray.size by omega]at H;exact H
theorem py{F:Fence}{mm:Nat}(hF:F.plain=Fence.wide){rg:Nat}{l:List Oper}{a:Act}{w:World}(n ia is id B:Nat)(ty:TypeId)(c0:Array Value)(c1:Value->Array Value)(K:World->Prop)(V:Nat->Value->World->Prop)(A:(Nat->Value)->Act)(hnd:mo l.toArray=true)(hm:P.follows .mixedOrders=true)(hB:jq l.toArray n=true)(hmK:∀w c,K w->Turn B ty w c->K c)(hmV:∀j v w c,V j v w->Turn B ty w c->V j v c)(hBK:∀w,K w->B<=w.heap.size)(hA:∀vs,am l.toArray vs n a=A vs)(hK:K w.drew)(hia:ia<n)(his:is<n)(hne:ia≠is)(hdep:fy l.toArray is ia=true)(hdep2:fy l.toArray is id=true)(hida:id≠is)(hop:cw P l.toArray n ia is id A ty c0 c1 K V 0 ((List.range n).map (ki ia is)) (l.take n))(hT:∀(vs:Nat->Value) c (g:Nat),K c->(∀j,j<n->j≠ia->j≠is->V j (vs j) c)->vs ia=.pointer (some ⟨g,0,none⟩)->B<=g->c.heap[g]?=some (.cells (c1 (vs id)) ty)->wpListIn F mm P l.toArray Q (l.drop n) (A vs) c):(Code.region rg l.toArray true).wpIn F mm P Q a w:=by
 have y:=hB;simp only[jq,zy,xz]at y;obtain⟨⟨⟨⟨_,Z⟩,_⟩,_⟩,_⟩:=y;have a0:n<=l.length:=by simpa using Z
 have z:∀i o,(l.take n)[i]?=some o->i<n/\cw P l.toArray n ia is id A ty c0 c1 K V i [ki ia is i] [o]:=fun i o M=>by
  have R:i<n:=by
   have:=(List.getElem?_eq_some_iff.1 M).1
   rw[xq]at this;omega
  have:=hop.at_ _ _ 0 i o (ki ia is i) M (by rw[xe,List.getElem?_range R];rfl)
  rw[xj]at this;exact⟨R,this⟩
 have key:∀i o,(l.take n)[i]?=some o->∀(lb:Nat->Bool) (vs:Nat->Value) w,JB n ia is id B ty c0 c1 K V lb vs w->lb i=false->(∀j,fy l.toArray i j=true->lb j=true)->(∀a b,fy l.toArray a b=true->lb a=true->lb b=true)->af P l.toArray (A vs) (fun v c=>JB n ia is id B ty c0 c1 K V (fg lb i) (ef vs i v) c) o w:=by
  intro i o M lb vs w f r X E;obtain⟨R,x⟩:=z i o M;have t:=hBK _ f.k;have G:∀j,j<n->j≠ia->j≠is->fy l.toArray i j=true->V j (vs j) w:=(fun j p m d q=>f.v j p m d (X j q));by_cases H:i=ia
  ·subst H;rw[show ki i is i=.new by unfold ki;rw[zw rfl]]at x;refine(x.1 vs w f.k).mono ?_;rintro v c⟨rfl,rfl⟩;have s:Turn B ty w (w.alloc (.cells c0 ty)):=.of_below (aD w _) t
   have S:lb is=false:=by
    cases I:lb is with
    | false=>rfl
    | true=>rw[E is i hdep I]at r;cases r
   refine⟨hmK _ _ f.k s,fun j p m d q=>?_,fun _=>⟨w.heap.size,by simp[ef],t,?_⟩⟩
   ·simp only[fg,ef,zu m]at q ⊢;exact hmV _ _ _ _ (f.v j p m d q) s
   simp only[fg,zu (Ne.symm hne),S];exact z7 w _
  by_cases U:i=is
  ·subst U;rw[show ki ia i i=.put by unfold ki;rw[zu H,zw rfl]]at x;obtain⟨g,p,m,d⟩:=f.b (X ia hdep);simp only[r,Bool.false_eq_true,if_false]at d;refine(x.1 vs w g f.k G p d).mono ?_;rintro v c⟨W,N⟩;have s:Turn B ty w c:=.r' W d m;refine⟨hmK _ _ f.k s,fun j p m d q=>?_,fun _=>⟨g,?_,m,?_⟩⟩
   ·simp only[fg,ef,zu d]at q ⊢;exact hmV _ _ _ _ (f.v j p m d q) s
   ·simp only[ef,zu hne];exact p
   simp only[fg,ef,zu hida];exact N
  rw[show ki ia is i=.val by unfold ki;rw[zu H,zu U]]at x;refine(x.1 vs w f.k G).mono ?_;rintro v c⟨W,N⟩;have s:Turn B ty w c:=.of_below N t;refine⟨hmK _ _ f.k s,fun j p m d q=>?_,fun h=>?_⟩
  ·by_cases e:j=i
   ·subst e;simp only[ef];exact W
   simp only[fg,ef,zu e]at q ⊢;exact hmV _ _ _ _ (f.v j p m d q) s
  simp only[fg,zu (Ne.symm H)]at h;obtain⟨g,p,m,d⟩:=f.b h;refine⟨g,by simp only[ef,zu (Ne.symm H)];exact p,m,?_⟩;simp only[fg,zu (Ne.symm U)];have O:=(N.block g (aB d)).trans d;cases I:lb is with
  | false=>rw[I]at O;exact O
  | true =>
   have J:lb id=true:=E is id hdep2 I;have e3:id≠i:=(fun e=>by rw[e,r]at J;cases J);rw[I]at O;simp only[ef,zu e3];exact O
 have u:∀(os:List Oper) (k:Nat),(∀i o,os[i]?=some o->(l.take n)[k+i]?=some o)->ce P l.toArray A (JB n ia is id B ty c0 c1 K V) k os:=by
  intro os
  induction os with
  | nil=>intro k _;trivial
  | cons o os ih =>
   intro k L;refine⟨?_,ih (k+1) fun i o' h=>?_⟩
   ·exact key k o (by have:=L 0 o rfl;simpa using this)
   ·have:=L (i+1) o' (by simpa using h)
    rw[show k+(i+1)=k+1+i by omega]at this;exact this
 refine kz hF n (JB n ia is id B ty c0 c1 K V) A hnd hm hB hA (fun vs=>⟨hK,fun _ _ _ _ h=>(by cases h),fun h=>(by cases h)⟩) (u _ 0 fun i o h=>by rw[xj];exact h) ?_;intro lb vs c r f;obtain⟨g,p,m,d⟩:=f.b (r ia hia);rw[r is his,zw rfl]at d;exact hT vs c g f.k (fun j Y a2 a3=>f.v j Y a2 a3 (r j Y)) p m d
theorem rU{F:Fence}{mm:Nat}(hF:F.plain=Fence.wide){o:Oper}{A a:Act}{w:World}{R:Value->World->Prop}{K:Act->World->Prop}{i:Nat}(hi:ops[i]?=some o)(hs:∀cs b,o.op≠.select cs b)(hd:∀c,o.op≠.defer c)(hl:∀t,t∈o.looksAt ops->a.tmps[t]?=A.tmps[t]?)(h:au P ops A R o w)(hK:∀v d,R v d->K (a.put o.dst v) d):wpOpIn F mm P ops Q i K a w:=by
 have g:∀f,F.fn f:=fun f=>by
  have:F.plain.fn f:=by rw[hF];trivial
  exact this
 have j:F.depth=none:=by
  have:F.plain.depth=none:=by rw[hF];rfl
  exact this
 obtain⟨m,n⟩:=dD hl;unfold wpOpIn;simp only[hi,n];unfold au at h;split at h
 ·rename_i k;rw[zw k];unfold Oper.wpIn;refine⟨fun f _=>g f,?_⟩;rw[Oper.semAt_plain F _ _ hd,execOp_congr o hs m]
  revert h
  generalize (execOp A.eval o).run P w=r;intro h;cases r with
  | halt x d=>exact absurd h (by simp)
  | ok nx d =>
   cases nx <;> simp only at h
   case value u=>exact hK u d h
   case enter f args =>
    refine⟨fun h=>by simp[j]at h,(aI hF h).mono fun e l p=>?_⟩;obtain⟨v,rfl,q⟩:=p;exact hK v l q
 rename_i k;rw[zu k];exact⟨fun f _=>g f,hK undef w h⟩
theorem vN{F:Fence}{mm:Nat}(hF:F.plain=Fence.wide)(hnd:mo ops=true){n g:Nat}{a:Act}{K:World->Prop}{V:Nat->Value->World->Prop}(hB:jq ops n=true)(hmK:∀w z,K w->Below w.heap.size w z->K z)(hmV:∀j v w z,V j v w->Below w.heap.size w z->V j v z)(hop:∀i o,i<n->ops[i]?=some o->∀(vs:Nat->Value) w,K w->(∀j,j<n->fy ops i j=true->V j (vs j) w)->au P ops (am ops vs n a) (fun v z=>V i v z/\Below w.heap.size w z) o w)(hT:∀(vs:Nat->Value) f w,HeadInv .any ops n f->(∀j,j<n->f.getD j false=true)->K w->(∀j,j<n->V j (vs j) w)->wpAnyIn F mm P .any ops Q g f (am ops vs n a) w):∀c f (vs:Nat->Value) w,HeadInv .any ops n f->fu f n=c->K w->(∀j,j<n->f.getD j false=true->V j (vs j) w)->wpAnyIn F mm P .any ops Q (c+g) f (bu ops vs f n a) w:=by
 simp only[jq,zy,xz,xi,xd]at hB;obtain⟨⟨⟨⟨I,hn⟩,p⟩,s⟩,_⟩:=hB
 have hd:∀j k,j<n->k<n->j≠k->∀d,ai ops j=some d->ai ops k≠some d:=fun j k r hk a0 d H J=>by
  have A:=p k hk;cases q:ops[k]? with
  | none=>simp[q]at A
  | some o =>
   simp only[q,zy,xi,xd]at A;have G:=A.2 j r;simp only[H,J,zy,wh,vq,bne_self_eq_false,Bool.false_eq_true,or_false]at G;exact a0 G.1
 intro c
 induction c with
 | zero =>
  intro f vs w inv hc X Y
  have l:∀j,j<n->f.getD j false=true:=fun j r=>by
   have H:=cB n hc j r;have J:j<f.size:=(by rw[inv.size];omega);simpa [J]using H
  rw[dV n l,xj];exact hT vs f w inv l X (fun j r=>Y j r (l j r))
 | succ c ih =>
  intro f vs w inv hc X Y;obtain⟨m,hm,L,M⟩:=dX n (by omega:0<fu f n)
  have N:m∈Region.ready .any ops f:=by
   rw[mem_ready];have A:=p m hm;cases q:ops[m]? with
   | none=>simp[q]at A
   | some o =>
    refine⟨L,o,rfl,fun e O B=>?_⟩;simp only[q,zy,Array.all_eq_true_iff_forall_mem,wh,Bool.not_eq_true',xz]at A;have G:=(A.1 e O).resolve_left (by simp[B]);have R:=M e.on G;have h6:e.on<f.size:=(by rw[inv.size];omega);simpa [h6]using R
  rw[show c+1+g=(c+g)+1 by omega];refine⟨fun h0=>(by rw[h0]at N;cases N),fun i Z=>?_⟩
  have u:i<n:=by
   rcases wm i n with h|h
   ·exact h
   ·obtain⟨_,o,q,_⟩:=mem_ready.1 Z;have a3:i<ops.size:=(Array.getElem?_eq_some_iff.1 q).1;simp only[wh,vq,zy]at s;rcases s with H|⟨H,J⟩
    ·omega
    ·exact absurd Z (tail_waits H J (by omega) inv _ m rfl hm L i h)
  obtain⟨x,o,q,l⟩:=mem_ready.1 Z;have S:o.dst=ai ops i:=(by simp[ai,q]);refine rU hF q (fun cs b=>Region.noSelect_spec I i o cs b q) (iJ hnd i o q) (fun t ht=>cS n fun j r a1=>?_) (hop i o u q vs w X fun j r y=>?_) fun v z a2=>?_
  ·have A:=p i u;simp only[q,zy,xi,xd]at A;have G:=A.2 j r;simp only[a1,zy,wh,Bool.not_eq_true',List.contains_eq_mem,ww]at G;rcases G.2 with R|R
   ·exact absurd ht R
   ·obtain⟨e,O,B⟩:=Array.any_eq_true'.1 R;simp only[zy,vq]at B;rw[<-B.2];exact l e O B.1
  ·unfold fy at y;simp only[q]at y;obtain⟨e,O,B⟩:=Array.any_eq_true'.1 y;simp only[zy,vq]at B
   have:=l e O B.1
   rw[B.2]at this;exact Y j r this
  ·obtain⟨hv,E⟩:=a2;have U:f.getD i false=false:=getD_both x
   have key:(bu ops vs f n a).put o.dst v=bu ops (fun j=>if j=i then v else vs j) (f.setIfInBounds i true) n a:=by
    rw[dU x n u hd,S];simp only[if_true]
    congr 1
    exact dE n fun j r W=>by
     have:j≠i:=(fun e=>by rw[e,U]at W;cases W);simp[this]
   rw[key];refine ih _ _ z (inv.set Z u) (by have:=dW x n u;omega) (hmK _ _ X E) fun j r W=>?_
   by_cases e:j=i
   ·subst e;simpa using hv
   ·simp only[e,if_false];rw[getD_set_ne false (fun h=>e h.symm)]at W;exact hmV _ _ _ _ (Y j r W) E
theorem oj{F:Fence}{mm:Nat}(hF:F.plain=Fence.wide){id:Nat}{l:List Oper}{a:Act}{w:World}(n:Nat)(K:World->Prop)(V:Nat->Value->World->Prop)(A:(Nat->Value)->Act)(hnd:mo l.toArray=true)(hm:P.follows .mixedOrders=true)(hB:jq l.toArray n=true)(hmK:∀w b,K w->Below w.heap.size w b->K b)(hmV:∀j v w b,V j v w->Below w.heap.size w b->V j v b)(hA:∀vs,am l.toArray vs n a=A vs)(hK:K w.drew)(hop:fo P l.toArray n A K V 0 (l.take n))(hT:∀(vs:Nat->Value) b,K b->(∀j,j<n->V j (vs j) b)->wpListIn F mm P l.toArray Q (l.drop n) (A vs) b):(Code.region id l.toArray true).wpIn F mm P Q a w:=by
 simp only[<-hA]at hT;have q:=hB;simp only[jq,zy,xz]at q;obtain⟨⟨⟨⟨_,I⟩,_⟩,_⟩,r⟩:=q;have L:n<=l.length:=by simpa using I
 have s:HeadInv .any l.toArray n (Array.replicate l.toArray.size false):=
  ⟨by simp,fun j S _ d=>(by rw[getD_replicate_false]at d;cases d),fun t _ M=>getD_in (by simpa using M) (getD_replicate_false _ _)⟩
 have u:∀m,m<=l.toArray.size->fu (Array.replicate l.toArray.size false) m=m:=fun m E=>by
  induction m with
  | zero=>rfl
  | succ m ih =>
   have k:(Array.replicate l.toArray.size false).getD m true=false:=getD_in (by simp at E ⊢;omega) (getD_replicate_false _ _);simp only[fu,ih (by omega),k,if_true]
 have x:∀m,bu l.toArray (fun _=>undef) (Array.replicate l.toArray.size false) m a=a:=fun m=>by
  induction m with
  | zero=>rfl
  | succ m ih=>simp only[bu,getD_replicate_false,Bool.false_eq_true,if_false,ih]
 refine wpIn_region_any hm ?_
 have H:=vN (P:=P) (Q:=Q) (mm:=mm) hF hnd (g:=l.toArray.size-n) (a:=a) (K:=K) (V:=V) hB hmK hmV
  (fun i o N O vs b f y=>by
   have:=hop.at_ _ _ i o (by simpa [N]using O) vs b f (by rw[xj];exact y)
   rw[xj]at this;rw[hA];exact this)
  (fun vs c b inv z f G=>by
   have e:c=ao n l.toArray.size:=by
    refine Array.ext_getElem? fun j=>?_
    rcases wm j l.toArray.size with p|p
    ·have k:j<c.size:=(by rw[inv.size];exact p);have J:j<l.length:=(by simpa using p);rcases wm j n with h|h
     ·have B:=z j h;simp[k]at B;simp[ao,k,J,B,h]
     ·have B:=inv.tail j h p;simp[k]at B;have R:¬ j<n:=(by omega);simp[ao,k,J,B,R]
    ·rw[wt (by rw[inv.size];exact p),wt (by simpa [ao]using p)]
   subst e;have d:(l.drop n).length=l.toArray.size-n:=by simp
   have:=dF (P:=P) (F:=F) (m:=mm) (md:=.any) (Q:=Q) (l.drop n) n (ao n l.toArray.size) (am l.toArray vs n a) b (fun j=>by simp[List.getElem?_drop]) (by rw[d];exact r) (hT vs b f G)
   rwa [d]at this)
  n (Array.replicate l.toArray.size false) (fun _=>undef) w.drew s (u n I) hK (fun j _ d=>(by rw[getD_replicate_false]at d;cases d))
 rw[x,show n+(l.toArray.size-n)=l.toArray.size by omega]at H;exact H
end
