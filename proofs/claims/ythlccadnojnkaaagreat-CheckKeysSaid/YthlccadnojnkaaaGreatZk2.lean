import Derived.Test.YthlccadnojnkaaaGreatZk1
import Derived.WalkKit
import Derived.Below
import Derived.ProofKit
import Derived.Lib.Hide
import Derived.Deep.QuietTactic
import Derived.BigQuiet
import Derived.StillTailTactics
import Derived.Deep.Cut
import Derived.Deep.RegionHeld3
import Derived.Deep.CutBlock
import Derived.Deep.CutRange
import Derived.Deep.LoopGhost
import Derived.Deep.RegionLaw
import Derived.IntWalk
import Derived.Deep.Onto
import Derived.Maps.AppendAt
import Derived.Maps.OwnIn
import Derived.StillTail
namespace Go.Proofs.YthlccadnojnkaaaGreat
open Go Go.RowKit Go.Proofs
theorem aC {W:World} {b:Nat} {o:Obj} (h:W.heap[b]?=some o):b<W.heap.size:=(Array.getElem?_eq_some_iff.1 h).1
theorem aA {W:World} {b:Nat} {cs:Array Value} {t:TypeId} (h:W.heap[b]?=some (.cells cs t)) (i:Nat):W.cell? ⟨b,i,none⟩=cs[i]?:=by simp[World.cell?,h]
theorem aB {W A B:World} (h:Below W.heap.size W A) (k:Below A.heap.size A B):Below W.heap.size W B:=h.trans (k.mono h.size)
theorem aD (W:World) (o:Obj):Below W.heap.size W (W.alloc o):=(Below.refl _ W).alloc (Nat.le_refl _) o
theorem aG (W:World) (q:Nat):Below W.heap.size W (W.drewN q):=⟨rfl,rfl,rfl,Nat.le_refl _,fun _ _=>rfl⟩
def HRow (w:World) (base:Nat) (e:TypeId) (size:Nat) (v:Value) (n:Nat) (xs:List Value):Prop :=
 xs.length=n*size/\((v=.slice none 0 0/\n=0) ∨
  ∃ g cap cur,v=.slice (some ⟨g,0,none⟩) n cap/\base<=g/\w.heap[g]?=some (.cells cur e (0,0))/\n<=cap/\cap<=maxLen/\cap*size<=cur.size/\cur.toList.take (n*size)=xs)
section
variable {w:World} {base:Nat} {e:TypeId} {size:Nat} {v:Value} {n:Nat} {xs:List Value}
theorem HRow.of_own (h:w.ownsRow base e size v n xs):HRow w base e size v n xs:=by
 refine⟨h.1,?_⟩;rcases h.2 with h2|⟨g,cap,cur,hv,hb,hg,hn,hc,hs,ht⟩
 ·exact .inl h2
 exact .inr ⟨g,cap,cur,hv,hb,hg,hn,hc,Nat.le_of_eq hs.symm,ht⟩
theorem HRow.nil:HRow w base e size (.slice none 0 0) 0 []:=HRow.of_own (World.ownsRow_nil _ _ _ _)
theorem HRow.lt (h:HRow w base e size v n xs):∀ k,v.ownBlock=some k->base<=k/\k<w.heap.size:=by
 intro k hk;rcases h.2 with ⟨rfl,_⟩ | ⟨g,cap,cur,rfl,hb,hg,_⟩
 ·simp[Value.ownBlock] at hk
 simp[Value.ownBlock] at hk;subst hk;exact⟨hb,(Array.getElem?_eq_some_iff.1 hg).1⟩
theorem HRow.block (h:HRow w base e size v n xs):∀ q,v.ownBlock=some q->base<=q/\∃ cur,w.heap[q]?=some (.cells cur e):=by
 intro k hk;rcases h.2 with ⟨rfl,_⟩ | ⟨g,cap,cur,rfl,hb,hg,_⟩
 ·simp[Value.ownBlock] at hk
 simp[Value.ownBlock] at hk;subst hk;exact⟨hb,cur,hg⟩
theorem HRow.of (h:HRow w base e size v n xs) {w':World} (hk:∀ k,v.ownBlock=some k->w'.heap[k]?=w.heap[k]?):HRow w' base e size v n xs:=by
 refine⟨h.1,?_⟩;rcases h.2 with hn|⟨g,cap,cur,rfl,hb,hg,rest⟩
 ·exact .inl hn
 exact .inr ⟨g,cap,cur,rfl,hb,(hk g (by simp[Value.ownBlock])).trans hg,rest⟩
theorem HRow.later (h:HRow w base e size v n xs) {w':World} (hb:Below w.heap.size w w'):HRow w' base e size v n xs :=
 h.of (fun k hk=>hb.block k (h.lt k hk).2)
theorem HRow.chg (h:HRow w base e size v n xs) {w':World} {mb:Nat} (hm:mb<base) (hc:Chg (fun b=>b=mb) w w'):HRow w' base e size v n xs :=
 h.of (fun k hk=>hc.block k (h.lt k hk).2 (fun e=>by have:=(h.lt k hk).1;omega))
variable {g cap:Nat}
theorem HRow.slice (h:HRow w base e size v n xs) (hn:0<n):∃ g cap,v=.slice (some ⟨g,0,none⟩) n cap/\n<=cap/\cap<=maxLen:=by
 rcases h.2 with ⟨_,h'⟩ | ⟨g',cap',cur,h',hb,hg,h1,h2,_,htake⟩
 ·omega
 exact⟨g',cap',h',h1,h2⟩
theorem HRow.isslice (h:HRow w base e size v n xs):∃ p cap,v=.slice p n cap/\n<=cap/\cap<=maxLen:=by
 rcases h.2 with ⟨h',h0⟩ | ⟨g',cap',cur,h',hb,hg,h1,h2,_,htake⟩
 ·subst h0;exact⟨none,0,h',Nat.le_refl _,Nat.zero_le _⟩
 exact⟨_,cap',h',h1,h2⟩
theorem HRow.form (h:HRow w base e size (.slice (some ⟨g,0,none⟩) n cap) n xs):∃ cur,base<=g/\w.heap[g]?=some (.cells cur e (0,0))/\n<=cap/\cap<=maxLen/\cap*size<=cur.size/\cur.toList.take (n*size)=xs:=by
 rcases h.2 with ⟨h',_⟩ | ⟨g',cap',cur,h',hb,hg,rest⟩
 ·simp at h'
 simp only[Value.slice.injEq,Option.some.injEq,Addr.mk.injEq,and_true,true_and] at h';obtain⟨rfl,rfl⟩:=h';exact⟨cur,hb,hg,rest⟩
theorem HRow.cellAt (h:HRow w base e size (.slice (some ⟨g,0,none⟩) n cap) n xs) (j:Nat) (hj:j<n*size):w.cell? ⟨g,j,none⟩=xs[j]?:=by
 obtain⟨cur,_,hg,_,_,_,htake⟩:=h.form;rw[cell_of_row w g j cur e (0,0) hg,<- htake,List.getElem?_take,if_pos hj]
 simp
theorem HRow.cell (h:HRow w base e size (.slice (some ⟨g,0,none⟩) n cap) n xs) {j:Nat} {u:Value} (hj:xs[j]?=some u):w.cell? ⟨g,j,none⟩=some u:=by
 have:j<xs.length:=(List.getElem?_eq_some_iff.1 hj).1;rw[h.cellAt j (by rw[<- h.1];exact this),hj]
theorem HRow.cells_add (h:HRow w base e size (.slice (some ⟨g,0,none⟩) n cap) n xs) {j:Nat} {u:Value} (hj:xs[j]?=some u):w.cell? ((⟨g,0,none⟩:Addr).add j)=some u:=by
 rw[Addr.add_lit,Nat.zero_add];exact h.cell hj
theorem HRow.frozenAt (h:HRow w base e size (.slice (some ⟨g,0,none⟩) n cap) n xs) (j:Nat):w.frozen? ⟨g,j,none⟩=false:=by
 obtain⟨cur,_,hg,_⟩:=h.form;exact frozen_of_row w g j cur e hg
theorem HRow.stored (h:HRow w base e size (.slice (some ⟨g,0,none⟩) n cap) n xs) (j:Nat) (u:Value) :
  HRow (w.setCell ⟨g,j,none⟩ u) base e size (.slice (some ⟨g,0,none⟩) n cap) n (xs.set j u)/\w.grownBy (w.setCell ⟨g,j,none⟩ u) (some g):=by
 obtain⟨cur,hb,hg,hnc,hcm,hcs,htake⟩:=h.form
 refine⟨⟨by simpa using h.1,.inr ⟨g,cap,cur.setIfInBounds j u,rfl,hb,heap_setCell_same w g j cur e u hg,hnc,hcm,by simpa using hcs,?_⟩⟩,
  ⟨rfl,rfl,rfl,by simp,fun k _ hk=>heap_setCell_other w ⟨g,j,none⟩ k u (fun e=>hk (by simp[e]))⟩⟩
 rw[Array.toList_setIfInBounds,<- htake,List.take_set]
end
section
variable {P:Program} (w:World)
theorem aY (base:Nat) (t ty e:TypeId) (i:TypeInfo) (z:Value) (size bytes:Nat) (ht:P.underlying t=some (.slice e)) (hi:P.info? e=some i) (hz:i.zero=some z)
  (hsize:i.size=size) (hby:i.bytes=bytes) (hzs:z.cells.size=size) (hsz:0<size)
  {v:Value} {n:Nat} {xs:List Value} (hown:HRow w base e size v n xs)
  (a:Addr) (m c:Nat) (news:List Value) (hl:news.length=m*size) (hnews:∀ j u,news[j]?=some u->w.cell? (a.add j)=some u) (h1:∀ u∈news,u.oneCell'=true)
  (hm:0<m) (h63:n+m<=maxLen) (hbytes:(n+m)*bytes<=140737488355328) (hbase:base<=w.heap.size) :
  ∃ g cap w',(Builtin.append_ #[t,t] ty #[v,.slice (some a) m c]).run P w=.ok (.slice (some ⟨g,0,none⟩) (n+m) cap) w'/\HRow w' base e size (.slice (some ⟨g,0,none⟩) (n+m) cap) (n+m) (xs++news)/\w.grownBy w' v.ownBlock/\(v.ownBlock=some g∨w.heap.size<=g):=by
 have hfin:(∃ v' w',(Builtin.append_ #[t,t] ty #[v,.slice (some a) m c]).run P w=.ok v' w'/\HRow w' base e size v' (n+m) (xs++news)/\w.grownBy w' v.ownBlock/\(∀ q,v'.ownBlock=some q->v.ownBlock=some q∨w.heap.size<=q))->∃ g cap w',(Builtin.append_ #[t,t] ty #[v,.slice (some a) m c]).run P w=.ok (.slice (some ⟨g,0,none⟩) (n+m) cap) w'/\HRow w' base e size (.slice (some ⟨g,0,none⟩) (n+m) cap) (n+m) (xs++news)/\w.grownBy w' v.ownBlock/\(v.ownBlock=some g∨w.heap.size<=g):=by
  rintro ⟨v',w',h1,h2,h3,h4⟩;obtain⟨g,cap,rfl,_⟩:=h2.slice (by omega);exact⟨g,cap,w',h1,h2,h3,h4 g rfl⟩
 apply hfin;rcases hown.2 with ⟨rfl,rfl⟩ | ⟨g,cap,cur,rfl,hbg,hg,hnc,hcm,hcs,htake⟩
 ·have hx:xs=[]:=List.eq_nil_of_length_eq_zero (by simpa using hown.1);subst hx;obtain⟨v',w',hr,h2,h3,_,h5⟩:=run_append_own_at (P:=P) w w.heap.size t ty e i z size bytes ht hi hz hsize hby hzs hsz (.slice none 0 0) 0 [] (World.ownsRow_nil _ _ _ _) a m c news hl hnews h1 (by omega) (by omega) (Nat.le_refl _);exact⟨v',w',hr,HRow.of_own (h2.mono hbase),h3,fun q hq=>.inr ((HRow.of_own h2).lt q hq).1⟩
 by_cases hroom:n+m<=cap
 ·subst hsize;have hfit:n*i.size+news.length<=cap*i.size:=(by rw[hl,<- Nat.add_mul];exact Nat.mul_le_mul_right _ hroom);have hr:=run_append_room (P:=P) w t ty e i ht hi g n cap cur hg a m c news hl hnews h1 hroom (by omega);have hll:cur.toList.length=cur.size:=Array.length_toList;refine⟨_,_,hr,⟨by rw[List.length_append,hown.1,hl,Nat.add_mul],.inr ⟨g,cap,_,rfl,hbg,setRow_heap w g cur _ e _ hg,hroom,hcm,?_,?_⟩⟩,⟨rfl,rfl,rfl,by simp,fun k _ hk=>setRow_other w g k _ (fun e=>hk (by simp[Value.ownBlock,e]))⟩,fun q hq=>.inl hq⟩
  ·simp only[List.size_toArray,List.length_append,List.length_take,List.length_drop,hll];omega
  show List.take ((n+m)*i.size) (cur.toList.take (n*i.size)++news++_)=_;rw[List.take_append_of_le_length (by simp only[List.length_append,List.length_take,hll];rw[Nat.add_mul];omega),htake,List.take_of_length_le (by rw[List.length_append,hown.1,hl,Nat.add_mul];exact Nat.le_refl _)]
 obtain⟨v',w',hr,h2,h3⟩:=run_append_arg_grows (P:=P) w t ty e i z size bytes ht hi hz hsize hby hzs hsz ⟨g,0,none⟩ n cap xs hown.1 (fun j u hj=>hown.cells_add hj) a m c news hl hnews (by omega) h63 hbytes;refine⟨v',w',hr,HRow.of_own (h2.mono hbase),⟨h3.os,h3.tape,h3.output,h3.size,fun k hk _=>h3.block k hk (by simp)⟩,fun q hq=>.inr ((HRow.of_own h2).lt q hq).1⟩
end
section
variable {P:Program}
theorem aK {w w':World} {ops:Array Oper} {rest:List Oper} {o:Oper} {a:Act} {Q:Exit->Act->World->Prop} {vs vx v':Value} (hgd:o.guard=none) (s x:Operand) (t:TypeId)
  (ho:o.op=.call { callee:=.builtin .append,args:=#[s,x],argTypes:=#[t,t] }) (hs:a.eval s=vs) (hx:a.eval x=vx)
  (hr:(Builtin.append_ #[t,t] o.type #[vs,vx]).run P w=.ok v' w')
  (h:wpList P ops Q rest (a.put o.dst v') w'):wpList P ops Q (o::rest) a w :=
 wpList_plain hgd fun _ hK=>by
  unfold Oper.wp execOp;simp only[ho,resolve,invoke,builtin,Sem.run_bind,Sem.run_pure,Result.andThen_ok,List.map_toArray,List.map_cons,List.map_nil,hs,hx,hr];exact hK _ _ h
theorem bJ {w w':World} {ops:Array Oper} {o:Oper} {a:Act} {K:Act->World->Prop} {Q:Exit->Act->World->Prop} {E:Prop} {vs vx v':Value} (hgd:o.guard=none) (s x:Operand) (t:TypeId)
  (ho:o.op=.call { callee:=.builtin .append,args:=#[s,x],argTypes:=#[t,t] }) (hs:a.eval s=vs) (hx:a.eval x=vx)
  (hr:(Builtin.append_ #[t,t] o.type #[vs,vx]).run P w=.ok v' w')
  (h:K (a.put o.dst v') w'):if Region.wanted o (yielded ops a.tmps)=true then Oper.wp P o a w K Q else E:=by
 have hw:Region.wanted o (yielded ops a.tmps)=true:=(by simp[Region.wanted,hgd]);rw[if_pos hw];unfold Oper.wp execOp;simp only[ho,resolve,invoke,builtin,Sem.run_bind,Sem.run_pure,Result.andThen_ok,List.map_toArray,List.map_cons,List.map_nil,hs,hx,hr];exact h
end
end Go.Proofs.YthlccadnojnkaaaGreat
namespace Go.Proofs.YthlccadnojnkaaaGreat.Par
open Go
section
variable {P:Program} {ops:Array Oper} {Q:Exit->Act->World->Prop}
def Gives (P:Program) (ops:Array Oper) (A:Act) (R:World->Prop) (o:Oper) (v:Value) (w:World):Prop :=
 if Region.wanted o (yielded ops A.tmps)=true then
  match (execOp A.eval o).run P w with
  | .ok (.value u) w'=>u=v/\R w'
  | .ok (.enter f args) w'=>Calls P f args w' fun e w''=>e=.returned v/\R w''
  | _=>False
 else v=undef/\R w
def dstAt (ops:Array Oper) (i:Nat):Option Tmp:=(ops[i]?).bind (·.dst)
def putL (ops:Array Oper) (vs:Nat->Value) (listed:Array Bool):Nat->Act->Act
 | 0,a=>a
 | m+1,a=>if listed.getD m false=true then (putL ops vs listed m a).put (dstAt ops m) (vs m) else putL ops vs listed m a
def putA (ops:Array Oper) (vs:Nat->Value):Nat->Act->Act
 | 0,a=>a
 | m+1,a=>(putA ops vs m a).put (dstAt ops m) (vs m)
theorem zP {vs:Nat->Value} {listed:Array Bool} {a:Act} {i:Nat}:∀ m,m<=i->putL ops vs (listed.setIfInBounds i true) m a=putL ops vs listed m a
 | 0,_=>rfl
 | m+1,h=>by
  have ih:=zP (vs:=vs) (listed:=listed) (a:=a) (i:=i) m (by omega);simp only[putL,getD_set_ne false (show i≠m by omega),ih]
theorem jA {vs:Nat->Value} {listed:Array Bool} {a:Act} {i:Nat} (hun:listed.getD i true=false):∀ m,i<m ->
  (∀ j k,j<m->k<m->j≠k->∀ d,dstAt ops j=some d->dstAt ops k≠some d)->putL ops vs (listed.setIfInBounds i true) m a=(putL ops vs listed m a).put (dstAt ops i) (vs i)
 | 0,h,_=>absurd h (Nat.not_lt_zero i)
 | m+1,h,hd=>by
  have hlt:i<listed.size:=by
   rcases Nat.lt_or_ge i listed.size with h' | h'
   ·exact h'
   ·simp[Array.getElem?_eq_none h'] at hun
  by_cases e:i=m
  ·subst e;have h0:listed.getD i false=false:=getD_both hun;have h1:(listed.setIfInBounds i true).getD i false=true:=(by simp[hlt]);simp only[putL,h0,h1,zP i (Nat.le_refl i),if_true];rfl
  ·have ih:=jA (vs:=vs) (a:=a) hun m (by omega) (fun j k hj hk=>hd j k (by omega) (by omega));simp only[putL,getD_set_ne false e,ih];split
   ·rw[Act.put_comm];intro d h1 h2;exact hd i m (by omega) (by omega) e d h1 h2
   ·rfl
theorem jB {vs:Nat->Value} {listed:Array Bool} {a:Act}:∀ m,(∀ j,j<m->listed.getD j false=true)->putL ops vs listed m a=putA ops vs m a
 | 0,_=>rfl
 | m+1,h=>by
  simp only[putL,putA,h m (by omega),if_true,jB m (fun j hj=>h j (by omega))]
theorem tB (a:Act) (d:Option Tmp) (v:Value):(a.put d v).tmps.size=a.tmps.size:=by cases d <;> simp[Act.put]
theorem jX {vs:Nat->Value} {listed:Array Bool} {a:Act}:∀ m,(putL ops vs listed m a).tmps.size=a.tmps.size
 | 0=>rfl
 | m+1=>by
  simp only[putL];split
  ·rw[tB,jX m]
  ·exact jX m
theorem pH {vs:Nat->Value} {a:Act}:∀ m,(putA ops vs m a).tmps.size=a.tmps.size
 | 0=>rfl
 | m+1=>by simp only[putA];rw[tB,pH m]
theorem qX (a:Act) (d:Option Tmp) (v:Value) (t:Nat):(a.put d v).tmps[t]?=if d=some t then (if t<a.tmps.size then some v else none) else a.tmps[t]?:=by
 cases d with
 | none=>simp[Act.put]
 | some d =>
  simp only[Act.put,Array.getElem?_setIfInBounds,Option.some.injEq];split
  ·rename_i h;subst h;rfl
  ·rfl
theorem gB {vs:Nat->Value} {listed:Array Bool} {a:Act} {t:Nat}:∀ m,(∀ j,j<m->dstAt ops j=some t->listed.getD j false=true) ->
  (putL ops vs listed m a).tmps[t]?=(putA ops vs m a).tmps[t]?
 | 0,_=>rfl
 | m+1,h=>by
  have ih:=gB (vs:=vs) (a:=a) m (fun j hj=>h j (by omega));by_cases e:dstAt ops m=some t
  ·simp only[putL,putA,h m (by omega) e,if_true,qX,e,jX,pH]
  ·simp only[putL,putA,qX,e,if_false];split
   ·rw[qX,if_neg e];exact ih
   ·exact ih
def cntL (listed:Array Bool):Nat->Nat
 | 0=>0
 | m+1=>cntL listed m+if listed.getD m true=false then 1 else 0
theorem zQ {listed:Array Bool} {i:Nat}:∀ m,m<=i->cntL (listed.setIfInBounds i true) m=cntL listed m
 | 0,_=>rfl
 | m+1,h=>by
  have ih:=zQ (listed:=listed) (i:=i) m (by omega);simp only[cntL,getD_set_ne true (show i≠m by omega),ih]
theorem jC {listed:Array Bool} {i:Nat} (hun:listed.getD i true=false):∀ m,i<m->cntL listed m=cntL (listed.setIfInBounds i true) m+1
 | 0,h=>absurd h (Nat.not_lt_zero i)
 | m+1,h=>by
  by_cases e:i=m
  ·subst e
   have h1:(listed.setIfInBounds i true).getD i true=true:=by
    rcases Nat.lt_or_ge i listed.size with h' | h'
    ·simp[h']
    ·simp[Array.getElem?_eq_none h'] at hun
   simp only[cntL,hun,h1,zQ i (Nat.le_refl i),if_true]
   simp
  ·have ih:=jC hun m (by omega);simp only[cntL,ih,getD_set_ne true e];omega
theorem eO {listed:Array Bool}:∀ m,cntL listed m=0->∀ j,j<m->listed.getD j true=true
 | 0,_,j,hj=>absurd hj (Nat.not_lt_zero j)
 | m+1,h,j,hj=>by
  simp only[cntL] at h;by_cases e:j=m
  ·subst e;cases hl:listed.getD j true
   ·rw[hl] at h;simp at h
   ·rfl
  ·exact eO m (by omega) j (by omega)
theorem jD {listed:Array Bool}:∀ m,0<cntL listed m->∃ j,j<m/\listed.getD j true=false/\∀ k,k<j->listed.getD k true=true
 | 0,h=>absurd h (Nat.lt_irrefl 0)
 | m+1,h=>by
  by_cases h0:0<cntL listed m
  ·obtain⟨j,hj,h1,h2⟩:=jD m h0;exact⟨j,by omega,h1,h2⟩
  ·refine⟨m,by omega,?_,fun k hk=>eO m (by omega) k hk⟩;simp only[cntL] at h;cases hl:listed.getD m true
   ·rfl
   ·rw[hl] at h;simp at h;omega
def headsOnly (n size:Nat):Array Bool:=Array.ofFn (n:=size) fun i=>decide (i.val<n)
def parB (ops:Array Oper) (n:Nat):Bool :=
 Region.noSelect ops&&decide (n<=ops.size) &&
 ((List.range n).all fun i=>match ops[i]? with
  | none=>false
  | some o=>o.after.all (fun e=>!Region.binds .any e || decide (e.on<i)) &&
   (List.range n).all fun j=>match dstAt ops j with
    | none=>true
    | some d=>(j==i || dstAt ops i != some d)&&(!(o.looksAt ops).contains d || o.after.any fun e=>Region.binds .any e&&e.on==j)) &&
 (n==ops.size || (Region.sinkB .any ops n&&Region.chainB .any ops n))&&Region.seqB .any ops (ops.size-n) n (headsOnly n ops.size)
theorem iA {o:Oper} {a a':Act} (h:∀ t,t∈o.looksAt ops->a.tmps[t]?=a'.tmps[t]?):(∀ x∈o.op.operands,a.eval x=a'.eval x) /\
  Region.wanted o (yielded ops a.tmps)=Region.wanted o (yielded ops a'.tmps):=by
 constructor
 ·intro x hx;cases x with
  | tmp t =>
   have h1:=h t (List.mem_append_left _ (List.mem_filterMap.2 ⟨.tmp t,by simpa using hx,rfl⟩));simp only[Act.eval,Array.getD_eq_getD_getElem?,h1]
  | const v=>rfl
  | global g=>rfl
  | func f=>rfl
 unfold Region.wanted;cases hg:o.guard with
 | none=>rfl
 | some gw =>
  obtain⟨g,want⟩:=gw
  have hy:yielded ops a.tmps g=yielded ops a'.tmps g:=by
   unfold yielded;cases ht:(ops[g]?).bind (·.dst) with
   | none=>rfl
   | some t=>simp only[qLq,h t (List.mem_append_right _ (by simp[hg,ht]))]
  simp only[hy]
theorem aCL {o:Oper} {v:Value} {A a:Act} {w:World} {R:World->Prop} {K:Act->World->Prop} {i:Nat} (hi:ops[i]?=some o)
  (hs:∀ cs b,o.op≠.select cs b) (hl:∀ t,t∈o.looksAt ops->a.tmps[t]?=A.tmps[t]?) (h:Gives P ops A R o v w) (hK:∀ w',R w'->K (a.put o.dst v) w'):wpOp P ops Q i K a w:=by
 obtain⟨h1,h2⟩:=iA hl;unfold wpOp;simp only[hi,h2];unfold Gives at h;split at h
 ·rename_i hw;rw[if_pos hw];refine .inl ?_;unfold Oper.wp;rw[execOp_congr o hs h1]
  revert h
  generalize (execOp A.eval o).run P w=r;intro h;cases r with
  | halt x w'=>exact absurd h (by simp)
  | ok n w' =>
   cases n <;> simp only[Oper.upon] at h ⊢
   case value u=>obtain⟨rfl,hR⟩:=h;exact hK w' hR
   case enter f args =>
    refine Calls.mono h fun e w'' he=>?_
    obtain⟨rfl,hR⟩:=he;exact hK w'' hR
 rename_i hw;rw[if_neg hw];obtain⟨rfl,hR⟩:=h;exact hK w hR
theorem aFa {n g:Nat} {a:Act} {vs:Nat->Value} {R:World->Prop} (hB:parB ops n=true)
  (hop:∀ i o,i<n->ops[i]?=some o->∀ w,R w->Gives P ops (putA ops vs n a) R o (vs i) w)
  (hT:∀ listed w,HeadInv .any ops n listed->(∀ j,j<n->listed.getD j false=true)->R w->wpAny P .any ops Q g listed (putA ops vs n a) w) :
  ∀ c listed w,HeadInv .any ops n listed->cntL listed n=c->R w->wpAny P .any ops Q (c+g) listed (putL ops vs listed n a) w:=by
 simp only[parB,Bool.and_eq_true,decide_eq_true_eq,List.all_eq_true,List.mem_range] at hB;obtain⟨⟨⟨⟨hsel,hn⟩,hhead⟩,htail⟩,_⟩:=hB
 have hd:∀ j k,j<n->k<n->j≠k->∀ d,dstAt ops j=some d->dstAt ops k≠some d:=fun j k hj hk hne d h1 h2=>by
  have h3:=hhead k hk;cases ho:ops[k]? with
  | none=>simp[ho] at h3
  | some o =>
   simp only[ho,Bool.and_eq_true,List.all_eq_true,List.mem_range] at h3;have h4:=h3.2 j hj;simp only[h1,h2,Bool.and_eq_true,Bool.or_eq_true,beq_iff_eq,bne_self_eq_false,Bool.false_eq_true,or_false] at h4;exact hne h4.1
 intro c
 induction c with
 | zero =>
  intro listed w inv hc hR
  have hall:∀ j,j<n->listed.getD j false=true:=fun j hj=>by
   have h1:=eO n hc j hj;have h2:j<listed.size:=(by rw[inv.size];omega);simpa [h2] using h1
  rw[jB n hall,Nat.zero_add];exact hT listed w inv hall hR
 | succ c ih =>
  intro listed w inv hc hR;obtain⟨m,hm,hun,hlow⟩:=jD n (by omega:0<cntL listed n)
  have hmr:m∈Region.ready .any ops listed:=by
   rw[mem_ready];have h3:=hhead m hm;cases ho:ops[m]? with
   | none=>simp[ho] at h3
   | some o =>
    refine⟨hun,o,rfl,fun e he hb=>?_⟩;simp only[ho,Bool.and_eq_true,Array.all_eq_true_iff_forall_mem,Bool.or_eq_true,Bool.not_eq_true',decide_eq_true_eq] at h3;have h4:=(h3.1 e he).resolve_left (by simp[hb]);have h5:=hlow e.on h4;have h6:e.on<listed.size:=(by rw[inv.size];omega);simpa [h6] using h5
  rw[show c+1+g=(c+g)+1 by omega];refine⟨fun h0=>(by rw[h0] at hmr;cases hmr),fun i hi=>?_⟩
  have hin:i<n:=by
   rcases Nat.lt_or_ge i n with h|h
   ·exact h
   ·obtain⟨_,o,ho,_⟩:=mem_ready.1 hi;have hio:i<ops.size:=(Array.getElem?_eq_some_iff.1 ho).1;simp only[Bool.or_eq_true,beq_iff_eq,Bool.and_eq_true] at htail;rcases htail with h1|⟨h1,h2⟩
    ·omega
    ·exact absurd hi (tail_waits h1 h2 (by omega) inv _ m rfl hm hun i h)
  obtain⟨hiun,o,ho,hall⟩:=mem_ready.1 hi;have hdst:o.dst=dstAt ops i:=(by simp[dstAt,ho]);refine aCL ho (fun cs b=>Region.noSelect_spec hsel i o cs b ho) (fun t ht=>gB n fun j hj hjd=>?_) (hop i o hin ho w hR) fun w' hR'=>?_
  ·have h3:=hhead i hin;simp only[ho,Bool.and_eq_true,List.all_eq_true,List.mem_range] at h3;have h4:=h3.2 j hj;simp only[hjd,Bool.and_eq_true,Bool.or_eq_true,Bool.not_eq_true',List.contains_eq_mem,decide_eq_false_iff_not] at h4;rcases h4.2 with h5|h5
   ·exact absurd ht h5
   ·obtain⟨e,he,hb⟩:=Array.any_eq_true'.1 h5;simp only[Bool.and_eq_true,beq_iff_eq] at hb;rw[<- hb.2];exact hall e he hb.1
  ·rw[hdst,<- jA hiun n hin hd];exact ih _ w' (inv.set hi hin) (by have:=jC hiun n hin;omega) hR'
def GiveAll (P:Program) (ops:Array Oper) (A:Act) (R:World->Prop):List Oper->List Value->Prop
 | [],_=>True
 | _::_,[]=>False
 | o::os,v::vs=>(∀ w,R w->Gives P ops A R o v w)/\GiveAll P ops A R os vs
theorem GiveAll.at_ {A:Act} {R:World->Prop}:∀ (os:List Oper) (vs:List Value),GiveAll P ops A R os vs->∀ i o,os[i]?=some o->∀ w,R w->Gives P ops A R o (vs.getD i undef) w
 | [],_,_,i,o,h,_,_=>by simp at h
 | _::_,[],hg,_,_,_,_,_=>absurd hg (by simp[GiveAll])
 | o::os,v::vs,hg,0,o',h,w,hR=>by
  have:o=o':=(by simpa using h);subst this;exact hg.1 w hR
 | o::os,v::vs,hg,i+1,o',h,w,hR=>by
  have:=GiveAll.at_ os vs hg.2 i o' (by simpa using h) w hR
  simpa using this
theorem wp_region_par {id:Nat} {l:List Oper} {a:Act} {w:World} (n:Nat) (vs:List Value) (R:World->Prop) (A:Act) (hm:P.follows .mixedOrders=true) (hB:parB l.toArray n=true)
  (hA:putA l.toArray (fun i=>vs.getD i undef) n a=A) (hR:R w.drew) (hop:GiveAll P l.toArray A R (l.take n) vs)
  (hT:∀ w',R w'->wpList P l.toArray Q (l.drop n) A w'):(Code.region id l.toArray true).wp P Q a w:=by
 subst hA;have hB':=hB;simp only[parB,Bool.and_eq_true,decide_eq_true_eq] at hB';obtain⟨⟨⟨⟨_,hn⟩,_⟩,_⟩,hseq⟩:=hB';have hn':n<=l.length:=by simpa using hn
 have inv0:HeadInv .any l.toArray n (Array.replicate l.toArray.size false) :=
  ⟨by simp,fun j oj _ hl=>(by rw[getD_replicate_false] at hl;cases hl),fun t _ ht=>getD_in (by simpa using ht) (getD_replicate_false _ _)⟩
 have hcnt:∀ m,m<=l.toArray.size->cntL (Array.replicate l.toArray.size false) m=m:=fun m hm'=>by
  induction m with
  | zero=>rfl
  | succ m ih =>
   have h1:(Array.replicate l.toArray.size false).getD m true=false:=getD_in (by simp at hm' ⊢;omega) (getD_replicate_false _ _);simp only[cntL,ih (by omega),h1,if_true]
 have hput:∀ m,putL l.toArray (fun i=>vs.getD i undef) (Array.replicate l.toArray.size false) m a=a:=fun m=>by
  induction m with
  | zero=>rfl
  | succ m ih=>simp only[putL,getD_replicate_false,Bool.false_eq_true,if_false,ih]
 refine wp_region_any hm ?_
 have H:=aFa (P:=P) (Q:=Q) (g:=l.toArray.size-n) (a:=a) (vs:=fun i=>vs.getD i undef) (R:=R) hB
  (fun i o hi ho w' hR'=>hop.at_ _ _ i o (by simpa [hi] using ho) w' hR')
  (fun listed w' inv hall hR'=>by
   have e:listed=headsOnly n l.toArray.size:=by
    refine Array.ext_getElem? fun j=>?_
    rcases Nat.lt_or_ge j l.toArray.size with hj|hj
    ·have h1:j<listed.size:=(by rw[inv.size];exact hj);have h2:j<l.length:=(by simpa using hj);rcases Nat.lt_or_ge j n with h|h
     ·have h3:=hall j h;simp[h1] at h3;simp[headsOnly,h1,h2,h3,h]
     ·have h3:=inv.tail j h hj;simp[h1] at h3;have h4:¬ j<n:=(by omega);simp[headsOnly,h1,h2,h3,h4]
    ·rw[Array.getElem?_eq_none (by rw[inv.size];exact hj),Array.getElem?_eq_none (by simpa [headsOnly] using hj)]
   subst e;have hl:(l.drop n).length=l.toArray.size-n:=by simp
   have:=wpAny_of_seq (md:=.any) (Q':=Q) (l.drop n) n (headsOnly n l.toArray.size) (putA l.toArray (fun i=>vs.getD i undef) n a) w' (fun j=>by simp[List.getElem?_drop]) (by rw[hl];exact hseq) (hT w' hR')
   rwa [hl] at this)
  n (Array.replicate l.toArray.size false) w.drew inv0 (hcnt n hn) hR
 rw[hput,show n+(l.toArray.size-n)=l.toArray.size by omega] at H;exact H
end
end Go.Proofs.YthlccadnojnkaaaGreat.Par
namespace Go.Proofs.YthlccadnojnkaaaGreat.Par
open Go Go.RowKit
section
variable {P:Program} {ops:Array Oper} {Q:Exit->Act->World->Prop}
def GivesV (P:Program) (ops:Array Oper) (A:Act) (R:Value->World->Prop) (o:Oper) (w:World):Prop :=
 if Region.wanted o (yielded ops A.tmps)=true then
  match (execOp A.eval o).run P w with
  | .ok (.value u) w'=>R u w'
  | .ok (.enter f args) w'=>Calls P f args w' fun e w''=>∃ v,e=.returned v/\R v w''
  | _=>False
 else R undef w
theorem aBh {o:Oper} {A a:Act} {w:World} {R:Value->World->Prop} {K:Act->World->Prop} {i:Nat} (hi:ops[i]?=some o)
  (hs:∀ cs b,o.op≠.select cs b) (hl:∀ t,t∈o.looksAt ops->a.tmps[t]?=A.tmps[t]?) (h:GivesV P ops A R o w) (hK:∀ v w',R v w'->K (a.put o.dst v) w'):wpOp P ops Q i K a w:=by
 obtain⟨h1,h2⟩:=iA hl;unfold wpOp;simp only[hi,h2];unfold GivesV at h;split at h
 ·rename_i hw;rw[if_pos hw];refine .inl ?_;unfold Oper.wp;rw[execOp_congr o hs h1]
  revert h
  generalize (execOp A.eval o).run P w=r;intro h;cases r with
  | halt x w'=>exact absurd h (by simp)
  | ok n w' =>
   cases n <;> simp only[Oper.upon] at h ⊢
   case value u=>exact hK u w' h
   case enter f args =>
    refine Calls.mono h fun e w'' he=>?_
    obtain⟨v,rfl,hR⟩:=he;exact hK v w'' hR
 rename_i hw;rw[if_neg hw];exact hK undef w h
theorem iB {vs vs':Nat->Value} {listed:Array Bool} {a:Act}:∀ m,(∀ j,j<m->listed.getD j false=true->vs j=vs' j)->putL ops vs listed m a=putL ops vs' listed m a
 | 0,_=>rfl
 | m+1,h=>by
  have ih:=iB (a:=a) m (fun j hj=>h j (by omega));simp only[putL,ih];split
  ·rename_i hl;rw[h m (by omega) hl]
  ·rfl
def depB (ops:Array Oper) (i j:Nat):Bool:=match ops[i]? with|none=>false|some o=>o.after.any fun e=>Region.binds .any e&&e.on==j
theorem aCM {n g:Nat} {a:Act} {K:World->Prop} {V:Nat->Value->World->Prop} (hB:parB ops n=true)
  (hmK:∀ w w',K w->Below w.heap.size w w'->K w') (hmV:∀ j v w w',V j v w->Below w.heap.size w w'->V j v w')
  (hop:∀ i o,i<n->ops[i]?=some o->∀ (vs:Nat->Value) w,K w->(∀ j,j<n->depB ops i j=true->V j (vs j) w)->GivesV P ops (putA ops vs n a) (fun v w'=>V i v w'/\Below w.heap.size w w') o w)
  (hT:∀ (vs:Nat->Value) listed w,HeadInv .any ops n listed->(∀ j,j<n->listed.getD j false=true)->K w->(∀ j,j<n->V j (vs j) w)->wpAny P .any ops Q g listed (putA ops vs n a) w) :
  ∀ c listed (vs:Nat->Value) w,HeadInv .any ops n listed->cntL listed n=c->K w->(∀ j,j<n->listed.getD j false=true->V j (vs j) w)->wpAny P .any ops Q (c+g) listed (putL ops vs listed n a) w:=by
 simp only[parB,Bool.and_eq_true,decide_eq_true_eq,List.all_eq_true,List.mem_range] at hB;obtain⟨⟨⟨⟨hsel,hn⟩,hhead⟩,htail⟩,_⟩:=hB
 have hd:∀ j k,j<n->k<n->j≠k->∀ d,dstAt ops j=some d->dstAt ops k≠some d:=fun j k hj hk hne d h1 h2=>by
  have h3:=hhead k hk;cases ho:ops[k]? with
  | none=>simp[ho] at h3
  | some o =>
   simp only[ho,Bool.and_eq_true,List.all_eq_true,List.mem_range] at h3;have h4:=h3.2 j hj;simp only[h1,h2,Bool.and_eq_true,Bool.or_eq_true,beq_iff_eq,bne_self_eq_false,Bool.false_eq_true,or_false] at h4;exact hne h4.1
 intro c
 induction c with
 | zero =>
  intro listed vs w inv hc hK hV
  have hall:∀ j,j<n->listed.getD j false=true:=fun j hj=>by
   have h1:=eO n hc j hj;have h2:j<listed.size:=(by rw[inv.size];omega);simpa [h2] using h1
  rw[jB n hall,Nat.zero_add];exact hT vs listed w inv hall hK (fun j hj=>hV j hj (hall j hj))
 | succ c ih =>
  intro listed vs w inv hc hK hV;obtain⟨m,hm,hun,hlow⟩:=jD n (by omega:0<cntL listed n)
  have hmr:m∈Region.ready .any ops listed:=by
   rw[mem_ready];have h3:=hhead m hm;cases ho:ops[m]? with
   | none=>simp[ho] at h3
   | some o =>
    refine⟨hun,o,rfl,fun e he hb=>?_⟩;simp only[ho,Bool.and_eq_true,Array.all_eq_true_iff_forall_mem,Bool.or_eq_true,Bool.not_eq_true',decide_eq_true_eq] at h3;have h4:=(h3.1 e he).resolve_left (by simp[hb]);have h5:=hlow e.on h4;have h6:e.on<listed.size:=(by rw[inv.size];omega);simpa [h6] using h5
  rw[show c+1+g=(c+g)+1 by omega];refine⟨fun h0=>(by rw[h0] at hmr;cases hmr),fun i hi=>?_⟩
  have hin:i<n:=by
   rcases Nat.lt_or_ge i n with h|h
   ·exact h
   ·obtain⟨_,o,ho,_⟩:=mem_ready.1 hi;have hio:i<ops.size:=(Array.getElem?_eq_some_iff.1 ho).1;simp only[Bool.or_eq_true,beq_iff_eq,Bool.and_eq_true] at htail;rcases htail with h1|⟨h1,h2⟩
    ·omega
    ·exact absurd hi (tail_waits h1 h2 (by omega) inv _ m rfl hm hun i h)
  obtain⟨hiun,o,ho,hall⟩:=mem_ready.1 hi;have hdst:o.dst=dstAt ops i:=(by simp[dstAt,ho]);refine aBh ho (fun cs b=>Region.noSelect_spec hsel i o cs b ho) (fun t ht=>gB n fun j hj hjd=>?_) (hop i o hin ho vs w hK fun j hj hdep=>?_) fun v w' hR'=>?_
  ·have h3:=hhead i hin;simp only[ho,Bool.and_eq_true,List.all_eq_true,List.mem_range] at h3;have h4:=h3.2 j hj;simp only[hjd,Bool.and_eq_true,Bool.or_eq_true,Bool.not_eq_true',List.contains_eq_mem,decide_eq_false_iff_not] at h4;rcases h4.2 with h5|h5
   ·exact absurd ht h5
   ·obtain⟨e,he,hb⟩:=Array.any_eq_true'.1 h5;simp only[Bool.and_eq_true,beq_iff_eq] at hb;rw[<- hb.2];exact hall e he hb.1
  ·unfold depB at hdep;simp only[ho] at hdep;obtain⟨e,he,hb⟩:=Array.any_eq_true'.1 hdep;simp only[Bool.and_eq_true,beq_iff_eq] at hb
   have:=hall e he hb.1
   rw[hb.2] at this;exact hV j hj this
  ·obtain⟨hv,hbel⟩:=hR';have hunl:listed.getD i false=false:=getD_both hiun
   have key:(putL ops vs listed n a).put o.dst v=putL ops (fun j=>if j=i then v else vs j) (listed.setIfInBounds i true) n a:=by
    rw[jA hiun n hin hd,hdst];simp only[if_true]
    congr 1
    exact iB n fun j hj hl=>by
     have:j≠i:=(fun e=>by rw[e,hunl] at hl;cases hl);simp[this]
   rw[key];refine ih _ _ w' (inv.set hi hin) (by have:=jC hiun n hin;omega) (hmK _ _ hK hbel) fun j hj hl=>?_
   by_cases e:j=i
   ·subst e;simpa using hv
   ·simp only[e,if_false];rw[getD_set_ne false (fun h=>e h.symm)] at hl;exact hmV _ _ _ _ (hV j hj hl) hbel
def GiveAllV (P:Program) (ops:Array Oper) (n:Nat) (A:(Nat->Value)->Act) (K:World->Prop) (V:Nat->Value->World->Prop):Nat->List Oper->Prop
 | _,[]=>True
 | i,o::os=>(∀ (vs:Nat->Value) w,K w->(∀ j,j<n->depB ops i j=true->V j (vs j) w)->GivesV P ops (A vs) (fun v w'=>V i v w'/\Below w.heap.size w w') o w)/\GiveAllV P ops n A K V (i+1) os
theorem GiveAllV.at_ {n:Nat} {A:(Nat->Value)->Act} {K:World->Prop} {V:Nat->Value->World->Prop}:∀ (os:List Oper) (k:Nat),GiveAllV P ops n A K V k os->∀ i o,os[i]?=some o->∀ (vs:Nat->Value) w,K w->(∀ j,j<n->depB ops (k+i) j=true->V j (vs j) w)->GivesV P ops (A vs) (fun v w'=>V (k+i) v w'/\Below w.heap.size w w') o w
 | [],_,_,i,o,h=>by simp at h
 | o::os,k,hg,0,o',h=>by
  have:o=o':=(by simpa using h);subst this;exact hg.1
 | o::os,k,hg,i+1,o',h=>by
  have:=GiveAllV.at_ os (k+1) hg.2 i o' (by simpa using h)
  rw[show k+1+i=k+(i+1) by omega] at this;exact this
def VW:Type:={ R:Value->World->Prop // ∀ v w w',R v w->Below w.heap.size w w'->R v w' }
def VW.eq (x:Value):VW:=⟨fun v _=>v=x,fun _ _ _ h _=>h⟩
def VW.any:VW:=⟨fun _ _=>True,fun _ _ _ h _=>h⟩
def VW.obj (f:Nat->Value) (o:Obj):VW:=⟨fun v w=>∃ g,v=f g/\w.heap[g]?=some o,fun v w w' h hb=>by
 obtain⟨g,h1,h2⟩:=h;exact⟨g,h1,(hb.block g (aC h2)).trans h2⟩⟩
def VW.objN (B:Nat) (f:Nat->Value) (o:Obj):VW:=⟨fun v w=>∃ g,B<=g/\v=f g/\w.heap[g]?=some o,fun v w w' h hb=>by
 obtain⟨g,h0,h1,h2⟩:=h;exact⟨g,h0,h1,(hb.block g (aC h2)).trans h2⟩⟩
def VL (l:List VW) (j:Nat) (v:Value) (w:World):Prop:=(l.getD j VW.any).1 v w
theorem VL.mono (l:List VW) (j:Nat) (v:Value) (w w':World) (h:VL l j v w) (hb:Below w.heap.size w w'):VL l j v w':=(l.getD j VW.any).2 v w w' h hb
theorem wp_region_par2 {id:Nat} {l:List Oper} {a:Act} {w:World} (n:Nat) (K:World->Prop) (V:Nat->Value->World->Prop) (A:(Nat->Value)->Act) (hm:P.follows .mixedOrders=true) (hB:parB l.toArray n=true)
  (hmK:∀ w w',K w->Below w.heap.size w w'->K w') (hmV:∀ j v w w',V j v w->Below w.heap.size w w'->V j v w') (hA:∀ vs,putA l.toArray vs n a=A vs) (hK:K w.drew)
  (hop:GiveAllV P l.toArray n A K V 0 (l.take n))
  (hT:∀ (vs:Nat->Value) w',K w'->(∀ j,j<n->V j (vs j) w')->wpList P l.toArray Q (l.drop n) (A vs) w'):(Code.region id l.toArray true).wp P Q a w:=by
 simp only[<- hA] at hT;have hB':=hB;simp only[parB,Bool.and_eq_true,decide_eq_true_eq] at hB';obtain⟨⟨⟨⟨_,hn⟩,_⟩,_⟩,hseq⟩:=hB';have hn':n<=l.length:=by simpa using hn
 have inv0:HeadInv .any l.toArray n (Array.replicate l.toArray.size false) :=
  ⟨by simp,fun j oj _ hl=>(by rw[getD_replicate_false] at hl;cases hl),fun t _ ht=>getD_in (by simpa using ht) (getD_replicate_false _ _)⟩
 have hcnt:∀ m,m<=l.toArray.size->cntL (Array.replicate l.toArray.size false) m=m:=fun m hm'=>by
  induction m with
  | zero=>rfl
  | succ m ih =>
   have h1:(Array.replicate l.toArray.size false).getD m true=false:=getD_in (by simp at hm' ⊢;omega) (getD_replicate_false _ _);simp only[cntL,ih (by omega),h1,if_true]
 have hput:∀ m,putL l.toArray (fun _=>undef) (Array.replicate l.toArray.size false) m a=a:=fun m=>by
  induction m with
  | zero=>rfl
  | succ m ih=>simp only[putL,getD_replicate_false,Bool.false_eq_true,if_false,ih]
 refine wp_region_any hm ?_
 have H:=aCM (P:=P) (Q:=Q) (g:=l.toArray.size-n) (a:=a) (K:=K) (V:=V) hB hmK hmV
  (fun i o hi ho vs w' hK' hdep=>by
   have:=hop.at_ _ _ i o (by simpa [hi] using ho) vs w' hK' (by rw[Nat.zero_add];exact hdep)
   rw[Nat.zero_add] at this;rw[hA];exact this)
  (fun vs listed w' inv hall hK' hV'=>by
   have e:listed=headsOnly n l.toArray.size:=by
    refine Array.ext_getElem? fun j=>?_
    rcases Nat.lt_or_ge j l.toArray.size with hj|hj
    ·have h1:j<listed.size:=(by rw[inv.size];exact hj);have h2:j<l.length:=(by simpa using hj);rcases Nat.lt_or_ge j n with h|h
     ·have h3:=hall j h;simp[h1] at h3;simp[headsOnly,h1,h2,h3,h]
     ·have h3:=inv.tail j h hj;simp[h1] at h3;have h4:¬ j<n:=(by omega);simp[headsOnly,h1,h2,h3,h4]
    ·rw[Array.getElem?_eq_none (by rw[inv.size];exact hj),Array.getElem?_eq_none (by simpa [headsOnly] using hj)]
   subst e;have hl:(l.drop n).length=l.toArray.size-n:=by simp
   have:=wpAny_of_seq (md:=.any) (Q':=Q) (l.drop n) n (headsOnly n l.toArray.size) (putA l.toArray vs n a) w' (fun j=>by simp[List.getElem?_drop]) (by rw[hl];exact hseq) (hT vs w' hK' hV')
   rwa [hl] at this)
  n (Array.replicate l.toArray.size false) (fun _=>undef) w.drew inv0 (hcnt n hn) hK (fun j _ hl=>(by rw[getD_replicate_false] at hl;cases hl))
 rw[hput,show n+(l.toArray.size-n)=l.toArray.size by omega] at H;exact H
end
section
variable {P:Program} {ops:Array Oper} {Q:Exit->Act->World->Prop}
def upB (l:Nat->Bool) (i:Nat):Nat->Bool:=fun j=>if j=i then true else l j
def upV (vs:Nat->Value) (i:Nat) (v:Value):Nat->Value:=fun j=>if j=i then v else vs j
def GiveAllJ (P:Program) (ops:Array Oper) (A:(Nat->Value)->Act) (J:(Nat->Bool)->(Nat->Value)->World->Prop):Nat->List Oper->Prop
 | _,[]=>True
 | i,o::os=>(∀ (l:Nat->Bool) (vs:Nat->Value) w,J l vs w->l i=false->(∀ j,depB ops i j=true->l j=true)->(∀ a b,depB ops a b=true->l a=true->l b=true)->GivesV P ops (A vs) (fun v w'=>J (upB l i) (upV vs i v) w') o w)/\GiveAllJ P ops A J (i+1) os
end
section
variable {P:Program} {ops:Array Oper} {Q:Exit->Act->World->Prop}
def GivesW (P:Program) (ops:Array Oper) (A:Act) (R:Value->World->Prop) (o:Oper) (w:World):Prop :=
 if Region.wanted o (yielded ops A.tmps)=true then
  match (execOp A.eval o).run P w with
  | .ok (.value u) w'=>R u w'
  | .ok .skip w'=>R undef w'
  | .ok (.enter f args) w'=>Calls P f args w' fun e w''=>∃ v,e=.returned v/\R v w''
  | _=>False
 else R undef w
theorem aBi {o:Oper} {A a:Act} {w:World} {R:Value->World->Prop} {K:Act->World->Prop} {i:Nat} (hi:ops[i]?=some o)
  (hs:∀ cs b,o.op≠.select cs b) (hl:∀ t,t∈o.looksAt ops->a.tmps[t]?=A.tmps[t]?) (h:GivesW P ops A R o w) (hK:∀ v w',R v w'->K (a.put o.dst v) w'):wpOp P ops Q i K a w:=by
 obtain⟨h1,h2⟩:=iA hl;unfold wpOp;simp only[hi,h2];unfold GivesW at h;split at h
 ·rename_i hw;rw[if_pos hw];refine .inl ?_;unfold Oper.wp;rw[execOp_congr o hs h1]
  revert h
  generalize (execOp A.eval o).run P w=r;intro h;cases r with
  | halt x w'=>exact absurd h (by simp)
  | ok n w' =>
   cases n <;> simp only[Oper.upon] at h ⊢
   case value u=>exact hK u w' h
   case skip=>exact hK undef w' h
   case enter f args =>
    refine Calls.mono h fun e w'' he=>?_
    obtain⟨v,rfl,hR⟩:=he;exact hK v w'' hR
 rename_i hw;rw[if_neg hw];exact hK undef w h
theorem aCN {n g:Nat} {a:Act} {J:(Nat->Bool)->(Nat->Value)->World->Prop} (hB:parB ops n=true)
  (hop:∀ i o,i<n->ops[i]?=some o->∀ (l:Nat->Bool) (vs:Nat->Value) w,J l vs w->l i=false->(∀ j,depB ops i j=true->l j=true)->(∀ a b,depB ops a b=true->l a=true->l b=true)->GivesW P ops (putA ops vs n a) (fun v w'=>J (upB l i) (upV vs i v) w') o w)
  (hT:∀ (vs:Nat->Value) listed w,HeadInv .any ops n listed->(∀ j,j<n->listed.getD j false=true)->J (fun j=>listed.getD j false) vs w->wpAny P .any ops Q g listed (putA ops vs n a) w) :
  ∀ c listed (vs:Nat->Value) w,HeadInv .any ops n listed->cntL listed n=c->J (fun j=>listed.getD j false) vs w->wpAny P .any ops Q (c+g) listed (putL ops vs listed n a) w:=by
 simp only[parB,Bool.and_eq_true,decide_eq_true_eq,List.all_eq_true,List.mem_range] at hB;obtain⟨⟨⟨⟨hsel,hn⟩,hhead⟩,htail⟩,_⟩:=hB
 have hd:∀ j k,j<n->k<n->j≠k->∀ d,dstAt ops j=some d->dstAt ops k≠some d:=fun j k hj hk hne d h1 h2=>by
  have h3:=hhead k hk;cases ho:ops[k]? with
  | none=>simp[ho] at h3
  | some o =>
   simp only[ho,Bool.and_eq_true,List.all_eq_true,List.mem_range] at h3;have h4:=h3.2 j hj;simp only[h1,h2,Bool.and_eq_true,Bool.or_eq_true,beq_iff_eq,bne_self_eq_false,Bool.false_eq_true,or_false] at h4;exact hne h4.1
 intro c
 induction c with
 | zero =>
  intro listed vs w inv hc hJ
  have hall:∀ j,j<n->listed.getD j false=true:=fun j hj=>by
   have h1:=eO n hc j hj;have h2:j<listed.size:=(by rw[inv.size];omega);simpa [h2] using h1
  rw[jB n hall,Nat.zero_add];exact hT vs listed w inv hall hJ
 | succ c ih =>
  intro listed vs w inv hc hJ;obtain⟨m,hm,hun,hlow⟩:=jD n (by omega:0<cntL listed n)
  have hmr:m∈Region.ready .any ops listed:=by
   rw[mem_ready];have h3:=hhead m hm;cases ho:ops[m]? with
   | none=>simp[ho] at h3
   | some o =>
    refine⟨hun,o,rfl,fun e he hb=>?_⟩;simp only[ho,Bool.and_eq_true,Array.all_eq_true_iff_forall_mem,Bool.or_eq_true,Bool.not_eq_true',decide_eq_true_eq] at h3;have h4:=(h3.1 e he).resolve_left (by simp[hb]);have h5:=hlow e.on h4;have h6:e.on<listed.size:=(by rw[inv.size];omega);simpa [h6] using h5
  rw[show c+1+g=(c+g)+1 by omega];refine⟨fun h0=>(by rw[h0] at hmr;cases hmr),fun i hi=>?_⟩
  have hin:i<n:=by
   rcases Nat.lt_or_ge i n with h|h
   ·exact h
   ·obtain⟨_,o,ho,_⟩:=mem_ready.1 hi;have hio:i<ops.size:=(Array.getElem?_eq_some_iff.1 ho).1;simp only[Bool.or_eq_true,beq_iff_eq,Bool.and_eq_true] at htail;rcases htail with h1|⟨h1,h2⟩
    ·omega
    ·exact absurd hi (tail_waits h1 h2 (by omega) inv _ m rfl hm hun i h)
  obtain⟨hiun,o,ho,hall⟩:=mem_ready.1 hi;have hdst:o.dst=dstAt ops i:=(by simp[dstAt,ho]);refine aBi ho (fun cs b=>Region.noSelect_spec hsel i o cs b ho) (fun t ht=>gB n fun j hj hjd=>?_) (hop i o hin ho (fun j=>listed.getD j false) vs w hJ (getD_both hiun) (fun j hdep=>?_) fun x y hxy hx=>?_) fun v w' hR'=>?_
  ·have h3:=hhead i hin;simp only[ho,Bool.and_eq_true,List.all_eq_true,List.mem_range] at h3;have h4:=h3.2 j hj;simp only[hjd,Bool.and_eq_true,Bool.or_eq_true,Bool.not_eq_true',List.contains_eq_mem,decide_eq_false_iff_not] at h4;rcases h4.2 with h5|h5
   ·exact absurd ht h5
   ·obtain⟨e,he,hb⟩:=Array.any_eq_true'.1 h5;simp only[Bool.and_eq_true,beq_iff_eq] at hb;rw[<- hb.2];exact hall e he hb.1
  ·unfold depB at hdep;simp only[ho] at hdep;obtain⟨e,he,hb⟩:=Array.any_eq_true'.1 hdep;simp only[Bool.and_eq_true,beq_iff_eq] at hb
   have:=hall e he hb.1
   rw[hb.2] at this;exact this
  ·unfold depB at hxy;cases hox:ops[x]? with
   | none=>simp[hox] at hxy
   | some ox =>
    simp only[hox] at hxy;obtain⟨e,he,hb⟩:=Array.any_eq_true'.1 hxy;simp only[Bool.and_eq_true,beq_iff_eq] at hb
    have:=inv.closed x ox hox hx e he hb.1
    rw[hb.2] at this;exact this
  ·have hunl:listed.getD i false=false:=getD_both hiun
   have key:(putL ops vs listed n a).put o.dst v=putL ops (upV vs i v) (listed.setIfInBounds i true) n a:=by
    rw[jA hiun n hin hd,hdst];simp only[upV,if_true]
    congr 1
    exact iB n fun j hj hl=>by
     have:j≠i:=(fun e=>by rw[e,hunl] at hl;cases hl);simp[upV,this]
   rw[key];refine ih _ _ w' (inv.set hi hin) (by have:=jC hiun n hin;omega) ?_
   have e:(fun j=>(listed.setIfInBounds i true).getD j false)=upB (fun j=>listed.getD j false) i:=by
    funext j
    by_cases h:j=i
    ·subst h
     have hlt:j<listed.size:=by
      rcases Nat.lt_or_ge j listed.size with h' | h'
      ·exact h'
      ·simp[Array.getElem?_eq_none h'] at hiun
     simp[upB,hlt]
    ·rw[getD_set_ne false (fun h'=>h h'.symm)];simp[upB,h]
   rw[e];exact hR'
def GiveAllK (P:Program) (ops:Array Oper) (A:(Nat->Value)->Act) (J:(Nat->Bool)->(Nat->Value)->World->Prop):Nat->List Oper->Prop
 | _,[]=>True
 | i,o::os=>(∀ (l:Nat->Bool) (vs:Nat->Value) w,J l vs w->l i=false->(∀ j,depB ops i j=true->l j=true)->(∀ a b,depB ops a b=true->l a=true->l b=true)->GivesW P ops (A vs) (fun v w'=>J (upB l i) (upV vs i v) w') o w)/\GiveAllK P ops A J (i+1) os
theorem GiveAllK.at_ {A:(Nat->Value)->Act} {J:(Nat->Bool)->(Nat->Value)->World->Prop}:∀ (os:List Oper) (k:Nat),GiveAllK P ops A J k os->∀ i o,os[i]?=some o->∀ (l:Nat->Bool) (vs:Nat->Value) w,J l vs w->l (k+i)=false->(∀ j,depB ops (k+i) j=true->l j=true)->(∀ a b,depB ops a b=true->l a=true->l b=true)->GivesW P ops (A vs) (fun v w'=>J (upB l (k+i)) (upV vs (k+i) v) w') o w
 | [],_,_,i,o,h=>by simp at h
 | o::os,k,hg,0,o',h=>by
  have:o=o':=(by simpa using h);subst this;exact hg.1
 | o::os,k,hg,i+1,o',h=>by
  have:=GiveAllK.at_ os (k+1) hg.2 i o' (by simpa using h)
  rw[show k+1+i=k+(i+1) by omega] at this;exact this
theorem wp_region_par4 {id:Nat} {l:List Oper} {a:Act} {w:World} (n:Nat) (J:(Nat->Bool)->(Nat->Value)->World->Prop) (A:(Nat->Value)->Act) (hm:P.follows .mixedOrders=true) (hB:parB l.toArray n=true)
  (hA:∀ vs,putA l.toArray vs n a=A vs) (hJ:∀ vs,J (fun _=>false) vs w.drew)
  (hop:GiveAllK P l.toArray A J 0 (l.take n))
  (hT:∀ (l':Nat->Bool) (vs:Nat->Value) w',(∀ j,j<n->l' j=true)->J l' vs w'->wpList P l.toArray Q (l.drop n) (A vs) w'):(Code.region id l.toArray true).wp P Q a w:=by
 simp only[<- hA] at hT;have hB':=hB;simp only[parB,Bool.and_eq_true,decide_eq_true_eq] at hB';obtain⟨⟨⟨⟨_,hn⟩,_⟩,_⟩,hseq⟩:=hB';have hn':n<=l.length:=by simpa using hn
 have inv0:HeadInv .any l.toArray n (Array.replicate l.toArray.size false) :=
  ⟨by simp,fun j oj _ hl=>(by rw[getD_replicate_false] at hl;cases hl),fun t _ ht=>getD_in (by simpa using ht) (getD_replicate_false _ _)⟩
 have hcnt:∀ m,m<=l.toArray.size->cntL (Array.replicate l.toArray.size false) m=m:=fun m hm'=>by
  induction m with
  | zero=>rfl
  | succ m ih =>
   have h1:(Array.replicate l.toArray.size false).getD m true=false:=getD_in (by simp at hm' ⊢;omega) (getD_replicate_false _ _);simp only[cntL,ih (by omega),h1,if_true]
 have hput:∀ m,putL l.toArray (fun _=>undef) (Array.replicate l.toArray.size false) m a=a:=fun m=>by
  induction m with
  | zero=>rfl
  | succ m ih=>simp only[putL,getD_replicate_false,Bool.false_eq_true,if_false,ih]
 refine wp_region_any hm ?_
 have H:=aCN (P:=P) (Q:=Q) (g:=l.toArray.size-n) (a:=a) (J:=J) hB
  (fun i o hi ho lb vs w' hJ' hl hdep hcl=>by
   have:=hop.at_ _ _ i o (by simpa [hi] using ho) lb vs w' hJ' (by rw[Nat.zero_add];exact hl) (by rw[Nat.zero_add];exact hdep) hcl
   rw[Nat.zero_add] at this;rw[hA];exact this)
  (fun vs listed w' inv hall hJ'=>by
   have e:listed=headsOnly n l.toArray.size:=by
    refine Array.ext_getElem? fun j=>?_
    rcases Nat.lt_or_ge j l.toArray.size with hj|hj
    ·have h1:j<listed.size:=(by rw[inv.size];exact hj);have h2:j<l.length:=(by simpa using hj);rcases Nat.lt_or_ge j n with h|h
     ·have h3:=hall j h;simp[h1] at h3;simp[headsOnly,h1,h2,h3,h]
     ·have h3:=inv.tail j h hj;simp[h1] at h3;have h4:¬ j<n:=(by omega);simp[headsOnly,h1,h2,h3,h4]
    ·rw[Array.getElem?_eq_none (by rw[inv.size];exact hj),Array.getElem?_eq_none (by simpa [headsOnly] using hj)]
   have hl:(l.drop n).length=l.toArray.size-n:=(by simp);have hgo:=hT (fun j=>listed.getD j false) vs w' hall hJ';subst e
   have:=wpAny_of_seq (md:=.any) (Q':=Q) (l.drop n) n (headsOnly n l.toArray.size) (putA l.toArray vs n a) w' (fun j=>by simp[List.getElem?_drop]) (by rw[hl];exact hseq) hgo
   rwa [hl] at this)
  n (Array.replicate l.toArray.size false) (fun _=>undef) w.drew inv0 (hcnt n hn) (by
   have e:(fun j=>(Array.replicate l.toArray.size false).getD j false)=fun _=>false:=by funext j;rw[getD_replicate_false]
   rw[e];exact hJ _)
 rw[hput,show n+(l.toArray.size-n)=l.toArray.size by omega] at H;exact H
end
structure Turn (B:Nat) (ty:TypeId) (w w':World):Prop where
 below:Below B w w'
 size:w.heap.size<=w'.heap.size
 keep:∀ (b:Nat) (cur:Array Value) (e:TypeId) (m:Nat×Nat),w.heap[b]?=some (Obj.cells cur e m)->e≠ty->w'.heap[b]?=some (Obj.cells cur e m)
theorem Turn.of_below {B:Nat} {ty:TypeId} {w w':World} (h:Below w.heap.size w w') (hB:B<=w.heap.size):Turn B ty w w' :=
 ⟨h.mono hB,h.size,fun b _ _ _ x _=>(h.block b (aC x)).trans x⟩
theorem Turn.of_grown {B:Nat} {ty:TypeId} {w w':World} {g:Nat} {c:Array Value} (h:w.grownBy w' (some g)) (hg:w.heap[g]?=some (.cells c ty)) (hB:B<=g):Turn B ty w w' :=
 ⟨⟨h.os,h.tape,h.output,h.size,fun k hk=>h.block k (by have:=aC hg;omega) (fun e=>by cases e;omega)⟩,h.size,fun b cur e m x he=>(h.block b (aC x) (fun e2=>by
  cases e2;rw[hg] at x;cases x;exact he rfl)).trans x⟩
def Filled (w:World) (g:Nat) (o:Obj):Prop:=w.heap[g]?=some o
inductive Kd|val|new|put
def kdOf (ia is i:Nat):Kd:=if i=ia then .new else if i=is then .put else .val
section
variable {P:Program} {ops:Array Oper} {Q:Exit->Act->World->Prop}
theorem GivesW.mono {A:Act} {R R':Value->World->Prop} {o:Oper} {w:World} (h:GivesW P ops A R o w) (hr:∀ v w',R v w'->R' v w'):GivesW P ops A R' o w:=by
 unfold GivesW at h ⊢;split at h
 ·rename_i hw;rw[if_pos hw]
  revert h
  generalize (execOp A.eval o).run P w=r;intro h;cases r with
  | halt x w'=>exact h
  | ok n w' =>
   cases n
   case value u=>exact hr _ _ h
   case skip=>exact hr _ _ h
   case enter f args=>exact Calls.mono h fun e w'' ⟨v,h1,h2⟩=>⟨v,h1,hr _ _ h2⟩
   all_goals exact h
 rename_i hw;rw[if_neg hw];exact hr _ _ h
def GiveAllB (P:Program) (ops:Array Oper) (n ia is id:Nat) (A:(Nat->Value)->Act) (ty:TypeId) (c0:Array Value) (c1:Value->Array Value) (K:World->Prop) (V:Nat->Value->World->Prop):Nat->List Kd->List Oper->Prop
 | i,.val::ks,o::os=>(∀ (vs:Nat->Value) w,K w->(∀ j,j<n->j≠ia->j≠is->depB ops i j=true->V j (vs j) w)->GivesW P ops (A vs) (fun v w'=>V i v w'/\Below w.heap.size w w') o w)/\GiveAllB P ops n ia is id A ty c0 c1 K V (i+1) ks os
 | i,.new::ks,o::os=>(∀ (vs:Nat->Value) w,K w->GivesW P ops (A vs) (fun v w'=>v=.pointer (some ⟨w.heap.size,0,none⟩)/\w'=w.alloc (.cells c0 ty)) o w)/\GiveAllB P ops n ia is id A ty c0 c1 K V (i+1) ks os
 | i,.put::ks,o::os=>(∀ (vs:Nat->Value) w (g:Nat),K w->(∀ j,j<n->j≠ia->j≠is->depB ops i j=true->V j (vs j) w)->vs ia=.pointer (some ⟨g,0,none⟩)->w.heap[g]?=some (.cells c0 ty)->GivesW P ops (A vs) (fun _ w'=>w.grownBy w' (some g)/\Filled w' g (.cells (c1 (vs id)) ty)) o w)/\GiveAllB P ops n ia is id A ty c0 c1 K V (i+1) ks os
 | _,_,_=>True
theorem GiveAllB.at_ {n ia is id:Nat} {A:(Nat->Value)->Act} {ty:TypeId} {c0:Array Value} {c1:Value->Array Value} {K:World->Prop} {V:Nat->Value->World->Prop}:∀ (ks:List Kd) (os:List Oper) (k:Nat),GiveAllB P ops n ia is id A ty c0 c1 K V k ks os->∀ i o kd,os[i]?=some o->ks[i]?=some kd ->
  GiveAllB P ops n ia is id A ty c0 c1 K V (k+i) [kd] [o]
 | [],_,_,_,i,o,kd,_,h2=>by simp at h2
 | _::_,[],_,_,i,o,kd,h1,_=>by simp at h1
 | q::ks,o::os,k,hg,0,o',kd,h1,h2=>by
  have e1:o=o':=(by simpa using h1);have e2:q=kd:=(by simpa using h2);subst e1 e2;cases q <;> exact⟨hg.1,trivial⟩
 | q::ks,o::os,k,hg,i+1,o',kd,h1,h2=>by
  have hg2:GiveAllB P ops n ia is id A ty c0 c1 K V (k+1) ks os:=by cases q <;> exact hg.2
  have:=GiveAllB.at_ ks os (k+1) hg2 i o' kd (by simpa using h1) (by simpa using h2)
  rw[show k+1+i=k+(i+1) by omega] at this;exact this
structure JB (n ia is id B:Nat) (ty:TypeId) (c0:Array Value) (c1:Value->Array Value) (K:World->Prop) (V:Nat->Value->World->Prop) (l:Nat->Bool) (vs:Nat->Value) (w:World):Prop where
 k:K w
 v:∀ j,j<n->j≠ia->j≠is->l j=true->V j (vs j) w
 b:l ia=true->∃ g,vs ia=.pointer (some ⟨g,0,none⟩)/\B<=g/\w.heap[g]?=some (.cells (if l is=true then c1 (vs id) else c0) ty)
theorem wp_region_box {rg:Nat} {l:List Oper} {a:Act} {w:World} (n ia is id B:Nat) (ty:TypeId) (c0:Array Value) (c1:Value->Array Value) (K:World->Prop) (V:Nat->Value->World->Prop) (A:(Nat->Value)->Act) (hm:P.follows .mixedOrders=true) (hB:parB l.toArray n=true)
  (hmK:∀ w w',K w->Turn B ty w w'->K w') (hmV:∀ j v w w',V j v w->Turn B ty w w'->V j v w') (hBK:∀ w,K w->B<=w.heap.size) (hA:∀ vs,putA l.toArray vs n a=A vs) (hK:K w.drew)
  (hia:ia<n) (his:is<n) (hne:ia≠is) (hdep:depB l.toArray is ia=true) (hdep2:depB l.toArray is id=true) (hida:id≠is)
  (hop:GiveAllB P l.toArray n ia is id A ty c0 c1 K V 0 ((List.range n).map (kdOf ia is)) (l.take n))
  (hT:∀ (vs:Nat->Value) w' (g:Nat),K w'->(∀ j,j<n->j≠ia->j≠is->V j (vs j) w')->vs ia=.pointer (some ⟨g,0,none⟩)->B<=g->w'.heap[g]?=some (.cells (c1 (vs id)) ty)->wpList P l.toArray Q (l.drop n) (A vs) w'):(Code.region rg l.toArray true).wp P Q a w:=by
 have hB':=hB;simp only[parB,Bool.and_eq_true,decide_eq_true_eq] at hB';obtain⟨⟨⟨⟨_,hn⟩,_⟩,_⟩,_⟩:=hB';have hn':n<=l.length:=by simpa using hn
 have hall:∀ i o,(l.take n)[i]?=some o->i<n/\GiveAllB P l.toArray n ia is id A ty c0 c1 K V i [kdOf ia is i] [o]:=fun i o ho=>by
  have hi:i<n:=by
   have:=(List.getElem?_eq_some_iff.1 ho).1
   rw[List.length_take] at this;omega
  have:=hop.at_ _ _ 0 i o (kdOf ia is i) ho (by rw[List.getElem?_map,List.getElem?_range hi];rfl)
  rw[Nat.zero_add] at this;exact⟨hi,this⟩
 have key:∀ i o,(l.take n)[i]?=some o->∀ (lb:Nat->Bool) (vs:Nat->Value) w,JB n ia is id B ty c0 c1 K V lb vs w->lb i=false->(∀ j,depB l.toArray i j=true->lb j=true)->(∀ a b,depB l.toArray a b=true->lb a=true->lb b=true)->GivesW P l.toArray (A vs) (fun v w'=>JB n ia is id B ty c0 c1 K V (upB lb i) (upV vs i v) w') o w:=by
  intro i o ho lb vs w hJ hl hd hcl;obtain⟨hi,hg⟩:=hall i o ho;have hBw:=hBK _ hJ.k;have hvs:∀ j,j<n->j≠ia->j≠is->depB l.toArray i j=true->V j (vs j) w:=(fun j h1 h2 h3 h4=>hJ.v j h1 h2 h3 (hd j h4));by_cases e1:i=ia
  ·subst e1;rw[show kdOf i is i=.new by unfold kdOf;rw[if_pos rfl]] at hg;refine (hg.1 vs w hJ.k).mono ?_;rintro v w' ⟨rfl,rfl⟩;have ht:Turn B ty w (w.alloc (.cells c0 ty)):=.of_below (aD w _) hBw
   have hs0:lb is=false:=by
    cases hx:lb is with
    | false=>rfl
    | true=>rw[hcl is i hdep hx] at hl;cases hl
   refine⟨hmK _ _ hJ.k ht,fun j h1 h2 h3 h4=>?_,fun _=>⟨w.heap.size,by simp[upV],hBw,?_⟩⟩
   ·simp only[upB,upV,if_neg h2] at h4 ⊢;exact hmV _ _ _ _ (hJ.v j h1 h2 h3 h4) ht
   simp only[upB,if_neg (Ne.symm hne),hs0];exact heap_alloc_new w _
  by_cases e2:i=is
  ·subst e2;rw[show kdOf ia i i=.put by unfold kdOf;rw[if_neg e1,if_pos rfl]] at hg;obtain⟨g,h1,h2,h3⟩:=hJ.b (hd ia hdep);simp only[hl,Bool.false_eq_true,if_false] at h3;refine (hg.1 vs w g hJ.k hvs h1 h3).mono ?_;rintro v w' ⟨k1,k2⟩;have ht:Turn B ty w w':=.of_grown k1 h3 h2;refine⟨hmK _ _ hJ.k ht,fun j h1 h2 h3 h4=>?_,fun _=>⟨g,?_,h2,?_⟩⟩
   ·simp only[upB,upV,if_neg h3] at h4 ⊢;exact hmV _ _ _ _ (hJ.v j h1 h2 h3 h4) ht
   ·simp only[upV,if_neg hne];exact h1
   simp only[upB,upV,if_neg hida];exact k2
  rw[show kdOf ia is i=.val by unfold kdOf;rw[if_neg e1,if_neg e2]] at hg;refine (hg.1 vs w hJ.k hvs).mono ?_;rintro v w' ⟨k1,k2⟩;have ht:Turn B ty w w':=.of_below k2 hBw;refine⟨hmK _ _ hJ.k ht,fun j h1 h2 h3 h4=>?_,fun h=>?_⟩
  ·by_cases e:j=i
   ·subst e;simp only[upV];exact k1
   simp only[upB,upV,if_neg e] at h4 ⊢;exact hmV _ _ _ _ (hJ.v j h1 h2 h3 h4) ht
  simp only[upB,if_neg (Ne.symm e1)] at h;obtain⟨g,h1,h2,h3⟩:=hJ.b h;refine⟨g,by simp only[upV,if_neg (Ne.symm e1)];exact h1,h2,?_⟩;simp only[upB,if_neg (Ne.symm e2)];have h5:=(k2.block g (aC h3)).trans h3;cases hx:lb is with
  | false=>rw[hx] at h5;exact h5
  | true =>
   have hid:lb id=true:=hcl is id hdep2 hx;have e3:id≠i:=(fun e=>by rw[e,hl] at hid;cases hid);rw[hx] at h5;simp only[upV,if_neg e3];exact h5
 have hgive:∀ (os:List Oper) (k:Nat),(∀ i o,os[i]?=some o->(l.take n)[k+i]?=some o)->GiveAllK P l.toArray A (JB n ia is id B ty c0 c1 K V) k os:=by
  intro os
  induction os with
  | nil=>intro k _;trivial
  | cons o os ih =>
   intro k hos;refine⟨?_,ih (k+1) fun i o' h=>?_⟩
   ·exact key k o (by have:=hos 0 o rfl;simpa using this)
   ·have:=hos (i+1) o' (by simpa using h)
    rw[show k+(i+1)=k+1+i by omega] at this;exact this
 refine wp_region_par4 n (JB n ia is id B ty c0 c1 K V) A hm hB hA (fun vs=>⟨hK,fun _ _ _ _ h=>(by cases h),fun h=>(by cases h)⟩) (hgive _ 0 fun i o h=>by rw[Nat.zero_add];exact h) ?_;intro lb vs w' hl hJ;obtain⟨g,h1,h2,h3⟩:=hJ.b (hl ia hia);rw[hl is his,if_pos rfl] at h3;exact hT vs w' g hJ.k (fun j a1 a2 a3=>hJ.v j a1 a2 a3 (hl j a1)) h1 h2 h3
end
def aggC:Value->Array Value | .agg xs=>xs|_=>#[]
def VB (B:Nat) (ty:TypeId):Type:={ R:Value->World->Prop // ∀ v w w',R v w->Turn B ty w w'->R v w' }
def VB.eq {B:Nat} {ty:TypeId} (x:Value):VB B ty:=⟨fun v _=>v=x,fun _ _ _ h _=>h⟩
def VB.any {B:Nat} {ty:TypeId}:VB B ty:=⟨fun _ _=>True,fun _ _ _ h _=>h⟩
def VBL {B:Nat} {ty:TypeId} (l:List (VB B ty)) (j:Nat) (v:Value) (w:World):Prop:=(l.getD j VB.any).1 v w
theorem VBL.mono {B:Nat} {ty:TypeId} (l:List (VB B ty)) (j:Nat) (v:Value) (w w':World) (h:VBL l j v w) (hb:Turn B ty w w'):VBL l j v w':=(l.getD j VB.any).2 v w w' h hb
