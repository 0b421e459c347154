import Derived.Test.YtjepplacnaoomaaGreatZw19
import Derived.Laws.CopyOwn
import Derived.Sort.BigQuietIn
import Derived.BigQuiet
import Derived.Sort.QuietTacIn
import Derived.Maps.OwnIn
import Derived.Maps.AppendAt
namespace Go.Proofs.YtjepplacnaoomaaGreat
open Go Go.RowKit Go.Shelf Go.Proofs
section
variable {P:Program}
theorem run_copy_sized (w:World) (dT sT ty elem:TypeId) (size g o dLen dCap:Nat) (a:Addr) (sLen sCap:Nat) (cur:Array Value) (t:TypeId) (cs:List Value)
  (hu:P.underlying dT=some (.slice elem)) (hs:(P.info? elem).map (·.size)=some size)
  (hg:w.heap[g]?=some (.cells cur t (0,0))) (hn:cs.length=Nat.min sLen dLen*size)
  (hsrc:∀ j v,cs[j]?=some v->w.cell? (a.add j)=some v) (hfit:o+cs.length<=cur.size) (h1:∀ v∈cs,v.oneCell'=true) :
  (Builtin.copy_ #[dT,sT] ty #[.slice (some ⟨g,o,none⟩) dLen dCap,.slice (some a) sLen sCap]).run P w =
   .ok (goInt (Nat.min sLen dLen)) (w.setRow g (cur.toList.take o++cs++cur.toList.drop (o+cs.length)).toArray):=by
 have hl:=run_loadCells_list (P:=P) w a cs hsrc;have hst:=run_storeCells_at P g o t cs 0 cur w hg (by simpa using hfit) h1;cases hq:P.info? elem with
 | none=>simp[hq] at hs
 | some i =>
  have hi:i.size=size:=(by simpa [hq] using hs);simp[Builtin.copy_,run_underlying hu,Builtin.lenOf,Builtin.firstCells,sizeOf,typeInfo,hq,hi,<- hn,hl,hst]
theorem step_copy_sized {ops:Array Oper} {o:Oper} {a:Act} {w:World} {K:Act->World->Prop} {Q:Exit->Act->World->Prop} {E:Prop} (hgd:o.guard=none) (d s:Operand) (dT sT:TypeId)
  (ho:o.op=.call { callee:=.builtin .copy,args:=#[d,s],argTypes:=#[dT,sT] }) (elem:TypeId) (size:Nat) (hu:P.underlying dT=some (.slice elem)) (hsz:(P.info? elem).map (·.size)=some size)
  (dLen dCap sLen sCap:Nat) (g off:Nat) (ad:Addr) (hd:a.eval d=.slice (some ⟨g,off,none⟩) dLen dCap) (hs:a.eval s=.slice (some ad) sLen sCap)
  (cur:Array Value) (t:TypeId) (hg:w.heap[g]?=some (.cells cur t (0,0))) (cs:List Value) (hn:cs.length=Nat.min sLen dLen*size)
  (hsrc:∀ j v,cs[j]?=some v->w.cell? (ad.add j)=some v) (hfit:off+cs.length<=cur.size) (h1:∀ v∈cs,v.oneCell'=true)
  (h:K (a.put o.dst (goInt (Nat.min sLen dLen))) (w.setRow g (cur.toList.take off++cs++cur.toList.drop (off+cs.length)).toArray)) :
  if Region.wanted o (yielded ops a.tmps)=true then Oper.wp P o a w K Q else E:=by
 have hw:Region.wanted o (yielded ops a.tmps)=true:=(by simp[Region.wanted,hgd]);rw[if_pos hw];have hrun:=run_copy_sized (P:=P) w dT sT o.type elem size g off dLen dCap ad sLen sCap cur t cs hu hsz hg hn hsrc hfit h1;unfold Oper.wp;simp only[execOp,ho,resolve,invoke,builtin,Sem.run_bind,Sem.run_pure,Result.andThen_ok,List.map_toArray,List.map_cons,List.map_nil,hd,hs,hrun];exact h
end
theorem grown_setRow (w:World) (g:Nat) (cs:Array Value):w.grownBy (w.drew.setRow g cs) (some g) :=
 ⟨rfl,rfl,rfl,by simp,fun k _ hk=>setRow_other w.drew g k cs (fun e=>hk (by rw[e]))⟩
theorem grown_below {B:Nat} {w w':World} {o:Option Nat} (h:w.grownBy w' o) (ho:∀ q,o=some q->B<=q) (hB:B<=w.heap.size):Below B w w' :=
 ⟨h.os,h.tape,h.output,h.size,fun b hb=>h.block b (by omega) (fun e=>by have:=ho b e.symm;omega)⟩
def SetR (xs:List Int) (W:World) (e:Ending) (w':World):Prop:=∃ (out:List Int) (v:Value),out.Pairwise (·<·)/\(∀ s,s∈out↔s∈xs/\inB s=true)/\out.length<=xs.length/\e=.returned v/\HRow w' W.heap.size 3 1 v out.length (out.map iv)/\Below W.heap.size W w'
theorem append_zero {P:Program} {w:World} {t e ty:TypeId} {i:TypeInfo} {p q:Option Addr} {n c d:Nat} (ht:P.underlying t=some (.slice e)) (hi:P.info? e=some i) (hn:n<=c):(Builtin.append_ #[t,t] ty #[.slice p n c,.slice q 0 d]).run P w=.ok (.slice p n c) w:=by
 cases p <;> cases q <;> simp[Builtin.append_,run_underlying ht,Builtin.lenOf,Builtin.firstCells,sizeOf,typeInfo,hi,hn,loadCells,loadCellsFrom,storeCells]
def MixR (r:Bool->Bool->Bool) (A B:List Int) (W:World) (e:Ending) (w':World):Prop:=∃ (out:List Int) (v:Value),out.Pairwise (·<·)/\(∀ s,s∈out↔(s∈A∨s∈B)/\r (decide (s∈A)) (decide (s∈B))=true)/\e=.returned v/\HRow w' 0 3 1 v out.length (out.map iv)/\Below W.heap.size W w'
attribute [local go_sem] Oper.semAt_some
attribute [local go_sem] eql51n eql51f wide_fn wide_depth
theorem post_markc {F:Fence} {n:Nat} {P:Program} {fn:Func} {R:Ending->World->Prop} {tmps:Array Value} {w:World} {D:Nat} {v:Value} (hK:w.heap[D]?=some (.deferred (some [])))
  (h:∀ w',Chg (fun b=>b=D) w w'->w'.heap.size=w.heap.size->(results fn tmps).run P w'=.ok v w'/\R (.returned v) w') :
  bodyPostM F n P fn R .ret { tmps:=tmps,defers:=[markAt D] } w:=by
 have:LeavesInM F n P fn tmps R [markAt D] .returning w:=by
  have h':=h (w.putObj D (.deferred none)) ((Chg.refl (fun b=>b=D) w).putObj (l:=D) (fun _=>rfl) _) (by simp);refine⟨by simp,.inl ⟨_,_,rfl,run_takeDeferred hK,?_⟩⟩;exact⟨_,h'.1,h'.2⟩
 exact this
structure Sm (W:World) (v:Value) (P:Int->Bool) (xs:List Int) (p:Option Addr) (c gb nb D:Nat) (pg:Option Addr) (cg:Nat) (x:World):Prop where
 mv:Vm x v P
 km:Cell x nb v
 ks:Cell x (nb+1) (.slice p xs.length c)
 kr:Cell x (nb+2) (.bool false)
 kg:Cell x gb (.slice pg xs.length cg)
 rs:Rd x p xs
 rg:Rd x pg xs
 kd:x.heap[D]?=some (.deferred (some []))
 bel:Below W.heap.size W x
def GotI (xs:List Int) (n gb k:Nat) (T:Nat->Prop) (W:World):Prop:=k<=n/\∃ vg,(∀ b,T b↔b=gb∨vg.ownBlock=some b)/\Cell W gb vg/\HRow W (gb+1) 3 1 vg k ((xs.take k).map iv)
