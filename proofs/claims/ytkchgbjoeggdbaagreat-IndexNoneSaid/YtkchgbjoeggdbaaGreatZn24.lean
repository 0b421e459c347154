import Derived.Test.YtkchgbjoeggdbaaGreatZn20
import Derived.Laws.CopyOwn
namespace Go.Proofs.YtkchgbjoeggdbaaGreat
open Go Go.RowKit Go.Shelf Go.Proofs
section
variable{P:Program}
end
def Hv(xs:List Int)(W:World)(e:Ending)(w':World):Prop:=∃(out:List Int) (v:Value),out.Pairwise (·<·)/\(∀s,s∈out↔s∈xs/\qg s=true)/\out.length<=xs.length/\e=.returned v/\ac w' W.heap.size 3 1 v out.length (out.map iv)/\Below W.heap.size W w'
theorem qF{P:Program}{w:World}{t u e e' ty:TypeId}{p q:Option Addr}{n c m d:Nat}(ht:P.underlying t=some (.slice e))(hu:P.underlying u=some (.slice e')):(Builtin.append_ #[t,u] ty #[.slice p n c,.slice q m d]).run P w=(Builtin.append_ #[t,t] ty #[.slice p n c,.slice q m d]).run P w:=by
 unfold Builtin.append_;simp[run_underlying ht,run_underlying hu]
theorem sG{P:Program}{w:World}{t e ty:TypeId}{i:TypeInfo}{p q:Option Addr}{n c d:Nat}(ht:P.underlying t=some (.slice e))(hi:P.info? e=some i)(hn:n<=c):(Builtin.append_ #[t,t] ty #[.slice p n c,.slice q 0 d]).run P w=.ok (.slice p n c) w:=by
 cases p <;> cases q <;> simp[Builtin.append_,run_underlying ht,Builtin.lenOf,Builtin.firstCells,sizeOf,typeInfo,hi,hn,loadCells,loadCellsFrom,storeCells]
def D4(r:Bool->Bool->Bool)(A B:List Int)(W:World)(e:Ending)(w':World):Prop:=∃(out:List Int) (v:Value),out.Pairwise (·<·)/\(∀s,s∈out↔(s∈A∨s∈B)/\r (decide (s∈A)) (decide (s∈B))=true)/\e=.returned v/\ac w' 0 3 1 v out.length (out.map iv)/\Below W.heap.size W w'
attribute [local go_sem] Oper.semAt_some
attribute [local go_sem] fK fL bH aR
theorem dG{F:Fence}{n:Nat}{P:Program}{fn:Func}{R:Ending->World->Prop}{tmps:Array Value}{w:World}{D:Nat}{v:Value}(hK:w.heap[D]?=some (.deferred (some [])))(h:∀a,Chg (fun b=>b=D) w a->a.heap.size=w.heap.size->(results fn tmps).run P a=.ok v a/\R (.returned v) a):bodyPostM F n P fn R .ret { tmps:=tmps,defers:=[gj D] } w:=by
 have:LeavesInM F n P fn tmps R [gj D] .returning w:=by
  have c:=h (w.putObj D (.deferred none)) ((Chg.refl (fun b=>b=D) w).putObj (l:=D) (fun _=>rfl) _) (by simp);refine⟨by simp,.inl ⟨_,_,rfl,run_takeDeferred hK,?_⟩⟩;exact⟨_,c.1,c.2⟩
 exact this
structure Sm (W:World) (v:Value) (P:Int->Bool) (xs:List Int) (p:Option Addr) (c gb nb D:Nat) (pg:Option Addr) (cg:Nat) (x:World):Prop where
 mv:Vm x v P
 km:Cell x nb v
 ks:Cell x (nb+1) (.slice p xs.length c)
 kr:Cell x (nb+2) (.bool false)
 kg:Cell x gb (.slice pg xs.length cg)
 rs:Rd x p xs
 rg:Rd x pg xs
 kd:x.heap[D]?=some (.deferred (some []))
 bel:Below W.heap.size W x
theorem bS{F:Fence}{n:Nat}{P:Program}{w w':World}{ops:Array Oper}{rest:List Oper}{o:Oper}{a:Act}{Q:Exit->Act->World->Prop}{vs vx v':Value}(hgd:o.guard=none)(s x:Operand)(t:TypeId)(ho:o.op=.call { callee:=.builtin .append,args:=#[s,x],argTypes:=#[t,t] })(hs:a.eval s=vs)(hx:a.eval x=vx)(hr:(Builtin.append_ #[t,t] o.type #[vs,vx]).run P w=.ok v' w')(h:wpListIn F n P ops Q rest (a.put o.dst v') w'):wpListIn F n P ops Q (o::rest) a w:=by
 refine wpListIn_plain hgd fun K b=>?_
 unfold Oper.wpIn;refine⟨?_,?_⟩
 ·simp[Oper.about,ho,resolve,Target.leads,Sem.run_pure]
 rw[Oper.semAt_plain F _ _ (by rw[ho];intro c d;cases d)];simp[execOp,ho,resolve,invoke,builtin,hs,hx,hr,Result.andThen];exact b _ _ h
def Fy(xs:List Int)(n gb k:Nat)(T:Nat->Prop)(W:World):Prop:=k<=n/\∃vg,(∀b,T b↔b=gb∨vg.ownBlock=some b)/\Cell W gb vg/\ac W (gb+1) 3 1 vg k ((xs.take k).map iv)
