import Derived.Test.YtkchgbjoeggdbaaGreatZn6
import Derived.Test.YtkchgbjoeggdbaaGreatZn7
import Derived.Shelf.Abstract
namespace Go.Proofs.YtkchgbjoeggdbaaGreat.Ix
open Go.Proofs.Tryz
open Go Go.RowKit Go.Shelf Go.Proofs Go.Proofs.YtkchgbjoeggdbaaGreat Go.Proofs.YtkchgbjoeggdbaaGreat.Co Go.Proofs.YtkchgbjoeggdbaaGreat.Co.S
section
variable{P:Program}{w:World}
theorem pK:(binOp .eql 41 .nilFunc .nilFunc).run prog w=.ok (.bool true) w:=gX _ _ _ _ underlying41
theorem pL(f:Fn)(a b:Array Value):(binOp .eql 41 (.func f a b) .nilFunc).run prog w=.ok (.bool false) w:=gY _ _ _ _ _ _ _ underlying41
end
theorem bH(f:FuncId):Fence.wide.fn f=True:=rfl
theorem aR:Fence.wide.depth=none:=rfl
theorem bZ{F:Fence}{n:Nat}{P:Program}{a:Act}{w:World}{K:Act->World->Prop}{Q:Exit->Act->World->Prop}{dst:Option Tmp}{g:Operand}{xl:List Operand}{tys:Array TypeId}{ty:TypeId}{pos:String}{after:Array Edge}{gd:Option (Nat×Bool)}(hF:F.plain=Fence.wide)(yv:Value)(al:List Value)(hy:a.eval g=yv)(hx':xl.map a.eval=al)(h:ig P yv al.toArray w fun e k=>∃v,e=.returned v/\K (a.put dst v) k):Oper.wpIn F n P { dst:=dst,op:=.call { callee:=.value g,args:=xl.toArray,argTypes:=tys },type:=ty,pos:=pos,after:=after,guard:=gd } a w K Q:=by
 obtain⟨args,b⟩:=ae al.toArray;rw[b]at h;have q:xl.toArray.map a.eval=args:=by rw[<-b,<-hx'];simp
 have m:∀f,F.fn f:=fun f=>by
  have:F.plain.fn f:=by rw[hF];trivial
  exact this
 have i:F.depth=none:=by
  have:F.plain.depth=none:=by rw[hF];rfl
  exact this
 unfold Oper.wpIn;refine⟨fun f _=>m f,?_⟩;rcases h with ⟨r,lb,rfl,s,o⟩ | ⟨l,fn,t,p,j,rfl,u,o⟩
 ·rw[Oper.semAt_plain F _ _ (by intro c d;cases d)]
  have:(execOp a.eval { dst:=dst,op:=.call { callee:=.value g,args:=xl.toArray,argTypes:=tys },type:=ty,pos:=pos,after:=after,guard:=gd }).run P w=.ok (.enter r (args++lb)) w:=by
   simp only[execOp,resolve,hy,q];simp[Deferred.ofValue,invoke,s,go_sem]
  rw[this,Oper.uponIn_enter];refine⟨fun h=>by simp[i]at h,(aI hF o).mono ?_⟩;rintro e k⟨v,rfl,h⟩;exact h
 rw[Oper.semAt_plain F _ _ (by intro c d;cases d)]
 have:(execOp a.eval { dst:=dst,op:=.call { callee:=.value g,args:=xl.toArray,argTypes:=tys },type:=ty,pos:=pos,after:=after,guard:=gd }).run P w=.ok (.round l fn t p j) w:=by
  simp only[execOp,resolve,hy,q];simp[Deferred.ofValue,invoke,u,go_sem]
 rw[this,Oper.uponIn_round];refine⟨fun h=>by simp[i]at h,(eX hF o).mono ?_⟩;rintro e k⟨v,rfl,h⟩;exact h
theorem nt{b:Bool}(h:b=false):¬ b=true:=by rw[h];simp
theorem cI{F:Fence}{n:Nat}{P:Program}{a:Act}{w:World}{K:Act->World->Prop}{Q:Exit->Act->World->Prop}{dst:Option Tmp}{t:TypeId}{x:Operand}{ty:TypeId}{pos:String}{after:Array Edge}{gd:Option (Nat×Bool)}{ad:Addr}{v:Value}(hag:(isAgg t).run P w=.ok false w)(he:a.eval x=.pointer (some ad))(hc:w.cell? ad=some v)(h:K (a.put dst v) w):Oper.wpIn F n P { dst:=dst,op:=.load t x,type:=ty,pos:=pos,after:=after,guard:=gd } a w K Q:=by
 unfold Oper.wpIn;refine⟨fun f d=>by simp[Oper.about]at d,?_⟩;rw[Oper.semAt_plain F _ _ (by intro c b;cases b)]
 have e:(execOp a.eval { dst:=dst,op:=.load t x,type:=ty,pos:=pos,after:=after,guard:=gd }).run P w=.ok (.value v) w:=by
  simp only[execOp,he];simp[hc,hag,go_sem]
 rw[e];exact h
theorem jC{F:Fence}{n:Nat}{P:Program}{a:Act}{w:World}{K:Act->World->Prop}{Q:Exit->Act->World->Prop}{dst:Option Tmp}{t:TypeId}{x:Operand}{ty:TypeId}{pos:String}{after:Array Edge}{gd:Option (Nat×Bool)}{v:Value}(hr:(execOp a.eval { dst:=dst,op:=.load t x,type:=ty,pos:=pos,after:=after,guard:=gd }).run P w=.ok (.value v) w)(h:K (a.put dst v) w):Oper.wpIn F n P { dst:=dst,op:=.load t x,type:=ty,pos:=pos,after:=after,guard:=gd } a w K Q:=by
 unfold Oper.wpIn;refine⟨fun f d=>by simp[Oper.about]at d,?_⟩;rw[Oper.semAt_plain F _ _ (by intro c b;cases b)];rw[hr];exact h
theorem yY{M:Nat}{W:World}{b:Nat}{k:VX M}{v:SV}{n:Int}{lp rp:Option Addr}(h:Nd W b k v n lp rp)(dst:Option Tmp)(ty:TypeId)(pos:String)(after:Array Edge)(gd:Option (Nat×Bool)){ev:Operand->Value}{x:Operand}(hx:ev x=.pointer (some ⟨b,0,none⟩):=by rfl):(execOp ev { dst:=dst,op:=.load 32 x,type:=ty,pos:=pos,after:=after,guard:=gd }).run prog W=.ok (.value (.agg #[.int .i64 (k).1.1,.int .i64 (k).1.2.1,.string (k).1.2.2])) W:=by
 have c0:=h.c0;have d1:=h.d1;have d2:=h.d2;simp only[execOp,hx];simp[go_sem,c0,d1,d2]
