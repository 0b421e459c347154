import Derived.Test.YthlccadnojnkaaaGreatZn3
import Derived.Test.YthlccadnojnkaaaGreatZn69
set_option maxRecDepth 100000
namespace Go.Proofs.YthlccadnojnkaaaGreat
open Go.Proofs.Tryz
open Go Go.ChangeShapes Go.WideShapes Go.ChangeAt Go.RowKit
open Go.ChangeMaps (open_string shut_string)
theorem kW(os:Os)(started:os.Started)(H:Type)(enc:TypeId×Value->H):ReturnsInHanded {} Tryz.checked os 10 .any (Rows.loadOrderSpec.pre6 enc prog Tryz.f10 Rows.loadOrderRow.domain false) (Rows.loadOrderSpec.post enc prog Tryz.f10 false true false false):=by
 refine returnsInHanded_of_change (C:=Tryz.checked) own started (by kernel_rfl) func10
  (ChangeSpec.witness6 (enc:=enc) (C:=Tryz.checked) false ⟨#[],#[.bool false,.bool false],[]⟩ 8 (by kernel_rfl) (by kernel_rfl) (by kernel_rfl) (by kernel_rfl)) ?_
 intro W c args z gs f a o _ _;have b:∀(j:Nat) t v,Tryz.f10.params[j]?=some t->args[j]?=some v->Value.okWide prog W .any c t v:=a;have g:=o;obtain⟨p,q,d,A,rfl,B,E⟩:=o;have r:DataW.TrodAll enc prog W 0 (fun _=>true) true Tryz.f10.params.toList args.toList z p:=d;rw[Tryz.params10]at r b;obtain⟨v0,F,Q,G,I,R,i,rfl,rfl,s,r0⟩:=trodAll_cons r;obtain⟨v1,J,S,L,M,U,rfl,rfl,rfl,u,r1⟩:=trodAll_cons r0;obtain⟨rfl,rfl,rfl⟩:=trodAll_nil r1;obtain rfl:args=#[v0,v1]:=(by cases args;simp_all);obtain⟨rfl,rfl⟩:=trodVars_none A;have w:=s;have k:∀x∈I,x.block<W.heap.size:=(by obtain⟨m,l⟩:=w;exact DataW.trod_lt m _ _ _ l);obtain⟨N,rfl,_,_,V⟩:=open_bool underlying4 (b 0 4 v0 rfl rfl) s;have y:=u;have n:∀x∈M,x.block<W.heap.size:=(by obtain⟨m,l⟩:=y;exact DataW.trod_lt m _ _ _ l);obtain⟨O,rfl,_,_,X⟩:=open_bool underlying4 (b 1 4 v1 rfl rfl) u;clear d a;refine(yY N O W).mono fun e Y⟨P,bel⟩=>?_
 subst P;exact⟨_,rfl,_,_,_,[],_,[],g,trodAll_mk1 (shut_bool underlying4 _),(trodAll_cons_mk (Below.trod bP (by kernel_rfl) (wj (by kernel_rfl)) w bel k) (trodAll_cons_mk (Below.trod bP (by kernel_rfl) (wj (by kernel_rfl)) y bel n) trodAll_mk0)),rfl,bel.frame _,fun h=>by cases h⟩
theorem loadOrder_holds:Rows.LoadOrderSaid:=
 OpenClaim.holds_of_wide 10 Tryz.f10 rfl rfl rfl rfl rfl rfl rfl ⟨rfl,rfl,rfl,rfl,rfl⟩ rfl rfl rfl rfl rfl (by kernel_rfl) func10 (by kernel_rfl)
  (wj (by kernel_rfl)) (by unfold Func.isWrapper;first | (rw[zv (by decide +kernel)];kernel_rfl) | (rw[zq (by decide +kernel)];exact⟨rfl,rfl⟩))
  (fun os a H b _=>kW os a H b)
