import Derived.Test.YthlccadnojnkaaaGreatZn3
import Derived.Test.YthlccadnojnkaaaGreatZn56
set_option maxRecDepth 100000
namespace Go.Proofs.YthlccadnojnkaaaGreat
open Go.Proofs.Tryz
open Go Go.ChangeShapes Go.WideShapes Go.ChangeAt Go.RowKit
open Go.ChangeMaps (open_string shut_string)
theorem iO(u:Os)(b:u.Started)(H:Type)(enc:TypeId×Value->H):ReturnsInHanded {} Tryz.checked u 4 .any (Rows.checkLimitsSpec.pre6 enc prog Tryz.f4 Rows.checkLimitsRow.domain false) (Rows.checkLimitsSpec.post enc prog Tryz.f4 false true false false):=by
 refine returnsInHanded_of_change (C:=Tryz.checked) own b (by kernel_rfl) func4
  (ChangeSpec.witness6 (enc:=enc) (C:=Tryz.checked) false ⟨#[],#[.int .i64 0,.int .i64 0],[]⟩ 8 (by kernel_rfl) (by kernel_rfl) (by kernel_rfl) (by kernel_rfl)) ?_
 intro W g a F V k c w _ _;have d:∀(j:Nat) t v,Tryz.f4.params[j]?=some t->a[j]?=some v->Value.okWide prog W .any g t v:=c;have l:=w;obtain⟨p,q,i,G,rfl,I,J⟩:=w;have y:DataW.TrodAll enc prog W 0 (fun _=>true) true Tryz.f4.params.toList a.toList F p:=i;rw[Tryz.params4]at y d;obtain⟨z,K,X,L,M,Y,n,rfl,rfl,A,N⟩:=trodAll_cons y;obtain⟨v1,O,Z,P,Q,q1,rfl,rfl,rfl,B,R⟩:=trodAll_cons N;obtain⟨rfl,rfl,rfl⟩:=trodAll_nil R;obtain rfl:a=#[z,v1]:=(by cases a;simp_all);obtain⟨rfl,rfl⟩:=trodVars_none G;have D:=A;have o:∀x∈M,x.block<W.heap.size:=(by obtain⟨m,r⟩:=D;exact DataW.trod_lt m _ _ _ r);obtain⟨S,rfl,_,_,w0⟩:=open_int underlying3 (d 0 3 z rfl rfl) A;have E:=B;have s:∀x∈Q,x.block<W.heap.size:=(by obtain⟨m,r⟩:=E;exact DataW.trod_lt m _ _ _ r);obtain⟨T,rfl,_,_,w1⟩:=open_int underlying3 (d 1 3 v1 rfl rfl) B;clear i c;refine(vC S T W).mono fun e W'⟨U,f⟩=>?_
 subst U;exact⟨_,rfl,_,_,_,[],_,[],l,trodAll_mk1 (shut_bool underlying4 _),(trodAll_cons_mk (Below.trod bP (by kernel_rfl) (wj (by kernel_rfl)) D f o) (trodAll_cons_mk (Below.trod bP (by kernel_rfl) (wj (by kernel_rfl)) E f s) trodAll_mk0)),rfl,f.frame _,fun h=>by cases h⟩
theorem checkLimits_holds:Rows.CheckLimitsSaid:=
 OpenClaim.holds_of_wide 4 Tryz.f4 rfl rfl rfl rfl rfl rfl rfl ⟨rfl,rfl,rfl,rfl,rfl⟩ rfl rfl rfl rfl rfl (by kernel_rfl) func4 (by kernel_rfl)
  (wj (by kernel_rfl)) (by unfold Func.isWrapper;first | (rw[zv (by decide +kernel)];kernel_rfl) | (rw[zq (by decide +kernel)];exact⟨rfl,rfl⟩))
  (fun b a H c _=>iO b a H c)
