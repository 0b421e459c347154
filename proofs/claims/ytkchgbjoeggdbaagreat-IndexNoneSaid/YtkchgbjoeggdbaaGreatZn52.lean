import Derived.Test.YtkchgbjoeggdbaaGreatZn3
import Derived.Test.YtkchgbjoeggdbaaGreatZn51
set_option maxRecDepth 100000
namespace Go.Proofs.YtkchgbjoeggdbaaGreat
open Go.Proofs.Tryz
open Go Go.ChangeShapes Go.WideShapes Go.ChangeAt Go.RowKit
open Go.ChangeMaps (open_string shut_string)
theorem jW(os:Os)(started:os.Started)(H:Type)(enc:TypeId×Value->H):ReturnsInHanded {} Tryz.checked os 3 .any (Rows.indexNoneSpec.pre6 enc prog Tryz.f3 Rows.indexNoneRow.domain false) (Rows.indexNoneSpec.post enc prog Tryz.f3 false true false false):=by
 refine returnsInHanded_of_change (C:=Tryz.checked) own started (by kernel_rfl) func3
  (ChangeSpec.witness6 (enc:=enc) (C:=Tryz.checked) false ⟨#[],#[],[]⟩ 8 (by kernel_rfl) (by kernel_rfl) (by kernel_rfl) (by kernel_rfl)) ?_
 intro W b args m gs f a k _ _;have c:∀(j:Nat) t v,Tryz.f3.params[j]?=some t->args[j]?=some v->Value.okWide prog W .any b t v:=a;have g:=k;obtain⟨p,q,d,n,rfl,o,r⟩:=k;have l:DataW.TrodAll enc prog W 0 (fun _=>true) true Tryz.f3.params.toList args.toList m p:=d;rw[Tryz.params3]at l c;obtain⟨i,rfl,rfl⟩:=trodAll_nil l;obtain rfl:args=#[]:=(by cases args;simp_all);obtain⟨rfl,rfl⟩:=trodVars_none n;clear d a;refine(Ix.tp Ix.r6 W).mono fun e u⟨s,bel⟩=>?_
 subst s;exact⟨_,rfl,_,_,_,[],_,[],g,trodAll_mk1 (shut_bool underlying4 _),trodAll_mk0,rfl,bel.frame _,fun h=>by cases h⟩
theorem indexNone_holds:Rows.IndexNoneSaid:=
 OpenClaim.holds_of_wide 3 Tryz.f3 rfl rfl rfl rfl rfl rfl rfl ⟨rfl,rfl,rfl,rfl,rfl⟩ rfl rfl rfl rfl rfl (by kernel_rfl) func3 (by kernel_rfl)
  (wf (by kernel_rfl)) (by unfold Func.isWrapper;first | (rw[zw (by decide +kernel)];kernel_rfl) | (rw[zu (by decide +kernel)];exact⟨rfl,rfl⟩))
  (fun os a H b _=>jW os a H b)
