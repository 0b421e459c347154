import Derived.Test.YthlccadnojnkaaaGreatZn65
set_option maxHeartbeats 8000000
set_option maxRecDepth 100000
namespace Go.Proofs.YthlccadnojnkaaaGreat
open Go.Proofs.Tryz
open Go Go.RowKit Go.Proofs Co Co.S
theorem F0{q:Option Addr}{cq:Nat}{LL:List (List cx)}(W:World)(hB:si W q LL)(hm:LL.length<=maxLen):Calls prog 7 #[.slice q LL.length cq] W fun e v=>e=.returned (.bool true)/\Below W.heap.size W v:=by
 have a:=eI W;have y:=aa hB;have f:=(fun(w:World) (hw:Below W.heap.size W w)=>iP (cq:=cq) (N:=12) (y.out.later hw) hm (by decide));have l:=aa f;clear f hB hm;obtain⟨n,m⟩:=ag LL.length;rw[m]at l ⊢;clear m;go_enter func7,ntmps7;go_upto_region 4 with (go_at_call 21;refine a.mono ?_;rintro e o⟨rfl,g⟩;have p:=aa g;clear a g);have f:Calls prog 22 #[.slice q n cq,.int .i64 12] o _:=l.out o p.out;go_upto_region 5 with (go_at_call 22;refine f.mono ?_;rintro e H⟨d,b,L,rfl,r,_,s,t,h⟩;have k:=aa (ab r (ab s (ab t h)));clear f r s t h);have c:=k.1.check k.2.1 (by decide);obtain⟨⟨z,A,B,E⟩,i⟩:∃x,au (pre 4) (L.map (·.2))=x:=⟨_,rfl⟩;have u:=k.2.2.1;rw[i]at c u;obtain rfl:z=0:=u;have F:=(fun w=>qB 0 0 B A E w);clear i;go_wp2_with (go_at_call 18;refine c.mono ?_;rintro e I⟨rfl,j⟩;have G:=aa (aB p.out (aB k.2.2.2 j));clear c j);go_ret;exact⟨rfl,G.out⟩
end Go.Proofs.YthlccadnojnkaaaGreat
namespace Go.Proofs.YthlccadnojnkaaaGreat
open Go.Proofs.Tryz
open Go Go.ChangeShapes Go.WideShapes Go.ChangeAt Go.RowKit
open Go.ChangeMaps (open_string shut_string)
theorem oO(os:Os)(started:os.Started)(H:Type)(enc:TypeId×Value->H):ReturnsInHanded {} Tryz.checked os 7 .any (Rows.loadAllSpec.pre6 enc prog Tryz.f7 Rows.loadAllRow.domain false) (Rows.loadAllSpec.post enc prog Tryz.f7 false true false false):=by
 refine returnsInHanded_of_change (C:=Tryz.checked) own started (by kernel_rfl) func7
  (ChangeSpec.witness6 (enc:=enc) (C:=Tryz.checked) false ⟨#[],#[.slice none 0 0],[]⟩ 8 (by kernel_rfl) (by kernel_rfl) (by kernel_rfl) (by kernel_rfl)) ?_
 intro W c args u gs f a n _ _;have b:∀(j:Nat) t v,Tryz.f7.params[j]?=some t->args[j]?=some v->Value.okWide prog W .any c t v:=a;have g:=n;obtain⟨p,q,d,w,rfl,y,z⟩:=n;have o:DataW.TrodAll enc prog W 0 (fun _=>true) true Tryz.f7.params.toList args.toList u p:=d;rw[Tryz.params7]at o b;obtain⟨v0,A,J,B,E,L,i,rfl,rfl,r,r0⟩:=trodAll_cons o;obtain⟨rfl,rfl,rfl⟩:=trodAll_nil r0;obtain rfl:args=#[v0]:=(by cases args;simp_all);obtain⟨rfl,rfl⟩:=trodVars_none w;have s:=r;have k:∀x∈E,x.block<W.heap.size:=(by obtain⟨m,F⟩:=s;exact DataW.trod_lt m _ _ _ F);obtain⟨G,M,c0,rfl,s0,l⟩:=fK (okWide_slice underlying49 (b 0 49 v0 rfl rfl)) r;clear d a;refine(F0 W s0 l).mono fun e N⟨I,bel⟩=>?_
 subst I;exact⟨_,rfl,_,_,_,[],_,[],g,trodAll_mk1 (shut_bool underlying4 _),(trodAll_cons_mk (Below.trod bP (by kernel_rfl) (wj (by kernel_rfl)) s bel k) trodAll_mk0),rfl,bel.frame _,fun h=>by cases h⟩
theorem loadAll_holds:Rows.LoadAllSaid:=
 OpenClaim.holds_of_wide 7 Tryz.f7 rfl rfl rfl rfl rfl rfl rfl ⟨rfl,rfl,rfl,rfl,rfl⟩ rfl rfl rfl rfl rfl (by kernel_rfl) func7 (by kernel_rfl)
  (wj (by kernel_rfl)) (by unfold Func.isWrapper;first | (rw[zv (by decide +kernel)];kernel_rfl) | (rw[zq (by decide +kernel)];exact⟨rfl,rfl⟩))
  (fun os a H b _=>oO os a H b)
