import Derived.Test.YtgbkmjnnlkgpnaaGreatZe3
import Derived.Test.YtgbkmjnnlkgpnaaGreatZe36
import Derived.Test.YtgbkmjnnlkgpnaaGreatZe31
import Derived.ChangeSlices
import Derived.ChangeSame
import Derived.Deep.Slices
import Derived.Lib.SmallJoins
import Derived.Test.YtgbkmjnnlkgpnaaGreatZe54
set_option maxHeartbeats 8000000
set_option maxRecDepth 100000
namespace Go.Proofs.YtgbkmjnnlkgpnaaGreat
open Go Go.Deep Go.ChangeShapes Go.WideShapes Go.ChangeAt Go.RowKit Co Co.S
def aHL (W:World) (v:Value) (n k:Nat) (xs:List Value):Prop:=xs.length=n*k/\∃ p cap,v=.slice p n cap/\n<=cap/\cap<=maxLen/\(0<n->∃ b off,p=some ⟨b,off,none⟩/\b<W.heap.size/\∀ j u,xs[j]?=some u->W.cell? ⟨b,off+j,none⟩=some u)
theorem uB {k:Nat} {α:Type}:∀ (L:List (α×List Value)),(∀ x∈L,x.2.length=k)->∀ i r,r<k->(L.flatMap (·.2))[i*k+r]?=(L[i]?).bind (fun x=>x.2[r]?)
 | [],_,i,r,_=>by simp
 | x::L,h,0,r,hr=>by
  have hx:x.2.length=k:=h x (by simp);rw[List.flatMap_cons,Nat.zero_mul,Nat.zero_add,List.getElem?_append_left (by omega)];rfl
 | x::L,h,i+1,r,hr=>by
  have hx:x.2.length=k:=h x (by simp);have e:(i+1)*k+r=k+(i*k+r):=(by rw[Nat.add_mul];omega);rw[List.flatMap_cons,e,List.getElem?_append_right (by omega),hx,Nat.add_sub_cancel_left,uB L (fun y hy=>h y (by simp[hy])) i r hr];rfl
theorem qJ {k:Nat} {α:Type}:∀ (L:List (α×List Value)),(∀ x∈L,x.2.length=k)->(L.flatMap (·.2)).length=L.length*k
 | [],_=>by simp
 | x::L,h=>by
  rw[List.flatMap_cons,List.length_append,h x (by simp),qJ L (fun y hy=>h y (by simp[hy])),List.length_cons,Nat.add_mul];omega
theorem qK {α:Type} {f:α->List Value}:∀ (L:List (α×List Value)),(∀ x∈L,x.2=f x.1)->L.flatMap (·.2)=(L.map (·.1)).flatMap f
 | [],_=>rfl
 | x::L,h=>by
  rw[List.flatMap_cons,List.map_cons,List.flatMap_cons,h x (by simp),qK L (fun y hy=>h y (by simp[hy]))]
theorem aHx {H:Type} {enc:TypeId×Value->H} {P:Program} {w:World} {base:Nat} {spare:Nat->Bool} {held:Bool} {t:TypeId} {f0 f1 f2 f3 f4:Field} {fuel:Nat} {cs:List Value} {x:DataW H×List MemPlace}
  (ht:P.underlying t=some (.struct #[f0,f1,f2,f3,f4])) (h:DataW.trod enc P w base spare held fuel t cs=some x) :
  ∃ y0 y1 y2 y3 y4 n,cs.length=P.cellsOf t/\DataW.trod enc P w base spare held n f0.type ((cs.drop f0.offset).take (P.cellsOf f0.type))=some y0/\DataW.trod enc P w base spare held n f1.type ((cs.drop f1.offset).take (P.cellsOf f1.type))=some y1 /\
   DataW.trod enc P w base spare held n f2.type ((cs.drop f2.offset).take (P.cellsOf f2.type))=some y2/\DataW.trod enc P w base spare held n f3.type ((cs.drop f3.offset).take (P.cellsOf f3.type))=some y3/\DataW.trod enc P w base spare held n f4.type ((cs.drop f4.offset).take (P.cellsOf f4.type))=some y4:=by
 obtain⟨xs,n,_,_,hl,hx,hf⟩:=DataW.trod_struct ht h
 match xs,hx,hf with
 | [y0,y1,y2,y3,y4],_,hf=>exact⟨y0,y1,y2,y3,y4,n,hl,hf 0 f0 rfl,hf 1 f1 rfl,hf 2 f2 rfl,hf 3 f3 rfl,hf 4 f4 rfl⟩
section
variable {H:Type} {enc:TypeId×Value->H} {W:World}
theorem open_row {t e:TypeId} {fuel k:Nat} {cs:List Value} {x:DataW H×List MemPlace} {α:Type} {P:α->List Value->Prop} (ht:Tryz.prog.underlying t=some (.slice e)) (hk:Tryz.prog.cellsOf e=k) (h0:0<k)
  (h:DataW.trod enc Tryz.prog W 0 (fun _=>true) true fuel t cs=some x) (hone:∀ n cs' y,cs'.length=k->DataW.trod enc Tryz.prog W 0 (fun _=>true) true n e cs'=some y->∃ u:α,P u cs') :
  ∃ v,cs=[v]/\∃ L:List (α×List Value),(∀ x∈L,P x.1 x.2/\x.2.length=k)/\aHL W v L.length k (L.flatMap (·.2)):=by
 rcases Go.Deep.open_slice ht h with ⟨rfl,_⟩ | ⟨a,len,cap,m,n,D,Pl,rfl,hb,hl,hm,hmm,hx,hel⟩
 ·exact⟨_,rfl,[],by simp,(Nat.zero_mul k).symm,none,0,rfl,Nat.le_refl _,Nat.zero_le _,fun h=>absurd h (Nat.lt_irrefl _)⟩
 have hlm:len<=m:=by rw[hmm];simpa using hl
 have each:∀ i,i<len->∃ x:α×List Value,P x.1 x.2/\x.2.length=k/\∀ r,r<k->W.cell? ((a.add (i*k)).add r)=x.2[r]?:=by
  intro i hi;obtain⟨cs',e1,e2⟩:=hel i (by omega);rw[hk] at e1;obtain⟨_,e3,e4⟩:=World.cells?_some e1;obtain⟨u,hu⟩:=hone _ _ _ e3 e2;exact⟨(u,cs'),hu,e3,e4⟩
 obtain⟨L,hL,hx⟩:=aAA len each
 have hmem:∀ x∈L,P x.1 x.2/\x.2.length=k:=fun x hx'=>by
  obtain⟨i,hi,rfl⟩:=List.getElem_of_mem hx';exact⟨(hx i hi).1,(hx i hi).2.1⟩
 refine⟨_,rfl,L,hmem,qJ L (fun x hx=>(hmem x hx).2),some a,cap,by rw[hL],by rw[hL];exact hl,hm,fun hn=>?_⟩;obtain⟨b,off,spot⟩:=a;have hz:=(hx 0 hn).2.2 0 h0;have hlen0:=(hx 0 hn).2.1;rw[qQq (by omega)] at hz;have hspot:spot=none:=(by simpa [Addr.add] using World.cell?_spot hz);subst hspot;refine⟨b,off,rfl,?_,fun j u hj=>?_⟩
 ·have:=World.block_lt_of_cell? _ _ hz
  simpa [Addr.add] using this
 have hjl:j<L.length*k:=by
  rw[<- qJ L (fun x hx=>(hmem x hx).2)];rcases Nat.lt_or_ge j (L.flatMap (·.2)).length with h|h
  ·exact h
  rw[List.getElem?_eq_none h] at hj;cases hj
 have hi:j / k<L.length:=Nat.div_lt_of_lt_mul (by rw[Nat.mul_comm];exact hjl);have hr:j % k<k:=Nat.mod_lt _ h0;have e:j / k*k+j % k=j:=(by rw[Nat.mul_comm];exact Nat.div_add_mod j k);have h1:=uB L (fun x hx=>(hmem x hx).2) (j / k) (j % k) hr;rw[e,hj,qQq hi] at h1;have h2:=(hx (j / k) hi).2.2 (j % k) hr;rw[vK,vK,Nat.add_assoc,e] at h2;rw[h2];exact h1.symm
theorem aHy {fuel:Nat} {cs:List Value} {x:DataW H×List MemPlace} {t:TypeId} {f0 f1 f2:Field} (ht:Tryz.prog.underlying t=some (.struct #[f0,f1,f2])) (h:DataW.trod enc Tryz.prog W 0 (fun _=>true) true fuel t cs=some x) :
  ∃ y0 y1 y2 n,cs.length=Tryz.prog.cellsOf t/\DataW.trod enc Tryz.prog W 0 (fun _=>true) true n f0.type ((cs.drop f0.offset).take (Tryz.prog.cellsOf f0.type))=some y0/\DataW.trod enc Tryz.prog W 0 (fun _=>true) true n f1.type ((cs.drop f1.offset).take (Tryz.prog.cellsOf f1.type))=some y1 /\
   DataW.trod enc Tryz.prog W 0 (fun _=>true) true n f2.type ((cs.drop f2.offset).take (Tryz.prog.cellsOf f2.type))=some y2:=by
 obtain⟨xs,n,_,_,hl,hx,hf⟩:=DataW.trod_struct ht h
 match xs,hx,hf with
 | [y0,y1,y2],_,hf=>exact⟨y0,y1,y2,n,hl,hf 0 f0 rfl,hf 1 f1 rfl,hf 2 f2 rfl⟩
theorem c9:Tryz.prog.cellsOf 9=1:=by kernel_rfl
theorem c3:Tryz.prog.cellsOf 3=1:=by kernel_rfl
theorem c2:Tryz.prog.cellsOf 2=1:=by kernel_rfl
theorem c56:Tryz.prog.cellsOf 45=1:=by kernel_rfl
theorem c85:Tryz.prog.cellsOf 47=5:=by kernel_rfl
theorem c26:Tryz.prog.cellsOf 42=3:=by kernel_rfl
theorem aCi {fuel:Nat} {cs:List Value} {x:DataW H×List MemPlace} (h:DataW.trod enc Tryz.prog W 0 (fun _=>true) true fuel 45 cs=some x):∃ v l,cs=[v]/\InV (fun q=>q<W.heap.size) W v l/\∀ x∈l,x.2.2.size<=maxLen:=by
 obtain⟨v,rfl,L,h1,h2⟩:=open_row (α:=T3) (P:=fun u cs'=>cs'=[.int .i64 u.1,.int .i64 u.2.1,.string u.2.2]/\u.2.2.size<=maxLen) Tryz.underlying45 c26 (by decide) h (fun n cs' y hl hy=>by
  obtain⟨y0,y1,y2,m,_,t0,t1,t2⟩:=aHy Tryz.underlying42 hy
  match cs',hl with
  | [x0,x1,x2],_ =>
   simp only[c9,c3,c2,List.drop_zero,qNq,qMq,List.take_zero] at t0 t1 t2;obtain⟨k,e0,_,_⟩:=DataW.trod_int Tryz.underlying3 t0;obtain⟨n1,e1,_,_⟩:=DataW.trod_int Tryz.underlying2 t1;obtain⟨s,e2,_,hs⟩:=DataW.trod_string Tryz.underlying9 t2;simp only[List.cons.injEq,and_true] at e0 e1 e2;subst e0 e1 e2;exact⟨(k,n1,s),rfl,hs⟩)
 refine⟨v,L.map (·.1),rfl,?_,fun x hx=>?_⟩
 ·obtain⟨hl,p,cap,e,c1,c2,c3⟩:=h2;refine⟨p,cap,by rw[List.length_map];exact e,by rw[List.length_map];exact c1,c2,fun h0=>?_⟩;obtain⟨b,off,e2,hb,hc⟩:=c3 (by rw[List.length_map] at h0;exact h0);refine⟨b,off,e2,hb,hb,?_⟩
  have:cells3 (L.map (·.1))=L.flatMap (·.2):=by
   rw[qK (f:=fun u:T3=>[.int .i64 u.1,.int .i64 u.2.1,.string u.2.2]) L (fun x hx=>(h1 x hx).1.1)];rfl
  rw[this];exact hc
 obtain⟨y,hy,rfl⟩:=List.mem_map.1 hx;exact (h1 y hy).1.2
theorem aEk {v:Value} {d:DataW H} {p:List MemPlace} (hv:∃ a l c,v=.slice a l c) (h:DataW.Trod enc Tryz.prog W 0 (fun _=>true) true 22 v d p):∃ (q:Option Addr) (L:List OpX) (c:Nat),v=.slice q L.length c/\aDC W q L/\L.length<=maxLen/\∀ o∈L,F64 o.id:=by
 obtain⟨a0,len0,cap0,rfl⟩:=hv;obtain⟨fuel,hf⟩:=h
 obtain⟨v,e,L,h1,h2⟩:=open_row (α:=OpX×Value) (P:=fun u cs'=>cs'=opC u.1 u.2/\InV (fun q=>q<W.heap.size) W u.2 u.1.vals/\F64 u.1.id/\u.1.tbl.size<=maxLen/\u.1.col.size<=maxLen/\∀ x∈u.1.vals,x.2.2.size<=maxLen) Tryz.underlying22 c85 (by decide) hf (fun n cs' y hl hy=>by
  obtain⟨y0,y1,y2,y3,y4,m,_,t0,t1,t2,t3,t4⟩:=aHx Tryz.underlying47 hy
  match cs',hl with
  | [x0,x1,x2,x3,x4],_ =>
   simp only[c9,c3,c56,List.drop_zero,qNq,qMq,List.take_zero] at t0 t1 t2 t3 t4;obtain⟨k,e0,_,_⟩:=DataW.trod_int Tryz.underlying3 t0;obtain⟨tb,e1,_,ht⟩:=DataW.trod_string Tryz.underlying9 t1;obtain⟨i,e2,_,hi⟩:=DataW.trod_int Tryz.underlying3 t2;obtain⟨s,e3,_,hs⟩:=DataW.trod_string Tryz.underlying9 t3;obtain⟨vv,l,e4,hV,hl⟩:=aCi t4;simp only[List.cons.injEq,and_true] at e0 e1 e2 e3 e4;subst e0 e1 e2 e3 e4;exact⟨(⟨k,tb,i,s,l⟩,x4),rfl,hV,bounds_i64 hi,ht,hs,hl⟩)
 simp[Value.cells] at e;subst e;obtain⟨hl,q,cap,e,c1,c2,c3⟩:=h2;refine⟨q,L.map (fun x=>x.1.1),cap,by rw[List.length_map];exact e,fun j hj=>?_,by rw[List.length_map];omega,fun o ho=>?_⟩
 ·rw[List.length_map] at hj;obtain⟨b,off,e2,hb,hc⟩:=c3 (by omega);obtain⟨⟨e3,hV,hi,ht,hs,hz⟩,hl4⟩:=h1 L[j] (List.getElem_mem _);have hat:=(fun r hr=>uB L (fun x hx=>(h1 x hx).2) j r hr);simp only[qQq hj,qLq,e3] at hat;rw[List.getElem_map];exact⟨b,off,L[j].1.2,e2,hb,hc _ _ (hat 0 (by decide)),hc _ _ (hat 1 (by decide)),hc _ _ (hat 2 (by decide)),hc _ _ (hat 3 (by decide)),hc _ _ (hat 4 (by decide)),hV,ht,hs,hz⟩
 obtain⟨x,hx,rfl⟩:=List.mem_map.1 ho;exact (h1 x hx).1.2.2.1
end
end Go.Proofs.YtgbkmjnnlkgpnaaGreat
namespace Go.Proofs.YtgbkmjnnlkgpnaaGreat
open Go Go.ChangeShapes Go.WideShapes Go.ChangeAt Go.RowKit
open Go.ChangeMaps (open_string shut_string)
theorem nJ (os:Os) (started:os.Started) (H:Type) (enc:TypeId×Value->H) :
  ReturnsInHanded {} Tryz.checked os 6 .any (Rows.checkAllSpec.pre6 enc Tryz.prog Tryz.f6 Rows.checkAllRow.domain false) (Rows.checkAllSpec.post enc Tryz.prog Tryz.f6 false true false false):=by
 refine returnsInHanded_of_change (C:=Tryz.checked) own started (by kernel_rfl) Tryz.func6
  (ChangeSpec.witness6 (enc:=enc) (C:=Tryz.checked) false ⟨#[],#[.slice none 0 0],[]⟩ 8 (by kernel_rfl) (by kernel_rfl) (by kernel_rfl) (by kernel_rfl)) ?_
 intro W base args ds gs before hval0 hW _ _;have hval:∀ (j:Nat) t v,Tryz.f6.params[j]?=some t->args[j]?=some v->Value.okWide Tryz.prog W .any base t v:=hval0;have hW':=hW;obtain⟨p,q,hA0,hV,rfl,hfz,hnd⟩:=hW;have hA:DataW.TrodAll enc Tryz.prog W 0 (fun _=>true) true Tryz.f6.params.toList args.toList ds p:=hA0;rw[Tryz.params6] at hA hval;obtain⟨v0,vs0,d0,ds0,p0,q0,hargs,rfl,rfl,h0,r0⟩:=trodAll_cons hA;obtain⟨rfl,rfl,rfl⟩:=trodAll_nil r0;obtain rfl:args=#[v0]:=(by cases args;simp_all);obtain⟨rfl,rfl⟩:=trodVars_none hV;have k0:=h0;have lt0:∀ x∈p0,x.block<W.heap.size:=(by obtain⟨m,hm⟩:=k0;exact DataW.trod_lt m _ _ _ hm);obtain⟨q0x,L0,c0,rfl,s0,hl0,hi0⟩:=aEk (okWide_slice Tryz.underlying22 (hval 0 22 v0 rfl rfl)) h0;clear hA0 hval0;refine (aEd W s0 hl0 hi0).mono fun e W' ⟨he,bel⟩=>?_
 subst he;exact⟨_,rfl,_,_,_,[],_,[],hW',trodAll_mk1 (shut_bool Tryz.underlying4 _),(trodAll_cons_mk (Below.trod laidOut (by kernel_rfl) (of_decide_eq_true (by kernel_rfl)) k0 bel lt0) trodAll_mk0),rfl,bel.frame _,fun h=>by cases h⟩
theorem checkAll_holds:Rows.CheckAllSaid :=
 OpenClaim.holds_of_wide 6 Tryz.f6 rfl rfl rfl rfl rfl rfl rfl ⟨rfl,rfl,rfl,rfl,rfl⟩ rfl rfl rfl rfl rfl (by kernel_rfl) Tryz.func6 (by kernel_rfl)
  (of_decide_eq_true (by kernel_rfl)) (by unfold Func.isWrapper;first | (rw[if_pos (by decide +kernel)];kernel_rfl) | (rw[if_neg (by decide +kernel)];exact⟨rfl,rfl⟩))
  (fun os started H enc _=>nJ os started H enc)
end Go.Proofs.YtgbkmjnnlkgpnaaGreat
namespace Go.Proofs.YtgbkmjnnlkgpnaaGreat
open Go Go.RowKit Go.ChangeShapes Go.Proofs Co Co.S
def RdN (W:World) (p:Option Addr) (xs:List Int):Prop:=∀ j (_:j<xs.length),∃ b off,p=some ⟨b,off,none⟩/\b<W.heap.size/\W.cell? ⟨b,off+j,none⟩=some (.int .i64 (xs.getD j 0))
theorem aCj {H:Type} {enc:TypeId×Value->H} {W:World} {v:Value} {d:DataW H} {p:List MemPlace}
  (h:DataW.Trod enc Tryz.prog W 0 (fun _=>true) true 30 v d p) (hv:∃ a l c,v=.slice a l c):∃ q xs len cap,v=.slice q len cap/\xs.length=len/\(len<=cap/\cap<=maxLen)/\RdN W q xs:=by
 obtain⟨a0,l0,c0,rfl⟩:=hv;obtain⟨fuel,hf⟩:=h;rcases open_ints Tryz.underlying30 Tryz.underlying3 (by kernel_rfl) hf with ⟨hcs,_⟩ | ⟨a,len,cap,zs,hcs,_,hl,hm,hz,_,hc,_⟩
 ·simp[Value.cells] at hcs;obtain⟨rfl,rfl,rfl⟩:=hcs;exact⟨none,[],0,0,rfl,rfl,⟨Nat.le_refl _,Nat.zero_le _⟩,fun r hr=>by simp at hr⟩
 simp[Value.cells] at hcs;obtain⟨rfl,rfl,rfl⟩:=hcs;simp only[if_true] at hz;refine⟨some a,zs.take l0,l0,c0,rfl,by rw[List.length_take];omega,⟨hl,hm⟩,fun j hj=>?_⟩;have hj':j<l0:=(by rw[List.length_take] at hj;omega);have hs:=World.cell?_spot (hc 0 (by omega));have hs:a.spot=none:=(by simpa [Addr.add] using hs);obtain⟨b,off,spot⟩:=a;obtain rfl:spot=none:=hs;have hcj:=hc j (by omega);rw[Addr.add_lit] at hcj;refine⟨b,off,rfl,World.block_lt_of_cell? W ⟨b,off+j,none⟩ hcj,?_⟩;rw[hcj]
 congr 2
 rw[List.getD_eq_getElem?_getD,List.getD_eq_getElem?_getD,List.getElem?_take_of_lt hj']
def kyT (xs:List Int) (i:Nat):List Int:=(xs.take i).map fun x=>x.tmod 20
theorem aEl {xs:List Int} {i:Nat} (h:i<xs.length):kyT xs (i+1)=kyT xs i++[(xs.getD i 0).tmod 20]:=by
 unfold kyT;rw[List.take_succ_eq_append_getElem h,List.map_append,List.getD_eq_getElem?_getD,qQq h];rfl
theorem uC {xs:List Int} {i:Nat} (h:i<=xs.length):(kyT xs i).length=i:=by unfold kyT;rw[List.length_map,List.length_take];omega
theorem aFN {xs:List Int} {i j:Nat} (hj:j<i) (hi:i<=xs.length) (v:Int):((kyT xs i).take (j+1)).any (fun u=>decide (v=u))=(((kyT xs i).take j).any (fun u=>decide (v=u)) || decide (v=(xs.getD j 0).tmod 20)):=by
 have hl:j<(kyT xs i).length:=(by rw[uC hi];exact hj);rw[List.take_succ_eq_append_getElem hl,List.any_append]
 have h:(kyT xs i)[j]=(xs.getD j 0).tmod 20:=by
  have h:(kyT xs i)[j]?=some ((xs.getD j 0).tmod 20):=by
   unfold kyT;rw[List.getElem?_map,List.getElem?_take_of_lt hj,List.getD_eq_getElem?_getD,qQq (by omega)];rfl
  rw[qQq hl] at h;exact Option.some.inj h
 rw[h]
 simp
def iZ (vs:List Int):Int:=match aO (gZ vs) vs.length with
 | some k=>(k:Int)
 | none=>-1
def mQ (vs:List Int) (v:Int) (i j:Nat):Int:=if iZ vs<0 then (if ((vs.take j).any fun u=>decide (v=u))=true then (i:Int) else -1) else iZ vs
theorem lZ {vs us:List Int} {k:Nat} (hk:k<vs.length):gZ (vs++us) k=gZ vs k:=by
 unfold gZ;rw[List.take_append_of_le_length (by omega),List.getD_eq_getElem?_getD,List.getD_eq_getElem?_getD,List.getElem?_append_left hk]
theorem sG (vs:List Int) (v:Int):gZ (vs++[v]) vs.length=vs.any fun u=>decide (v=u):=by
 unfold gZ;rw[List.take_left,List.getD_eq_getElem?_getD,List.getElem?_append_right (Nat.le_refl _)]
 simp
theorem jW {vs:List Int} (h:aO (gZ vs) vs.length=none):iZ vs=-1:=by unfold iZ;rw[h]
theorem fC {vs:List Int} {k:Nat} (h:aO (gZ vs) vs.length=some k):iZ vs=(k:Int):=by unfold iZ;rw[h]
theorem aCk (vs:List Int) (v:Int):iZ (vs++[v])=mQ vs v vs.length vs.length:=by
 unfold mQ;rw[List.take_length];have hl:(vs++[v]).length=vs.length+1:=(by rw[List.length_append];rfl);cases hf:aO (gZ vs) vs.length with
 | some k =>
  obtain⟨h1,h2,h3⟩:=gX hf;rw[fC hf,if_neg (by omega)];refine fC ?_;rw[hl];exact bM (by omega) (by rw[lZ h1];exact h2) (fun j hj=>by rw[lZ (by omega)];exact h3 j hj)
 | none =>
  have h0:∀ j,j<vs.length->gZ vs j=false:=fun j hj=>by
   unfold aO at hf;rw[List.find?_eq_none] at hf;simpa using hf j (List.mem_range.2 hj)
  rw[jW hf,if_pos (by decide)];by_cases hd:(vs.any fun u=>decide (v=u))=true
  ·rw[if_pos hd];refine fC ?_;rw[hl];exact bM (by omega) (by rw[sG];exact hd) (fun j hj=>by rw[lZ hj];exact h0 j hj)
  ·rw[if_neg hd];refine jW ?_;rw[hl];refine aZ (fun j hj=>?_);by_cases e:j=vs.length
   ·subst e;rw[sG];exact Bool.eq_false_iff.2 hd
   ·rw[lZ (by omega)];exact h0 j (by omega)
theorem aCl (vs:List Int) (v:Int) (i:Nat):mQ vs v i 0=iZ vs:=by
 unfold mQ;rw[List.take_zero];split
 ·rename_i h;cases hf:aO (gZ vs) vs.length with
  | none=>rw[jW hf];rfl
  | some k=>rw[fC hf] at h;omega
 rfl
theorem aEm {vs:List Int} (h:iZ vs<0):kyF vs=(0,e0,0,e0):=by
 unfold kyF;cases hf:aO (gZ vs) vs.length with
 | none=>rfl
 | some k=>rw[fC hf] at h;omega
theorem aEn {vs:List Int} (h:¬ iZ vs<0):kyF vs=(8,aV,iZ vs,sId):=by
 unfold kyF;cases hf:aO (gZ vs) vs.length with
 | none=>rw[jW hf] at h;exact absurd (by decide) h
 | some k=>rw[fC hf]
end Go.Proofs.YtgbkmjnnlkgpnaaGreat
namespace Go.Proofs.YtgbkmjnnlkgpnaaGreat
open Go Go.RowKit Go.Proofs Co Co.S
theorem aGV (v:Int):OpOk (kyO v):=tT (tb:=aV) (by decide) (by decide) (fun x hx=>by
 have h:x=(1,v,e0)∨x=(0,0,e0):=(by simpa [kyV] using hx);rcases h with rfl|rfl
 ·exact Nat.zero_le _
 ·exact Nat.zero_le _) (by show 2<=10;decide)
theorem aCm {vs:List Int} {v u:Int} {i j:Nat} (h:(vs.take (j+1)).any (fun u=>decide (v=u))=((vs.take j).any (fun u=>decide (v=u)) || decide (v=u))):mQ vs v i (j+1)=if mQ vs v i j<0/\u=v then (i:Int) else mQ vs v i j:=by
 unfold mQ;rw[h];by_cases hf:iZ vs<0
 ·rw[if_pos hf,if_pos hf];cases (vs.take j).any (fun u=>decide (v=u))
  ·by_cases hu:u=v
   ·subst hu;simp
   have hu':¬ v=u:=(fun e=>hu e.symm);simp[hu,hu']
  simp
 rw[if_neg hf,if_neg hf,if_neg (fun h=>hf h.1)]
theorem aCn {p0:Option Addr} {c0:Nat} {xs:List Int} (W:World) (hx:RdN W p0 xs) (hm:xs.length<=maxLen):Calls Tryz.prog 10 #[.slice p0 xs.length c0] W fun e w'=>e=.returned (.bool true)/\Below W.heap.size W w':=by
 have hbeg:=iY W;obtain⟨n,hn⟩:∃ n,xs.length=n:=⟨_,rfl⟩;have hni:(n:Int)<=9223372036854775807:=(by unfold maxLen at hm;omega);have HX:=qAq (qBq hx hn);rw[hn];clear hx hm hn;go_enter Tryz.func10,Tryz.ntmps10;go_upto_region 4 with (go_at_call 23;(with_reducible refine hbeg.mono ?_);rintro e w4 ⟨rfl,hb2⟩;have H4:=qAq hb2;clear hbeg hb2);have hstar:=lV w4;go_upto_region 5 with (go_at_call 12;(with_reducible refine hstar.mono ?_);rintro e w5 ⟨d,b,ps,rfl,hP5⟩;have HP5:=qAq hP5;clear hstar hP5);have hb5:=aB H4.out (HP5.out.bel (Below.refl _ _) (fun q hq=>hq))
 have HXC:Hid (∀ i,i<n->∃ g off,p0=some ⟨g,off,none⟩/\∀ w,Below w5.heap.size w5 w->g<w.heap.size/\w.cell? ⟨g,off+i,none⟩=some (.int .i64 (xs.getD i 0))):=qAq (fun i hi=>by
  obtain⟨g,off,e,h1,h2⟩:=HX.out.1 i (by rw[HX.out.2];exact hi);refine⟨g,off,e,fun w hw=>?_⟩;have hb:=aB hb5 hw;exact⟨Nat.lt_of_lt_of_le h1 hb.size,(World.cell?_of_block (w:=W) (hb.block _ h1)).trans h2⟩)
 clear hb5;go_wp2_with fail;go_loopg [6,7,8] 31 (fun gh lv fv iv w=>∃ (i:Nat) (p:Option Addr) (c:Nat),iv=.int .i64 (i:Int)/\i<=n/\i<=30/\31<=i+gh/\lv=.slice p i c/\fv=.int .i64 (iZ (kyT xs i))/\OpsO w w5.heap.size (.slice p i c) ((kyT xs i).map kyO)/\Below w5.heap.size w5 w)
 case atStart=>exact⟨0,none,0,rfl,Nat.zero_le _,Nat.zero_le _,by omega,rfl,rfl,OpsO.nil,Below.refl _ _⟩
 obtain⟨i,p,c,rfl,hin,hi30,hg,rfl,rfl,ho,hB⟩:=hrel;have HB:=qAq (qBq ho hB);have hkl:=uC (xs:=xs) (i:=i) (by rw[HX.out.2];exact hin);clear ho hB;by_cases hlt:i<n/\i<30
 ·obtain⟨hlt,hl30⟩:=hlt;have hii:(i:Int)<(n:Int):=(by omega);have hi3:(i:Int)<30:=(by omega);have hix:i<xs.length:=(by rw[HX.out.2];exact hlt);have hsucc:=aEl hix;have hfs:=aCk (kyT xs i) ((xs.getD i 0).tmod 20);rw[<- hsucc,hkl] at hfs;obtain⟨xi,hxi⟩:∃ x,xs.getD i 0=x:=⟨_,rfl⟩;rw[hxi] at hsucc hfs;obtain⟨vs,hvs⟩:∃ v,kyT xs i=v:=⟨_,rfl⟩;obtain⟨f0,hf0⟩:∃ f,iZ vs=f:=⟨_,rfl⟩;rw[hvs] at hsucc hfs hkl;rw[hvs,hf0];obtain⟨g,off,rfl,hci⟩:=HXC.out i hlt;rw[hxi] at hci
  have HXI:Hid (∀ j,j<n->∀ w,Below w5.heap.size w5 w->g<w.heap.size/\w.cell? ⟨g,off+j,none⟩=some (.int .i64 (xs.getD j 0))):=qAq (fun j hj w hw=>by
   obtain⟨g',off',e,h1⟩:=HXC.out j hj;cases e;exact h1 w hw)
  have HCI:=qAq hci;have HI:=qAq (qBq hsucc (qBq hfs (qBq hkl (qBq hvs (qBq hf0 hxi)))));clear hsucc hfs hkl hvs hf0 hxi hci hix;obtain⟨wo,hwo⟩:∃ z,z=wr:=⟨_,rfl⟩;subst hwo;go_wp2_with fail;go_loopg [7,9] (i+1) (fun gh fv jv w=>∃ (j:Nat),jv=.int .i64 (j:Int)/\j<=i/\i+1<=j+gh/\fv=.int .i64 (mQ vs (xi.tmod 20) i j)/\Below wo.heap.size wo w)
  case atStart=>exact⟨0,rfl,Nat.zero_le _,by omega,by rw[aCl,HI.out.2.2.2.2.1],Below.refl _ _⟩
  obtain⟨j,rfl,hj,hgj,rfl,hBj⟩:=hrel;have HBJ:=qAq hBj;clear hBj;by_cases hlj:j<i
  ·have hji:(j:Int)<(i:Int):=(by omega);have hjn:(j:Int)<(n:Int):=(by omega);have hnx:=aCm (i:=i) (aFN (v:=xi.tmod 20) hlj (by rw[HX.out.2];exact hin));rw[HI.out.2.2.2.1] at hnx;obtain⟨xj,hxj⟩:∃ x,xs.getD j 0=x:=⟨_,rfl⟩;rw[hxj] at hnx;obtain⟨f,hf⟩:∃ f,mQ vs (xi.tmod 20) i j=f:=⟨_,rfl⟩;rw[hf] at hnx;rw[hf];have HBr:Hid (∀ y,Below wr.heap.size wr y->Below w5.heap.size w5 y):=qAq (fun y hy=>aB (aB HB.out.2 HBJ.out) hy)
   have HCJ:Hid (∀ y,Below wr.heap.size wr y->g<y.heap.size/\y.cell? ⟨g,off+j,none⟩=some (.int .i64 xj)):=qAq (fun y hy=>by
    rw[<- hxj];exact HXI.out j (by omega) y (HBr.out y hy))
   have HNX:=qAq hnx;clear hnx hxj hf;by_cases hf:f<0
   ·obtain⟨q,hq⟩:∃ q,(xj.tmod 20==xi.tmod 20)=q:=⟨_,rfl⟩;go_upto_region 13 with fail;refine Par.wp_region_par 15 [.int .i64 f,.bool true,.bool true,.slice (some ⟨g,off,none⟩) n c0,.int .i64 ((j:Int)),.pointer (some ⟨g,off+j,none⟩),.int .i64 xj,.int .i64 (xj.tmod 20),.slice (some ⟨g,off,none⟩) n c0,.int .i64 ((i:Int)),.pointer (some ⟨g,off+i,none⟩),.int .i64 xi,.int .i64 (xi.tmod 20),.bool q,.bool q] (fun y=>Below wr.heap.size wr y) ?A1 ?hm1 ?hB1 ?hA1 ((aE wr)) ?hop1 ?hT1
    case hm1=>kernel_rfl
    case hB1=>kernel_rfl
    case hA1 =>
     simp only[Par.putA,Par.dstAt,Act.put,qDq,qEq,qFq,qLq,qGq,qHq,qIq,qJq,qKq];rfl
    case hop1 =>
     simp only[qMq,List.take_zero,Par.GiveAll,and_true];and_intros<;>intro w' hR<;>have HR:=qAq hR
     rotate_left 6;have z0:=(HCJ.out w' hR).2;rotate_left 5;have z0:=(HCI.out w' (HBr.out w' hR)).2;rotate_left 4
     all_goals(clear hR;simp only[Par.Gives];go_simp;all_goals exact HR.out)
    intro w' hR;simp only[qNq,List.drop_nil];have HR:=qAq (aB HBJ.out hR);clear hR;cases q
    ·have hne:¬ xj.tmod 20=xi.tmod 20:=(fun e=>by rw[e] at hq;simp at hq);have HE:Hid (mQ vs (xi.tmod 20) i (j+1)=f):=qAq (by rw[HNX.out,if_neg (fun h=>hne h.2)]);clear hne;go_wp2_with fail;go_roundg (i-j)
     case measure=>omega
     exact⟨j+1,by go_num,by omega,by omega,by rw[HE.out],HR.out⟩
    have heq:xj.tmod 20=xi.tmod 20:=beq_iff_eq.1 hq;have HE:Hid (mQ vs (xi.tmod 20) i (j+1)=(i:Int)):=qAq (by rw[HNX.out,if_pos ⟨hf,heq⟩]);clear heq;go_wp2_with fail;go_roundg (i-j)
    case measure=>omega
    exact⟨j+1,by go_num,by omega,by omega,by rw[HE.out],HR.out⟩
   have HE:Hid (mQ vs (xi.tmod 20) i (j+1)=f):=qAq (by rw[HNX.out,if_neg (fun h=>hf h.1)]);go_upto_region 13 with fail;refine Par.wp_region_par 15 [.int .i64 f,.bool false,.bool false,undef,undef,undef,undef,undef,undef,undef,undef,undef,undef,undef,.bool false] (fun y=>Below wr.heap.size wr y) ?A2 ?hm2 ?hB2 ?hA2 ((aE wr)) ?hop2 ?hT2
   case hm2=>kernel_rfl
   case hB2=>kernel_rfl
   case hA2 =>
    simp only[Par.putA,Par.dstAt,Act.put,qDq,qEq,qFq,qLq,qGq,qHq,qIq,qJq,qKq];rfl
   case hop2 =>
    simp only[qMq,List.take_zero,Par.GiveAll,and_true];and_intros<;>intro w' hR<;>have HR:=qAq hR
    rotate_left 15
    all_goals(clear hR;simp only[Par.Gives];go_simp;all_goals exact HR.out)
   intro w' hR;simp only[qNq,List.drop_nil];have HR:=qAq (aB HBJ.out hR);clear hR;go_wp2_with fail;go_roundg (i-j)
   case measure=>omega
   exact⟨j+1,by go_num,by omega,by omega,by rw[HE.out],HR.out⟩
  obtain rfl:j=i:=(by omega);have hci:=HCI.out wr (aB HB.out.2 HBJ.out);have c1:=hci.2;have c2:=hci.1;have hn1:=aU (xi.tmod 20) wr;clear hci
  go_wp2_with (first
   | (go_at_call 27;(with_reducible refine hn1.mono ?_);rintro e w6 ⟨rfl,hb6⟩;have D6:=qAq hb6;have hp1:=eF aV (kyV (xi.tmod 20)) 2 #[.int .i64 1,.int .i64 (xi.tmod 20),.string e0,.int .i64 0,.int .i64 0,.string e0] rfl rfl (by decide) (by decide) w6;clear hn1 hb6)
   | (go_at_call 26;(with_reducible refine hp1.mono ?_);rintro e w7 ⟨g3,k3,rfl,hr7,hb7⟩;have hrun:=fB (n1:=aV) (base:=w5.heap.size) (l1:=kyV (xi.tmod 20)) (HB.out.1.later HBJ.out) (by rw[List.length_map,uC (by rw[HX.out.2];exact hin)]) (aB D6.out hb7) (aB HB.out.2 HBJ.out).size (hr7.mono D6.out.size) (by omega);obtain⟨g',cap,wz,hrun,ho2,hbz⟩:=hrun;have HZ:=qAq (qBq ho2 ((aB HB.out.2 HBJ.out).trans hbz));clear hp1 hr7 hb7 ho2 hbz)
   | (at_builtin;refine wpList_append_run rfl (.tmp 49) (.tmp 59) 22 rfl rfl rfl hrun ?_))
  go_roundg (31-(j+1))
  case measure=>omega
  exact⟨j+1,_,_,by go_num,by omega,by omega,by omega,rfl,by rw[HI.out.2.1],by rw[HI.out.1,<- HI.out.2.2.2.1,List.map_append];exact HZ.out.1,HZ.out.2⟩
 obtain⟨vs,hvs⟩:∃ v,kyT xs i=v:=⟨_,rfl⟩;rw[hvs] at HB hkl;rw[hvs];have hol:(vs.map kyO).length=i:=(by rw[List.length_map];exact hkl);have hP:=HP5.out.with HB.out.2
 have hfill:Calls Tryz.prog 13 #[.pointer (some ⟨d,0,none⟩),.pointer (some ⟨b,0,none⟩),.slice p i c] wr (fun e w'=>e=.returned (.tuple #[])/\PD (fun q=>q<w4.heap.size∨(w5.heap.size<=q/\q<wr.heap.size)) wr w' d b (pre 4) ps (kyL vs) (kyL vs)):=by
  have ho:=HB.out.1;have hi:=hi30;subst hol;rw[<- wX]
  exact qH (m:=0) hP ho (fun q h1 h2=>.inr ⟨h1,h2⟩) (eD 4 (by decide)) (dH 4) aR qA iC iC (by omega) (fun o ho=>by
   obtain⟨v,_,rfl⟩:=List.mem_map.1 ho;exact aGV v)
 have hsm:∀ x∈kyL vs,SmP 100 x:=by
  rw[<- wX];exact fun x hx=>(fM iC x hx).mono (by omega)
 have hck0:=aEj (vs:=vs) (by omega);have HC:=qAq (qBq hck0 hsm);clear hP hol hsm hck0 hvs hkl hg;obtain⟨wo,hwo⟩:∃ z,z=wr:=⟨_,rfl⟩;subst hwo;have hstop:¬ (i:Int)<(n:Int)∨((i:Int)<(n:Int)/\¬ (i:Int)<30):=(by omega);rcases hstop with hs|⟨hs,hs2⟩
 all_goals
  clear hlt;go_upto_region 17 with (go_at_call 13;(with_reducible refine hfill.mono ?_);rintro e w13 ⟨rfl,hP13⟩;have HP13:=qAq ((HP5.out.later HB.out.2).back hP13 (fun q hq=>.inl hq));clear hfill hP13);have hck:=HP13.out.check dC HC.out.2 (by decide);rw[HC.out.1] at hck;have HW:=qAq H4.out;by_cases hf:iZ vs<0
  ·rw[aEm hf] at hck;obtain⟨f,hfe⟩:∃ f,iZ vs=f:=⟨_,rfl⟩;rw[hfe] at hf;rw[hfe];go_upto_region 18 with (go_at_call 24;(with_reducible refine hck.mono ?_);rintro e w14 ⟨rfl,hb14⟩;have H14:=qAq hb14;clear hck hb14);have b15:=aC w14 (.cells zF 33);have k15:=qOq w14 (.cells zF 33);have z0:=aA k15 0;have zl:=lt_of_heap k15;have HE:=qAq (aB H4.out ((HP13.out.later (aB H14.out b15)).bel (Below.refl _ _) (fun q hq=>hq)));clear b15 k15;go_wp2_with fail;go_ret;exact⟨rfl,HE.out⟩
  ·rw[aEn hf] at hck;obtain⟨f,hfe⟩:∃ f,iZ vs=f:=⟨_,rfl⟩;rw[hfe] at hf hck;rw[hfe];go_upto_region 18 with (go_at_call 24;(with_reducible refine hck.mono ?_);rintro e w14 ⟨rfl,hb14⟩;have H14:=qAq hb14;clear hck hb14);have b15:=aC w14 (.cells #[.int .i64 8,.int .i64 0,.string aV,.int .i64 f,.string sId] 33);have k15:=qOq w14 (.cells #[.int .i64 8,.int .i64 0,.string aV,.int .i64 f,.string sId] 33);have z0:=aA k15 0;have z1:=aA k15 1;have z2:=aA k15 2;have z3':=aA k15 3;have z4:=aA k15 4;have zl:=lt_of_heap k15;have HE:=qAq (aB H4.out ((HP13.out.later (aB H14.out b15)).bel (Below.refl _ _) (fun q hq=>hq)));clear b15 k15;go_wp2_with fail;go_ret;exact⟨rfl,HE.out⟩
end Go.Proofs.YtgbkmjnnlkgpnaaGreat
namespace Go.Proofs.YtgbkmjnnlkgpnaaGreat
open Go Go.ChangeShapes Go.WideShapes Go.ChangeAt Go.RowKit
open Go.ChangeMaps (open_string shut_string)