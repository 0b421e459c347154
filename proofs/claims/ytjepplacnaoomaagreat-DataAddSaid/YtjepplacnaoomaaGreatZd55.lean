import Derived.Test.YtjepplacnaoomaaGreatZd3
import Derived.Test.YtjepplacnaoomaaGreatZd35
import Derived.Test.YtjepplacnaoomaaGreatZd38
import Derived.ChangeSlices
import Derived.ChangeSame
import Derived.Deep.Slices
import Derived.Lib.SmallJoins
import Derived.Test.YtjepplacnaoomaaGreatZd54
namespace Go.Proofs.YtjepplacnaoomaaGreat
open Go Go.Deep Go.ChangeShapes Go.WideShapes Go.ChangeAt Go.RowKit Co Co.S
def InRw (W : World) (v : Value) (n k : Nat) (xs : List Value) : Prop:=xs.length=n*k∧∃ p cap,v=.slice p n cap∧n≤cap∧cap≤maxLen∧(0<n→∃ b off,p=some ⟨b,off,none⟩∧b<W.heap.size∧∀ j u,xs[j]?=some u→W.cell? ⟨b,off+j,none⟩=some u)
theorem flat_at {k : Nat} {α : Type} : ∀ (L : List (α×List Value)),(∀ x∈L,x.2.length=k)→∀ i r,r<k→(L.flatMap (·.2))[i*k+r]?=(L[i]?).bind (fun x=>x.2[r]?)
 | [],_,i,r,_=>by simp
 | x :: L,h,0,r,hr=>by
  have hx : x.2.length=k:=h x (by simp)
  rw [List.flatMap_cons,Nat.zero_mul,Nat.zero_add,List.getElem?_append_left (by omega)]
  rfl
 | x :: L,h,i+1,r,hr=>by
  have hx : x.2.length=k:=h x (by simp)
  have e : (i+1)*k+r=k+(i*k+r):=by rw [Nat.add_mul]; omega
  rw [List.flatMap_cons,e,List.getElem?_append_right (by omega),hx,Nat.add_sub_cancel_left,flat_at L (fun y hy=>h y (by simp [hy])) i r hr]
  rfl
theorem flat_len {k : Nat} {α : Type} : ∀ (L : List (α×List Value)),(∀ x∈L,x.2.length=k)→(L.flatMap (·.2)).length=L.length*k
 | [],_=>by simp
 | x :: L,h=>by
  rw [List.flatMap_cons,List.length_append,h x (by simp),flat_len L (fun y hy=>h y (by simp [hy])),List.length_cons,Nat.add_mul]; omega
theorem flat_congr {α : Type} {f : α→List Value} : ∀ (L : List (α×List Value)),(∀ x∈L,x.2=f x.1)→L.flatMap (·.2)=(L.map (·.1)).flatMap f
 | [],_=>rfl
 | x :: L,h=>by
  rw [List.flatMap_cons,List.map_cons,List.flatMap_cons,h x (by simp),flat_congr L (fun y hy=>h y (by simp [hy]))]
section
variable {H : Type} {enc : TypeId×Value→H} {W : World}
theorem open_row {t e : TypeId} {fuel k : Nat} {cs : List Value} {x : DataW H×List MemPlace} {α : Type} {P : α→List Value→Prop} (ht : Tryz.prog.underlying t=some (.slice e)) (hk : Tryz.prog.cellsOf e=k) (h0 : 0<k)
  (h : DataW.trod enc Tryz.prog W 0 (fun _=>true) true fuel t cs=some x) (hone : ∀ n cs' y,cs'.length=k→DataW.trod enc Tryz.prog W 0 (fun _=>true) true n e cs'=some y→∃ u : α,P u cs') :
  ∃ v,cs=[v]∧∃ L : List (α×List Value),(∀ x∈L,P x.1 x.2∧x.2.length=k)∧InRw W v L.length k (L.flatMap (·.2)):=by
 rcases Go.Deep.open_slice ht h with ⟨rfl,_⟩ | ⟨a,len,cap,m,n,D,Pl,rfl,hb,hl,hm,hmm,hx,hel⟩
 ·exact ⟨_,rfl,[],by simp,(Nat.zero_mul k).symm,none,0,rfl,Nat.le_refl _,Nat.zero_le _,fun h=>absurd h (Nat.lt_irrefl _)⟩
 ·have hlm : len≤m:=by rw [hmm]; simpa using hl
  have each : ∀ i,i<len→∃ x : α×List Value,P x.1 x.2∧x.2.length=k∧∀ r,r<k→W.cell? ((a.add (i*k)).add r)=x.2[r]?:=by
   intro i hi
   obtain ⟨cs',e1,e2⟩:=hel i (by omega)
   rw [hk] at e1
   obtain ⟨_,e3,e4⟩:=World.cells?_some e1
   obtain ⟨u,hu⟩:=hone _ _ _ e3 e2
   exact ⟨(u,cs'),hu,e3,e4⟩
  obtain ⟨L,hL,hx⟩:=list_of len each
  have hmem : ∀ x∈L,P x.1 x.2∧x.2.length=k:=fun x hx'=>by
   obtain ⟨i,hi,rfl⟩:=List.getElem_of_mem hx'
   exact ⟨(hx i hi).1,(hx i hi).2.1⟩
  refine ⟨_,rfl,L,hmem,flat_len L (fun x hx=>(hmem x hx).2),some a,cap,by rw [hL],by rw [hL]; exact hl,hm,fun hn=>?_⟩
  obtain ⟨b,off,spot⟩:=a
  have hz:=(hx 0 hn).2.2 0 h0
  have hlen0:=(hx 0 hn).2.1
  rw [List.getElem?_eq_getElem (by omega)] at hz
  have hspot : spot=none:=by simpa [Addr.add] using World.cell?_spot hz
  subst hspot
  refine ⟨b,off,rfl,?_,fun j u hj=>?_⟩
  ·have:=World.block_lt_of_cell? _ _ hz
   simpa [Addr.add] using this
  ·have hjl : j<L.length*k:=by
    rw [← flat_len L (fun x hx=>(hmem x hx).2)]
    rcases Nat.lt_or_ge j (L.flatMap (·.2)).length with h | h
    ·exact h
    ·rw [List.getElem?_eq_none h] at hj; cases hj
   have hi : j / k<L.length:=Nat.div_lt_of_lt_mul (by rw [Nat.mul_comm]; exact hjl)
   have hr : j % k<k:=Nat.mod_lt _ h0
   have e : j / k*k+j % k=j:=by rw [Nat.mul_comm]; exact Nat.div_add_mod j k
   have h1:=flat_at L (fun x hx=>(hmem x hx).2) (j / k) (j % k) hr
   rw [e,hj,List.getElem?_eq_getElem hi] at h1
   have h2:=(hx (j / k) hi).2.2 (j % k) hr
   rw [add_none,add_none,Nat.add_assoc,e] at h2
   rw [h2]; exact h1.symm
theorem c9 : Tryz.prog.cellsOf 9=1:=by kernel_rfl
theorem c3 : Tryz.prog.cellsOf 3=1:=by kernel_rfl
theorem c2 : Tryz.prog.cellsOf 2=1:=by kernel_rfl
theorem cellsS_flat (l : List ByteArray) : cellsS l=l.flatMap (fun s=>[Value.string s]):=by
 induction l with
 | nil=>rfl
 | cons a l ih=>rw [List.flatMap_cons,← ih]; rfl
end
theorem trod4 {H : Type} {enc : TypeId×Value→H} {P : Program} {w : World} {base : Nat} {spare : Nat→Bool} {held : Bool} {t : TypeId} {f0 f1 f2 f3 : Field} {fuel : Nat} {cs : List Value} {x : DataW H×List MemPlace}
  (ht : P.underlying t=some (.struct #[f0,f1,f2,f3])) (h : DataW.trod enc P w base spare held fuel t cs=some x) :
  ∃ y0 y1 y2 y3 n,cs.length=P.cellsOf t∧DataW.trod enc P w base spare held n f0.type ((cs.drop f0.offset).take (P.cellsOf f0.type))=some y0∧DataW.trod enc P w base spare held n f1.type ((cs.drop f1.offset).take (P.cellsOf f1.type))=some y1 ∧
   DataW.trod enc P w base spare held n f2.type ((cs.drop f2.offset).take (P.cellsOf f2.type))=some y2∧DataW.trod enc P w base spare held n f3.type ((cs.drop f3.offset).take (P.cellsOf f3.type))=some y3:=by
 obtain ⟨xs,n,_,_,hl,hx,hf⟩:=DataW.trod_struct ht h
 match xs,hx,hf with
 | [y0,y1,y2,y3],_,hf=>exact ⟨y0,y1,y2,y3,n,hl,hf 0 f0 rfl,hf 1 f1 rfl,hf 2 f2 rfl,hf 3 f3 rfl⟩
section
variable {H : Type} {enc : TypeId×Value→H} {W : World}
theorem c4 : Tryz.prog.cellsOf 4=1:=by kernel_rfl
theorem c31 : Tryz.prog.cellsOf 43=1:=by kernel_rfl
theorem c32 : Tryz.prog.cellsOf 44=1:=by kernel_rfl
theorem c36 : Tryz.prog.cellsOf 23=1:=by kernel_rfl
theorem c43 : Tryz.prog.cellsOf 116=4:=by kernel_rfl
theorem c53 : Tryz.prog.cellsOf 135=2:=by kernel_rfl
theorem c34 : Tryz.prog.cellsOf 46=4:=by kernel_rfl
theorem cellsD_flat : ∀ L : List (D×Value),cellsD (L.map (·.2)) (L.map (·.1))=L.flatMap (fun x=>[x.2,Value.string x.1.right])
 | []=>rfl
 | x :: L=>by rw [List.map_cons,List.map_cons,List.flatMap_cons,← cellsD_flat L]; rfl
theorem open_words {fuel : Nat} {cs : List Value} {x : DataW H×List MemPlace} (h : DataW.trod enc Tryz.prog W 0 (fun _=>true) true fuel 23 cs=some x) : ∃ v l,cs=[v]∧InS W v l:=by
 obtain ⟨v,rfl,L,h1,h2⟩:=open_row (α:=ByteArray) (P:=fun s cs'=>cs'=[.string s]) Tryz.underlying23 c9 (by decide) h (fun n cs' y _ hy=>by
  obtain ⟨s,e,_⟩:=DataW.trod_string Tryz.underlying9 hy
  exact ⟨s,e⟩)
 refine ⟨v,L.map (·.1),rfl,?_⟩
 unfold InS
 rw [cellsS_flat,← flat_congr L (fun x hx=>(h1 x hx).1),List.length_map]
 exact h2
set_option maxRecDepth 100000 in
theorem open_cols {fuel : Nat} {cs : List Value} {x : DataW H×List MemPlace} (h : DataW.trod enc Tryz.prog W 0 (fun _=>true) true fuel 43 cs=some x) : ∃ v l,cs=[v]∧InC W v l:=by
 obtain ⟨v,rfl,L,h1,h2⟩:=open_row (α:=C) (P:=fun c cs'=>cs'=[.string c.nm,.int .i64 c.kd,.bool c.mu,.string c.tgt]) Tryz.underlying43 c43 (by decide) h (fun n cs' y hl hy=>by
  obtain ⟨y0,y1,y2,y3,m,_,t0,t1,t2,t3⟩:=trod4 Tryz.underlying116 hy
  match cs',hl with
  | [x0,x1,x2,x3],_ =>
   simp only [c9,c3,c4,List.drop_zero,List.drop_succ_cons,List.take_succ_cons,List.take_zero] at t0 t1 t2 t3
   obtain ⟨s,e0,_,_⟩:=DataW.trod_string Tryz.underlying9 t0
   obtain ⟨k,e1,_,_⟩:=DataW.trod_int Tryz.underlying3 t1
   obtain ⟨b,e2,_⟩:=DataW.trod_bool Tryz.underlying4 t2
   obtain ⟨r,e3,_,_⟩:=DataW.trod_string Tryz.underlying9 t3
   simp only [List.cons.injEq,and_true] at e0 e1 e2 e3
   subst e0 e1 e2 e3
   exact ⟨⟨s,k,b,r⟩,rfl⟩)
 refine ⟨v,L.map (·.1),rfl,?_⟩
 unfold InC cellsC
 rw [← flat_congr L (fun x hx=>(h1 x hx).1),List.length_map]
 exact h2
set_option maxRecDepth 100000 in
theorem open_deps {fuel : Nat} {cs : List Value} {x : DataW H×List MemPlace} (h : DataW.trod enc Tryz.prog W 0 (fun _=>true) true fuel 44 cs=some x) : ∃ v l,cs=[v]∧InD W v l:=by
 obtain ⟨v,rfl,L,h1,h2⟩:=open_row (α:=D×Value) (P:=fun d cs'=>cs'=[d.2,.string d.1.right]∧InS W d.2 d.1.left) Tryz.underlying44 c53 (by decide) h (fun n cs' y hl hy=>by
  obtain ⟨y0,y1,m,_,_,t0,t1⟩:=Go.ChangeShapes.trod_struct2 Tryz.underlying135 hy
  match cs',hl with
  | [x0,x1],_ =>
   simp only [c9,c36,List.drop_zero,List.drop_succ_cons,List.take_succ_cons,List.take_zero] at t0 t1
   obtain ⟨v,l,e0,hS⟩:=open_words t0
   obtain ⟨r,e1,_,_⟩:=DataW.trod_string Tryz.underlying9 t1
   simp only [List.cons.injEq,and_true] at e0 e1
   subst e0 e1
   exact ⟨(⟨l,r⟩,x0),rfl,hS⟩)
 refine ⟨v,(L.map (·.1)).map (·.1),rfl,(L.map (·.1)).map (·.2),by simp,?_,fun j a b=>?_⟩
 ·rw [cellsD_flat,← flat_congr L (fun x hx=>(h1 x hx).1.1),List.length_map,List.length_map]
  exact h2
 ·have hj : j<L.length:=by simpa using a
  simp only [List.getElem_map]
  exact (h1 L[j] (List.getElem_mem _)).1.2
set_option maxRecDepth 100000 in
theorem open_tabs' {fuel : Nat} {cs : List Value} {x : DataW H×List MemPlace} (h : DataW.trod enc Tryz.prog W 0 (fun _=>true) true fuel 37 cs=some x) : ∃ v l,cs=[v]∧InTs W v l:=by
 obtain ⟨v,rfl,L,h1,h2⟩:=open_row (α:=T×Value×Value) (P:=fun t cs'=>cs'=[.string t.1.nm,t.2.1,.string t.1.key,t.2.2]∧InT W t.2.1 t.2.2 t.1) Tryz.underlying37 c34 (by decide) h (fun n cs' y hl hy=>by
  obtain ⟨y0,y1,y2,y3,m,_,t0,t1,t2,t3⟩:=trod4 Tryz.underlying46 hy
  match cs',hl with
  | [x0,x1,x2,x3],_ =>
   simp only [c9,c31,c32,List.drop_zero,List.drop_succ_cons,List.take_succ_cons,List.take_zero] at t0 t1 t2 t3
   obtain ⟨s,e0,_,_⟩:=DataW.trod_string Tryz.underlying9 t0
   obtain ⟨v1,l1,e1,hC⟩:=open_cols t1
   obtain ⟨r,e2,_,_⟩:=DataW.trod_string Tryz.underlying9 t2
   obtain ⟨v3,l3,e3,hD⟩:=open_deps t3
   simp only [List.cons.injEq,and_true] at e0 e1 e2 e3
   subst e0 e1 e2 e3
   exact ⟨(⟨s,l1,r,l3⟩,x1,x3),rfl,hC,hD⟩)
 refine ⟨v,L.map (·.1.1),rfl,_,by rw [List.length_map]; exact h2,fun j hj=>?_⟩
 have hj' : j<L.length:=by simpa using hj
 obtain ⟨⟨e,hT⟩,hl⟩:=h1 L[j] (List.getElem_mem _)
 have hat:=fun r hr=>flat_at L (fun x hx=>(h1 x hx).2) j r hr
 simp only [List.getElem?_eq_getElem hj',Option.bind_some,e] at hat
 simp only [List.getElem_map]
 exact ⟨_,_,hat 0 (by decide),hat 1 (by decide),hat 2 (by decide),hat 3 (by decide),hT⟩
theorem open_tabs {v : Value} {d : DataW H} {p : List MemPlace} (h : DataW.Trod enc Tryz.prog W 0 (fun _=>true) true 37 v d p) (hv : ∃ a l c,v=.slice a l c) : ∃ l,InTs W v l:=by
 obtain ⟨a0,len,cap,rfl⟩:=hv
 obtain ⟨fuel,hf⟩:=h
 obtain ⟨v,l,e,hl⟩:=open_tabs' hf
 simp [Value.cells] at e
 exact ⟨l,by rw [e]; exact hl⟩
end
end Go.Proofs.YtjepplacnaoomaaGreat
namespace Go.Proofs.YtjepplacnaoomaaGreat
open Go Go.ChangeShapes Go.WideShapes Go.ChangeAt Go.RowKit
open Go.ChangeMaps (open_string shut_string)
set_option maxRecDepth 100000 in
theorem dataAdd_lifted (os : Os) (started : os.Started) (H : Type) (enc : TypeId×Value→H) :
  ReturnsInHanded {} Tryz.checked os 6 .any (Rows.dataAddSpec.pre6 enc Tryz.prog Tryz.f6 Rows.dataAddRow.domain false) (Rows.dataAddSpec.post enc Tryz.prog Tryz.f6 false true false false):=by
 refine returnsInHanded_of_change (C:=Tryz.checked) own started (by kernel_rfl) Tryz.func6
  (ChangeSpec.witness6 (enc:=enc) (C:=Tryz.checked) false ⟨#[],#[.slice none 0 0],[]⟩ 8 (by kernel_rfl) (by kernel_rfl) (by kernel_rfl) (by kernel_rfl)) ?_
 intro W base args ds gs before hval0 hW _ _
 have hval : ∀ (j : Nat) t v,Tryz.f6.params[j]?=some t→args[j]?=some v→Value.okWide Tryz.prog W .any base t v:=hval0
 have hW':=hW
 obtain ⟨p,q,hA0,hV,rfl,hfz,hnd⟩:=hW
 have hA : DataW.TrodAll enc Tryz.prog W 0 (fun _=>true) true Tryz.f6.params.toList args.toList ds p:=hA0
 rw [Tryz.params6] at hA hval
 obtain ⟨v0,vs0,d0,ds0,p0,q0,hargs,rfl,rfl,h0,r0⟩:=trodAll_cons hA
 obtain ⟨rfl,rfl,rfl⟩:=trodAll_nil r0
 obtain rfl : args=#[v0]:=by cases args; simp_all
 obtain ⟨rfl,rfl⟩:=trodVars_none hV
 have k0:=h0
 have lt0 : ∀ x∈p0,x.block<W.heap.size:=by obtain ⟨m,hm⟩:=k0; exact DataW.trod_lt m _ _ _ hm
 obtain ⟨l0,s0⟩:=open_tabs h0 (okWide_slice Tryz.underlying37 (hval 0 37 v0 rfl rfl))
 clear hA0 hval0
 refine (add12_law W s0).mono fun e W' ⟨he,bel⟩=>?_
 subst he
 exact ⟨_,rfl,_,_,_,[],_,[],hW',trodAll_mk1 (shut_bool Tryz.underlying4 _),(trodAll_cons_mk (Below.trod laidOut (by kernel_rfl) (of_decide_eq_true (by kernel_rfl)) k0 bel lt0) trodAll_mk0),rfl,bel.frame _,fun h=>by cases h⟩
theorem dataAdd_holds : Rows.DataAddSaid :=
 OpenClaim.holds_of_wide 6 Tryz.f6 rfl rfl rfl rfl rfl rfl rfl ⟨rfl,rfl,rfl,rfl,rfl⟩ rfl rfl rfl rfl rfl (by kernel_rfl) Tryz.func6 (by kernel_rfl)
  (of_decide_eq_true (by kernel_rfl)) (by unfold Func.isWrapper; first | (rw [if_pos (by decide +kernel)]; kernel_rfl) | (rw [if_neg (by decide +kernel)]; exact ⟨rfl,rfl⟩))
  (fun os started H enc _=>dataAdd_lifted os started H enc)
end Go.Proofs.YtjepplacnaoomaaGreat
