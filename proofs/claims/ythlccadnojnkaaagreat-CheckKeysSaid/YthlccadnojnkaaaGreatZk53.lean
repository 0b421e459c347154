import Derived.Test.YthlccadnojnkaaaGreatZk52
import Derived.Test.YthlccadnojnkaaaGreatZk3
import Derived.ChangeSlices
namespace Go.Proofs.YthlccadnojnkaaaGreat
open Go Go.RowKit Go.ChangeShapes Go.Proofs Co Co.S
def RdN (W:World) (p:Option Addr) (xs:List Int):Prop:=∀ j (_:j<xs.length),∃ b off,p=some ⟨b,off,none⟩/\b<W.heap.size/\W.cell? ⟨b,off+j,none⟩=some (.int .i64 (xs.getD j 0))
theorem kO {H:Type} {enc:TypeId×Value->H} {W:World} {v:Value} {d:DataW H} {p:List MemPlace}
  (h:DataW.Trod enc Tryz.prog W 0 (fun _=>true) true 45 v d p) (hv:∃ a l c,v=.slice a l c):∃ q xs len cap,v=.slice q len cap/\xs.length=len/\(len<=cap/\cap<=maxLen)/\RdN W q xs:=by
 obtain⟨a0,l0,c0,rfl⟩:=hv;obtain⟨fuel,hf⟩:=h;rcases open_ints Tryz.underlying45 Tryz.underlying3 (by kernel_rfl) hf with ⟨hcs,_⟩ | ⟨a,len,cap,zs,hcs,_,hl,hm,hz,_,hc,_⟩
 ·simp[Value.cells] at hcs;obtain⟨rfl,rfl,rfl⟩:=hcs;exact⟨none,[],0,0,rfl,rfl,⟨Nat.le_refl _,Nat.zero_le _⟩,fun r hr=>by simp at hr⟩
 simp[Value.cells] at hcs;obtain⟨rfl,rfl,rfl⟩:=hcs;simp only[if_true] at hz;refine⟨some a,zs.take l0,l0,c0,rfl,by rw[List.length_take];omega,⟨hl,hm⟩,fun j hj=>?_⟩;have hj':j<l0:=(by rw[List.length_take] at hj;omega);have hs:=World.cell?_spot (hc 0 (by omega));have hs:a.spot=none:=(by simpa [Addr.add] using hs);obtain⟨b,off,spot⟩:=a;obtain rfl:spot=none:=hs;have hcj:=hc j (by omega);rw[Addr.add_lit] at hcj;refine⟨b,off,rfl,World.block_lt_of_cell? W ⟨b,off+j,none⟩ hcj,?_⟩;rw[hcj]
 congr 2
 rw[List.getD_eq_getElem?_getD,List.getD_eq_getElem?_getD,List.getElem?_take_of_lt hj']
def kyT (xs:List Int) (i:Nat):List Int:=(xs.take i).map fun x=>x.tmod 20
theorem aEg {xs:List Int} {i:Nat} (h:i<xs.length):kyT xs (i+1)=kyT xs i++[(xs.getD i 0).tmod 20]:=by
 unfold kyT;rw[List.take_succ_eq_append_getElem h,List.map_append,List.getD_eq_getElem?_getD,List.getElem?_eq_getElem h];rfl
theorem rV {xs:List Int} {i:Nat} (h:i<=xs.length):(kyT xs i).length=i:=by unfold kyT;rw[List.length_map,List.length_take];omega
theorem aFR {xs:List Int} {i j:Nat} (hj:j<i) (hi:i<=xs.length) (v:Int):((kyT xs i).take (j+1)).any (fun u=>decide (v=u))=(((kyT xs i).take j).any (fun u=>decide (v=u)) || decide (v=(xs.getD j 0).tmod 20)):=by
 have hl:j<(kyT xs i).length:=(by rw[rV hi];exact hj);rw[List.take_succ_eq_append_getElem hl,List.any_append]
 have h:(kyT xs i)[j]=(xs.getD j 0).tmod 20:=by
  have h:(kyT xs i)[j]?=some ((xs.getD j 0).tmod 20):=by
   unfold kyT;rw[List.getElem?_map,List.getElem?_take_of_lt hj,List.getD_eq_getElem?_getD,List.getElem?_eq_getElem (by omega)];rfl
  rw[List.getElem?_eq_getElem hl] at h;exact Option.some.inj h
 rw[h]
 simp
def fstI (vs:List Int):Int:=match firstK (dupB vs) vs.length with
 | some k=>(k:Int)
 | none=>-1
def innI (vs:List Int) (v:Int) (i j:Nat):Int:=if fstI vs<0 then (if ((vs.take j).any fun u=>decide (v=u))=true then (i:Int) else -1) else fstI vs
theorem jP {vs us:List Int} {k:Nat} (hk:k<vs.length):dupB (vs++us) k=dupB vs k:=by
 unfold dupB;rw[List.take_append_of_le_length (by omega),List.getD_eq_getElem?_getD,List.getD_eq_getElem?_getD,List.getElem?_append_left hk]
theorem qE (vs:List Int) (v:Int):dupB (vs++[v]) vs.length=vs.any fun u=>decide (v=u):=by
 unfold dupB;rw[List.take_left,List.getD_eq_getElem?_getD,List.getElem?_append_right (Nat.le_refl _)]
 simp
theorem gN {vs:List Int} (h:firstK (dupB vs) vs.length=none):fstI vs=-1:=by unfold fstI;rw[h]
theorem dM {vs:List Int} {k:Nat} (h:firstK (dupB vs) vs.length=some k):fstI vs=(k:Int):=by unfold fstI;rw[h]
theorem aBT (vs:List Int) (v:Int):fstI (vs++[v])=innI vs v vs.length vs.length:=by
 unfold innI;rw[List.take_length];have hl:(vs++[v]).length=vs.length+1:=(by rw[List.length_append];rfl);cases hf:firstK (dupB vs) vs.length with
 | some k =>
  obtain⟨h1,h2,h3⟩:=dZ hf;rw[dM hf,if_neg (by omega)];refine dM ?_;rw[hl];exact aZ (by omega) (by rw[jP h1];exact h2) (fun j hj=>by rw[jP (by omega)];exact h3 j hj)
 | none =>
  have h0:∀ j,j<vs.length->dupB vs j=false:=fun j hj=>by
   unfold firstK at hf;rw[List.find?_eq_none] at hf;simpa using hf j (List.mem_range.2 hj)
  rw[gN hf,if_pos (by decide)];by_cases hd:(vs.any fun u=>decide (v=u))=true
  ·rw[if_pos hd];refine dM ?_;rw[hl];exact aZ (by omega) (by rw[qE];exact hd) (fun j hj=>by rw[jP hj];exact h0 j hj)
  ·rw[if_neg hd];refine gN ?_;rw[hl];refine aV (fun j hj=>?_);by_cases e:j=vs.length
   ·subst e;rw[qE];exact Bool.eq_false_iff.2 hd
   ·rw[jP (by omega)];exact h0 j (by omega)
theorem aBU (vs:List Int) (v:Int) (i:Nat):innI vs v i 0=fstI vs:=by
 unfold innI;rw[List.take_zero];split
 ·rename_i h;cases hf:firstK (dupB vs) vs.length with
  | none=>rw[gN hf];rfl
  | some k=>rw[dM hf] at h;omega
 rfl
theorem aEh {vs:List Int} (h:fstI vs<0):kyF vs=(0,e0,0,e0):=by
 unfold kyF;cases hf:firstK (dupB vs) vs.length with
 | none=>rfl
 | some k=>rw[dM hf] at h;omega
theorem aEi {vs:List Int} (h:¬ fstI vs<0):kyF vs=(8,sLand,fstI vs,sId):=by
 unfold kyF;cases hf:firstK (dupB vs) vs.length with
 | none=>rw[gN hf] at h;exact absurd (by decide) h
 | some k=>rw[dM hf]
