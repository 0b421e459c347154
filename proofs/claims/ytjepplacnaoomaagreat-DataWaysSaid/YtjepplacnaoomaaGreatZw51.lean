import Derived.Test.YtjepplacnaoomaaGreatZw47
import Derived.Test.YtjepplacnaoomaaGreatZw36
import Derived.Test.YtjepplacnaoomaaGreatZw35
import Derived.Test.YtjepplacnaoomaaGreatZw43
set_option maxHeartbeats 2000000
set_option maxRecDepth 100000
namespace Go.Proofs.YtjepplacnaoomaaGreat
open Go Go.RowKit Go.Proofs Co Co.S
theorem infoP24:(Tryz.prog.info? 24).map (fun i=>(i.zero,i.size,i.bytes))=some (some (.slice none 0 0),1,24):=by kernel_rfl
section
variable {W W':World} {v:Value} {l:List ByteArray}
theorem HRow.wd {base n:Nat} (h:HRow W base 9 1 v n (cellsS l)):Wd W v l:=by
 have hl:l.length=n:=(by have:=h.1;rw[cellsS_len] at this;omega);subst hl;rcases h.2 with ⟨rfl,hn⟩ | ⟨g,cap,cur,rfl,hb,hg,hn,hc,hs,ht⟩
 ·exact⟨none,0,by rw[hn],by omega,Nat.zero_le _,fun a h=>(by cases h),fun h=>absurd h (by omega)⟩
 ·refine⟨some ⟨g,0,none⟩,cap,rfl,hn,hc,fun a h=>(by cases h;rfl),fun _=>⟨g,0,cur,_,rfl,hg,fun j hj=>?_⟩⟩;have e:(cellsS l)[j]?=some (.string l[j]):=(by unfold cellsS;rw[List.getElem?_map,List.getElem?_eq_getElem hj];rfl);rw[<- ht,List.getElem?_take] at e;split at e
  ·rw[Nat.zero_add,<- Array.getElem?_toList];exact e
  ·cases e
theorem rcmp_any {a b:List ByteArray} {va vb:Value} {W:World} (ha:RdS W va a) (hb:RdS W vb b):Calls Tryz.prog 96 #[va,vb] W fun e w'=>e=.returned (.int .i64 (cmpP a b))/\Below W.heap.size W w':=by
 obtain⟨p,cap,rfl,hc,hm⟩:=ha.slice;obtain⟨q,cq,rfl,hc2,hm2⟩:=hb.slice;obtain⟨n,hn⟩:∃ n,a.length=n:=⟨_,rfl⟩;obtain⟨m,hk⟩:∃ n,b.length=n:=⟨_,rfl⟩;unfold maxLen at hm hm2;rw[hn] at hc ha ⊢;rw[hk] at hc2 hb ⊢;have HR:=Lib.hid (And.intro ha hb);have HN:=Lib.hid (And.intro hn hk);obtain⟨r,hr⟩:∃ r,cmpP a b=r:=⟨_,rfl⟩;rw[hr];have hr0:cmpP (a.drop 0) (b.drop 0)=r:=hr;clear ha hb hn hk hr;go_enter Tryz.func96,Tryz.ntmps96;go_wp2_with fail;go_loopg [5] (n+1) (fun gh jv w=>∃ (j:Nat),jv=.int .i64 (j:Int)/\j<=n/\j<=m/\n+1<=j+gh/\cmpP (a.drop j) (b.drop j)=r/\Below W.heap.size W w)
 case atStart=>exact⟨0,rfl,Nat.zero_le _,Nat.zero_le _,by omega,hr0,Below.refl _ _⟩
 case round =>
  clear hr0;obtain⟨j,rfl,hj,hjm,hg,hr,hB⟩:=hrel;by_cases hlt:j<n
  ·by_cases hlt2:j<m
   ·have hjl:j<a.length:=(by rw[HN.out.1];exact hlt);have hjk:j<b.length:=(by rw[HN.out.2];exact hlt2);obtain⟨b1,o1,rfl,hb1,_⟩:=RdS.word (HR.out.1.later hB) hjl;obtain⟨b2,o2,rfl,hb2,_⟩:=RdS.word (HR.out.2.later hB) hjk;obtain⟨x,hx⟩:∃ x,a[j]=x:=⟨_,rfl⟩;obtain⟨y,hy⟩:∃ y,b[j]=y:=⟨_,rfl⟩
    have HX:Hid (∀ w,Below W.heap.size W w->w.cell? ⟨b1,o1+j,none⟩=some (.string x)/\w.cell? ⟨b2,o2+j,none⟩=some (.string y)):=Lib.hid (fun w hb=>by
     rw[<- hx,<- hy];exact⟨(RdS.wordAt (HR.out.1.later hb) hjl).2,(RdS.wordAt (HR.out.2.later hb) hjk).2⟩)
    have hji:(j:Int)<(n:Int):=(by omega);have hjk2:(j:Int)<(m:Int):=(by omega);have HB:=Lib.hid hB;rw[cmpP_at hjl hjk,hx,hy] at hr
    have hlss:∃ b1 b2,Op.bytesLess x.toList y.toList=b1/\(!(Op.bytesLess x.toList y.toList || x.toList==y.toList))=b2/\((b1=true/\r=-1)∨(b1=false/\b2=true/\r=1)∨(b1=false/\b2=false/\cmpP (a.drop (j+1)) (b.drop (j+1))=r)):=by
     refine⟨_,_,rfl,rfl,?_⟩;rw[ByteArray.toList_eq,ByteArray.toList_eq];unfold cmpS at hr;rcases cb_cases x.data.toList y.data.toList with ⟨h1,h2,h3⟩ | ⟨h1,h2,h3⟩ | ⟨h1,h2,h3⟩
     ·rw[h1] at hr;left;exact⟨h2,by simpa using hr.symm⟩
     ·rw[if_pos h1] at hr;right;right;rw[h3,h2];simp[hr]
     ·rw[h1] at hr;right;left;rw[h2]
      have:(x.data.toList==y.data.toList)=false:=(by rw[beq_eq_false_iff_ne];exact h3);rw[this];exact⟨rfl,rfl,by simpa using hr.symm⟩
    obtain⟨c1,c2,hc1,hc2',hcase⟩:=hlss;have HC:=Lib.hid (And.intro hc1 hc2');clear hB hb1 hb2 hx hy hr hc1 hc2';go_upto_region 4 with fail;refine Par.wp_region_par 9 [.slice (some ⟨b1,o1,none⟩) n cap,.int .i64 j,(Value.pointer (some ⟨b1,o1+j,none⟩)),.string x,.slice (some ⟨b2,o2,none⟩) m cq,.int .i64 j,(Value.pointer (some ⟨b2,o2+j,none⟩)),.string y,.bool c1] (fun w=>Below W.heap.size W w) ?A1 ?hm1 ?hB1 ?hA1 (HB.out.drew) ?hop1 ?hT1
    case hm1=>kernel_rfl
    case hB1=>kernel_rfl
    case hA1 =>
     simp only[Par.putA,Par.dstAt,Act.put,List.getElem?_toArray,List.getElem?_cons_zero,List.getElem?_cons_succ,Option.bind_some,List.setIfInBounds_toArray,List.set_cons_zero,List.set_cons_succ,List.getD_cons_zero,List.getD_cons_succ];rfl
    case hop1 =>
     simp only[List.take_succ_cons,List.take_zero,Par.GiveAll,and_true];and_intros<;>intro w' hR
     ·have HR:=Lib.hid hR;clear hR;simp only[Par.Gives];go_simp;all_goals exact HR.out
     ·have HR:=Lib.hid hR;clear hR;simp only[Par.Gives];go_simp;all_goals exact HR.out
     ·have HR:=Lib.hid hR;clear hR;simp only[Par.Gives];go_simp;all_goals exact HR.out
     ·have HR:=Lib.hid hR;have k:=(HX.out w' hR).1;clear hR;simp only[Par.Gives];go_simp;all_goals exact HR.out
     ·have HR:=Lib.hid hR;clear hR;simp only[Par.Gives];go_simp;all_goals exact HR.out
     ·have HR:=Lib.hid hR;clear hR;simp only[Par.Gives];go_simp;all_goals exact HR.out
     ·have HR:=Lib.hid hR;clear hR;simp only[Par.Gives];go_simp;all_goals exact HR.out
     ·have HR:=Lib.hid hR;have k:=(HX.out w' hR).2;clear hR;simp only[Par.Gives];go_simp;all_goals exact HR.out
     ·have HR:=Lib.hid hR;have k:=HC.out.1;clear hR;simp only[Par.Gives];go_simp;all_goals exact HR.out
    case hT1 =>
     intro w' hR;simp only[List.drop_succ_cons,List.drop_nil];have HR1:=Lib.hid hR;clear hR;rcases hcase with ⟨rfl,rfl⟩ | hcase
     ·go_wp2_with fail;go_ret;exact⟨rfl,HR1.out⟩
     ·obtain rfl:c1=false:=(by rcases hcase with ⟨h,_⟩ | ⟨h,_⟩ <;> exact h);go_upto_region 6 with fail;refine Par.wp_region_par 9 [.slice (some ⟨b1,o1,none⟩) n cap,.int .i64 j,(Value.pointer (some ⟨b1,o1+j,none⟩)),.string x,.slice (some ⟨b2,o2,none⟩) m cq,.int .i64 j,(Value.pointer (some ⟨b2,o2+j,none⟩)),.string y,.bool c2] (fun w=>Below W.heap.size W w) ?A2 ?hm2 ?hB2 ?hA2 (HR1.out.drew) ?hop2 ?hT2
      case hm2=>kernel_rfl
      case hB2=>kernel_rfl
      case hA2 =>
       simp only[Par.putA,Par.dstAt,Act.put,List.getElem?_toArray,List.getElem?_cons_zero,List.getElem?_cons_succ,Option.bind_some,List.setIfInBounds_toArray,List.set_cons_zero,List.set_cons_succ,List.getD_cons_zero,List.getD_cons_succ];rfl
      case hop2 =>
       simp only[List.take_succ_cons,List.take_zero,Par.GiveAll,and_true];and_intros<;>intro w' hR
       ·have HR:=Lib.hid hR;clear hR;simp only[Par.Gives];go_simp;all_goals exact HR.out
       ·have HR:=Lib.hid hR;clear hR;simp only[Par.Gives];go_simp;all_goals exact HR.out
       ·have HR:=Lib.hid hR;clear hR;simp only[Par.Gives];go_simp;all_goals exact HR.out
       ·have HR:=Lib.hid hR;have k:=(HX.out w' hR).1;clear hR;simp only[Par.Gives];go_simp;all_goals exact HR.out
       ·have HR:=Lib.hid hR;clear hR;simp only[Par.Gives];go_simp;all_goals exact HR.out
       ·have HR:=Lib.hid hR;clear hR;simp only[Par.Gives];go_simp;all_goals exact HR.out
       ·have HR:=Lib.hid hR;clear hR;simp only[Par.Gives];go_simp;all_goals exact HR.out
       ·have HR:=Lib.hid hR;have k:=(HX.out w' hR).2;clear hR;simp only[Par.Gives];go_simp;all_goals exact HR.out
       ·have HR:=Lib.hid hR;have k:=HC.out.2;clear hR;simp only[Par.Gives];go_simp;all_goals exact HR.out
      case hT2 =>
       intro w' hR;simp only[List.drop_succ_cons,List.drop_nil];have HR2:=Lib.hid hR;clear hR;rcases hcase with ⟨_,rfl,rfl⟩ | ⟨_,rfl,hr⟩
       ·go_wp2_with fail;go_ret;exact⟨rfl,HR2.out⟩
       ·have HRR:=Lib.hid hr;clear hr;go_wp2_with fail;go_roundg (n-j)
        case measure=>omega
        case rel=>exact⟨j+1,by go_num,by omega,by omega,by omega,HRR.out,HR2.out⟩
   ·have hl:=cmpP_long (a:=a) (b:=b) (j:=j) (by rw[HN.out.1];exact hlt) (by rw[HN.out.2];omega);rw[hr] at hl;subst hl;obtain rfl:j=m:=(by omega);clear hr;go_wp2_with fail;go_ret;exact⟨rfl,hB⟩
  ·obtain rfl:j=n:=(by omega);by_cases hlt2:j<m
   ·have hl:=cmpP_short (a:=a) (b:=b) (j:=j) (by rw[HN.out.1];exact Nat.le_refl _) (by rw[HN.out.2];exact hlt2);rw[hr] at hl;subst hl;clear hr;go_wp2_with fail;go_ret;exact⟨rfl,hB⟩
   ·have hl:=cmpP_done (a:=a) (b:=b) (j:=j) (by rw[HN.out.1];exact Nat.le_refl _) (by rw[HN.out.2];omega);rw[hr] at hl;subst hl;clear hr;go_wp2_with fail;go_ret;exact⟨rfl,hB⟩
theorem reqP_any {a b:List ByteArray} {v u:Value} {W:World} (h:RdS W v a) (k:RdS W u b):Calls Tryz.prog 97 #[v,u] W fun e w'=>e=.returned (.bool (decide (cmpP a b=0)))/\Below W.heap.size W w':=by
 have hc:=rcmp_any h k;obtain⟨p,cap,rfl,_,_⟩:=h.slice;obtain⟨q,cq,rfl,_,_⟩:=k.slice;clear h k;generalize cmpP a b=r at hc ⊢;go_enter Tryz.func97,Tryz.ntmps97;go_wp2_with (go_at_call 96;(with_reducible refine hc.mono ?_);rintro e w1 ⟨rfl,hb⟩);go_ret
 exact⟨by have:(r==0)=decide (r=0):=by (rw[Bool.eq_iff_iff];simp)
          simp[this],hb⟩
end
section
variable {base:Nat} {v:Value} {vs us:List Value} {ps qs:List (List ByteArray)} {w w':World}
theorem app_words {y:World} {base:Nat} {v u:Value} {l k:List ByteArray} {ty:TypeId} (hr:HRow y base 9 1 v l.length (cellsS l)) (hs:Wd y u k) (hl:l.length+k.length<=1000000) (hb:base<=y.heap.size) :
  ∃ p c w',(Builtin.append_ #[24,24] ty #[v,u]).run Tryz.prog y=.ok (.slice p (l++k).length c) w'/\HRow w' base 9 1 (.slice p (l++k).length c) (l++k).length (cellsS (l++k))/\y.grownBy w' v.ownBlock:=by
 obtain⟨i0,hi0,hz0,hz1,hz2⟩:=info_parts info9;obtain⟨q,d,rfl,_,_⟩:=hs.slice;obtain⟨p,c,rfl,hpc,_⟩:=hr.isslice;rcases Nat.eq_zero_or_pos k.length with h0|h0
 ·have hk:k=[]:=List.eq_nil_of_length_eq_zero h0;subst hk;rw[List.append_nil];exact⟨p,c,y,append_zero Tryz.underlying24 hi0 hpc,hr,⟨rfl,rfl,rfl,Nat.le_refl _,fun _ _ _=>rfl⟩⟩
 ·obtain⟨b,off,rfl,_,_⟩:=hs.word (i:=0) h0
  obtain⟨g,cap,w',h1,h2,h3,_⟩:=run_append_has (P:=Tryz.prog) y base 24 ty 9 i0 _ 1 16 Tryz.underlying24 hi0 hz0 hz1 hz2 rfl (by decide) hr ⟨b,off,none⟩ k.length d (cellsS k) (cellsS_len k)
   (fun j x hj=>by
    unfold cellsS at hj;rw[List.getElem?_map] at hj;obtain⟨z,hz,hv⟩:=Option.map_eq_some_iff.1 hj;obtain⟨hjl,hz2⟩:=List.getElem?_eq_some_iff.1 hz;obtain⟨b',off',e,_,c0⟩:=hs.word hjl;cases e;rw[Addr.add_lit,c0,hz2,<- hv]) (one_cellsS k) h0 (by unfold maxLen;omega) (by omega) hb
  have e:cellsS (l++k)=cellsS l++cellsS k:=(by unfold cellsS;rw[List.map_append]);rw[List.length_append,e];exact⟨_,_,w',h1,h2,h3⟩
structure PR (base:Nat) (v:Value) (vs:List Value) (ps:List (List ByteArray)) (w:World):Prop where
 row:HRow w base 24 1 v ps.length vs
 each:∀ j (h:j<vs.length) (h':j<ps.length),Wd w vs[j] ps[j]
theorem PR.n (h:PR base v vs ps w):vs.length=ps.length:=by have:=h.row.1;omega
theorem PR.on (h:PR base v vs ps w) (hb:Below w.heap.size w w'):PR base v vs ps w':=⟨h.row.later hb,fun j a b=>(h.each j a b).later hb⟩
theorem PR.mono (h:PR base v vs ps w) {b:Nat} (hb:b<=base):PR b v vs ps w:=⟨h.row.mono hb,h.each⟩
theorem PR.nil (base:Nat) (w:World):PR base (.slice none 0 0) [] [] w:=⟨HRow.nil,fun j a=>absurd a (Nat.not_lt_zero j)⟩
theorem PR.one (h:PR base v vs ps w):∀ u∈vs,u.oneCell'=true:=fun u hu=>by
 obtain⟨j,hj,rfl⟩:=List.getElem_of_mem hu;obtain⟨p,c,e,_⟩:=(h.each j hj (by rw[<- h.n];exact hj)).slice;rw[e];rfl
def Kn (w w':World):Prop:=∀ (b:Nat) (cur:Array Value) (e:TypeId) (m:Nat×Nat),w.heap[b]?=some (Obj.cells cur e m)->e≠24->w'.heap[b]?=some (Obj.cells cur e m)
theorem Kn.kp9 (h:Kn w w'):Kp9 w w':=fun b cur m x=>h b cur 9 m x (by decide)
theorem Kn.trans {w'':World} (h:Kn w w') (k:Kn w' w''):Kn w w'':=fun b cur e m x y=>k b cur e m (h b cur e m x y) y
theorem Kn.grown {n sz:Nat} {xs:List Value} (hr:HRow w base 24 sz v n xs) (hg:w.grownBy w' v.ownBlock):Kn w w':=by
 intro q cur e m hq he;refine (hg.block q (lt_of_heap hq) (fun eq=>?_)).trans hq;obtain⟨_,c,hb⟩:=hr.block q eq.symm;rw[hb] at hq;cases hq;exact he rfl
theorem manyW_le:∀ n,n<=4->manyW n<=1554:=by decide
theorem PR.elem {base n cap g:Nat} {vs:List Value} {ps:List (List ByteArray)} {w:World} (h:PR base (.slice (some ⟨g,0,none⟩) n cap) vs ps w) {j:Nat} (hj:j<ps.length):∃ p c,w.cell? ⟨g,j,none⟩=some (.slice p ps[j].length c)/\Wd w (.slice p ps[j].length c) ps[j]/\g<w.heap.size:=by
 have hjv:j<vs.length:=by rw[h.n];exact hj
 have hn:n=ps.length:=by
  obtain⟨p,c,e,_⟩:=h.row.isslice;exact (Value.slice.inj e).2.1
 have hc:=HRow.cell (j:=j) (hn▸h.row) (List.getElem?_eq_getElem hjv);have hw:=h.each j hjv hj;obtain⟨p,c,e,_⟩:=hw.slice;rw[e] at hc hw;exact⟨p,c,hc,hw,(h.row.lt g rfl).2⟩
end
section
variable {α:Type} [Inhabited α] {enc:α->Value}
structure SV (w:World) where
 v:Value
 l:List ByteArray
 ok:Wd w v l
def SV.cf {w:World} (x y:SV w):Int:=cmpP x.l y.l
theorem PR.list {base:Nat} {v:Value} {vs:List Value} {ps:List (List ByteArray)} {w:World} (h:PR base v vs ps w):∃ L:List (SV w),L.map SV.v=vs/\L.map SV.l=ps:=by
 have key:∀ (vs:List Value) (ps:List (List ByteArray)),vs.length=ps.length->(∀ j (h:j<vs.length) (h':j<ps.length),Wd w vs[j] ps[j])->∃ L:List (SV w),L.map SV.v=vs/\L.map SV.l=ps:=by
  intro vs
  induction vs with
  | nil =>
   intro ps hl _;have:ps=[]:=List.eq_nil_of_length_eq_zero hl.symm;exact⟨[],rfl,this.symm⟩
  | cons v vs ih =>
   intro ps hl hw;cases ps with
   | nil=>simp at hl
   | cons p ps =>
    obtain⟨L,h1,h2⟩:=ih ps (by simpa using hl) (fun j a b=>hw (j+1) (by simpa using a) (by simpa using b));exact⟨⟨v,p,hw 0 (by simp) (by simp)⟩::L,by rw[List.map_cons,h1],by rw[List.map_cons,h2]⟩
 exact key vs ps h.n h.each
theorem PR.of_list {base:Nat} {v:Value} {w w':World} (L:List (SV w)) (hr:HRow w' base 24 1 v L.length (L.map SV.v)) (hk:Kp9 w w'):PR base v (L.map SV.v) (L.map SV.l) w' :=
 ⟨by rw[List.length_map];exact hr,fun j a b=>by
  rw[List.getElem_map,List.getElem_map];exact (L[j]'(by simpa using a)).ok.kp hk⟩
def AllOf (ts:List T) (tb:ByteArray) (W:World) (e:Ending) (w':World):Prop:=∃ p m c vs qs,e=.returned (.slice p m c)/\m=qs.length/\IsAll ts tb qs/\PR W.heap.size (.slice p m c) vs qs w'/\Below W.heap.size W w'
end
