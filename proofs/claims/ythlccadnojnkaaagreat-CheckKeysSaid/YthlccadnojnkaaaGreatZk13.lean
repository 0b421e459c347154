import Derived.Test.YthlccadnojnkaaaGreatZk2
import Derived.Test.YthlccadnojnkaaaGreatZk7
import Derived.Test.YthlccadnojnkaaaGreatZk12
set_option maxHeartbeats 1000000
set_option maxRecDepth 100000
namespace Go.Proofs.YthlccadnojnkaaaGreat
open Go Go.RowKit Go.Proofs
def cellsI (l:List R3):List Value:=l.flatMap fun x=>[.int .i64 x.1,.int .i64 x.2.1,.int .i64 x.2.2]
theorem eJ (xs ys:List R3):cellsI (xs++ys)=cellsI xs++cellsI ys:=by simp[cellsI]
theorem fN (x:R3) (r:List R3):cellsI (x::r)=.int .i64 x.1::.int .i64 x.2.1::.int .i64 x.2.2::cellsI r:=by simp[cellsI]
theorem mF (xs:List R3):(cellsI xs).length=xs.length*3:=by
 induction xs with
 | nil=>rfl
 | cons x r ih=>rw[fN,List.length_cons,List.length_cons,List.length_cons,List.length_cons,ih];omega
theorem pC (xs:List R3) (i:Nat) (x:R3) (h:xs[i]?=some x):(cellsI xs)[i*3]?=some (.int .i64 x.1)/\(cellsI xs)[i*3+1]?=some (.int .i64 x.2.1)/\(cellsI xs)[i*3+2]?=some (.int .i64 x.2.2):=by
 induction xs generalizing i with
 | nil=>simp at h
 | cons y r ih =>
  cases i with
  | zero=>simp at h;subst h;simp[fN]
  | succ i =>
   have:=ih i (by simpa using h)
   rw[fN,show (i+1)*3=i*3+1+1+1 by omega,show i*3+1+1+1+1=i*3+1+1+1+1 by omega];simp only[qFq];exact this
theorem sP (xs:List R3) (x:R3) (b:Int):(cellsI (xs++[x])).set (xs.length*3+1) (.int .i64 b)=cellsI (xs++[(x.1,b,x.2.2)]):=by
 rw[eJ,eJ,List.set_append_right _ _ (by rw[mF];omega),mF,show xs.length*3+1-xs.length*3=1 by omega];simp[cellsI]
def Mv (W:World) (v:Value) (l:List R2):Prop:=HRow W 0 146 3 v l.length (cellsI (mk l))
theorem Mv.later {W W':World} {v:Value} {l:List R2} (h:Mv W v l) (hb:Below W.heap.size W W'):Mv W' v l:=HRow.later h hb
theorem Mv.nil (W:World):Mv W (.slice none 0 0) []:=HRow.nil
theorem Mv.slice {W:World} {v:Value} {l:List R2} (h:Mv W v l):∃ p cap,v=.slice p l.length cap/\l.length<=cap/\cap<=maxLen:=HRow.isslice h
theorem Mv.run {W:World} {p:Option Addr} {cap:Nat} {l:List R2} (h:Mv W (.slice p l.length cap) l) {j:Nat} (hj:j<l.length):∃ g,p=some ⟨g,0,none⟩/\g<W.heap.size /\
  W.cell? ⟨g,j*3,none⟩=some (Value.int .i64 (l[j].1))/\W.cell? ⟨g,j*3+1,none⟩=some (Value.int .i64 (l[j].2))/\W.cell? ⟨g,j*3+2,none⟩=some (Value.int .i64 ((((els (l.take j)).length:Nat):Int))):=by
 obtain⟨g,cap',e,_,_⟩:=HRow.slice h (by omega);cases e;obtain⟨c0,c1,c2⟩:=pC (mk l) j _ (wQ l j hj);exact⟨g,rfl,(HRow.lt h g rfl).2,HRow.cell h c0,HRow.cell h c1,HRow.cell h c2⟩
def Fst (D:Nat) (W0:World) (fv:Value) (l:List R2) (p:Nat->Bool):Prop:=∃ (g:Nat) (lb:Array Value),fv=.func (.func g) #[] lb/\(∀ a w,(callFunc g a).run Tryz.prog w=.ok (.enter g a) w) /\
 ∀ w j (h:j<l.length),Below D W0 w->Calls Tryz.prog g (#[(Value.agg #[Value.int .i64 ((l[j].1)),Value.int .i64 ((l[j].2)),Value.int .i64 (((els (l.take j)).length:Int))])]++lb) w fun e w'=>e=.returned (.bool (p j))/\Below w.heap.size w w'
theorem wT (f t c:Int) (W:World):Calls Tryz.prog 91 #[.agg #[.int .i64 (f),.int .i64 (t),.int .i64 (c)]] W fun e w'=>e=.returned (.bool true)/\Below W.heap.size W w':=by
 go_enter Tryz.func91,Tryz.ntmps91
 go_wp2
 go_ret;exact⟨rfl,aD W _⟩
theorem aM {W w1:World} {p:Addr} {v:Value} (hb:Below W.heap.size W w1) (h:W.cell? p=some v):w1.cell? p=some v :=
 (World.cell?_of_block (w:=W) (hb.block _ (World.block_lt_of_cell? W p h))).trans h
theorem aAX {D:Nat} {W0 W:World} {fv:Value} {l:List R2} {q:Nat->Bool} {fb mb cap:Nat} {p:Option Addr} (hF:Fst D W0 fv l q) (hD:Below D W0 W) (hDW:D<=W.heap.size) (hf:W.cell? ⟨fb,0,none⟩=some fv) (hm:W.cell? ⟨mb,0,none⟩=some (.slice p l.length cap))
  (hv:Mv W (.slice p l.length cap) l) (j:Nat) (hj:j<l.length):Calls Tryz.prog 127 #[.int .i64 ((j:Int)),.pointer (some ⟨fb,0,none⟩),.pointer (some ⟨mb,0,none⟩)] W fun e w'=>e=.returned (.bool (!(q j)))/\Below W.heap.size W w':=by
 obtain⟨g,rfl,hg,c0,c1,c2⟩:=hv.run hj;obtain⟨fg,lb,rfl,hent,hrun⟩:=hF;have hcr:=hrun W.drew j hj (hD.trans ((Below.refl _ W).drew.mono hDW));clear hv hrun;generalize q j=b at hcr ⊢;obtain⟨n,hn⟩:∃ n,l.length=n:=⟨_,rfl⟩;simp only[hn] at hm hj;generalize l[j]=r at hcr c0 c1;generalize ((els (l.take j)).length:Int)=c at hcr c2;clear hn;go_enter Tryz.func127,Tryz.ntmps127;go_wp2_with fail
 go_region_held3 (fun w=>w.cell? ⟨fb,0,none⟩=some (.func (.func fg) #[] lb)/\w.cell? ⟨mb,0,none⟩=some (.slice (some ⟨g,0,none⟩) n cap)/\w.cell? ⟨g,j*3,none⟩=some (Value.int .i64 (r.1))/\w.cell? ⟨g,j*3+1,none⟩=some (Value.int .i64 (r.2))/\w.cell? ⟨g,j*3+2,none⟩=some (Value.int .i64 (c))) (first|exact⟨hf,hm,c0,c1,c2⟩ | exact⟨aM hb1 hf,aM hb1 hm,aM hb1 c0,aM hb1 c1,aM hb1 c2⟩) (first | ((with_reducible refine hcr.mono ?_);rintro e x1 ⟨rfl,hb1⟩))
 go_wp2_with fail;go_ret;exact⟨rfl,(Below.refl _ W).drew.trans hb1⟩
def Found (n:Nat) (q:Nat->Bool) (W:World) (e:Ending) (w':World):Prop:=∃ m:Nat,m<=n/\e=.returned (Value.int .i64 ((m:Int)))/\(∀ j,j<n->(j<m↔q j=false))/\Below W.heap.size W w'
theorem wU {D n:Nat} {W0 W:World} {fv:Value} {q:Nat->Bool} (hn:n<=65536) (hmono:∀ j k,j<=k->k<n->q j=true->q k=true) (hD:Below D W0 W) (hDW:D<=W.heap.size)
  (hF:∃ (g:Nat) (lb:Array Value),fv=.func (.func g) #[] lb/\(∀ a w,(callFunc g a).run Tryz.prog w=.ok (.enter g a) w)/\∀ w j,j<n->Below D W0 w->Calls Tryz.prog g (#[(Value.int .i64 ((j:Int)))]++lb) w fun e w'=>e=.returned (.bool (q j))/\Below w.heap.size w w') :
  Calls Tryz.prog 126 #[.int .i64 ((n:Int)),fv] W (Found n q W):=by
 obtain⟨fg,lb,rfl,hent,hrun⟩:=hF;have HM:=qAq hmono;have HR:=qAq hrun;clear hmono hrun;go_enter Tryz.func126,Tryz.ntmps126;go_wp2_with fail;go_loopg [5,6] n (fun gh iv jv w=>∃ i j:Nat,i<=j/\j<=n/\j<=i+gh/\iv=.int .i64 (i:Int)/\jv=.int .i64 (j:Int)/\(∀ k,k<i->q k=false)/\(∀ k,j<=k->k<n->q k=true)/\Below W.heap.size W w)
 case atStart=>exact⟨0,n,Nat.zero_le _,Nat.le_refl _,by omega,rfl,rfl,fun k h=>absurd h (Nat.not_lt_zero k),fun k h h1=>by omega,Below.refl _ _⟩
 obtain⟨i,j,hij,hjn,hg,rfl,rfl,h1,h2,hb⟩:=hrel;have HI:=qAq (qBq h1 h2);clear h1 h2;by_cases hlt:i<j
 ·obtain⟨h,hh⟩:∃ h,(i+j) / 2=h:=⟨_,rfl⟩;have hc:=HR.out wr h (by omega) (hD.trans (hb.mono hDW));obtain⟨b,hqb⟩:∃ b,q h=b:=⟨_,rfl⟩;rw[hqb] at hc;have HQ:=qAq hqb;clear hqb;go_upto_region 4 with fail;rw[show ((i:Int)+(j:Int)) / 2=(h:Int) by omega];cases b
  ·go_wp2_with ((with_reducible refine hc.mono ?_);rintro e x1 ⟨rfl,hb1⟩);go_roundg (j-(h+1))
   case measure=>omega
   refine⟨h+1,j,by omega,hjn,by omega,by go_num,rfl,fun k hk=>?_,HI.out.2,aB hb hb1⟩;rcases Bool.eq_false_or_eq_true (q k) with h3|h3
   ·have:=HM.out k h (by omega) (by omega) h3
    rw[HQ.out] at this;exact absurd this (by decide)
   exact h3
  go_wp2_with ((with_reducible refine hc.mono ?_);rintro e x1 ⟨rfl,hb1⟩);go_roundg (h-i)
  case measure=>omega
  exact⟨i,h,by omega,by omega,by omega,rfl,rfl,HI.out.1,fun k h3 h4=>HM.out h k h3 h4 HQ.out,aB hb hb1⟩
 have HL:=qAq (show i=j by omega);have hd:¬ (i:Int)<(j:Int):=(by omega);clear hlt;go_wp2_with fail;go_ret;refine⟨i,by omega,rfl,fun k hk=>⟨HI.out.1 k,fun h3=>?_⟩,hb⟩;rcases Nat.lt_or_ge k i with h4|h4
 ·exact h4
 rw[HI.out.2 k (by have:=HL.out;omega) hk] at h3;cases h3
def LastAt (l:List R2) (q:Nat->Bool) (W:World) (e:Ending) (w':World):Prop:=∃ m:Nat,m<=l.length/\e=.returned (Value.agg #[Value.int .i64 ((lastR l m).1),Value.int .i64 ((lastR l m).2.1),Value.int .i64 ((lastR l m).2.2)])/\(∀ j,j<l.length->(j<m↔q j=true))/\Below W.heap.size W w'
theorem aCx {D:Nat} {W0 W:World} {v fv:Value} {l:List R2} {q:Nat->Bool} (hl:Nrm l) (hv:Mv W v l) (hD:Below D W0 W) (hDW:D<=W.heap.size) (hF:Fst D W0 fv l q) (hmono:∀ j k,j<=k->k<l.length->q k=true->q j=true) :
  Calls Tryz.prog 90 #[.agg #[v],fv] W (LastAt l q W):=by
 have hlen:=cT hl;obtain⟨p,cap,rfl,hc,hcm⟩:=hv.slice;have HV:=qAq hv;obtain⟨fg,lb,rfl,hent,hrun⟩:=id hF;have HF:=qAq hF;obtain⟨mb,hmb⟩:∃ mb,W.heap.size=mb:=⟨_,rfl⟩;obtain⟨W3,hW3⟩:∃ W3,((W.alloc (.cells #[.slice p l.length cap] 102)).alloc (.cells #[.func (.func fg) #[] lb] 148)).alloc (.cells #[.int .i64 0,.int .i64 0,.int .i64 0] 146)=W3:=⟨_,rfl⟩;have hb3:Below W.heap.size W W3:=(by rw[<- hW3];exact (((aD W _).alloc (by simp) _).alloc (by simp;omega) _));have hn1:W3.heap[mb]?=some (.cells #[.slice p l.length cap] 102):=by rw[<- hW3,<- hmb];exact ((aD ((W.alloc (.cells #[.slice p l.length cap] 102)).alloc (.cells #[.func (.func fg) #[] lb] 148)) _).block _ (by simp;omega)).trans (((aD (W.alloc (.cells #[.slice p l.length cap] 102)) _).block _ (by simp)).trans (heap_alloc_new W _))
 have hn2:W3.heap[mb+1]?=some (.cells #[.func (.func fg) #[] lb] 148):=by
  have h:=heap_alloc_new (W.alloc (.cells #[.slice p l.length cap] 102)) (.cells #[.func (.func fg) #[] lb] 148);rw[World.size_alloc,hmb] at h;rw[<- hW3];exact ((aD ((W.alloc (.cells #[.slice p l.length cap] 102)).alloc (.cells #[.func (.func fg) #[] lb] 148)) _).block _ (by simp;omega)).trans h
 have hn3:W3.heap[mb+1+1]?=some (.cells #[(Value.int .i64 (0)),(Value.int .i64 (0)),(Value.int .i64 (0))] 146):=by
  have h:=heap_alloc_new ((W.alloc (.cells #[.slice p l.length cap] 102)).alloc (.cells #[.func (.func fg) #[] lb] 148)) (.cells #[.int .i64 0,.int .i64 0,.int .i64 0] 146);rw[World.size_alloc,World.size_alloc,hmb] at h;rw[<- hW3];exact h
 have hz3:W3.heap.size=mb+3:=(by rw[<- hW3,<- hmb];simp);have h0:=aA hn1 0;have h1:=aA hn2 0
 have hs:=wU (W:=W3) (fv:=.func (.func 127) #[] #[(Value.pointer (some ⟨mb+1,0,none⟩)),(Value.pointer (some ⟨mb,0,none⟩))]) (q:=fun j=>!(q j)) hlen (fun j k hjk hk hq=>by
   rcases Bool.eq_false_or_eq_true (q k) with h3|h3
   ·have:=hmono j k hjk hk h3
    simp[this] at hq
   ·simp[h3]) (Below.refl W3.heap.size W3) (Nat.le_refl _) ⟨127,_,rfl,by intro a w;rfl,fun w j hj hb=>by
   have hf:w.cell? ⟨mb+1,0,none⟩=some (.func (.func fg) #[] lb):=aM hb h1;have hm:w.cell? ⟨mb,0,none⟩=some (.slice p l.length cap):=aM hb h0;exact aAX HF.out (hD.trans ((hb3.mono hDW).trans (hb.mono (by omega)))) (by have:=hb.size;omega) hf hm (HV.out.later (aB hb3 hb)) j hj⟩
 have HM:=qAq hmono;obtain⟨n,hn⟩:∃ n,l.length=n:=⟨_,rfl⟩;rw[hn] at hs hW3 hlen;have HW:=qAq (qBq hb3 (qBq hz3 (qBq hW3 (qBq hn hmb))));have HR:=qAq hn3;rw[hn] at hn1;have HM0:=qAq hn1;simp only[hn];clear hW3 hb3 hz3 hn1 hn2 hn3 h0 h1 hmono hv hF hn;go_enter Tryz.func90,Tryz.ntmps90
 go_upto_region 2 with (first
  | (go_at_call 126;rw[HW.out.2.2.1];(with_reducible refine hs.mono ?_);rintro e x1 ⟨m,hm,rfl,hq,hb⟩;clear hs))
 have hR:x1.heap[mb+1+1]?=some (.cells #[(Value.int .i64 (0)),(Value.int .i64 (0)),(Value.int .i64 (0))] 146):=(hb.block _ (by have:=HW.out.2.1;omega)).trans HR.out;have hM:x1.heap[mb]?=some (.cells #[.slice p n cap] 102):=(hb.block _ (by have:=HW.out.2.1;omega)).trans HM0.out;have hbx:Below W.heap.size W x1:=aB HW.out.1 hb;have hv1:=HV.out.later hbx;rw[<- HW.out.2.2.2.1] at hm
 have HQ:=qAq (show m<=l.length/\∀ j,j<n->(j<m↔q j=true) from ⟨hm,fun j hj=>by
  rw[hq j hj];cases q j <;> simp⟩)
 have e0:=aA hR 0;have e1:=aA hR 1;have e2:=aA hR 2;have f0:=frozen_of_row x1 (mb+1+1) 0 _ _ hR;have f1:=frozen_of_row x1 (mb+1+1) 1 _ _ hR;have f2:=frozen_of_row x1 (mb+1+1) 2 _ _ hR;have hzx:mb+1+1<x1.heap.size:=aC hR
 have hfin:∀ a b c:Value,Below W.heap.size W (((x1.setCell ⟨mb+1+1,0,none⟩ a).setCell ⟨mb+1+1,1,none⟩ b).setCell ⟨mb+1+1,2,none⟩ c):=fun a b c =>
  ((hbx.setCell (by rw[HW.out.2.2.2.2];simp;omega) a).setCell (by rw[HW.out.2.2.2.2];simp;omega) b).setCell (by rw[HW.out.2.2.2.2];simp;omega) c
 have HF:=qAq hfin;have m0:=aA hM 0;have s0:=(fun a=>World.cell?_setCell_same x1 ⟨mb+1+1,0,none⟩ a e0);have s1:=(fun a b=>World.cell?_setCell_same (x1.setCell ⟨mb+1+1,0,none⟩ a) ⟨mb+1+1,1,none⟩ b ((World.cell?_setCell_other _ _ _ _ (by simp)).trans e1));have s2:=(fun a b c=>World.cell?_setCell_same ((x1.setCell ⟨mb+1+1,0,none⟩ a).setCell ⟨mb+1+1,1,none⟩ b) ⟨mb+1+1,2,none⟩ c ((World.cell?_setCell_other _ _ _ _ (by simp)).trans ((World.cell?_setCell_other _ _ _ _ (by simp)).trans e2)));have HS3:=qAq (qBq s0 (qBq s1 s2));clear s0 s1 s2;clear hR hM hbx hq hb hfin;cases m with
 | zero =>
  clear hv1 hm;go_wp2_with fail;refine bodyPost_ret (v:=(Value.agg #[Value.int .i64 (0),Value.int .i64 (0),Value.int .i64 (0)])) (by simp[results,Tryz.results90,go_sem,HS3.out.1,HS3.out.2.1,HS3.out.2.2]) rfl ?_;exact⟨0,HQ.out.1,rfl,by rw[HW.out.2.2.2.1];exact HQ.out.2,HF.out _ _ _⟩
 | succ m =>
  have hl1:=gV l m hm;obtain⟨g,rfl,hg,c0,c1,c2⟩:=hv1.run hm;have hne:¬ ((m:Int)+1=0):=(by omega);have hne2:(((m+1:Nat):Int)==0)=false:=(by simp;omega);have hlt:(m:Int)<(n:Int):=(by have:=HW.out.2.2.2.1;omega);have hmn:m<n:=(by have:=HW.out.2.2.2.1;omega);have HL:=qAq hl1;generalize ((els (l.take m)).length:Int)=c at c2 HL;obtain⟨r,hr⟩:∃ r,l[m]=r:=⟨_,rfl⟩;rw[hr] at c0 c1 HL;clear hl1 hv1 hm hr;go_wp2_with fail;refine bodyPost_ret (v:=(Value.agg #[Value.int .i64 (r.1),Value.int .i64 (r.2),Value.int .i64 (c)])) (by simp[results,Tryz.results90,go_sem,HS3.out.1,HS3.out.2.1,HS3.out.2.2]) rfl ?_;exact⟨m+1,HQ.out.1,by rw[HL.out],by rw[HW.out.2.2.2.1];exact HQ.out.2,HF.out _ _ _⟩
theorem aCy {l:List R2} (h:Nrm l) {m:Nat} (hm:m<=l.length):0<=(lastR l m).1/\(lastR l m).1<=(lastR l m).2.1/\(lastR l m).2.1<=65536/\0<=(lastR l m).2.2/\(lastR l m).2.2<=65536:=by
 cases m with
 | zero=>show (0:Int)<=0/\(0:Int)<=0/\(0:Int)<=65536/\(0:Int)<=0/\(0:Int)<=65536;omega
 | succ m =>
  rw[gV l m (by omega)];have h1:=h.2 l[m] (List.getElem_mem _)
  have h2:Nrm (l.take m):=by
   have:Nrm (l.take m++l.drop m):=(by rw[List.take_append_drop];exact h);exact this.left
  have h3:=zI h2;show 0<=l[m].1/\l[m].1<=l[m].2/\l[m].2<=65536/\(0:Int)<=((els (l.take m)).length:Int)/\((els (l.take m)).length:Int)<=65536;omega
theorem aH {a b:Bool} (h:a=b):Ending.returned (.bool a)=.returned (.bool b):=by rw[h]
theorem aQ {a b:Int} (h:a=b):Ending.returned (Value.int .i64 (a))=.returned (Value.int .i64 (b)):=by rw[h]
theorem jT {x:World} {b:Nat} {a0 a1 a2:Value} {t:TypeId} (h:x.heap[b]?=some (.cells #[a0,a1,a2] t)) (a c d:Value) :
  (((x.setCell ⟨b,0,none⟩ a).setCell ⟨b,1,none⟩ c).setCell ⟨b,2,none⟩ d).heap[b]?=some (.cells #[a,c,d] t):=by
 rw[heap_setCell_same _ b 2 #[a,c,a2] t d (heap_setCell_same _ b 1 #[a,a1,a2] t c (heap_setCell_same _ b 0 #[a0,a1,a2] t a h))];rfl
theorem bB {l:List R2} {v:Value} {W:World} (hl:Nrm l) (hv:Mv W v l):Calls Tryz.prog 53 #[.agg #[v]] W fun e w'=>e=.returned (Value.int .i64 (((els l).length:Int)))/\Below W.heap.size W w':=by
 have hs:=wR hl;have hbd:=aCy hl (Nat.le_refl _);have hB:=aD W (.cells #[v] 102)
 have hc:=aCx (D:=0) (W0:=W.alloc (.cells #[v] 102)) (W:=W.alloc (.cells #[v] 102)) (fv:=.func (.func 91) #[] #[]) (q:=fun _=>true) hl (hv.later hB) (Below.refl 0 _) (Nat.zero_le _)
  ⟨91,#[],rfl,by intro a w;rfl,fun w j hj _=>wT _ _ _ w⟩ (fun _ _ _ _ _=>rfl)
 obtain⟨p,cap,rfl,_,_⟩:=hv.slice;clear hv hl;generalize ((els l).length:Int)=z at hs ⊢;go_enter Tryz.func53,Tryz.ntmps53;go_upto_region 1 with fail
 go_wp2_with (first
  | (go_at_call 90;(with_reducible refine hc.mono ?_);rintro e x1 ⟨m,hm,rfl,hq,hb⟩;have hm:m=l.length:=(Nat.lt_or_ge m l.length).elim (fun h=>absurd ((hq m h).2 rfl) (Nat.lt_irrefl m)) (fun h=>by omega);subst hm;clear hq hc;generalize lastR l l.length=r at hs hbd ⊢;have HS:=qAq hs;clear hs))
 go_ret;exact⟨by rw[HS.out];rfl,(aB hB hb).alloc (by have:=(aB hB hb).size;omega) _⟩
def Mk (W:World) (mb:Nat) (v:Value) (l:List R2):Prop:=Cell W mb v/\HRow W (mb+1) 146 3 v l.length (cellsI (mk l))
theorem Mk.lt {W:World} {mb:Nat} {v:Value} {l:List R2} (h:Mk W mb v l):mb<W.heap.size:=h.1.lt
theorem HRow.mono {w:World} {base base':Nat} {e:TypeId} {size:Nat} {v:Value} {n:Nat} {xs:List Value} (h:HRow w base e size v n xs) (hb:base'<=base):HRow w base' e size v n xs:=by
 refine⟨h.1,?_⟩;rcases h.2 with h2|⟨g,cap,cur,hv,hg,rest⟩
 ·exact .inl h2
 exact .inr ⟨g,cap,cur,hv,Nat.le_trans hb hg,rest⟩
theorem Mk.mv {W:World} {mb:Nat} {v:Value} {l:List R2} (h:Mk W mb v l):Mv W v l:=HRow.mono h.2 (Nat.zero_le _)
theorem Mk.of {W W':World} {mb:Nat} {v:Value} {l:List R2} (h:Mk W mb v l) (hb:∀ b,mb<=b->b<W.heap.size->(b=mb∨v.ownBlock=some b)->W'.heap[b]?=W.heap[b]?):Mk W' mb v l :=
 ⟨h.1.of (hb mb (Nat.le_refl _) h.lt (.inl rfl)),h.2.of (fun k hk=>by have:=h.2.lt k hk;exact hb k (by omega) this.2 (.inr hk))⟩
theorem Mk.later {W W':World} {mb:Nat} {v:Value} {l:List R2} (h:Mk W mb v l) (hb:Below W.heap.size W W'):Mk W' mb v l:=h.of (fun b _ h2 _=>hb.block b h2)
def Added (W:World) (mb:Nat) (v:Value) (l:List R2) (f t:Int) (e:Ending) (W':World):Prop:=e=.returned (.tuple #[])/\∃ v',Mk W' mb v' (addL l f t)/\Chg (fun b=>b=mb∨v.ownBlock=some b) W W'/\∀ q,v'.ownBlock=some q->v.ownBlock=some q∨W.heap.size<=q
theorem aGQ {W:World} {mb:Nat} {v:Value} {l:List R2} {f t:Int} (h:Mk W mb v l) (hf:¬ f<t):Calls Tryz.prog 125 #[.pointer (some ⟨mb,0,none⟩),.int .i64 (f),.int .i64 (t)] W (Added W mb v l f t):=by
 have e:=lO (l:=l) hf;have hf:t<=f:=(by omega);go_enter Tryz.func125,Tryz.ntmps125
 go_wp2
 go_end0
 exact⟨rfl,v,by rw[e];exact h,Chg.refl _ _,fun q hq=>.inl hq⟩
theorem wV {W:World} {mb g cap:Nat} {k:List R2} {r:R2} {f t c:Int} (h:Mk W mb (.slice (some ⟨g,0,none⟩) (k.length+1) cap) (k++[r])) (hf:f<t) (ht:f<=r.2) (hc:c=max t r.2) :
  Added W mb (.slice (some ⟨g,0,none⟩) (k.length+1) cap) (k++[r]) f t (.returned (.tuple #[])) (W.setCell ⟨g,k.length*3+1,none⟩ (Value.int .i64 (c))).drew:=by
 have hlen:(k++[r]).length=k.length+1:=(by simp);have h2:=h.2;rw[hlen] at h2;obtain⟨s1,s2⟩:=h2.stored (k.length*3+1) (Value.int .i64 (c));have e:=sP (mk k) (r.1,r.2,((els k).length:Int)) c;rw[aGP,<- qT] at e;have e2:=qT k (r.1,max t r.2)
 have e3:cellsI (mk (k++[(r.1,max t r.2)]))=(cellsI (mk (k++[r]))).set (k.length*3+1) (Value.int .i64 (c)):=by
  rw[e,e2,hc]
 have hg:=h2.lt g rfl;refine⟨rfl,.slice (some ⟨g,0,none⟩) (k.length+1) cap,?_,((Chg.refl _ W).setCell (fun _=>.inr rfl) _).drew,fun q hq=>.inl hq⟩;rw[dS hf ht];refine⟨(h.1.of (Below.heap_setCell _ _ _ _ (by show mb≠g;omega))).drew,?_⟩;rw[e3,show (k++[(r.1,max t r.2)]).length=k.length+1 by simp];exact s1.later (Below.refl _ _).drew
theorem aAY {W:World} {mb:Nat} {v:Value} {k:List R2} {r:R2} {f t:Int} (h:Mk W mb v (k++[r])) (hf:f<t) (ht:f<=r.2) (hk:k.length<=65536):Calls Tryz.prog 125 #[.pointer (some ⟨mb,0,none⟩),.int .i64 (f),.int .i64 (t)] W (Added W mb v (k++[r]) f t):=by
 have e:=dS (k:=k) hf ht;have hlen:(k++[r]).length=k.length+1:=(by simp);have h2:=h.2;rw[hlen] at h2;obtain⟨g,cap,rfl,hc,hcm⟩:=h2.slice (by omega);have hg:=h2.lt g rfl;obtain⟨c0,c1,c2⟩:=pC (mk (k++[r])) k.length _ (wQ (k++[r]) k.length (by simp));have c1:=h2.cell c1;have f1:=h2.frozenAt (k.length*3+1);simp at c1;have m0:=h.1.1;have HD:=(fun (c:Int) (hc:c=max t r.2)=>wV h hf ht hc);have HH:=qAq HD;obtain⟨n,hn⟩:∃ n,k.length=n:=⟨_,rfl⟩;rw[hn] at hk c1 f1 hc m0 HH;rw[hn];obtain⟨a,b⟩:=r;have c1:W.cell? ⟨g,n*3+1,none⟩=some (Value.int .i64 (b)):=c1;have ht:f<=b:=ht;have x1:(n:Int)<(n:Int)+1:=(by omega);have x2:n<n+1:=(by omega);have x3:(n:Int)<((n+1:Nat):Int):=(by omega);clear HD hn h hlen h2 e c0 c2;rcases Int.lt_or_le t b with hm|hm
 ·have h3:¬ b<t:=(by omega);go_enter Tryz.func125,Tryz.ntmps125;go_wp2_with fail
  go_region_law (fail)
  all_goals
   go_wp2_with fail
   go_end0
   exact HH.out b (by show b=max t b;omega)
 have h3:¬ t<b:=(by omega);go_enter Tryz.func125,Tryz.ntmps125;go_wp2_with fail
 go_region_law (fail)
 all_goals
  go_wp2_with fail
  go_end0
  first|exact HH.out t (by show t=max t b;omega) | (have e:t=b:=by omega;subst e;exact HH.out t (by show t=max t t;omega))
