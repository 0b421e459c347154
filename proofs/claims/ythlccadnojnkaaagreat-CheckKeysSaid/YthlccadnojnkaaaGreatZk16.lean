import Derived.Test.YthlccadnojnkaaaGreatZk14
import Derived.Test.YthlccadnojnkaaaGreatZk15
import Derived.Sort.OwnSortedInts
import Derived.Laws.OwnMore
import Derived.TacticsInMore
import Derived.LoopNIn
import Derived.LoopIn
import Derived.RangeFuncBox
import Derived.Shelf.RegionOpen
import Derived.Test.YthlccadnojnkaaaGreatZk12
import Derived.RangeFuncLeaves
import Derived.ControlIn
set_option maxHeartbeats 2000000
set_option maxRecDepth 100000
namespace Go.Proofs.YthlccadnojnkaaaGreat
open Go Go.RowKit Go.Proofs
abbrev iv (x:Int):Value:=Value.int .i64 x
def Rd (W:World) (p:Option Addr) (xs:List Int):Prop:=∀ j (_:j<xs.length),∃ b off,p=some ⟨b,off,none⟩/\b<W.heap.size/\W.cell? ⟨b,off+j,none⟩=some (Value.int .i64 (xs[j]))
theorem Rd.later {W W':World} {p:Option Addr} {xs:List Int} (h:Rd W p xs) (hb:Below W.heap.size W W'):Rd W' p xs:=fun j hj=>by
 obtain⟨b,off,h1,h2,h3⟩:=h j hj;exact⟨b,off,h1,Nat.lt_of_lt_of_le h2 hb.size,(hb.cell (p:=⟨b,off+j,none⟩) h2).trans h3⟩
abbrev Ro (W:World) (base:Nat) (v:Value) (xs:List Int):Prop:=HRow W base 3 1 v xs.length (xs.map iv)
theorem Ro.rd {W:World} {base cap:Nat} {p:Option Addr} {xs:List Int} (h:Ro W base (.slice p xs.length cap) xs):Rd W p xs:=fun j hj=>by
 obtain⟨g,cap',e,_,_⟩:=HRow.slice h (by omega);cases e;refine⟨g,0,rfl,(HRow.lt h g rfl).2,?_⟩;rw[Nat.zero_add];exact HRow.cell h (by rw[List.getElem?_map,List.getElem?_eq_getElem hj];rfl)
theorem aHU:(Tryz.prog.info? 3).map (fun i=>(i.zero,i.size,i.bytes))=some (some (.int .i64 0),1,8):=by kernel_rfl
theorem iY (ty:TypeId) (hty:Tryz.prog.underlying ty=some (.slice 3)) (y:World) (base:Nat) {v:Value} {n:Nat} {xs:List Int} (hn:xs.length=n) (hr:Ro y base v xs) (hm:n+1<=1000000) (hb:base<=y.heap.size) (k:Int) :
  ∃ g cap w',(Builtin.append_ #[ty,ty] ty #[v,.slice (some ⟨y.heap.size,0,none⟩) 1 1]).run Tryz.prog (y.alloc (.cells #[(Value.int .i64 (k))] 3))=.ok (.slice (some ⟨g,0,none⟩) (n+1) cap) w' /\
   Ro w' base (.slice (some ⟨g,0,none⟩) (n+1) cap) (xs++[k])/\y.grownBy w' v.ownBlock/\(v.ownBlock=some g∨y.heap.size<=g):=by
 subst hn;obtain⟨i0,hi0,hz0,hz1,hz2⟩:=info_parts aHU;have hh:=heap_alloc_new y (.cells #[(Value.int .i64 (k))] 3)
 obtain⟨g,cap,w',h1,h2,h3,h4⟩:=aY (P:=Tryz.prog) (y.alloc (.cells #[(Value.int .i64 (k))] 3)) base ty ty 3 i0 _ 1 8 hty hi0 hz0 hz1 hz2 rfl (by decide) (HRow.later hr (aD y _)) ⟨y.heap.size,0,none⟩ 1 1 [(Value.int .i64 (k))] rfl
  (by exact World.news_of_block hh) (by simp[Value.oneCell']) (by decide) (by unfold maxLen;omega) (by omega) (by rw[World.size_alloc];omega)
 exact⟨g,cap,w',h1,by unfold Ro;rw[List.map_append,List.length_append];exact h2,⟨h3.os,h3.tape,h3.output,Nat.le_trans (by simp) h3.size,fun q hq hne=>(h3.block q (by simp;omega) hne).trans ((aD y _).block q hq)⟩,h4.imp id (fun h=>by rw[World.size_alloc] at h;omega)⟩
theorem eM {n base:Nat} {A B:World} {nv:Value} {e:TypeId} {sz m:Nat} {xs:List Value} (hr:HRow A base e sz nv m xs) (hg:A.grownBy B nv.ownBlock) (hn:n<=base) (hs:n<=A.heap.size):Below n A B :=
 ⟨hg.os,hg.tape,hg.output,hg.size,fun q hq=>hg.block q (by omega) (fun e=>by have:=(hr.lt q e.symm).1;omega)⟩
def sorted (xs:List Int):List Int:=xs.mergeSort fun x y=>decide (x<=y)
theorem dU (xs:List Int):(sorted xs).length=xs.length:=List.length_mergeSort _
theorem gW (xs:List Int) (x:Int):x∈sorted xs↔x∈xs:=List.mem_mergeSort
theorem mH (xs:List Int):(sorted xs).Pairwise (·<=·) :=
 (List.pairwise_mergeSort (le:=fun x y:Int=>decide (x<=y)) (fun a b c h1 h2=>by
  have h1:a<=b:=of_decide_eq_true h1;have h2:b<=c:=of_decide_eq_true h2;exact decide_eq_true (by omega)) (fun a b=>by
  rcases Int.le_total a b with h|h
  ·simp[h]
  ·simp[h]) xs).imp (fun h=>of_decide_eq_true h)
theorem aCA {W:World} {base:Nat} {v:Value} {xs:List Int} (h:Ro W base v xs) (hl:xs.length<=1000000):Calls Tryz.prog 147 #[v] W fun e w'=>e=.returned (.tuple #[])/\Ro w' base v (sorted xs)/\W.grownBy w' v.ownBlock:=by
 rcases List.eq_nil_or_concat xs with rfl|⟨k,r,e⟩
 ·obtain⟨p,cap,rfl,_,_⟩:=HRow.isslice h;refine (Any.slices_Sort_int_none Tryz.laysSort p cap W).mono ?_;rintro e w' ⟨rfl,rfl⟩;have e:sorted []=[]:=List.eq_nil_of_length_eq_zero (by rw[dU];rfl);exact⟨rfl,by rw[e];exact h,⟨rfl,rfl,rfl,Nat.le_refl _,fun _ _ _=>rfl⟩⟩
 have hpos:0<xs.length:=(by rw[e,List.length_concat];omega);obtain⟨g,cap,rfl,hc,hcm⟩:=HRow.slice h hpos;obtain⟨cur,hb,hg,_,_,hcs,htake⟩:=HRow.form h;rw[Nat.mul_one] at htake;refine (aCz g 0 cap xs W (holds_of_blockI hg htake) (aC hg) (by omega)).mono ?_;rintro e w' ⟨rfl,n,os,rfl⟩;refine⟨rfl,⟨by simp,.inr ⟨g,cap,_,?_,hb,heap_sortedI _ hg,by rw[dU];exact hc,hcm,by simpa [Sort.putCells] using hcs,?_⟩⟩,grownBy_sortedI _⟩
 ·rw[dU]
 rw[Nat.mul_one];exact take_putCellsI cur (sorted xs) (by rw[dU];omega)
def inB (x:Int):Bool:=decide (0<=x/\x<65536)
def ofP (xs:List Int) (x:Int):Bool:=decide (x∈xs)&&inB x
theorem aHV (xs:List Int):Nrm (ofL (sorted (xs.filter inB)))/\Is (ofL (sorted (xs.filter inB))) (ofP xs):=by
 have hb:∀ y∈sorted (xs.filter inB),0<=y/\y<65536:=fun y hy=>by
  rw[gW,List.mem_filter] at hy;exact of_decide_eq_true hy.2
 obtain⟨h1,h2,_⟩:=aCw _ (mH (xs.filter inB)) hb;refine⟨h1,fun x=>?_⟩;rw[h2,gW,List.mem_filter];unfold ofP;rw[Bool.and_eq_true,decide_eq_true_eq]
theorem aGU {p:Option Addr} {xs:List Int} {n c:Nat} {W:World} (hn:xs.length=n) (hl:n<=100000) (hr:Rd W p xs):Calls Tryz.prog 112 #[.slice p n c] W (IsMap (ofP xs) W):=by
 have hB1:=aD W (.cells #[.slice none 0 0] 102);have h01:=heap_alloc_new W (.cells #[.slice none 0 0] 102);obtain⟨S,hS⟩:∃ S,W.heap.size=S:=⟨_,rfl⟩;have hz1:(W.alloc (.cells #[.slice none 0 0] 102)).heap.size=S+1:=(by simp[hS]);obtain⟨W1,hW1⟩:∃ W1,W.alloc (.cells #[.slice none 0 0] 102)=W1:=⟨_,rfl⟩;rw[hW1] at hB1 h01 hz1;rw[hS] at h01;have HW:=qAq (qBq hB1 (qBq h01 (qBq hz1 (qBq hS hn))));have HW1:=qAq hW1;have HR:=qAq (hr.later hB1);clear hB1 h01 hz1 hS hW1 hr hn;go_enter Tryz.func112,Tryz.ntmps112
 go_upto_block 0 with fail
 rw[HW1.out,HW.out.2.2.2.1]
 go_cut [3] from 200 to 200 (fun ov w=>Ro w (S+1) ov (xs.filter inB)/\Below (S+1) W1 w)
 case first =>
  go_wp2_with fail;go_loopg [3,11] (n+1) (fun gh ov jv w=>∃ (j:Nat) (ys:List Int),jv=.int .i64 (j:Int)/\j<=n/\n+1<=j+gh/\ys=(xs.take j).filter inB/\ys.length<=j/\Ro w (S+1) ov ys/\Below (S+1) W1 w)
  case atStart=>exact⟨0,[],rfl,Nat.zero_le _,by omega,by simp,Nat.zero_le _,HRow.nil,Below.refl _ _⟩
  obtain⟨j,ys,rfl,hj,hg,hys,hyl,hO,hB⟩:=hrel;obtain⟨m,hm⟩:∃ m,ys.length=m:=⟨_,rfl⟩;obtain⟨pl,cl,rfl,hc,hcm⟩:=HRow.isslice hO;rw[hm] at hc hyl ⊢;have HI:=qAq (qBq hys (qBq hO (qBq hB hm)));clear hys hO hB hm;by_cases hlt:j<n
  ·have hjx:j<xs.length:=(by rw[HW.out.2.2.2.2];exact hlt);have hBW:Below W1.heap.size W1 wr:=HI.out.2.2.1.mono (by rw[HW.out.2.2.1];exact Nat.le_refl _);obtain⟨b,off,rfl,hbW,c0⟩:=(HR.out.later hBW) j hjx;obtain⟨x,hx⟩:∃ x,xs[j]=x:=⟨_,rfl⟩;rw[hx] at c0;have HX:Hid (xs.take (j+1)=xs.take j++[x]):=qAq (by rw[List.take_succ_eq_append_getElem hjx,hx]);clear hx hBW;by_cases h0:0<=x
   ·by_cases h1:x<65536
    ·have hO':Ro wr (S+1) (.slice pl m cl) ys:=(by rw[<- HI.out.2.2.2];exact HI.out.2.1);obtain⟨g,cap',w3,hrun,r3,g3,o3⟩:=iY 45 Tryz.underlying45 wr (S+1) HI.out.2.2.2 hO' (by omega) (by have:=HI.out.2.2.1.size;rw[HW.out.2.2.1] at this;exact this) x;have HK:=qAq (qBq r3 (eM (n:=S+1) hO' g3 (Nat.le_refl _) (by have:=HI.out.2.2.1.size;rw[HW.out.2.2.1] at this;exact this)));clear r3 g3 o3 hO';go_wp2_with (at_builtin;refine aK rfl (.tmp 21) (.tmp 23) 45 rfl rfl rfl hrun ?_);go_roundg (n-j)
     case measure=>omega
     exact⟨j+1,ys++[x],by go_num,by omega,by omega,by rw[HX.out,List.filter_append,<- HI.out.1,List.filter_cons_of_pos (show inB x=true from decide_eq_true (by omega))];rfl,by rw[List.length_append,HI.out.2.2.2];simp;omega,HK.out.1,HI.out.2.2.1.trans HK.out.2⟩
    go_wp2_with fail;go_roundg (n-j)
    case measure=>omega
    exact⟨j+1,ys,by go_num,by omega,by omega,by rw[HX.out,List.filter_append,<- HI.out.1,List.filter_cons_of_neg (by rw[show inB x=false from decide_eq_false (by omega)];decide)];simp,by rw[HI.out.2.2.2];omega,by rw[<- HI.out.2.2.2];exact HI.out.2.1,HI.out.2.2.1⟩
   go_wp2_with fail;go_roundg (n-j)
   case measure=>omega
   exact⟨j+1,ys,by go_num,by omega,by omega,by rw[HX.out,List.filter_append,<- HI.out.1,List.filter_cons_of_neg (by rw[show inB x=false from decide_eq_false (by omega)];decide)];simp,by rw[HI.out.2.2.2];omega,by rw[<- HI.out.2.2.2];exact HI.out.2.1,HI.out.2.2.1⟩
  go_wp2_with fail;go_meet;have e:xs.take j=xs:=List.take_of_length_le (by rw[HW.out.2.2.2.2];omega);have h:=HI.out.1;rw[e] at h;rw[<- h,<- HI.out.2.2.2];exact⟨HI.out.2.1,HI.out.2.2.1⟩
 obtain⟨hO,hB⟩:=hcut;obtain⟨h1,h2⟩:=aHV xs;have hlen:(xs.filter inB).length<=n:=by rw[<- HW.out.2.2.2.2];exact List.length_filter_le _ _
 have hb:∀ y∈sorted (xs.filter inB),0<=y/\y<65536:=fun y hy=>by
  rw[gW,List.mem_filter] at hy;exact of_decide_eq_true hy.2
 have hsrt:=mH (xs.filter inB);have hsl:=dU (xs.filter inB);have hs:=aCA hO (by omega);obtain⟨zs,hzs⟩:∃ zs,sorted (xs.filter inB)=zs:=⟨_,rfl⟩;rw[hzs] at h1 h2 hb hsrt hsl hs;rw[<- hsl] at hlen;obtain⟨m,hm⟩:∃ m,zs.length=m:=⟨_,rfl⟩;obtain⟨pl,cl,rfl,hc,hcm⟩:=HRow.isslice hO;rw[<- hsl,hm] at hc hs ⊢;rw[hm] at hlen;have hrow:=hO;rw[<- hsl,hm] at hrow;have HI:=qAq (qBq h1 (qBq h2 (qBq hb (qBq hsrt (qBq hm hB)))));have HO:=qAq hrow;clear h1 h2 hb hsrt hm hB hO hrow hsl hzs
 go_upto_block 2 with (go_at_call 147;(with_reducible refine hs.mono ?_);rintro e x1 ⟨rfl,r1,g1⟩;clear hs;have hB1:=HI.out.2.2.2.2.2.trans (eM HO.out g1 (Nat.le_refl _) (by have:=HI.out.2.2.2.2.2.size;rw[HW.out.2.2.1] at this;exact this));have H1:=qAq (qBq r1 hB1);clear r1 g1 hB1)
 have hM:=mG x1;obtain⟨mb,hmb⟩:∃ mb,x1.heap.size=mb:=⟨_,rfl⟩;obtain⟨ws,hws⟩:∃ ws,x1.alloc (.cells #[.slice none 0 0] 102)=ws:=⟨_,rfl⟩;have hBs:Below mb x1 ws:=(by rw[<- hws,<- hmb];exact aD x1 _);rw[hws,hmb] at hM;rw[hws,hmb];have hSm:S+1<=mb:=(by have:=H1.out.2.size;rw[HW.out.2.2.1,hmb] at this;exact this);have HM:=qAq (qBq hM (qBq hBs (qBq hmb hws)))
 have HR2:Hid (Rd x1 pl zs):=qAq (by
  have h:=H1.out.1;have e:zs.length=m:=HI.out.2.2.2.2.1;have h:Ro x1 (S+1) (.slice pl zs.length cl) zs:=(by unfold Ro at h ⊢;rw[e] at h ⊢;exact h);exact Ro.rd h)
 clear hM hmb hws hBs;go_wp2_with fail;go_loopg [30] (m+1) (fun gh jv w=>∃ (j:Nat) (v:Value),jv=.int .i64 (j:Int)/\j<=m/\m+1<=j+gh/\Mk w mb v (ofL (zs.take j))/\Below mb x1 w)
 case atStart=>exact⟨0,_,rfl,Nat.zero_le _,by omega,HM.out.1,HM.out.2.1⟩
 obtain⟨j,v,rfl,hj,hg,hMk,hB⟩:=hrel;have HK:=qAq (qBq hMk hB);clear hMk hB;by_cases hlt:j<m
 ·have hjz:j<zs.length:=(by rw[HI.out.2.2.2.2.1];exact hlt);obtain⟨b,off,rfl,hbw,c0⟩:=HR2.out j hjz;have c0:=(HK.out.2.cell (p:=⟨b,off+j,none⟩) (by rw[<- HM.out.2.2.1];exact hbw)).trans c0;obtain⟨x,hx⟩:∃ x,zs[j]=x:=⟨_,rfl⟩;rw[hx] at c0;have HX:Hid (zs.take (j+1)=zs.take j++[x]):=qAq (by rw[List.take_succ_eq_append_getElem hjz,hx]);have hb:=HI.out.2.2.1 x (by rw[<- hx];exact List.getElem_mem _);have hxl:x<65536:=hb.2;have hx0:0<=x:=hb.1;have hpre:(zs.take j).Pairwise (·<=·):=(HI.out.2.2.2.1).sublist (List.take_sublist _ _);have hnrm:=(aCw (zs.take j) hpre (fun y hy=>HI.out.2.2.1 y (List.mem_of_mem_take hy))).1;have hadd:=dD (f:=x) (t:=x+1) hnrm HK.out.1;clear hx hb hpre hnrm;go_wp2_with (go_at_call 125;(with_reducible refine hadd.mono ?_);rintro e x2 ⟨rfl,v1,k1,g1,o1⟩;clear hadd;have H2:=qAq (qBq k1 g1);clear k1 g1 o1);go_roundg (m-j)
  case measure=>omega
  exact⟨j+1,v1,by go_num,by omega,by omega,by rw[HX.out,sO];exact H2.out.1,HK.out.2.trans (HK.out.1.below' H2.out.2)⟩
 have e:zs.take j=zs:=List.take_of_length_le (by rw[HI.out.2.2.2.2.1];omega);have hk:=HK.out;rw[e] at hk;have hBw:Below (S+1) W1 wr:=H1.out.2.trans (hk.2.mono hSm);have z2:=(hBw.block S (Nat.lt_succ_self S)).trans HW.out.2.1;have z0:=aA z2 0;have zf:=frozen_of_row wr S 0 _ _ z2;obtain⟨p1,n1,cp1,rfl⟩:=hk.1.slc;have m0:=hk.1.1.1;have s0:=World.cell?_setCell_same wr ⟨S,0,none⟩ (.slice p1 n1 cp1) z0;have HE:=qAq (qV hk.1 (rb:=S) (by omega) HI.out.1 HI.out.2.1 (HW.out.1.trans (hBw.mono (by rw[HW.out.2.2.2.1];omega))) (show W.heap.size<=S by rw[HW.out.2.2.2.1];exact Nat.le_refl _));clear e hk hBw z2;go_wp2_with fail;refine bodyPost_ret (v:=.agg #[.slice p1 n1 cp1]) (by simp[results,Tryz.results112,go_sem,s0]) rfl ?_;exact HE.out
def cells2 (l:List R2):List Value:=l.flatMap fun x=>[.int .i64 x.1,.int .i64 x.2]
end Go.Proofs.YthlccadnojnkaaaGreat
namespace Go.Proofs.YthlccadnojnkaaaGreat
open Go Go.RowKit Go.Shelf Go.Proofs
section
variable {P:Program} {w:World}
theorem eD (f:Nat):Fence.wide.fn f:=trivial
theorem bT:Fence.wide.depth=none:=rfl
end
attribute [local go_sem] Oper.semAt_some
attribute [local go_sem] fV fW eD bT
def enc1 (x:Int):Array Value:=#[(Value.int .i64 (x))]
structure Came (J:Nat->(Nat->Prop)->World->Prop) (S:Nat->Prop) (W:World) (k:Nat) (S1:Nat->Prop) (W1:World):Prop where
 j:J k S1 W1
 inW:InW S1 W1
 grows:Grows S S1 W
 chg:Chg S W W1
theorem Came.next {J:Nat->(Nat->Prop)->World->Prop} {S S1 S2:Nat->Prop} {W W1 W2:World} {k:Nat} (h:Came J S W k S1 W1) {J':Nat->(Nat->Prop)->World->Prop} {k':Nat}
  (hg:Grows S1 S2 W1) (hi:InW S2 W2) (hc:Chg S1 W1 W2) (hj:J' k' S2 W2):Came J' S W k' S2 W2 :=
 ⟨hj,hi,h.grows.trans hg h.chg.size,h.chg.trans hc (fun _ _ x=>x) (fun b hb x=>(h.grows b x).resolve_right (by omega))⟩
theorem Came.alloc {J:Nat->(Nat->Prop)->World->Prop} {S S1:Nat->Prop} {W W1:World} {k:Nat} (h:Came J S W k S1 W1) (hJ:Loc (J k)) (o:Obj):Came J S W k S1 (W1.alloc o)/\¬ S1 W1.heap.size :=
 ⟨⟨hJ S1 W1 _ h.j h.inW (by simp) (fun b hb=>Below.heap_alloc _ _ _ (h.inW b hb)),h.inW.later (by simp),h.grows,h.chg.alloc o⟩,fun hb=>Nat.lt_irrefl _ (h.inW _ hb)⟩
theorem aCB {la:List R2} {j:Nat} (hj:j<la.length) {d:Nat} (hd:(d:Int)<la[j].2-la[j].1):(els la)[(els (la.take j)).length+d]?=some (la[j].1+(d:Int)):=by
 have e1:els la=els (la.take j)++(rng la[j].1 la[j].2++els (la.drop (j+1))):=by
  have hc:=aCt la j hj;rw[<- lP,<- dT,<- dT,<- hc]
 rw[e1,List.getElem?_append_right (by omega),List.getElem?_append_left (by rw[fZ];omega),Nat.add_sub_cancel_left,aET (by omega)]
theorem jU (c:Nat) {la:List R2} {pa:Option Addr} {ca:Nat} (ha:Nrm la) (yv:Value) (J Jx:Nat->(Nat->Prop)->World->Prop) (S:Nat->Prop) (W:World) (hJ:∀ k,Loc (J k)) (hS:InW S W)
  (hc:W.cell? ⟨c,0,none⟩=some (.slice pa la.length ca)) (hv:Mv W (.slice pa la.length ca) la) (hbS:∀ g,pa=some ⟨g,0,none⟩->¬ S g) (h0:J 0 S W)
  (hY:∀ k (hk:k<(els la).length) S1 W1,InW S1 W1->Chg (fun b=>S b∨False) W W1->J k S1 W1 ->
   CallsV Tryz.prog yv (enc1 (els la)[k]) W1 fun e W2=>∃ S2,Grows S1 S2 W1/\InW S2 W2/\Chg S1 W1 W2 /\
    ((e=.returned (.bool true)/\J (k+1) S2 W2)∨(e=.returned (.bool false)/\Jx (k+1) S2 W2))) :
  Calls Tryz.prog 119 #[yv,.pointer (some ⟨c,0,none⟩)] W fun e W'=>∃ v,e=.returned v/\((∃ S',Came J S W (els la).length S' W')∨∃ k S',0<k/\k<=(els la).length/\Came Jx S W k S' W'):=by
 obtain⟨na,hna⟩:∃ na,la.length=na:=⟨_,rfl⟩;have HV:=qAq (qBq hv (qBq hna (qBq ha hbS)));have HY:=qAq hY;have hla:=cT ha;have HJ:=qAq hJ;rw[hna] at hc hla;clear hv ha hbS hna hY hJ;refine (callsIn_wide (n:=0)).1 ?_;refine callsIn_of_wp Tryz.func119 rfl trivial ?_ rfl;simp only[Tryz.ntmps119,List.size_toArray,List.length_cons,List.length_nil,Nat.reduceAdd,Nat.reduceSub,Array.replicate_succ,Array.replicate_zero,List.push_toArray,List.append_toArray,List.nil_append,List.cons_append]
 gi_wp2
 gi_loopw [9] (fun iv wr=>∃ (j:Nat) (S1:Nat->Prop),j<=na/\iv=.int .i64 (j:Int)/\Came J S W (els (la.take j)).length S1 wr) (fun iv _=>na-(intOf iv).toNat)
 case atStart=>exact⟨0,S,Nat.zero_le _,rfl,⟨h0,hS,.refl _ _,.refl _ _⟩⟩
 obtain⟨j,S1,hj,rfl,hC⟩:=hrel;by_cases hlt:j<na
 ·have hja:j<la.length:=(by rw[HV.out.2.1];exact hlt);obtain⟨g,rfl,hg,a0,a1,a2⟩:=HV.out.1.run hja;have hgS:=HV.out.2.2.2 g rfl;have a0:=(hC.chg.cell (p:=⟨g,j*3,none⟩) hg hgS).trans a0;have a1:=(hC.chg.cell (p:=⟨g,j*3+1,none⟩) hg hgS).trans a1;have a2:=(hC.chg.cell (p:=⟨g,j*3+2,none⟩) hg hgS).trans a2;have hat:∀ d:Nat,(d:Int)<la[j].2-la[j].1->(els la)[(els (la.take j)).length+d]?=some (la[j].1+(d:Int)):=(fun d hd=>aCB hja hd);have hrb:=HV.out.2.2.1.2 la[j] (List.getElem_mem _);have hnext:(els (la.take (j+1))).length=(els (la.take j)).length+(la[j].2-la[j].1).toNat:=(by rw[List.take_succ_eq_append_getElem hja,dT,lP,List.length_append,fZ]);obtain⟨r,hr⟩:∃ r,la[j]=r:=⟨_,rfl⟩;simp only[hr] at a0 a1 hat hrb hnext;obtain⟨f,t⟩:=r;obtain⟨cj,hcj⟩:∃ cj,(els (la.take j)).length=cj:=⟨_,rfl⟩;simp only[hcj] at a2 hC hnext hat;have HA:=qAq (qBq hat hnext);obtain⟨hC1,hn1⟩:=hC.alloc (HJ.out cj) (.cells #[(Value.int .i64 (f)),(Value.int .i64 (t)),(Value.int .i64 ((cj:Int)))] 146);have hf0:0<=f:=hrb.1;have hft:f<t:=hrb.2.1;have ht6:t<=65536:=hrb.2.2;have hbx:=heap_alloc_new wr (.cells #[(Value.int .i64 (f)),(Value.int .i64 (t)),(Value.int .i64 ((cj:Int)))] 146);obtain⟨rb,hrb'⟩:∃ rb,wr.heap.size=rb:=⟨_,rfl⟩;have HC:=qAq (qBq hC1 (qBq hn1 hbx));rw[hrb'] at HC;clear hcj hr hat hnext hrb hC1 hn1 hbx hC hc
  gi_wp2
  gi_loopw [5] (fun iv w=>∃ (d:Nat) (S2:Nat->Prop),(d:Int)<=t-f/\iv=.int .i64 (f+(d:Int))/\Came J S W (cj+d) S2 w/\¬ S2 rb/\w.heap[rb]?=some (.cells #[(Value.int .i64 (f)),(Value.int .i64 (t)),(Value.int .i64 ((cj:Int)))] 146)) (fun iv _=>(t-intOf iv).toNat)
  case atStart=>exact⟨0,S1,by omega,by simp,HC.out.1,HC.out.2.1,HC.out.2.2⟩
  clear a0 a1 a2;obtain⟨d,S2,hd,rfl,hC,hn,hx⟩:=hrel;have x1:=aA hx 1;have hrl:=aC hx;have HX:=qAq (qBq hC (qBq hn hx));clear hC hn hx;by_cases hdl:(d:Int)<t-f
  ·obtain⟨hkl,hke⟩:=List.getElem?_eq_some_iff.1 (HA.out.1 d hdl);have hY1:=HY.out (cj+d) hkl S2 wr HX.out.1.inW (HX.out.1.chg.mono fun _ _ x=>.inl x) HX.out.1.j;rw[hke] at hY1;have hlt':f+(d:Int)<t:=(by omega);clear hkl hke
   gi_wp2_with ((with_reducible refine fM ?_ ?_ yv [(Value.int .i64 (f+(d:Int)))] ?_ ?_ ?_);rfl;rfl;rfl;rfl;refine hY1.mono ?_;clear hY1;rintro e W2 ⟨S3,hg3,hi3,hch3,(⟨rfl,hj3⟩ | ⟨rfl,hj3⟩)⟩ <;> refine⟨_,rfl,?_⟩)
   ·go_roundw
    case rel=>exact⟨d+1,S3,by omega,by congr 1 <;> omega,HX.out.1.next hg3 hi3 hch3 hj3,fun h=>(hg3 rb h).elim HX.out.2.1 (fun h=>by omega),(hch3.block rb hrl HX.out.2.1).trans HX.out.2.2⟩
    simp[intOf];omega
   refine bodyPost_ret (results_none rfl _ _ _) rfl ?_
   exact⟨_,rfl,.inr ⟨cj+d+1,S3,by omega,by
    have:=(List.getElem?_eq_some_iff.1 (HA.out.1 d hdl)).1
    omega,HX.out.1.next hg3 hi3 hch3 hj3⟩⟩
  have hlt':¬ f+(d:Int)<t:=by omega
  gi_wp2
  go_roundw
  case rel=>exact⟨j+1,S2,by omega,by simp,by
   rw[HA.out.2];have e:(t-f).toNat=d:=(by omega);show Came J S W (cj+(t-f).toNat) S2 wr;rw[e];exact HX.out.1⟩
  simp[intOf];omega
 have e:els (la.take j)=els la:=(by rw[List.take_of_length_le (by rw[HV.out.2.1];omega)]);rw[e] at hC;have HC:=qAq hC;clear hC e hc
 gi_wp2
 go_end0
 exact⟨_,rfl,.inl ⟨S1,HC.out⟩⟩
theorem all_gives (c:Nat) {la:List R2} {va:Value} (ha:Nrm la) (W0:World) (hv0:Mv W0 va la):Gives Tryz.prog (.func (.func 119) #[] #[(Value.pointer (some ⟨c,0,none⟩))]) enc1 (els la) (fun b=>b=c∨va.ownBlock=some b) (fun _=>False) (fun _ W=>Cell W c va/\Mv W va la):=by
 obtain⟨pa,ca,rfl,_,_⟩:=hv0.slice;refine⟨fun k W W' ⟨h1,h2⟩ _ _ hb=>⟨h1.of (hb c (.inl rfl)),HRow.of h2 (fun b h=>hb b (.inr h))⟩,⟨119,_,rfl⟩,fun _ x=>x.elim,?_⟩;rintro yf yb J Jx S W hJ hJx hS hM hSM ⟨hc,hq⟩ h0 hY;refine .inl ⟨119,_,rfl,enters_of Tryz.func119 (by kernel_rfl) rfl,?_⟩;have hw:=jU c (pa:=pa) (ca:=ca) ha (.func yf #[] yb) J Jx S W hJ hS hc.1 hq (fun g hg hs=>hSM g hs (.inr (by subst hg;rfl))) h0 hY;refine hw.mono ?_
 have hq':∀ W',Chg S W W'->Cell W' c (.slice pa la.length ca)/\Mv W' (.slice pa la.length ca) la:=fun W' h =>
  ⟨hc.of (h.block c (hM c (.inl rfl)) (fun x=>hSM c x (.inl rfl))),HRow.of hq (fun b hb=>h.block b (hM b (.inr hb)) (fun x=>hSM b x (.inr hb)))⟩
 rintro e W' ⟨v,rfl,(⟨S',h⟩ | ⟨k,S',hk0,hk,h⟩)⟩
 ·exact⟨v,S',rfl,h.grows,h.inW,h.chg.mono (fun _ _ x=>.inl x),.inl ⟨h.j,hq' _ h.chg⟩⟩
 exact⟨v,S',rfl,h.grows,h.inW,h.chg.mono (fun _ _ x=>.inl x),.inr ⟨k,hk0,hk,h.j,hq' _ h.chg⟩⟩
theorem gA {va:Value} {la:List R2} {W:World} (hv:Mv W va la):Calls Tryz.prog 83 #[.agg #[va]] W fun e w'=>e=.returned (.func (.func 119) #[] #[(Value.pointer (some ⟨W.heap.size,0,none⟩))])/\w'=W.alloc (.cells #[va] 102):=by
 obtain⟨pa,ca,rfl,_,_⟩:=hv.slice;clear hv;go_enter Tryz.func83,Tryz.ntmps83
 go_wp2
 go_ret;exact⟨rfl,rfl⟩
def Bm (w:World) (b:Nat) (v:Value) (P:Int->Bool):Prop:=∃ l,w.heap[b]?=some (.cells #[v] 102)/\Mv w v l/\Nrm l/\Is l P
def Vm (w:World) (v:Value) (P:Int->Bool):Prop:=∃ l,Mv w v l/\Nrm l/\Is l P
theorem Vm.later {w w':World} {v:Value} {P:Int->Bool} (h:Vm w v P) (hb:Below w.heap.size w w'):Vm w' v P:=by
 obtain⟨l,h2,h3,h4⟩:=h;exact⟨l,h2.later hb,h3,h4⟩
theorem Vm.slc {w:World} {v:Value} {P:Int->Bool} (h:Vm w v P):∃ p n c,v=.slice p n c:=by
 obtain⟨l,h,_⟩:=h;obtain⟨p,c,e,_⟩:=h.slice;exact⟨p,_,c,e⟩
def IsV (P:Int->Bool) (W:World) (e:Ending) (w':World):Prop:=∃ p n c,e=.returned (.agg #[.slice p n c])/\Vm w' (.slice p n c) P/\Below W.heap.size W w'
theorem IsMap.v {P:Int->Bool} {W:World} {e:Ending} {w':World} (h:IsMap P W e w'):IsV P W e w':=by
 obtain⟨v,l,he,hm,hn,hi,hb⟩:=h;obtain⟨p,c,e2,_⟩:=hm.slice;subst e2;exact⟨p,_,c,he,⟨l,hm,hn,hi⟩,hb⟩
section
variable {W:World} {va vb:Value} {P Q:Int->Bool}
theorem vor (ha:Vm W va P) (hb:Vm W vb Q):Calls Tryz.prog 111 #[.agg #[va],.agg #[vb]] W (IsV (fun x=>P x || Q x) W):=by
 obtain⟨la,h1,h2,h3⟩:=ha;obtain⟨lb,k1,k2,k3⟩:=hb;exact (aGS h2 k2 h1 k1 h3 k3).mono fun _ _ h=>h.v
theorem aIy (ha:Vm W va P) (n:Int):Calls Tryz.prog 89 #[.agg #[va],.int .i64 (n)] W (IsV (notP P n) W):=by
 obtain⟨la,h1,h2,h3⟩:=ha;exact (aEV h2 h1 h3 n).mono fun _ _ h=>h.v
theorem vof {p:Option Addr} {xs:List Int} {n c:Nat} (hn:xs.length=n) (hl:n<=100000) (hr:Rd W p xs):Calls Tryz.prog 112 #[.slice p n c] W (IsV (ofP xs) W):=(aGU hn hl hr).mono fun _ _ h=>h.v
theorem aCC (ha:Vm W va P):Calls Tryz.prog 53 #[.agg #[va]] W fun e w'=>e=.returned (Value.int .i64 (((elems P).length:Int)))/\Below W.heap.size W w':=by
 obtain⟨la,h1,h2,h3⟩:=ha;rw[<- h3.els h2];exact bB h2 h1
end
end Go.Proofs.YthlccadnojnkaaaGreat
namespace Go.Proofs.YthlccadnojnkaaaGreat.Kc
open Go Go.RowKit Go.Shelf Go.Proofs
def Loc (J:(Nat->Prop)->World->Prop):Prop:=∀ S W W',J S W->InW S W->W.heap.size<=W'.heap.size->(∀ b,S b->W'.heap[b]?=W.heap[b]?)->(∀ (b:Nat) (cur:Array Value) (e:TypeId) (m:Nat×Nat),W.heap[b]?=some (Obj.cells cur e m)->W'.heap[b]?=some (Obj.cells cur e m))->(W'.os=W.os/\W'.tape=W.tape/\W'.output=W.output)->J S W'
def Gives {α:Type} (P:Program) (sv:Value) (encs:α->Array Value) (xs:List α) (M Mm:Nat->Prop) (Q:Nat->World->Prop):Prop :=
 (∀ k W W',Q k W->InW M W->W.heap.size<=W'.heap.size->(∀ b,M b->W'.heap[b]?=W.heap[b]?)->Q k W')/\(∃ g lb,sv=.func (.func g) #[] lb)/\(∀ b,Mm b->M b) /\
 ∀ (yf:Fn) (yb:Array Value) (J Jx:Nat->(Nat->Prop)->World->Prop) (S:Nat->Prop) (W:World),(∀ k,Loc (J k))->(∀ k,Loc (Jx k)) ->
  InW S W->InW M W->(∀ b,S b->¬ M b)->Q 0 W->J 0 S W ->
  (∀ k (hk:k<xs.length) S1 W1,InW S1 W1->Chg (fun b=>S b∨Mm b) W W1->J k S1 W1 ->
   CallsV P (.func yf #[] yb) (encs xs[k]) W1 fun e W2=>∃ S2,Grows S1 S2 W1/\InW S2 W2/\Chg S1 W1 W2 /\
    ((e=.returned (.bool true)/\J (k+1) S2 W2)∨(e=.returned (.bool false)/\Jx (k+1) S2 W2))) ->
  CallsV P sv #[.func yf #[] yb] W fun e W'=>∃ v S',e=.returned v/\Grows S S' W/\InW S' W'/\Chg (fun b=>S b∨Mm b) W W' /\
   ((J xs.length S' W'/\Q xs.length W')∨∃ k,0<k/\k<=xs.length/\Jx k S' W'/\Q k W')
theorem wpIn_rangeFunc_sep {α:Type} {n:Nat} {P:Program} {g:Operand} {ps:Array Tmp} {assign body:Code} {Q:Exit->Act->World->Prop} {a:Act} {w:World}
  {sv:Value} (hg:a.eval g=sv) {encs:α->Array Value} {xs:List α} {M Mm:Nat->Prop} {Qi:Nat->World->Prop} (hgv:Gives P sv encs xs M Mm Qi) (hps:∀ x,(encs x).size=ps.size)
  (I:Nat->(Nat->Prop)->World->Prop) (Ix:Code->Nat->(Nat->Prop)->World->Prop) (hI:∀ k,Loc (I k)) (hIx:∀ c k,Loc (Ix c k))
  (S:Nat->Prop) (hS:InW S w) (hM:InW M w) (hSM:∀ b,S b->¬ M b) (hQ:Qi 0 w) (h0:I 0 S w) (a₁:α->Act)
  (hassign:∀ (l:Nat) (x:α) (W:World) (K:Act->World->Prop),K (a₁ x) W ->
   assign.wpIn (Fence.wide.inRound l) 0 P (Exit.then K (fun _ _ _=>False)) { tmps:=(ps.zip (encs x)).foldl (fun t (p,v)=>t.setIfInBounds p v) a.tmps,defers:=[] } W)
  (hbody:∀ (l k:Nat) (hk:k<xs.length) S1 W1,InW S1 W1->Chg (fun b=>S b∨Mm b) w W1->I k S1 W1->body.wpIn (Fence.wide.inRound l) 0 P (sepPost I Ix (k+1) S1 W1) (a₁ xs[k]) W1)
  (hdone:∀ S' W',Grows S S' w->InW S' W'->Chg (fun b=>S b∨Mm b) w W'->I xs.length S' W'->Qi xs.length W'->W'.heap[w.heap.size]?=some (.deferred (some []))->¬ S' w.heap.size ->
   Q .normal { a with defers:=markAt w.heap.size::a.defers } W')
  (hstop:∀ c k S' W',0<k->k<=xs.length->Grows S S' w->InW S' W'->Chg (fun b=>S b∨Mm b) w W'->Ix c k S' W'->Qi k W'->W'.heap[w.heap.size]?=some (.deferred (some []))->¬ S' w.heap.size ->
   c.wpIn Fence.wide n P Q { a with defers:=markAt w.heap.size::a.defers } W') :
  (Code.rangeFunc g ps assign body).wpIn Fence.wide n P Q a w:=by
 refine wpIn_rangeFunc ?_;intro fn hfn;obtain⟨D,hD⟩:∃ D,w.heap.size=D:=⟨_,rfl⟩;obtain⟨rec,hrec⟩:∃ rec:LoopState->Option Code->Loop,rec=fun st pe=>{ state:=st,pending:=pe,fn,tmps:=a.tmps,params:=ps,assign,body,defers:=D }:=⟨_,rfl⟩
 obtain⟨w1,hw1⟩:∃ w1,(w.alloc (.deferred (some []))).alloc (.loop (rec .ready none))=w1:=⟨_,rfl⟩
 have hL1:w1.heap[D+1]?=some (.loop (rec .ready none)):=by
  rw[<- hw1];have:=World.alloc_heap_new (w.alloc (.deferred (some []))) (.loop (rec .ready none));rw[World.size_alloc,hD] at this;exact this
 have hK1:w1.heap[D]?=some (.deferred (some [])):=by
  rw[<- hw1,<- hD];exact (Below.heap_alloc _ _ _ (by simp)).trans (World.alloc_heap_new w _)
 have hz1:w1.heap.size=D+2:=(by rw[<- hw1];simp[hD]);have hc1:Chg S w w1:=by rw[<- hw1];exact ((Chg.refl S w).alloc _).alloc _
 have hcB:∀ b,b<D->w1.heap[b]?=w.heap[b]?:=fun b hb=>by
  rw[<- hw1];exact (Below.heap_alloc _ _ _ (by simp;omega)).trans (Below.heap_alloc _ _ _ (by omega))
 have hS':∀ b,S b->b<D:=(fun b hb=>by rw[<- hD];exact hS b hb);have hM':∀ b,M b->b<D:=(fun b hb=>by rw[<- hD];exact hM b hb);have hMm:∀ b,Mm b->b<D:=fun b x=>hM' b (hgv.2.2.1 b x)
 have hcall:=hgv.2.2.2 (.yield (D+1)) #[]
  (fun k T W=>∃ T0,(∀ b,T b↔T0 b∨b=D+1∨b=D)/\¬ T0 (D+1)/\¬ T0 D/\I k T0 W/\D+2<=W.heap.size/\W.heap[D+1]?=some (.loop (rec .ready none))/\W.heap[D]?=some (.deferred (some [])))
  (fun k T W=>∃ T0,(∀ b,T b↔T0 b∨b=D+1∨b=D)/\¬ T0 (D+1)/\¬ T0 D/\D+2<=W.heap.size/\∃ c,Ix c k T0 W/\W.heap[D+1]?=some (.loop (rec .done (some c)))/\W.heap[D]?=some (.deferred (some [])))
  (fun b=>S b∨b=D+1∨b=D) w1
  (by
   rintro k T W W' ⟨T0,hT,h1,h2,hi,hz,hl,hd⟩ hin hsz hb hkc hos;exact⟨T0,hT,h1,h2,hI k T0 W W' hi (fun b h=>hin b ((hT b).2 (.inl h))) hsz (fun b h=>hb b ((hT b).2 (.inl h))) hkc hos,by omega,(hb _ ((hT _).2 (.inr (.inl rfl)))).trans hl,(hb _ ((hT _).2 (.inr (.inr rfl)))).trans hd⟩)
  (by
   rintro k T W W' ⟨T0,hT,h1,h2,hz,c,hi,hl,hd⟩ hin hsz hb hkc hos;exact⟨T0,hT,h1,h2,by omega,c,hIx c k T0 W W' hi (fun b h=>hin b ((hT b).2 (.inl h))) hsz (fun b h=>hb b ((hT b).2 (.inl h))) hkc hos,(hb _ ((hT _).2 (.inr (.inl rfl)))).trans hl,(hb _ ((hT _).2 (.inr (.inr rfl)))).trans hd⟩)
  (by rintro b (h|rfl|rfl) <;> rw[hz1]
      ·have:=hS' b h;omega
      ·omega
      ·omega)
  (fun b h=>by rw[hz1];have:=hM' b h;omega)
  (by rintro b (h|rfl|rfl) hm
      ·exact hSM b h hm
      ·have:=hM' _ hm;omega
      ·have:=hM' _ hm;omega)
  (hgv.1 0 w w1 hQ hM (by rw[hz1];omega) (fun b hb=>hcB b (hM' b hb)))
  ⟨S,fun _=>Iff.rfl,fun h=>by have:=hS' _ h;omega,fun h=>by have:=hS' _ h;omega,hI 0 S w w1 h0 hS (by rw[hz1];omega) (fun b hb=>hcB b (hS' b hb)) (fun b cur e m hb=>(hcB b (by have:=aC hb;omega)).trans hb) ⟨hc1.os,hc1.tape,hc1.output⟩,by omega,hL1,hK1⟩
  (by
   rintro k hk T W1 hin hchg1 ⟨T0,hT,hn1,hn2,hi,hz,hl,hd⟩;have hsz:=hchg1.size;have hlt:D+1<W1.heap.size:=(by omega);have hy:=run_yield (P:=P) (args:=encs xs[k]) hl (by rw[hrec];exact hps _);rw[hrec] at hy;refine .inr ⟨D+1,fn,_,assign,body,rfl,hy,roundIn_of_wpIn trivial (hassign _ xs[k] W1 _ ⟨_,run_beginRound hl (by rw[hrec]),?_⟩)⟩;obtain⟨W2,hW2⟩:∃ W2,W1.putObj (D+1) (.loop { rec .ready none with state:=.busy })=W2:=⟨_,rfl⟩;rw[hW2];have hz2:W2.heap.size=W1.heap.size:=(by rw[<- hW2];simp);have hl2:W2.heap[D+1]?=some (.loop { rec .ready none with state:=.busy }):=(by rw[<- hW2];exact World.putObj_heap_same hlt);have hd2:W2.heap[D]?=some (.deferred (some [])):=(by rw[<- hW2];exact (World.putObj_heap_other (by omega)).trans hd);have ho2:∀ b,b≠D+1->W2.heap[b]?=W1.heap[b]?:=(fun b hb=>by rw[<- hW2];exact World.putObj_heap_other hb);have hin0:InW T0 W1:=(fun b h=>hin b ((hT b).2 (.inl h)));have hi2:I k T0 W2:=hI k T0 W1 W2 hi hin0 (by omega) (fun b h=>ho2 b (fun e=>hn1 (e▸h))) (fun b cur e m hb=>(ho2 b (fun e'=>by rw[e',hl] at hb;cases hb)).trans hb) (by rw[<- hW2];exact⟨rfl,rfl,rfl⟩)
   refine wpIn_mono (hbody (D+1) k hk T0 W2 (fun b h=>by rw[hz2];exact hin0 b h) (by
    have:Chg (fun b=>S b∨Mm b) w W1:=hc1.trans hchg1 (fun _ _ h=>.inl h) (fun b hb h=>by
     rcases h with (h|h|h) | h
     ·exact .inl h
     ·omega
     ·omega
     ·exact .inr h)
    rw[<- hW2];exact this.putObj (fun h=>by omega) _) hi2) ?_
   have hc2:Chg T W1 W2:=by rw[<- hW2];exact (Chg.refl T W1).putObj (fun _=>(hT _).2 (.inr (.inl rfl))) _
   have fin:∀ (jump:Option Code) (S2:Nat->Prop) (W3:World),Grows T0 S2 W2->InW S2 W3->Chg T0 W2 W3->∃ W4,
     (Instr.endRound (D+1) jump).run P W3=.ok (.bool jump.isNone) W4/\W4.heap.size=W3.heap.size/\(∀ b,b≠D+1->W4.heap[b]?=W3.heap[b]?) /\
     ¬ S2 (D+1)/\¬ S2 D/\Grows T (fun b=>S2 b∨b=D+1∨b=D) W1/\InW (fun b=>S2 b∨b=D+1∨b=D) W4/\Chg T W1 W4/\D+2<=W4.heap.size /\
     W4.heap[D+1]?=some (.loop (rec (if jump.isNone then .ready else .done) jump))/\W4.heap[D]?=some (.deferred (some [])):=fun jump S2 W3 hgr hin2 hch=>by
    have hz3:=hch.size;have hl3:W3.heap[D+1]?=some (.loop { rec .ready none with state:=.busy }):=(hch.block _ (by omega) hn1).trans hl2;have hd3:W3.heap[D]?=some (.deferred (some [])):=(hch.block _ (by omega) hn2).trans hd2
    have hs1:¬ S2 (D+1):=fun h=>by
     rcases hgr _ h with h1|h1
     ·exact hn1 h1
     ·omega
    have hs2:¬ S2 D:=fun h=>by
     rcases hgr _ h with h1|h1
     ·exact hn2 h1
     ·omega
    have her:=run_endRound (P:=P) jump hl3;refine⟨_,her,by simp,fun b hb=>World.putObj_heap_other hb,hs1,hs2,?_,?_,?_,by simp;omega,?_,(World.putObj_heap_other (by omega)).trans hd3⟩
    ·rintro b (h|h|h)
     ·rcases hgr b h with h1|h1
      ·exact .inl ((hT b).2 (.inl h1))
      ·exact .inr (by omega)
     ·exact .inl ((hT b).2 (.inr (.inl h)))
     ·exact .inl ((hT b).2 (.inr (.inr h)))
    ·rintro b (h|h|h)
     ·have:=hin2 b h;simpa using this
     ·simp;omega
     ·simp;omega
    ·refine (hc2.trans hch (fun _ _ h=>h) (fun b _ h=>(hT b).2 (.inl h))).putObj (fun _=>(hT _).2 (.inr (.inl rfl))) _
    ·rw[World.putObj_heap_same (by omega),hrec]
   rintro e a3 W3 hp;cases e with
   | normal =>
    obtain⟨S2,hgr,hin2,hch,hi3⟩:=hp;obtain⟨W4,hr,hz4,ho4,hs1,hs2,hg4,hi4,hc4,hm4,hl4,hd4⟩:=fin none S2 W3 hgr hin2 hch;exact⟨_,_,hr,_,hg4,hi4,hc4,.inl ⟨rfl,S2,fun _=>Iff.rfl,hs1,hs2,hI _ _ _ _ hi3 hin2 (by omega) (fun b h=>ho4 b (fun e=>hs1 (e▸h))) (fun b cur e m hb=>(ho4 b (fun e'=>by rw[e',(hch.block _ (by omega) hn1).trans hl2] at hb;cases hb)).trans hb) ⟨hc4.os.trans (hch.os.trans hc2.os).symm,hc4.tape.trans (hch.tape.trans hc2.tape).symm,hc4.output.trans (hch.output.trans hc2.output).symm⟩,hm4,hl4,hd4⟩⟩
   | ret =>
    obtain⟨S2,hgr,hin2,hch,hi3⟩:=hp;obtain⟨W4,hr,hz4,ho4,hs1,hs2,hg4,hi4,hc4,hm4,hl4,hd4⟩:=fin (some .ret) S2 W3 hgr hin2 hch;exact⟨_,_,hr,_,hg4,hi4,hc4,.inr ⟨rfl,S2,fun _=>Iff.rfl,hs1,hs2,hm4,_,hIx _ _ _ _ _ hi3 hin2 (by omega) (fun b h=>ho4 b (fun e=>hs1 (e▸h))) (fun b cur e m hb=>(ho4 b (fun e'=>by rw[e',(hch.block _ (by omega) hn1).trans hl2] at hb;cases hb)).trans hb) ⟨hc4.os.trans (hch.os.trans hc2.os).symm,hc4.tape.trans (hch.tape.trans hc2.tape).symm,hc4.output.trans (hch.output.trans hc2.output).symm⟩,hl4,hd4⟩⟩
   | exit id =>
    obtain⟨S2,hgr,hin2,hch,hi3⟩:=hp;obtain⟨W4,hr,hz4,ho4,hs1,hs2,hg4,hi4,hc4,hm4,hl4,hd4⟩:=fin (some (.exit id)) S2 W3 hgr hin2 hch;exact⟨_,_,hr,_,hg4,hi4,hc4,.inr ⟨rfl,S2,fun _=>Iff.rfl,hs1,hs2,hm4,_,hIx _ _ _ _ _ hi3 hin2 (by omega) (fun b h=>ho4 b (fun e=>hs1 (e▸h))) (fun b cur e m hb=>(ho4 b (fun e'=>by rw[e',(hch.block _ (by omega) hn1).trans hl2] at hb;cases hb)).trans hb) ⟨hc4.os.trans (hch.os.trans hc2.os).symm,hc4.tape.trans (hch.tape.trans hc2.tape).symm,hc4.output.trans (hch.output.trans hc2.output).symm⟩,hl4,hd4⟩⟩
   | goto t=>exact hp.elim
   | panic ch=>exact hp.elim
   | outgrown=>exact hp.elim)
 have hev:a.eval g=sv:=hg
 have hpost:∀ e W2,(∃ v S',e=Ending.returned v/\Grows (fun b=>S b∨b=D+1∨b=D) S' w1/\InW S' W2/\Chg (fun b=>(S b∨b=D+1∨b=D)∨Mm b) w1 W2 /\
   (((∃ T0,(∀ b,S' b↔T0 b∨b=D+1∨b=D)/\¬ T0 (D+1)/\¬ T0 D/\I xs.length T0 W2/\D+2<=W2.heap.size/\W2.heap[D+1]?=some (.loop (rec .ready none))/\W2.heap[D]?=some (.deferred (some [])))/\Qi xs.length W2) ∨
    ∃ k,0<k/\k<=xs.length/\(∃ T0,(∀ b,S' b↔T0 b∨b=D+1∨b=D)/\¬ T0 (D+1)/\¬ T0 D/\D+2<=W2.heap.size/\∃ c,Ix c k T0 W2/\W2.heap[D+1]?=some (.loop (rec .done (some c)))/\W2.heap[D]?=some (.deferred (some [])))/\Qi k W2)) ->
   rangePost Fence.wide n P (D+1) Q { a with defers:=[markAt D]++a.defers } e W2:=by
  rintro e W2 ⟨v,S',rfl,hgr,hin,hch,hend⟩
  have grow:∀ T0:Nat->Prop,(∀ b,S' b↔T0 b∨b=D+1∨b=D)->¬ T0 (D+1)->¬ T0 D->Grows S T0 w:=fun T0 hT hn1 hn2 b hb=>by
   rcases hgr b ((hT b).2 (.inl hb)) with (h1|h1|h1) | h1
   ·exact .inl h1
   ·exact absurd (h1▸hb) hn1
   ·exact absurd (h1▸hb) hn2
   ·exact .inr (by omega)
  have hchg:∀ o:Obj,Chg (fun b=>S b∨Mm b) w (W2.putObj (D+1) o):=fun o =>
   ((hc1.trans hch (T:=fun b=>S b∨Mm b) (fun _ _ h=>.inl h) (fun b hb h=>by
    rcases h with (h|h|h) | h
    ·exact .inl h
    ·omega
    ·omega
    ·exact .inr h)).putObj (fun h=>by omega) o)
  rcases hend with ⟨⟨T0,hT,hn1,hn2,hi,hz,hl,hd⟩,hq⟩ | ⟨k,hk0,hk,⟨T0,hT,hn1,hn2,hz,c,hi,hl,hd⟩,hq⟩
  ·have hin0:InW T0 W2:=(fun b h=>hin b ((hT b).2 (.inl h)));refine⟨none,_,by have:=run_endLoop (P:=P) hl (by rw[hrec];simp);rw[hrec] at this;exact this,?_⟩
   have:=hdone T0 (W2.putObj (D+1) (.loop { rec .ready none with state:=.exhausted })) (grow T0 hT hn1 hn2) (fun b h=>by simpa using hin0 b h) (hchg _)
    (hI _ _ _ _ hi hin0 (by simp) (fun b h=>World.putObj_heap_other (fun e=>hn1 (e▸h))) (fun b cur e m hb=>(World.putObj_heap_other (fun e'=>by rw[e',hl] at hb;cases hb)).trans hb) ⟨rfl,rfl,rfl⟩)
    (hgv.1 _ _ _ hq (fun b h=>by have:=hM' b h;omega) (by simp) (fun b h=>World.putObj_heap_other (by have:=hM' b h;omega)))
    (by rw[hD];exact (World.putObj_heap_other (by omega)).trans hd) (by rw[hD];exact hn2)
   rw[hD,hrec] at this;exact this
  ·have hin0:InW T0 W2:=(fun b h=>hin b ((hT b).2 (.inl h)));refine⟨some c,_,by have:=run_endLoop (P:=P) hl (by rw[hrec];simp);rw[hrec] at this;exact this,?_⟩
   have:=hstop c k T0 (W2.putObj (D+1) (.loop { rec .done (some c) with state:=.exhausted })) hk0 hk (grow T0 hT hn1 hn2) (fun b h=>by simpa using hin0 b h) (hchg _)
    (hIx _ _ _ _ _ hi hin0 (by simp) (fun b h=>World.putObj_heap_other (fun e=>hn1 (e▸h))) (fun b cur e m hb=>(World.putObj_heap_other (fun e'=>by rw[e',hl] at hb;cases hb)).trans hb) ⟨rfl,rfl,rfl⟩)
    (hgv.1 _ _ _ hq (fun b h=>by have:=hM' b h;omega) (by simp) (fun b h=>World.putObj_heap_other (by have:=hM' b h;omega)))
    (by rw[hD];exact (World.putObj_heap_other (by omega)).trans hd) (by rw[hD];exact hn2)
   rw[hD,hrec] at this;exact this
 rcases hcall with ⟨gf,lb,rfl,he,hc⟩ | ⟨l',_,_,_,_,rfl,hr',hc'⟩
 ·refine⟨D+1,[markAt D],w1,{ target:=.fn (.func gf) lb,args:=#[.func (.yield (D+1)) #[] #[]] },w1,gf,
   #[.func (.yield (D+1)) #[] #[]]++lb,w1,?_,?_,fun _ _=>trivial,?_,fun h=>by simp[Fence.wide] at h,?_⟩
  ·rw[<- hw1,hrec,<- hD];exact run_enterLoop_outer _ _ _ _ _
  ·simp only[resolve,hg];simp[go_sem]
  ·simp[invoke,go_sem,he]
  exact callsIn_wide.2 (hc.mono hpost)
 
 obtain⟨g',lb',hh⟩:=hgv.2.1;cases hh
attribute [local go_sem] Oper.semAt_some
attribute [local go_sem] fV fW eD bT
structure Came (J:Nat->(Nat->Prop)->World->Prop) (S:Nat->Prop) (W:World) (k:Nat) (S1:Nat->Prop) (W1:World):Prop where
 j:J k S1 W1
 inW:InW S1 W1
 grows:Grows S S1 W
 chg:Chg S W W1
theorem Came.next {J:Nat->(Nat->Prop)->World->Prop} {S S1 S2:Nat->Prop} {W W1 W2:World} {k:Nat} (h:Came J S W k S1 W1) {J':Nat->(Nat->Prop)->World->Prop} {k':Nat}
  (hg:Grows S1 S2 W1) (hi:InW S2 W2) (hc:Chg S1 W1 W2) (hj:J' k' S2 W2):Came J' S W k' S2 W2 :=
 ⟨hj,hi,h.grows.trans hg h.chg.size,h.chg.trans hc (fun _ _ x=>x) (fun b hb x=>(h.grows b x).resolve_right (by omega))⟩
theorem Came.alloc {J:Nat->(Nat->Prop)->World->Prop} {S S1:Nat->Prop} {W W1:World} {k:Nat} (h:Came J S W k S1 W1) (hJ:Loc (J k)) (o:Obj):Came J S W k S1 (W1.alloc o)/\¬ S1 W1.heap.size :=
 ⟨⟨hJ S1 W1 _ h.j h.inW (by simp) (fun b hb=>Below.heap_alloc _ _ _ (h.inW b hb)) (fun b cur e m hb=>(Below.heap_alloc _ _ _ (aC hb)).trans hb) ⟨rfl,rfl,rfl⟩,h.inW.later (by simp),h.grows,h.chg.alloc o⟩,fun hb=>Nat.lt_irrefl _ (h.inW _ hb)⟩
theorem jU (c:Nat) {la:List R2} {pa:Option Addr} {ca:Nat} (ha:Nrm la) (yv:Value) (J Jx:Nat->(Nat->Prop)->World->Prop) (S:Nat->Prop) (W:World) (hJ:∀ k,Loc (J k)) (hS:InW S W)
  (hc:W.cell? ⟨c,0,none⟩=some (.slice pa la.length ca)) (hv:Mv W (.slice pa la.length ca) la) (hbS:∀ g,pa=some ⟨g,0,none⟩->¬ S g) (h0:J 0 S W)
  (hY:∀ k (hk:k<(els la).length) S1 W1,InW S1 W1->Chg (fun b=>S b∨False) W W1->J k S1 W1 ->
   CallsV Tryz.prog yv (enc1 (els la)[k]) W1 fun e W2=>∃ S2,Grows S1 S2 W1/\InW S2 W2/\Chg S1 W1 W2 /\
    ((e=.returned (.bool true)/\J (k+1) S2 W2)∨(e=.returned (.bool false)/\Jx (k+1) S2 W2))) :
  Calls Tryz.prog 119 #[yv,.pointer (some ⟨c,0,none⟩)] W fun e W'=>∃ v,e=.returned v/\((∃ S',Came J S W (els la).length S' W')∨∃ k S',0<k/\k<=(els la).length/\Came Jx S W k S' W'):=by
 obtain⟨na,hna⟩:∃ na,la.length=na:=⟨_,rfl⟩;have HV:=qAq (qBq hv (qBq hna (qBq ha hbS)));have HY:=qAq hY;have hla:=cT ha;have HJ:=qAq hJ;rw[hna] at hc hla;clear hv ha hbS hna hY hJ;refine (callsIn_wide (n:=0)).1 ?_;refine callsIn_of_wp Tryz.func119 rfl trivial ?_ rfl;simp only[Tryz.ntmps119,List.size_toArray,List.length_cons,List.length_nil,Nat.reduceAdd,Nat.reduceSub,Array.replicate_succ,Array.replicate_zero,List.push_toArray,List.append_toArray,List.nil_append,List.cons_append]
 gi_wp2
 gi_loopw [9] (fun iv wr=>∃ (j:Nat) (S1:Nat->Prop),j<=na/\iv=.int .i64 (j:Int)/\Came J S W (els (la.take j)).length S1 wr) (fun iv _=>na-(intOf iv).toNat)
 case atStart=>exact⟨0,S,Nat.zero_le _,rfl,⟨h0,hS,.refl _ _,.refl _ _⟩⟩
 obtain⟨j,S1,hj,rfl,hC⟩:=hrel;by_cases hlt:j<na
 ·have hja:j<la.length:=(by rw[HV.out.2.1];exact hlt);obtain⟨g,rfl,hg,a0,a1,a2⟩:=HV.out.1.run hja;have hgS:=HV.out.2.2.2 g rfl;have a0:=(hC.chg.cell (p:=⟨g,j*3,none⟩) hg hgS).trans a0;have a1:=(hC.chg.cell (p:=⟨g,j*3+1,none⟩) hg hgS).trans a1;have a2:=(hC.chg.cell (p:=⟨g,j*3+2,none⟩) hg hgS).trans a2;have hat:∀ d:Nat,(d:Int)<la[j].2-la[j].1->(els la)[(els (la.take j)).length+d]?=some (la[j].1+(d:Int)):=(fun d hd=>aCB hja hd);have hrb:=HV.out.2.2.1.2 la[j] (List.getElem_mem _);have hnext:(els (la.take (j+1))).length=(els (la.take j)).length+(la[j].2-la[j].1).toNat:=(by rw[List.take_succ_eq_append_getElem hja,dT,lP,List.length_append,fZ]);obtain⟨r,hr⟩:∃ r,la[j]=r:=⟨_,rfl⟩;simp only[hr] at a0 a1 hat hrb hnext;obtain⟨f,t⟩:=r;obtain⟨cj,hcj⟩:∃ cj,(els (la.take j)).length=cj:=⟨_,rfl⟩;simp only[hcj] at a2 hC hnext hat;have HA:=qAq (qBq hat hnext);obtain⟨hC1,hn1⟩:=hC.alloc (HJ.out cj) (.cells #[(Value.int .i64 (f)),(Value.int .i64 (t)),(Value.int .i64 ((cj:Int)))] 146);have hf0:0<=f:=hrb.1;have hft:f<t:=hrb.2.1;have ht6:t<=65536:=hrb.2.2;have hbx:=heap_alloc_new wr (.cells #[(Value.int .i64 (f)),(Value.int .i64 (t)),(Value.int .i64 ((cj:Int)))] 146);obtain⟨rb,hrb'⟩:∃ rb,wr.heap.size=rb:=⟨_,rfl⟩;have HC:=qAq (qBq hC1 (qBq hn1 hbx));rw[hrb'] at HC;clear hcj hr hat hnext hrb hC1 hn1 hbx hC hc
  gi_wp2
  gi_loopw [5] (fun iv w=>∃ (d:Nat) (S2:Nat->Prop),(d:Int)<=t-f/\iv=.int .i64 (f+(d:Int))/\Came J S W (cj+d) S2 w/\¬ S2 rb/\w.heap[rb]?=some (.cells #[(Value.int .i64 (f)),(Value.int .i64 (t)),(Value.int .i64 ((cj:Int)))] 146)) (fun iv _=>(t-intOf iv).toNat)
  case atStart=>exact⟨0,S1,by omega,by simp,HC.out.1,HC.out.2.1,HC.out.2.2⟩
  clear a0 a1 a2;obtain⟨d,S2,hd,rfl,hC,hn,hx⟩:=hrel;have x1:=aA hx 1;have hrl:=aC hx;have HX:=qAq (qBq hC (qBq hn hx));clear hC hn hx;by_cases hdl:(d:Int)<t-f
  ·obtain⟨hkl,hke⟩:=List.getElem?_eq_some_iff.1 (HA.out.1 d hdl);have hY1:=HY.out (cj+d) hkl S2 wr HX.out.1.inW (HX.out.1.chg.mono fun _ _ x=>.inl x) HX.out.1.j;rw[hke] at hY1;have hlt':f+(d:Int)<t:=(by omega);clear hkl hke
   gi_wp2_with ((with_reducible refine fM ?_ ?_ yv [(Value.int .i64 (f+(d:Int)))] ?_ ?_ ?_);rfl;rfl;rfl;rfl;refine hY1.mono ?_;clear hY1;rintro e W2 ⟨S3,hg3,hi3,hch3,(⟨rfl,hj3⟩ | ⟨rfl,hj3⟩)⟩ <;> refine⟨_,rfl,?_⟩)
   ·go_roundw
    case rel=>exact⟨d+1,S3,by omega,by congr 1 <;> omega,HX.out.1.next hg3 hi3 hch3 hj3,fun h=>(hg3 rb h).elim HX.out.2.1 (fun h=>by omega),(hch3.block rb hrl HX.out.2.1).trans HX.out.2.2⟩
    simp[intOf];omega
   refine bodyPost_ret (results_none rfl _ _ _) rfl ?_
   exact⟨_,rfl,.inr ⟨cj+d+1,S3,by omega,by
    have:=(List.getElem?_eq_some_iff.1 (HA.out.1 d hdl)).1
    omega,HX.out.1.next hg3 hi3 hch3 hj3⟩⟩
  have hlt':¬ f+(d:Int)<t:=by omega
  gi_wp2
  go_roundw
  case rel=>exact⟨j+1,S2,by omega,by simp,by
   rw[HA.out.2];have e:(t-f).toNat=d:=(by omega);show Came J S W (cj+(t-f).toNat) S2 wr;rw[e];exact HX.out.1⟩
  simp[intOf];omega
 have e:els (la.take j)=els la:=(by rw[List.take_of_length_le (by rw[HV.out.2.1];omega)]);rw[e] at hC;have HC:=qAq hC;clear hC e hc
 gi_wp2
 go_end0
 exact⟨_,rfl,.inl ⟨S1,HC.out⟩⟩
theorem all_gives (c:Nat) {la:List R2} {va:Value} (ha:Nrm la) (W0:World) (hv0:Mv W0 va la):Gives Tryz.prog (.func (.func 119) #[] #[(Value.pointer (some ⟨c,0,none⟩))]) enc1 (els la) (fun b=>b=c∨va.ownBlock=some b) (fun _=>False) (fun _ W=>Cell W c va/\Mv W va la):=by
 obtain⟨pa,ca,rfl,_,_⟩:=hv0.slice;refine⟨fun k W W' ⟨h1,h2⟩ _ _ hb=>⟨h1.of (hb c (.inl rfl)),HRow.of h2 (fun b h=>hb b (.inr h))⟩,⟨119,_,rfl⟩,fun _ x=>x.elim,?_⟩;rintro yf yb J Jx S W hJ hJx hS hM hSM ⟨hc,hq⟩ h0 hY;refine .inl ⟨119,_,rfl,enters_of Tryz.func119 (by kernel_rfl) rfl,?_⟩;have hw:=jU c (pa:=pa) (ca:=ca) ha (.func yf #[] yb) J Jx S W hJ hS hc.1 hq (fun g hg hs=>hSM g hs (.inr (by subst hg;rfl))) h0 hY;refine hw.mono ?_
 have hq':∀ W',Chg S W W'->Cell W' c (.slice pa la.length ca)/\Mv W' (.slice pa la.length ca) la:=fun W' h =>
  ⟨hc.of (h.block c (hM c (.inl rfl)) (fun x=>hSM c x (.inl rfl))),HRow.of hq (fun b hb=>h.block b (hM b (.inr hb)) (fun x=>hSM b x (.inr hb)))⟩
 rintro e W' ⟨v,rfl,(⟨S',h⟩ | ⟨k,S',hk0,hk,h⟩)⟩
 ·exact⟨v,S',rfl,h.grows,h.inW,h.chg.mono (fun _ _ x=>.inl x),.inl ⟨h.j,hq' _ h.chg⟩⟩
 exact⟨v,S',rfl,h.grows,h.inW,h.chg.mono (fun _ _ x=>.inl x),.inr ⟨k,hk0,hk,h.j,hq' _ h.chg⟩⟩
end Go.Proofs.YthlccadnojnkaaaGreat.Kc
namespace Go.Proofs.YthlccadnojnkaaaGreat
open Go Go.RowKit Go.Shelf Go.Proofs
attribute [local go_sem] Oper.semAt_some
attribute [local go_sem] fV fW eD bT
theorem aGV {l:List R2} {P:Int->Bool} {xs:List Int} (hl:Nrm l) (hP:Is l P) (hs:xs.Pairwise (·<·)) (h:∀ x,P x=true↔x∈xs):els l=xs :=
 zG (zH hl) hs (fun x=>by rw[qR,hP x,h x])
abbrev L3:List R2:=[(1,3),(5,6)]
def p3 (x:Int):Bool:=decide (x=1∨x=2∨x=5)
structure Bh (W:World) (v:Value) (mb nb g D:Nat) (x:World):Prop where
 mv:Mv x v L3
 kb:x.heap[mb]?=some (.cells #[v] 102)
 kn:x.cell? ⟨nb,0,none⟩=some (Value.int .i64 (3))
 r0:x.cell? ⟨g,0,none⟩=some (Value.int .i64 (1))
 r1:x.cell? ⟨g,1,none⟩=some (Value.int .i64 (3))
 kd:x.heap[D]?=some (.deferred (some []))
 bel:Below W.heap.size W x
