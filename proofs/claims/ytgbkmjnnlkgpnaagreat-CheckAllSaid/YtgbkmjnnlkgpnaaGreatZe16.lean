import Derived.Test.YtgbkmjnnlkgpnaaGreatZe14
import Derived.Test.YtgbkmjnnlkgpnaaGreatZe15
import Derived.Sort.OwnSortedInts
import Derived.Laws.OwnMore
set_option maxHeartbeats 2000000
set_option maxRecDepth 100000
namespace Go.Proofs.YtgbkmjnnlkgpnaaGreat
open Go Go.RowKit Go.Proofs
abbrev iv (x:Int):Value:=Value.int .i64 x
def Rd (W:World) (p:Option Addr) (xs:List Int):Prop:=∀ j (_:j<xs.length),∃ b off,p=some ⟨b,off,none⟩/\b<W.heap.size/\W.cell? ⟨b,off+j,none⟩=some (.int .i64 (xs[j]))
theorem Rd.later {W W':World} {p:Option Addr} {xs:List Int} (h:Rd W p xs) (hb:Below W.heap.size W W'):Rd W' p xs:=fun j hj=>by
 obtain⟨b,off,h1,h2,h3⟩:=h j hj;exact⟨b,off,h1,Nat.lt_of_lt_of_le h2 hb.size,(hb.cell (p:=⟨b,off+j,none⟩) h2).trans h3⟩
abbrev Ro (W:World) (base:Nat) (v:Value) (xs:List Int):Prop:=HRow W base 3 1 v xs.length (xs.map iv)
theorem Ro.rd {W:World} {base cap:Nat} {p:Option Addr} {xs:List Int} (h:Ro W base (.slice p xs.length cap) xs):Rd W p xs:=fun j hj=>by
 obtain⟨g,cap',e,_,_⟩:=HRow.slice h (by omega);cases e;refine⟨g,0,rfl,(HRow.lt h g rfl).2,?_⟩;rw[Nat.zero_add];exact HRow.cell h (by rw[List.getElem?_map,qQq hj];rfl)
theorem info3:(Tryz.prog.info? 3).map (fun i=>(i.zero,i.size,i.bytes))=some (some (.int .i64 0),1,8):=by kernel_rfl
theorem sW (ty:TypeId) (hty:Tryz.prog.underlying ty=some (.slice 3)) (y:World) (base:Nat) {v:Value} {n:Nat} {xs:List Int} (hn:xs.length=n) (hr:Ro y base v xs) (hm:n+1<=1000000) (hb:base<=y.heap.size) (k:Int) :
  ∃ g cap w',(Builtin.append_ #[ty,ty] ty #[v,.slice (some ⟨y.heap.size,0,none⟩) 1 1]).run Tryz.prog (y.alloc (.cells #[(Value.int .i64 (k))] 3))=.ok (.slice (some ⟨g,0,none⟩) (n+1) cap) w' /\
   Ro w' base (.slice (some ⟨g,0,none⟩) (n+1) cap) (xs++[k])/\y.grownBy w' v.ownBlock/\(v.ownBlock=some g∨y.heap.size<=g):=by
 subst hn;obtain⟨i0,hi0,hz0,hz1,hz2⟩:=info_parts info3;have hh:=qOq y (.cells #[(Value.int .i64 (k))] 3)
 obtain⟨g,cap,w',h1,h2,h3,h4⟩:=bC (P:=Tryz.prog) (y.alloc (.cells #[(Value.int .i64 (k))] 3)) base ty ty 3 i0 _ 1 8 hty hi0 hz0 hz1 hz2 rfl (by decide) (HRow.later hr (aC y _)) ⟨y.heap.size,0,none⟩ 1 1 [(Value.int .i64 (k))] rfl
  (by exact World.news_of_block hh) (by simp[Value.oneCell']) (by decide) (by unfold maxLen;omega) (by omega) (by rw[qPq];omega)
 exact⟨g,cap,w',h1,by unfold Ro;rw[List.map_append,List.length_append];exact h2,⟨h3.os,h3.tape,h3.output,Nat.le_trans (by simp) h3.size,fun q hq hne=>(h3.block q (by simp;omega) hne).trans ((aC y _).block q hq)⟩,h4.imp id (fun h=>by rw[qPq] at h;omega)⟩
theorem fZ {n base:Nat} {A B:World} {nv:Value} {e:TypeId} {sz m:Nat} {xs:List Value} (hr:HRow A base e sz nv m xs) (hg:A.grownBy B nv.ownBlock) (hn:n<=base) (hs:n<=A.heap.size):Below n A B :=
 ⟨hg.os,hg.tape,hg.output,hg.size,fun q hq=>hg.block q (by omega) (fun e=>by have:=(hr.lt q e.symm).1;omega)⟩
def sorted (xs:List Int):List Int:=xs.mergeSort fun x y=>decide (x<=y)
theorem fH (xs:List Int):(sorted xs).length=xs.length:=List.length_mergeSort _
theorem kH (xs:List Int) (x:Int):x∈sorted xs↔x∈xs:=List.mem_mergeSort
theorem oH (xs:List Int):(sorted xs).Pairwise (·<=·) :=
 (List.pairwise_mergeSort (le:=fun x y:Int=>decide (x<=y)) (fun a b c h1 h2=>by
  have h1:a<=b:=of_decide_eq_true h1;have h2:b<=c:=of_decide_eq_true h2;exact decide_eq_true (by omega)) (fun a b=>by
  rcases Int.le_total a b with h|h
  ·simp[h]
  ·simp[h]) xs).imp (fun h=>of_decide_eq_true h)
theorem aCF {W:World} {base:Nat} {v:Value} {xs:List Int} (h:Ro W base v xs) (hl:xs.length<=1000000):Calls Tryz.prog 135 #[v] W fun e w'=>e=.returned (.tuple #[])/\Ro w' base v (sorted xs)/\W.grownBy w' v.ownBlock:=by
 rcases List.eq_nil_or_concat xs with rfl|⟨k,r,e⟩
 ·obtain⟨p,cap,rfl,_,_⟩:=HRow.isslice h;refine (Any.slices_Sort_int_none Tryz.laysSort p cap W).mono ?_;rintro e w' ⟨rfl,rfl⟩;have e:sorted []=[]:=List.eq_nil_of_length_eq_zero (by rw[fH];rfl);exact⟨rfl,by rw[e];exact h,⟨rfl,rfl,rfl,Nat.le_refl _,fun _ _ _=>rfl⟩⟩
 have hpos:0<xs.length:=(by rw[e,List.length_concat];omega);obtain⟨g,cap,rfl,hc,hcm⟩:=HRow.slice h hpos;obtain⟨cur,hb,hg,_,_,hcs,htake⟩:=HRow.form h;rw[Nat.mul_one] at htake;refine (aCE g 0 cap xs W (holds_of_blockI hg htake) (lt_of_heap hg) (by omega)).mono ?_;rintro e w' ⟨rfl,n,os,rfl⟩;refine⟨rfl,⟨by simp,.inr ⟨g,cap,_,?_,hb,heap_sortedI _ hg,by rw[fH];exact hc,hcm,by simpa [Sort.putCells] using hcs,?_⟩⟩,grownBy_sortedI _⟩
 ·rw[fH]
 rw[Nat.mul_one];exact take_putCellsI cur (sorted xs) (by rw[fH];omega)
def inB (x:Int):Bool:=decide (0<=x/\x<65536)
def ofP (xs:List Int) (x:Int):Bool:=decide (x∈xs)&&inB x
theorem aHa (xs:List Int):Nrm (ofL (sorted (xs.filter inB)))/\Is (ofL (sorted (xs.filter inB))) (ofP xs):=by
 have hb:∀ y∈sorted (xs.filter inB),0<=y/\y<65536:=fun y hy=>by
  rw[kH,List.mem_filter] at hy;exact of_decide_eq_true hy.2
 obtain⟨h1,h2,_⟩:=aCC _ (oH (xs.filter inB)) hb;refine⟨h1,fun x=>?_⟩;rw[h2,kH,List.mem_filter];unfold ofP;rw[Bool.and_eq_true,decide_eq_true_eq]
theorem aGn {p:Option Addr} {xs:List Int} {n c:Nat} {W:World} (hn:xs.length=n) (hl:n<=100000) (hr:Rd W p xs):Calls Tryz.prog 101 #[.slice p n c] W (IsMap (ofP xs) W):=by
 have hB1:=aC W (.cells #[.slice none 0 0] 113);have h01:=qOq W (.cells #[.slice none 0 0] 113);obtain⟨S,hS⟩:∃ S,W.heap.size=S:=⟨_,rfl⟩;have hz1:(W.alloc (.cells #[.slice none 0 0] 113)).heap.size=S+1:=(by simp[hS]);obtain⟨W1,hW1⟩:∃ W1,W.alloc (.cells #[.slice none 0 0] 113)=W1:=⟨_,rfl⟩;rw[hW1] at hB1 h01 hz1;rw[hS] at h01;have HW:=qAq (qBq hB1 (qBq h01 (qBq hz1 (qBq hS hn))));have HW1:=qAq hW1;have HR:=qAq (hr.later hB1);clear hB1 h01 hz1 hS hW1 hr hn;go_enter Tryz.func101,Tryz.ntmps101
 go_upto_block 0 with fail
 rw[HW1.out,HW.out.2.2.2.1]
 go_cut [3] from 200 to 200 (fun ov w=>Ro w (S+1) ov (xs.filter inB)/\Below (S+1) W1 w)
 case first =>
  go_wp2_with fail;go_loopg [3,11] (n+1) (fun gh ov jv w=>∃ (j:Nat) (ys:List Int),jv=.int .i64 (j:Int)/\j<=n/\n+1<=j+gh/\ys=(xs.take j).filter inB/\ys.length<=j/\Ro w (S+1) ov ys/\Below (S+1) W1 w)
  case atStart=>exact⟨0,[],rfl,Nat.zero_le _,by omega,by simp,Nat.zero_le _,HRow.nil,Below.refl _ _⟩
  obtain⟨j,ys,rfl,hj,hg,hys,hyl,hO,hB⟩:=hrel;obtain⟨m,hm⟩:∃ m,ys.length=m:=⟨_,rfl⟩;obtain⟨pl,cl,rfl,hc,hcm⟩:=HRow.isslice hO;rw[hm] at hc hyl ⊢;have HI:=qAq (qBq hys (qBq hO (qBq hB hm)));clear hys hO hB hm;by_cases hlt:j<n
  ·have hjx:j<xs.length:=(by rw[HW.out.2.2.2.2];exact hlt);have hBW:Below W1.heap.size W1 wr:=HI.out.2.2.1.mono (by rw[HW.out.2.2.1];exact Nat.le_refl _);obtain⟨b,off,rfl,hbW,c0⟩:=(HR.out.later hBW) j hjx;obtain⟨x,hx⟩:∃ x,xs[j]=x:=⟨_,rfl⟩;rw[hx] at c0;have HX:Hid (xs.take (j+1)=xs.take j++[x]):=qAq (by rw[List.take_succ_eq_append_getElem hjx,hx]);clear hx hBW;by_cases h0:0<=x
   ·by_cases h1:x<65536
    ·have hO':Ro wr (S+1) (.slice pl m cl) ys:=(by rw[<- HI.out.2.2.2];exact HI.out.2.1);obtain⟨g,cap',w3,hrun,r3,g3,o3⟩:=sW 30 Tryz.underlying30 wr (S+1) HI.out.2.2.2 hO' (by omega) (by have:=HI.out.2.2.1.size;rw[HW.out.2.2.1] at this;exact this) x;have HK:=qAq (qBq r3 (fZ (n:=S+1) hO' g3 (Nat.le_refl _) (by have:=HI.out.2.2.1.size;rw[HW.out.2.2.1] at this;exact this)));clear r3 g3 o3 hO';go_wp2_with (at_builtin;refine wpList_append_run rfl (.tmp 21) (.tmp 23) 30 rfl rfl rfl hrun ?_);go_roundg (n-j)
     case measure=>omega
     exact⟨j+1,ys++[x],by go_num,by omega,by omega,by rw[HX.out,List.filter_append,<- HI.out.1,List.filter_cons_of_pos (show inB x=true from decide_eq_true (by omega))];rfl,by rw[List.length_append,HI.out.2.2.2];simp;omega,HK.out.1,HI.out.2.2.1.trans HK.out.2⟩
    go_wp2_with fail;go_roundg (n-j)
    case measure=>omega
    exact⟨j+1,ys,by go_num,by omega,by omega,by rw[HX.out,List.filter_append,<- HI.out.1,List.filter_cons_of_neg (by rw[show inB x=false from decide_eq_false (by omega)];decide)];simp,by rw[HI.out.2.2.2];omega,by rw[<- HI.out.2.2.2];exact HI.out.2.1,HI.out.2.2.1⟩
   go_wp2_with fail;go_roundg (n-j)
   case measure=>omega
   exact⟨j+1,ys,by go_num,by omega,by omega,by rw[HX.out,List.filter_append,<- HI.out.1,List.filter_cons_of_neg (by rw[show inB x=false from decide_eq_false (by omega)];decide)];simp,by rw[HI.out.2.2.2];omega,by rw[<- HI.out.2.2.2];exact HI.out.2.1,HI.out.2.2.1⟩
  go_wp2_with fail;go_meet;have e:xs.take j=xs:=List.take_of_length_le (by rw[HW.out.2.2.2.2];omega);have h:=HI.out.1;rw[e] at h;rw[<- h,<- HI.out.2.2.2];exact⟨HI.out.2.1,HI.out.2.2.1⟩
 obtain⟨hO,hB⟩:=hcut;obtain⟨h1,h2⟩:=aHa xs;have hlen:(xs.filter inB).length<=n:=by rw[<- HW.out.2.2.2.2];exact List.length_filter_le _ _
 have hb:∀ y∈sorted (xs.filter inB),0<=y/\y<65536:=fun y hy=>by
  rw[kH,List.mem_filter] at hy;exact of_decide_eq_true hy.2
 have hsrt:=oH (xs.filter inB);have hsl:=fH (xs.filter inB);have hs:=aCF hO (by omega);obtain⟨zs,hzs⟩:∃ zs,sorted (xs.filter inB)=zs:=⟨_,rfl⟩;rw[hzs] at h1 h2 hb hsrt hsl hs;rw[<- hsl] at hlen;obtain⟨m,hm⟩:∃ m,zs.length=m:=⟨_,rfl⟩;obtain⟨pl,cl,rfl,hc,hcm⟩:=HRow.isslice hO;rw[<- hsl,hm] at hc hs ⊢;rw[hm] at hlen;have hrow:=hO;rw[<- hsl,hm] at hrow;have HI:=qAq (qBq h1 (qBq h2 (qBq hb (qBq hsrt (qBq hm hB)))));have HO:=qAq hrow;clear h1 h2 hb hsrt hm hB hO hrow hsl hzs
 go_upto_block 2 with (go_at_call 135;(with_reducible refine hs.mono ?_);rintro e x1 ⟨rfl,r1,g1⟩;clear hs;have hB1:=HI.out.2.2.2.2.2.trans (fZ HO.out g1 (Nat.le_refl _) (by have:=HI.out.2.2.2.2.2.size;rw[HW.out.2.2.1] at this;exact this));have H1:=qAq (qBq r1 hB1);clear r1 g1 hB1)
 have hM:=oG x1;obtain⟨mb,hmb⟩:∃ mb,x1.heap.size=mb:=⟨_,rfl⟩;obtain⟨ws,hws⟩:∃ ws,x1.alloc (.cells #[.slice none 0 0] 113)=ws:=⟨_,rfl⟩;have hBs:Below mb x1 ws:=(by rw[<- hws,<- hmb];exact aC x1 _);rw[hws,hmb] at hM;rw[hws,hmb];have hSm:S+1<=mb:=(by have:=H1.out.2.size;rw[HW.out.2.2.1,hmb] at this;exact this);have HM:=qAq (qBq hM (qBq hBs (qBq hmb hws)))
 have HR2:Hid (Rd x1 pl zs):=qAq (by
  have h:=H1.out.1;have e:zs.length=m:=HI.out.2.2.2.2.1;have h:Ro x1 (S+1) (.slice pl zs.length cl) zs:=(by unfold Ro at h ⊢;rw[e] at h ⊢;exact h);exact Ro.rd h)
 clear hM hmb hws hBs;go_wp2_with fail;go_loopg [30] (m+1) (fun gh jv w=>∃ (j:Nat) (v:Value),jv=.int .i64 (j:Int)/\j<=m/\m+1<=j+gh/\Mk w mb v (ofL (zs.take j))/\Below mb x1 w)
 case atStart=>exact⟨0,_,rfl,Nat.zero_le _,by omega,HM.out.1,HM.out.2.1⟩
 obtain⟨j,v,rfl,hj,hg,hMk,hB⟩:=hrel;have HK:=qAq (qBq hMk hB);clear hMk hB;by_cases hlt:j<m
 ·have hjz:j<zs.length:=(by rw[HI.out.2.2.2.2.1];exact hlt);obtain⟨b,off,rfl,hbw,c0⟩:=HR2.out j hjz;have c0:=(HK.out.2.cell (p:=⟨b,off+j,none⟩) (by rw[<- HM.out.2.2.1];exact hbw)).trans c0;obtain⟨x,hx⟩:∃ x,zs[j]=x:=⟨_,rfl⟩;rw[hx] at c0;have HX:Hid (zs.take (j+1)=zs.take j++[x]):=qAq (by rw[List.take_succ_eq_append_getElem hjz,hx]);have hb:=HI.out.2.2.1 x (by rw[<- hx];exact List.getElem_mem _);have hxl:x<65536:=hb.2;have hx0:0<=x:=hb.1;have hpre:(zs.take j).Pairwise (·<=·):=(HI.out.2.2.2.1).sublist (List.take_sublist _ _);have hnrm:=(aCC (zs.take j) hpre (fun y hy=>HI.out.2.2.1 y (List.mem_of_mem_take hy))).1;have hadd:=add_any (f:=x) (t:=x+1) hnrm HK.out.1;clear hx hb hpre hnrm;go_wp2_with (go_at_call 134;(with_reducible refine hadd.mono ?_);rintro e x2 ⟨rfl,v1,k1,g1,o1⟩;clear hadd;have H2:=qAq (qBq k1 g1);clear k1 g1 o1);go_roundg (m-j)
  case measure=>omega
  exact⟨j+1,v1,by go_num,by omega,by omega,by rw[HX.out,uJ];exact H2.out.1,HK.out.2.trans (HK.out.1.below' H2.out.2)⟩
 have e:zs.take j=zs:=List.take_of_length_le (by rw[HI.out.2.2.2.2.1];omega);have hk:=HK.out;rw[e] at hk;have hBw:Below (S+1) W1 wr:=H1.out.2.trans (hk.2.mono hSm);have z2:=(hBw.block S (Nat.lt_succ_self S)).trans HW.out.2.1;have z0:=aA z2 0;have zf:=frozen_of_row wr S 0 _ _ z2;obtain⟨p1,n1,cp1,rfl⟩:=hk.1.slc;have m0:=hk.1.1.1;have s0:=World.cell?_setCell_same wr ⟨S,0,none⟩ (.slice p1 n1 cp1) z0;have HE:=qAq (sV hk.1 (rb:=S) (by omega) HI.out.1 HI.out.2.1 (HW.out.1.trans (hBw.mono (by rw[HW.out.2.2.2.1];omega))) (show W.heap.size<=S by rw[HW.out.2.2.2.1];exact Nat.le_refl _));clear e hk hBw z2;go_wp2_with fail;refine bodyPost_ret (v:=.agg #[.slice p1 n1 cp1]) (by simp[results,Tryz.results101,go_sem,s0]) rfl ?_;exact HE.out
def cells2 (l:List R2):List Value:=l.flatMap fun x=>[.int .i64 x.1,.int .i64 x.2]
