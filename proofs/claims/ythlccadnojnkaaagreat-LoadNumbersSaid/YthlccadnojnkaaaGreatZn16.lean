import Derived.Test.YthlccadnojnkaaaGreatZn14
import Derived.Test.YthlccadnojnkaaaGreatZn15
import Derived.Sort.OwnSortedInts
set_option maxHeartbeats 2000000
set_option maxRecDepth 100000
namespace Go.Proofs.YthlccadnojnkaaaGreat
open Go.Proofs.Tryz
open Go Go.RowKit Go.Proofs
abbrev iv(x:Int):Value:=.int .i64 x
def Rd(W:World)(p:Option Addr)(xs:List Int):Prop:=∀j (_:j<xs.length),∃b off,p=some ⟨b,off,none⟩/\b<W.heap.size/\W.cell? ⟨b,off+j,none⟩=some (.int .i64 (xs[j]))
theorem Rd.later{W W':World}{p:Option Addr}{xs:List Int}(h:Rd W p xs)(hb:Below W.heap.size W W'):Rd W' p xs:=fun j d=>by
 obtain⟨b,a,e,c,f⟩:=h j d;exact⟨b,a,e,z9 c hb.size,(hb.cell (p:=⟨b,a+j,none⟩) c).trans f⟩
abbrev Ro(W:World)(base:Nat)(v:Value)(xs:List Int):Prop:=ac W base 3 1 v xs.length (xs.map iv)
theorem Ro.rd{W:World}{base cap:Nat}{p:Option Addr}{xs:List Int}(h:Ro W base (.slice p xs.length cap) xs):Rd W p xs:=fun j b=>by
 obtain⟨g,a,e,_,_⟩:=ac.slice h (by omega);cases e;refine⟨g,0,rfl,(ac.lt h g rfl).2,?_⟩;rw[xq];exact ac.cell h (by rw[xm,z6 b];rfl)
theorem Hu:(prog.info? 3).map (fun i=>(i.zero,i.size,i.bytes))=some (some (.int .i64 0),1,8):=by kernel_rfl
theorem iY(ty:TypeId)(hty:prog.underlying ty=some (.slice 3))(y:World)(base:Nat){v:Value}{n:Nat}{xs:List Int}(hn:xs.length=n)(hr:Ro y base v xs)(hm:n+1<=1000000)(hb:base<=y.heap.size)(k:Int):∃g a b,(Builtin.append_ #[ty,ty] ty #[v,.slice (some ⟨y.heap.size,0,none⟩) 1 1]).run prog (y.alloc (.cells #[.int .i64 k] 3))=.ok (.slice (some ⟨g,0,none⟩) (n+1) a) b/\Ro b base (.slice (some ⟨g,0,none⟩) (n+1) a) (xs++[k])/\y.grownBy b v.ownBlock/\(v.ownBlock=some g∨y.heap.size<=g):=by
 subst hn;obtain⟨l,d,e,f,i⟩:=info_parts Hu;have m:=z7 y (.cells #[.int .i64 k] 3)
 obtain⟨g,a,b,o,p,c,r⟩:=aY (P:=prog) (y.alloc (.cells #[.int .i64 k] 3)) base ty ty 3 l _ 1 8 hty d e f i rfl (by decide) (ac.later hr (aD y _)) ⟨y.heap.size,0,none⟩ 1 1 [.int .i64 k] rfl
  (by exact World.news_of_block m) (by simp[Value.oneCell']) (by decide) (by unfold maxLen;omega) (by omega) (by rw[zj];omega)
 exact⟨g,a,b,o,by unfold Ro;rw[uc,y8];exact p,⟨c.os,c.tape,c.output,zw (by simp) c.size,fun q s j=>(c.block q (by simp;omega) j).trans ((aD y _).block q s)⟩,r.imp id (fun h=>by rw[zj]at h;omega)⟩
theorem eM{n base:Nat}{A B:World}{nv:Value}{e:TypeId}{sz m:Nat}{xs:List Value}(hr:ac A base e sz nv m xs)(hg:A.grownBy B nv.ownBlock)(hn:n<=base)(hs:n<=A.heap.size):Below n A B:=
 ⟨hg.os,hg.tape,hg.output,hg.size,fun q a=>hg.block q (by omega) (fun e=>by have:=(hr.lt q e.symm).1;omega)⟩
def sorted(xs:List Int):List Int:=xs.mergeSort fun x y=>decide (x<=y)
theorem dU(xs:List Int):(sorted xs).length=xs.length:=List.length_mergeSort _
theorem gW(xs:List Int)(x:Int):x∈sorted xs↔x∈xs:=List.mem_mergeSort
theorem mH(xs:List Int):(sorted xs).Pairwise (·<=·):=
 (List.pairwise_mergeSort (le:=fun x y:Int=>decide (x<=y)) (fun a b c d e=>by
  have d:a<=b:=wj d;have e:b<=c:=wj e;exact xd (by omega)) (fun a b=>by
  rcases Int.le_total a b with h|h
  ·simp[h]
  ·simp[h]) xs).imp (fun h=>wj h)
theorem Er{W:World}{base:Nat}{v:Value}{xs:List Int}(h:Ro W base v xs)(hl:xs.length<=1000000):Calls prog 147 #[v] W fun e d=>e=.returned (.tuple #[])/\Ro d base v (sorted xs)/\W.grownBy d v.ownBlock:=by
 rcases List.eq_nil_or_concat xs with rfl|⟨k,r,e⟩
 ·obtain⟨p,b,rfl,_,_⟩:=ac.isslice h;refine(Any.slices_Sort_int_none Tryz.laysSort p b W).mono ?_;rintro e d⟨rfl,rfl⟩;have e:sorted []=[]:=wk (by rw[dU];rfl);exact⟨rfl,by rw[e];exact h,⟨rfl,rfl,rfl,zm _,fun _ _ _=>rfl⟩⟩
 have c:0<xs.length:=(by rw[e,List.length_concat];omega);obtain⟨g,b,rfl,m,f⟩:=ac.slice h c;obtain⟨i,o,j,_,_,l,a⟩:=ac.form h;rw[Nat.mul_one]at a;refine(GU g 0 b xs W (holds_of_blockI j a) (aC j) (by omega)).mono ?_;rintro e d⟨rfl,n,os,rfl⟩;refine⟨rfl,⟨by simp,.inr ⟨g,b,_,?_,o,heap_sortedI _ j,by rw[dU];exact m,f,by simpa [Sort.putCells]using l,?_⟩⟩,grownBy_sortedI _⟩
 ·rw[dU]
 rw[Nat.mul_one];exact take_putCellsI i (sorted xs) (by rw[dU];omega)
def qr(x:Int):Bool:=decide (0<=x/\x<65536)
def AC(xs:List Int)(x:Int):Bool:=decide (x∈xs)&&qr x
theorem Kw(xs:List Int):Nrm (y6 (sorted (xs.filter qr)))/\Is (y6 (sorted (xs.filter qr))) (AC xs):=by
 have b:∀y∈sorted (xs.filter qr),0<=y/\y<65536:=fun y a=>by
  rw[gW,List.mem_filter]at a;exact wj a.2
 obtain⟨c,d,_⟩:=D0 _ (mH (xs.filter qr)) b;refine⟨c,fun x=>?_⟩;rw[d,gW,List.mem_filter];unfold AC;rw[zx,wh]
theorem Gk{p:Option Addr}{xs:List Int}{n c:Nat}{W:World}(hn:xs.length=n)(hl:n<=100000)(hr:Rd W p xs):Calls prog 112 #[.slice p n c] W (IsMap (AC xs) W):=by
 have d:=aD W (.cells #[.slice none 0 0] 102);have u:=z7 W (.cells #[.slice none 0 0] 102);obtain⟨S,hS⟩:=ag W.heap.size;have N:(W.alloc (.cells #[.slice none 0 0] 102)).heap.size=S+1:=(by simp[hS]);obtain⟨X,O⟩:=ag (W.alloc (.cells #[.slice none 0 0] 102));rw[O]at d u N;rw[hS]at u;have k:=aa (ab d (ab u (ab N (ab hS hn))));have a8:=aa O;have HR:=aa (hr.later d);clear d u N hS O hr hn;go_enter func112,ntmps112
 go_upto_block 0 with fail
 rw[a8.out,k.2.2.2.1]
 go_cut [3]from 200 to 200 (fun ov w=>Ro w (S+1) ov (xs.filter qr)/\Below (S+1) X w)
 case first =>
  go_wp2_with fail;go_loopg [3,11] (n+1) (fun gh ov jv w=>∃(j:Nat) (z:List Int),jv=.int .i64 (j:Int)/\j<=n/\n+1<=j+gh/\z=(xs.take j).filter qr/\z.length<=j/\Ro w (S+1) ov z/\Below (S+1) X w)
  case atStart=>exact⟨0,[],rfl,zh _,by omega,by simp,zh _,ac.nil,zb _ _⟩
  obtain⟨j,z,rfl,hj,hg,Y,a9,B,E⟩:=hrel;obtain⟨m,A⟩:=ag z.length;obtain⟨pl,cl,rfl,hc,b0⟩:=ac.isslice B;rw[A]at hc a9 ⊢;have a:=aa (ab Y (ab B (ab E A)));clear Y B E A;by_cases P:j<n
  ·have Z:j<xs.length:=(by rw[k.2.2.2.2];exact P);have a0:Below X.heap.size X wr:=a.2.2.1.mono (by rw[k.2.2.1];exact zm _);obtain⟨b,a1,rfl,b5,c0⟩:=(HR.out.later a0) j Z;obtain⟨x,F⟩:=ag (xs[j]);rw[F]at c0;have HX:Hid (xs.take (j+1)=xs.take j++[x]):=aa (by rw[yp Z,F]);clear F a0;by_cases h0:0<=x
   ·by_cases h1:x<65536
    ·have Q:Ro wr (S+1) (.slice pl m cl) z:=(by rw[<-a.2.2.2];exact a.2.1);obtain⟨g,b4,w3,a2,r3,g3,o3⟩:=iY 45 underlying45 wr (S+1) a.2.2.2 Q (by omega) (by have:=a.2.2.1.size;rw[k.2.2.1]at this;exact this) x;have G:=aa (ab r3 (eM (n:=S+1) Q g3 (zm _) (by have:=a.2.2.1.size;rw[k.2.2.1]at this;exact this)));clear r3 g3 o3 Q;go_wp2_with (at_builtin;refine aK rfl (.tmp 21) (.tmp 23) 45 rfl rfl rfl a2 ?_);go_roundg (n-j)
     case measure=>omega
     exact⟨j+1,z++[x],by go_num,by omega,by omega,by rw[HX.out,List.filter_append,<-a.1,List.filter_cons_of_pos (show qr x=true from xd (by omega))];rfl,by rw[y8,a.2.2.2];simp;omega,G.1,a.2.2.1.trans G.2⟩
    go_wp2_with fail;go_roundg (n-j)
    case measure=>omega
    exact⟨j+1,z,by go_num,by omega,by omega,by rw[HX.out,List.filter_append,<-a.1,List.filter_cons_of_neg (by rw[show qr x=false from yw (by omega)];decide)];simp,by rw[a.2.2.2];omega,by rw[<-a.2.2.2];exact a.2.1,a.2.2.1⟩
   go_wp2_with fail;go_roundg (n-j)
   case measure=>omega
   exact⟨j+1,z,by go_num,by omega,by omega,by rw[HX.out,List.filter_append,<-a.1,List.filter_cons_of_neg (by rw[show qr x=false from yw (by omega)];decide)];simp,by rw[a.2.2.2];omega,by rw[<-a.2.2.2];exact a.2.1,a.2.2.1⟩
  go_wp2_with fail;go_meet;have e:xs.take j=xs:=yy (by rw[k.2.2.2.2];omega);have h:=a.1;rw[e]at h;rw[<-h,<-a.2.2.2];exact⟨a.2.1,a.2.2.1⟩
 obtain⟨B,E⟩:=hcut;obtain⟨h1,h2⟩:=Kw xs;have H:(xs.filter qr).length<=n:=by rw[<-k.2.2.2.2];exact List.length_filter_le _ _
 have R:∀y∈sorted (xs.filter qr),0<=y/\y<65536:=fun y hy=>by
  rw[gW,List.mem_filter]at hy;exact wj hy.2
 have o:=mH (xs.filter qr);have q:=dU (xs.filter qr);have hs:=Er B (by omega);obtain⟨i,a3⟩:=ag (sorted (xs.filter qr));rw[a3]at h1 h2 R o q hs;rw[<-q]at H;obtain⟨m,A⟩:=ag i.length;obtain⟨pl,cl,rfl,hc,b0⟩:=ac.isslice B;rw[<-q,A]at hc hs ⊢;rw[A]at H;have r:=B;rw[<-q,A]at r;have a:=aa (ab h1 (ab h2 (ab R (ab o (ab A E)))));have HO:=aa r;clear h1 h2 R o A E B r q a3
 go_upto_block 2 with (go_at_call 147;(with_reducible refine hs.mono ?_);rintro e I⟨rfl,r1,g1⟩;clear hs;have d:=a.2.2.2.2.2.trans (eM HO.out g1 (zm _) (by have:=a.2.2.2.2.2.size;rw[k.2.2.1]at this;exact this));have H1:=aa (ab r1 d);clear r1 g1 d)
 have hM:=mG I;obtain⟨mb,l⟩:=ag I.heap.size;obtain⟨ws,s⟩:=ag (I.alloc (.cells #[.slice none 0 0] 102));have a4:Below mb I ws:=(by rw[<-s,<-l];exact aD I _);rw[s,l]at hM;rw[s,l];have b1:S+1<=mb:=(by have:=H1.2.size;rw[k.2.2.1,l]at this;exact this);have HM:=aa (ab hM (ab a4 (ab l s)))
 have b2:Hid (Rd I pl i):=aa (by
  have h:=H1.1;have e:i.length=m:=a.2.2.2.2.1;have h:Ro I (S+1) (.slice pl i.length cl) i:=(by unfold Ro at h ⊢;rw[e]at h ⊢;exact h);exact Ro.rd h)
 clear hM l s a4;go_wp2_with fail;go_loopg [30] (m+1) (fun gh jv w=>∃(j:Nat) (v:Value),jv=.int .i64 (j:Int)/\j<=m/\m+1<=j+gh/\Mk w mb v (y6 (i.take j))/\Below mb I w)
 case atStart=>exact⟨0,_,rfl,zh _,by omega,HM.1,HM.2.1⟩
 obtain⟨j,v,rfl,hj,hg,a5,E⟩:=hrel;have G:=aa (ab a5 E);clear a5 E;by_cases P:j<m
 ·have a6:j<i.length:=(by rw[a.2.2.2.2.1];exact P);obtain⟨b,a1,rfl,b3,c0⟩:=b2.out j a6;have c0:=(G.2.cell (p:=⟨b,a1+j,none⟩) (by rw[<-HM.2.2.1];exact b3)).trans c0;obtain⟨x,F⟩:=ag (i[j]);rw[F]at c0;have HX:Hid (i.take (j+1)=i.take j++[x]):=aa (by rw[yp a6,F]);have R:=a.2.2.1 x (by rw[<-F];exact z8 _);have b6:x<65536:=R.2;have b7:0<=x:=R.1;have J:(i.take j).Pairwise (·<=·):=(a.2.2.2.1).sublist (List.take_sublist _ _);have L:=(D0 (i.take j) J (fun y hy=>a.2.2.1 y (ue hy))).1;have M:=dD (f:=x) (t:=x+1) L G.1;clear F R J L;go_wp2_with (go_at_call 125;refine M.mono ?_;rintro e x2⟨rfl,v1,k1,g1,o1⟩;clear M;have H2:=aa (ab k1 g1);clear k1 g1 o1);go_roundg (m-j)
  case measure=>omega
  exact⟨j+1,v1,by go_num,by omega,by omega,by rw[HX.out,sO];exact H2.1,G.2.trans (G.1.below' H2.2)⟩
 have e:i.take j=i:=yy (by rw[a.2.2.2.2.1];omega);have V:=G.out;rw[e]at V;have U:Below (S+1) X wr:=H1.2.trans (V.2.mono b1);have z2:=(U.block S (uf S)).trans k.2.1;have z0:=aA z2 0;have zf:=zo wr S 0 _ _ z2;obtain⟨p1,n1,a7,rfl⟩:=V.1.slc;have m0:=V.1.1.1;have s0:=wq wr ⟨S,0,none⟩ (.slice p1 n1 a7) z0;have HE:=aa (qV V.1 (rb:=S) (by omega) a.1 a.2.1 (k.1.trans (U.mono (by rw[k.2.2.2.1];omega))) (show W.heap.size<=S by rw[k.2.2.2.1];exact zm _));clear e V U z2;go_wp2_with fail;refine ya (v:=.agg #[.slice p1 n1 a7]) (by simp[results,results112,go_sem,s0]) rfl ?_;exact HE.out
def B2(l:List R2):List Value:=l.flatMap fun x=>[.int .i64 x.1,.int .i64 x.2]
end Go.Proofs.YthlccadnojnkaaaGreat
namespace Go.Proofs.YthlccadnojnkaaaGreat
open Go.Proofs.Tryz
open Go Go.RowKit Go.Shelf Go.Proofs
section
variable {P:Program}{w:World}
theorem eD(f:Nat):Fence.wide.fn f:=trivial
theorem bT:Fence.wide.depth=none:=rfl
end
attribute [local go_sem] Oper.semAt_some
attribute [local go_sem] fV fW eD bT
def enc1(x:Int):Array Value:=#[.int .i64 x]
structure Came (J:Nat->(Nat->Prop)->World->Prop) (S:Nat->Prop) (W:World) (k:Nat) (S1:Nat->Prop) (W1:World):Prop where
 j:J k S1 W1
 th:ie S1 W1
 grows:Grows S S1 W
 chg:Chg S W W1
theorem Came.next{J:Nat->(Nat->Prop)->World->Prop}{S S1 S2:Nat->Prop}{W W1 W2:World}{k:Nat}(h:Came J S W k S1 W1){J':Nat->(Nat->Prop)->World->Prop}{k':Nat}(hg:Grows S1 S2 W1)(hi:ie S2 W2)(hc:Chg S1 W1 W2)(hj:J' k' S2 W2):Came J' S W k' S2 W2:=
 ⟨hj,hi,h.grows.trans hg h.chg.size,h.chg.trans hc (fun _ _ x=>x) (fun b a x=>(h.grows b x).resolve_right (by omega))⟩
theorem Came.alloc{J:Nat->(Nat->Prop)->World->Prop}{S S1:Nat->Prop}{W W1:World}{k:Nat}(h:Came J S W k S1 W1)(hJ:Loc (J k))(o:Obj):Came J S W k S1 (W1.alloc o)/\¬ S1 W1.heap.size:=
 ⟨⟨hJ S1 W1 _ h.j h.th (by simp) (fun b a=>wi _ _ _ (h.th b a)),h.th.later (by simp),h.grows,h.chg.alloc o⟩,fun a=>ub _ (h.th _ a)⟩
theorem CM{la:List R2}{j:Nat}(hj:j<la.length){d:Nat}(hd:(d:Int)<la[j].2-la[j].1):(els la)[(els (la.take j)).length+d]?=some (la[j].1+(d:Int)):=by
 have a:els la=els (la.take j)++(rng la[j].1 la[j].2++els (la.drop (j+1))):=by
  have b:=Ee la j hj;rw[<-lP,<-dT,<-dT,<-b]
 rw[a,ye (by omega),wf (by rw[fZ];omega),Nat.add_sub_cancel_left,FW (by omega)]
theorem jU(c:Nat){la:List R2}{pa:Option Addr}{ca:Nat}(ha:Nrm la)(yv:Value)(J Jx:Nat->(Nat->Prop)->World->Prop)(S:Nat->Prop)(W:World)(hJ:∀k,Loc (J k))(hS:ie S W)(hc:W.cell? ⟨c,0,none⟩=some (.slice pa la.length ca))(hv:Mv W (.slice pa la.length ca) la)(hbS:∀g,pa=some ⟨g,0,none⟩->¬ S g)(h0:J 0 S W)(hY:∀k (hk:k<(els la).length) q W1,ie q W1->Chg (fun b=>S b∨False) W W1->J k q W1 -> lf prog yv (enc1 (els la)[k]) W1 fun e I=>∃l,Grows q l W1/\ie l I/\Chg q W1 I/\((e=.returned (.bool true)/\J (k+1) l I)∨(e=.returned (.bool false)/\Jx (k+1) l I))):Calls prog 119 #[yv,.pointer (some ⟨c,0,none⟩)] W fun e W'=>∃v,e=.returned v/\((∃S',Came J S W (els la).length S' W')∨∃k S',0<k/\k<=(els la).length/\Came Jx S W k S' W'):=by
 obtain⟨na,z⟩:=ag la.length;have L:=aa (ab hv (ab z (ab ha hbS)));have HY:=aa hY;have a3:=cT ha;have HJ:=aa hJ;rw[z]at hc a3;clear hv ha hbS z hY hJ;refine(callsIn_wide (n:=0)).1 ?_;refine callsIn_of_wp func119 rfl trivial ?_ rfl;simp only[ntmps119,List.size_toArray,xe,vp,Nat.reduceAdd,Nat.reduceSub,Array.replicate_succ,Array.replicate_zero,List.push_toArray,List.append_toArray,uh,ui]
 gi_wp2
 gi_loopw [9] (fun iv wr=>∃(j:Nat) (q:Nat->Prop),j<=na/\iv=.int .i64 (j:Int)/\Came J S W (els (la.take j)).length q wr) (fun iv _=>na-(intOf iv).toNat)
 case atStart=>exact⟨0,S,zh _,rfl,⟨h0,hS,.refl _ _,.refl _ _⟩⟩
 obtain⟨j,q,hj,rfl,i⟩:=hrel;by_cases a4:j<na
 ·have A:j<la.length:=(by rw[L.2.1];exact a4);obtain⟨g,rfl,hg,Z,a1,a2⟩:=L.1.run A;have B:=L.2.2.2 g rfl;have Z:=(i.chg.cell (p:=⟨g,j*3,none⟩) hg B).trans Z;have a1:=(i.chg.cell (p:=⟨g,j*3+1,none⟩) hg B).trans a1;have a2:=(i.chg.cell (p:=⟨g,j*3+2,none⟩) hg B).trans a2;have s:∀d:Nat,(d:Int)<la[j].2-la[j].1->(els la)[(els (la.take j)).length+d]?=some (la[j].1+(d:Int)):=(fun d hd=>CM A hd);have m:=L.2.2.1.2 la[j] (z8 _);have a:(els (la.take (j+1))).length=(els (la.take j)).length+(la[j].2-la[j].1).toNat:=(by rw[yp A,dT,lP,y8,fZ]);obtain⟨r,hr⟩:=ag (la[j]);simp only[hr]at Z a1 s m a;obtain⟨f,t⟩:=r;obtain⟨y,M⟩:=ag ((els (la.take j)).length);simp only[M]at a2 i a s;have HA:=aa (ab s a);obtain⟨N,O⟩:=i.alloc (HJ.out y) (.cells #[.int .i64 f,.int .i64 t,.int .i64 (y:Int)] 146);have a6:0<=f:=m.1;have a7:f<t:=m.2.1;have a8:t<=65536:=m.2.2;have P:=z7 wr (.cells #[.int .i64 f,.int .i64 t,.int .i64 (y:Int)] 146);obtain⟨rb,Q⟩:=ag wr.heap.size;have H:=aa (ab N (ab O P));rw[Q]at H;clear M hr s a m N O P i hc
  gi_wp2
  gi_loopw [5] (fun iv w=>∃(d:Nat) (l:Nat->Prop),(d:Int)<=t-f/\iv=.int .i64 (f+(d:Int))/\Came J S W (y+d) l w/\¬ l rb/\w.heap[rb]?=some (.cells #[.int .i64 f,.int .i64 t,.int .i64 (y:Int)] 146)) (fun iv _=>(t-intOf iv).toNat)
  case atStart=>exact⟨0,q,by omega,by simp,H.1,H.2.1,H.2.2⟩
  clear Z a1 a2;obtain⟨d,l,hd,rfl,i,hn,hx⟩:=hrel;have x1:=aA hx 1;have a5:=aC hx;have u:=aa (ab i (ab hn hx));clear i hn hx;by_cases R:(d:Int)<t-f
  ·obtain⟨U,V⟩:=List.getElem?_eq_some_iff.1 (HA.1 d R);have E:=HY.out (y+d) U l wr u.1.th (u.1.chg.mono fun _ _ x=>.inl x) u.1.j;rw[V]at E;have X:f+(d:Int)<t:=(by omega);clear U V
   gi_wp2_with ((with_reducible refine fM ?_ ?_ yv [.int .i64 (f+(d:Int))] ?_ ?_ ?_);rfl;rfl;rfl;rfl;refine E.mono ?_;clear E;rintro e I⟨S3,F,Y,o,(⟨rfl,G⟩ | ⟨rfl,G⟩)⟩ <;> refine⟨_,rfl,?_⟩)
   ·go_roundw
    case rel=>exact⟨d+1,S3,by omega,by congr 1 <;> omega,u.1.next F Y o G,fun h=>(F rb h).elim u.2.1 (fun h=>by omega),(o.block rb a5 u.2.1).trans u.2.2⟩
    simp[intOf];omega
   refine ya (results_none rfl _ _ _) rfl ?_
   exact⟨_,rfl,.inr ⟨y+d+1,S3,by omega,by
    have:=(List.getElem?_eq_some_iff.1 (HA.1 d R)).1
    omega,u.1.next F Y o G⟩⟩
  have X:¬ f+(d:Int)<t:=by omega
  gi_wp2
  go_roundw
  case rel=>exact⟨j+1,l,by omega,by simp,by
   rw[HA.2];have e:(t-f).toNat=d:=(by omega);show Came J S W (y+(t-f).toNat) l wr;rw[e];exact u.1⟩
  simp[intOf];omega
 have e:els (la.take j)=els la:=(by rw[yy (by rw[L.2.1];omega)]);rw[e]at i;have H:=aa i;clear i e hc
 gi_wp2
 go_end0
 exact⟨_,rfl,.inl ⟨q,H.out⟩⟩
theorem my(c:Nat){la:List R2}{va:Value}(ha:Nrm la)(W0:World)(hv0:Mv W0 va la):Gives prog (.func (.func 119) #[] #[.pointer (some ⟨c,0,none⟩)]) enc1 (els la) (fun b=>b=c∨va.ownBlock=some b) (fun _=>False) (fun _ W=>Cell W c va/\Mv W va la):=by
 obtain⟨l,m,rfl,_,_⟩:=hv0.slice;refine⟨fun k W d⟨s,t⟩ _ _ f=>⟨s.of (f c (.inl rfl)),ac.of t (fun b h=>f b (.inr h))⟩,⟨119,_,rfl⟩,fun _ x=>x.elim,?_⟩;rintro u w J y S W z A B p a⟨q,r⟩ E F;refine .inl ⟨119,_,rfl,enters_of func119 (by kernel_rfl) rfl,?_⟩;have G:=jU c (pa:=l) (ca:=m) ha (.func u #[] w) J y S W z B q.1 r (fun g H I=>a g I (.inr (by subst H;rfl))) E F;refine G.mono ?_
 have i:∀d,Chg S W d->Cell d c (.slice l la.length m)/\Mv d (.slice l la.length m) la:=fun d h =>
  ⟨q.of (h.block c (p c (.inl rfl)) (fun x=>a c x (.inl rfl))),ac.of r (fun b f=>h.block b (p b (.inr f)) (fun x=>a b x (.inr f)))⟩
 rintro e d⟨v,rfl,(⟨n,h⟩ | ⟨k,n,o,L,h⟩)⟩
 ·exact⟨v,n,rfl,h.grows,h.th,h.chg.mono (fun _ _ x=>.inl x),.inl ⟨h.j,i _ h.chg⟩⟩
 exact⟨v,n,rfl,h.grows,h.th,h.chg.mono (fun _ _ x=>.inl x),.inr ⟨k,o,L,h.j,i _ h.chg⟩⟩
theorem gA{va:Value}{la:List R2}{W:World}(hv:Mv W va la):Calls prog 83 #[.agg #[va]] W fun e a=>e=.returned (.func (.func 119) #[] #[.pointer (some ⟨W.heap.size,0,none⟩)])/\a=W.alloc (.cells #[va] 102):=by
 obtain⟨b,c,rfl,_,_⟩:=hv.slice;clear hv;go_enter func83,ntmps83
 go_wp2
 go_ret;exact⟨rfl,rfl⟩
def Bm(w:World)(b:Nat)(v:Value)(P:Int->Bool):Prop:=∃l,w.heap[b]?=some (.cells #[v] 102)/\Mv w v l/\Nrm l/\Is l P
def Vm(w:World)(v:Value)(P:Int->Bool):Prop:=∃l,Mv w v l/\Nrm l/\Is l P
theorem Vm.later{w w':World}{v:Value}{P:Int->Bool}(h:Vm w v P)(hb:Below w.heap.size w w'):Vm w' v P:=by
 obtain⟨l,a,b,c⟩:=h;exact⟨l,a.later hb,b,c⟩
theorem Vm.slc{w:World}{v:Value}{P:Int->Bool}(h:Vm w v P):∃p n c,v=.slice p n c:=by
 obtain⟨l,h,_⟩:=h;obtain⟨p,c,e,_⟩:=h.slice;exact⟨p,_,c,e⟩
def ta(P:Int->Bool)(W:World)(e:Ending)(w':World):Prop:=∃p n c,e=.returned (.agg #[.slice p n c])/\Vm w' (.slice p n c) P/\Below W.heap.size W w'
theorem IsMap.v{P:Int->Bool}{W:World}{e:Ending}{w':World}(h:IsMap P W e w'):ta P W e w':=by
 obtain⟨v,l,b,a,d,f,g⟩:=h;obtain⟨p,c,i,_⟩:=a.slice;subst i;exact⟨p,_,c,b,⟨l,a,d,f⟩,g⟩
section
variable {W:World}{va vb:Value}{P Q:Int->Bool}
theorem vor(ha:Vm W va P)(hb:Vm W vb Q):Calls prog 111 #[.agg #[va],.agg #[vb]] W (ta (fun x=>P x || Q x) W):=by
 obtain⟨la,a,b,c⟩:=ha;obtain⟨lb,d,e,f⟩:=hb;exact(GI b e a d c f).mono fun _ _ h=>h.v
theorem Ir(ha:Vm W va P)(n:Int):Calls prog 89 #[.agg #[va],.int .i64 n] W (ta (notP P n) W):=by
 obtain⟨la,a,b,c⟩:=ha;exact(ES b a c n).mono fun _ _ h=>h.v
theorem vof{p:Option Addr}{xs:List Int}{n c:Nat}(hn:xs.length=n)(hl:n<=100000)(hr:Rd W p xs):Calls prog 112 #[.slice p n c] W (ta (AC xs) W):=(Gk hn hl hr).mono fun _ _ h=>h.v
theorem DU(ha:Vm W va P):Calls prog 53 #[.agg #[va]] W fun e b=>e=.returned (.int .i64 ((elems P).length:Int))/\Below W.heap.size W b:=by
 obtain⟨la,c,a,d⟩:=ha;rw[<-d.els a];exact bB a c
end
end Go.Proofs.YthlccadnojnkaaaGreat
namespace Go.Proofs.YthlccadnojnkaaaGreat.Kc
open Go.Proofs.Tryz
open Go Go.RowKit Go.Shelf Go.Proofs
def Loc(J:(Nat->Prop)->World->Prop):Prop:=∀S W W',J S W->ie S W->W.heap.size<=W'.heap.size->(∀b,S b->W'.heap[b]?=W.heap[b]?)->(∀(b:Nat) (cur:Array Value) (e:TypeId) (m:Nat×Nat),W.heap[b]?=some (Obj.cells cur e m)->W'.heap[b]?=some (Obj.cells cur e m))->(W'.os=W.os/\W'.tape=W.tape/\W'.output=W.output)->J S W'
def Gives{α:Type}(P:Program)(sv:Value)(encs:α->Array Value)(xs:List α)(M Mm:Nat->Prop)(Q:Nat->World->Prop):Prop:=
 (∀k W W',Q k W->ie M W->W.heap.size<=W'.heap.size->(∀b,M b->W'.heap[b]?=W.heap[b]?)->Q k W')/\(∃g lb,sv=.func (.func g) #[] lb)/\(∀b,Mm b->M b)/\∀(yf:Fn) (yb:Array Value) (J Jx:Nat->(Nat->Prop)->World->Prop) (S:Nat->Prop) (W:World),(∀k,Loc (J k))->(∀k,Loc (Jx k)) ->
  ie S W->ie M W->(∀b,S b->¬ M b)->Q 0 W->J 0 S W ->
  (∀k (hk:k<xs.length) S1 W1,ie S1 W1->Chg (fun b=>S b∨Mm b) W W1->J k S1 W1 ->
   lf P (.func yf #[] yb) (encs xs[k]) W1 fun e W2=>∃S2,Grows S1 S2 W1/\ie S2 W2/\Chg S1 W1 W2/\((e=.returned (.bool true)/\J (k+1) S2 W2)∨(e=.returned (.bool false)/\Jx (k+1) S2 W2))) ->
  lf P sv #[.func yf #[] yb] W fun e W'=>∃v S',e=.returned v/\Grows S S' W/\ie S' W'/\Chg (fun b=>S b∨Mm b) W W'/\((J xs.length S' W'/\Q xs.length W')∨∃k,0<k/\k<=xs.length/\Jx k S' W'/\Q k W')
theorem ff{α:Type}{n:Nat}{P:Program}{g:Operand}{ps:Array Tmp}{assign body:Code}{Q:Exit->Act->World->Prop}{a:Act}{w:World}{sv:Value}(hg:a.eval g=sv){encs:α->Array Value}{xs:List α}{M Mm:Nat->Prop}{Qi:Nat->World->Prop}(hgv:Gives P sv encs xs M Mm Qi)(hps:∀x,(encs x).size=ps.size)(I:Nat->(Nat->Prop)->World->Prop)(Ix:Code->Nat->(Nat->Prop)->World->Prop)(hI:∀k,Loc (I k))(hIx:∀c k,Loc (Ix c k))(S:Nat->Prop)(hS:ie S w)(hM:ie M w)(hSM:∀b,S b->¬ M b)(hQ:Qi 0 w)(h0:I 0 S w)(a₁:α->Act)(hassign:∀(l:Nat) (x:α) (W:World) (K:Act->World->Prop),K (a₁ x) W -> assign.wpIn (Fence.wide.inRound l) 0 P (Exit.then K (fun _ _ _=>False)) { tmps:=(ps.zip (encs x)).foldl (fun t(p,v)=>t.setIfInBounds p v) a.tmps,defers:=[] } W)(hbody:∀(l k:Nat) (hk:k<xs.length) S1 L,ie S1 L->Chg (fun b=>S b∨Mm b) w L->I k S1 L->body.wpIn (Fence.wide.inRound l) 0 P (tw I Ix (k+1) S1 L) (a₁ xs[k]) L)(hdone:∀X O,Grows S X w->ie X O->Chg (fun b=>S b∨Mm b) w O->I xs.length X O->Qi xs.length O->O.heap[w.heap.size]?=some (.deferred (some []))->¬ X w.heap.size -> Q .normal { a with defers:=jm w.heap.size::a.defers } O)(hstop:∀c k X O,0<k->k<=xs.length->Grows S X w->ie X O->Chg (fun b=>S b∨Mm b) w O->Ix c k X O->Qi k O->O.heap[w.heap.size]?=some (.deferred (some []))->¬ X w.heap.size -> c.wpIn Fence.wide n P Q { a with defers:=jm w.heap.size::a.defers } O):(Code.rangeFunc g ps assign body).wpIn Fence.wide n P Q a w:=by
 refine wpIn_rangeFunc ?_;intro fn d9;obtain⟨D,hD⟩:=ag w.heap.size;obtain⟨r,j⟩:∃r:LoopState->Option Code->Loop,r=fun st pe=>{ state:=st,pending:=pe,fn,tmps:=a.tmps,params:=ps,assign,body,defers:=D }:=⟨_,rfl⟩
 obtain⟨Z,a0⟩:=ag ((w.alloc (.deferred (some []))).alloc (.loop (r .ready none)))
 have c8:Z.heap[D+1]?=some (.loop (r .ready none)):=by
  rw[<-a0];have:=World.alloc_heap_new (w.alloc (.deferred (some []))) (.loop (r .ready none));rw[zj,hD]at this;exact this
 have d0:Z.heap[D]?=some (.deferred (some [])):=by
  rw[<-a0,<-hD];exact(wi _ _ _ (by simp)).trans (World.alloc_heap_new w _)
 have b1:Z.heap.size=D+2:=(by rw[<-a0];simp[hD]);have a2:Chg S w Z:=by rw[<-a0];exact((Chg.refl S w).alloc _).alloc _
 have b7:∀b,b<D->Z.heap[b]?=w.heap[b]?:=fun b d=>by
  rw[<-a0];exact(wi _ _ _ (by simp;omega)).trans (wi _ _ _ (by omega))
 have b2:∀b,S b->b<D:=(fun b d=>by rw[<-hD];exact hS b d);have H:∀b,M b->b<D:=(fun b d=>by rw[<-hD];exact hM b d);have e1:∀b,Mm b->b<D:=fun b x=>H b (hgv.2.2.1 b x)
 have b8:=hgv.2.2.2 (.yield (D+1)) #[]
  (fun k T W=>∃i,(∀b,T b↔i b∨b=D+1∨b=D)/\¬ i (D+1)/\¬ i D/\I k i W/\D+2<=W.heap.size/\W.heap[D+1]?=some (.loop (r .ready none))/\W.heap[D]?=some (.deferred (some [])))
  (fun k T W=>∃i,(∀b,T b↔i b∨b=D+1∨b=D)/\¬ i (D+1)/\¬ i D/\D+2<=W.heap.size/\∃c,Ix c k i W/\W.heap[D+1]?=some (.loop (r .done (some c)))/\W.heap[D]?=some (.deferred (some [])))
  (fun b=>S b∨b=D+1∨b=D) Z
  (by
   rintro k T W O⟨i,hT,J,h2,hi,hz,hl,hd⟩ R b3 d b9 c0;exact⟨i,hT,J,h2,hI k i W O hi (fun b h=>R b ((hT b).2 (.inl h))) b3 (fun b h=>d b ((hT b).2 (.inl h))) b9 c0,by omega,(d _ ((hT _).2 (.inr (.inl rfl)))).trans hl,(d _ ((hT _).2 (.inr (.inr rfl)))).trans hd⟩)
  (by
   rintro k T W O⟨i,hT,J,h2,hz,c,hi,hl,hd⟩ R b3 d b9 c0;exact⟨i,hT,J,h2,by omega,c,hIx c k i W O hi (fun b h=>R b ((hT b).2 (.inl h))) b3 (fun b h=>d b ((hT b).2 (.inl h))) b9 c0,(d _ ((hT _).2 (.inr (.inl rfl)))).trans hl,(d _ ((hT _).2 (.inr (.inr rfl)))).trans hd⟩)
  (by
   rintro b(h|rfl|rfl) <;> rw[b1]
   ·have:=b2 b h;omega
   ·omega
   ·omega)
  (fun b h=>by rw[b1];have:=H b h;omega)
  (by
   rintro b(h|rfl|rfl) hm
   ·exact hSM b h hm
   ·have:=H _ hm;omega
   ·have:=H _ hm;omega)
  (hgv.1 0 w Z hQ hM (by rw[b1];omega) (fun b d=>b7 b (H b d)))
  ⟨S,fun _=>Iff.rfl,fun h=>by have:=b2 _ h;omega,fun h=>by have:=b2 _ h;omega,hI 0 S w Z h0 hS (by rw[b1];omega) (fun b d=>b7 b (b2 b d)) (fun b a1 e m d=>(b7 b (by have:=aC d;omega)).trans d) ⟨a2.os,a2.tape,a2.output⟩,by omega,c8,d0⟩
  (by
   rintro k hk T L R a4⟨i,hT,u,B,hi,hz,hl,hd⟩;have b3:=a4.size;have d1:D+1<L.heap.size:=(by omega);have hy:=run_yield (P:=P) (args:=encs xs[k]) hl (by rw[j];exact hps _);rw[j]at hy;refine .inr ⟨D+1,fn,_,assign,body,rfl,hy,roundIn_of_wpIn trivial (hassign _ xs[k] L _ ⟨_,run_beginRound hl (by rw[j]),?_⟩)⟩;obtain⟨s,U⟩:=ag (L.putObj (D+1) (.loop { r .ready none with state:=.busy }));rw[U];have d2:s.heap.size=L.heap.size:=(by rw[<-U];simp);have b4:s.heap[D+1]?=some (.loop { r .ready none with state:=.busy }):=(by rw[<-U];exact World.putObj_heap_same d1);have d3:s.heap[D]?=some (.deferred (some [])):=(by rw[<-U];exact(yx (by omega)).trans hd);have c5:∀b,b≠D+1->s.heap[b]?=L.heap[b]?:=(fun b d=>by rw[<-U];exact yx d);have z:ie i L:=(fun b h=>R b ((hT b).2 (.inl h)));have d4:I k i s:=hI k i L s hi z (by omega) (fun b h=>c5 b (fun e=>u (e▸h))) (fun b a1 e m d=>(c5 b (fun e'=>by rw[e',hl]at d;cases d)).trans d) (by rw[<-U];exact⟨rfl,rfl,rfl⟩)
   refine wpIn_mono (hbody (D+1) k hk i s (fun b h=>by rw[d2];exact z b h) (by
    have:Chg (fun b=>S b∨Mm b) w L:=a2.trans a4 (fun _ _ h=>.inl h) (fun b d h=>by
     rcases h with (h|h|h) | h
     ·exact .inl h
     ·omega
     ·omega
     ·exact .inr h)
    rw[<-U];exact this.putObj (fun h=>by omega) _) d4) ?_
   have E:Chg T L s:=by rw[<-U];exact(Chg.refl T L).putObj (fun _=>(hT _).2 (.inr (.inl rfl))) _
   have c1:∀(G:Option Code) (N:Nat->Prop) (W3:World),Grows i N s->ie N W3->Chg i s W3->∃W4,
     (Instr.endRound (D+1) G).run P W3=.ok (.bool G.isNone) W4/\W4.heap.size=W3.heap.size/\(∀b,b≠D+1->W4.heap[b]?=W3.heap[b]?)/\¬ N (D+1)/\¬ N D/\Grows T (fun b=>N b∨b=D+1∨b=D) L/\ie (fun b=>N b∨b=D+1∨b=D) W4/\Chg T L W4/\D+2<=W4.heap.size/\W4.heap[D+1]?=some (.loop (r (if G.isNone then .ready else .done) G))/\W4.heap[D]?=some (.deferred (some [])):=fun G N W3 A q f=>by
    have e2:=f.size;have d5:W3.heap[D+1]?=some (.loop { r .ready none with state:=.busy }):=(f.block _ (by omega) u).trans b4;have d6:W3.heap[D]?=some (.deferred (some [])):=(f.block _ (by omega) B).trans d3
    have F:¬ N (D+1):=fun h=>by
     rcases A _ h with J|J
     ·exact u J
     ·omega
    have Y:¬ N D:=fun h=>by
     rcases A _ h with J|J
     ·exact B J
     ·omega
    have d7:=run_endRound (P:=P) G d5;refine⟨_,d7,by simp,fun b d=>yx d,F,Y,?_,?_,?_,by simp;omega,?_,(yx (by omega)).trans d6⟩
    ·rintro b(h|h|h)
     ·rcases A b h with J|J
      ·exact .inl ((hT b).2 (.inl J))
      ·exact .inr (by omega)
     ·exact .inl ((hT b).2 (.inr (.inl h)))
     ·exact .inl ((hT b).2 (.inr (.inr h)))
    ·rintro b(h|h|h)
     ·have:=q b h;simpa using this
     ·simp;omega
     ·simp;omega
    ·refine(E.trans f (fun _ _ h=>h) (fun b _ h=>(hT b).2 (.inl h))).putObj (fun _=>(hT _).2 (.inr (.inl rfl))) _
    ·rw[World.putObj_heap_same (by omega),j]
   rintro e a3 W3 hp;cases e with
   | normal =>
    obtain⟨N,A,q,f,a5⟩:=hp;obtain⟨W4,hr,c6,V,F,Y,a6,a7,y,a8,a9,b0⟩:=c1 none N W3 A q f;exact⟨_,_,hr,_,a6,a7,y,.inl ⟨rfl,N,fun _=>Iff.rfl,F,Y,hI _ _ _ _ a5 q (by omega) (fun b h=>V b (fun e=>F (e▸h))) (fun b a1 e m d=>(V b (fun e'=>by rw[e',(f.block _ (by omega) u).trans b4]at d;cases d)).trans d) ⟨y.os.trans (f.os.trans E.os).symm,y.tape.trans (f.tape.trans E.tape).symm,y.output.trans (f.output.trans E.output).symm⟩,a8,a9,b0⟩⟩
   | ret =>
    obtain⟨N,A,q,f,a5⟩:=hp;obtain⟨W4,hr,c6,V,F,Y,a6,a7,y,a8,a9,b0⟩:=c1 (some .ret) N W3 A q f;exact⟨_,_,hr,_,a6,a7,y,.inr ⟨rfl,N,fun _=>Iff.rfl,F,Y,a8,_,hIx _ _ _ _ _ a5 q (by omega) (fun b h=>V b (fun e=>F (e▸h))) (fun b a1 e m d=>(V b (fun e'=>by rw[e',(f.block _ (by omega) u).trans b4]at d;cases d)).trans d) ⟨y.os.trans (f.os.trans E.os).symm,y.tape.trans (f.tape.trans E.tape).symm,y.output.trans (f.output.trans E.output).symm⟩,a9,b0⟩⟩
   | exit id =>
    obtain⟨N,A,q,f,a5⟩:=hp;obtain⟨W4,hr,c6,V,F,Y,a6,a7,y,a8,a9,b0⟩:=c1 (some (.exit id)) N W3 A q f;exact⟨_,_,hr,_,a6,a7,y,.inr ⟨rfl,N,fun _=>Iff.rfl,F,Y,a8,_,hIx _ _ _ _ _ a5 q (by omega) (fun b h=>V b (fun e=>F (e▸h))) (fun b a1 e m d=>(V b (fun e'=>by rw[e',(f.block _ (by omega) u).trans b4]at d;cases d)).trans d) ⟨y.os.trans (f.os.trans E.os).symm,y.tape.trans (f.tape.trans E.tape).symm,y.output.trans (f.output.trans E.output).symm⟩,a9,b0⟩⟩
   | goto t=>exact hp.elim
   | panic ch=>exact hp.elim
   | outgrown=>exact hp.elim)
 have e3:a.eval g=sv:=hg
 have c4:∀e s,(∃v X,e=Ending.returned v/\Grows (fun b=>S b∨b=D+1∨b=D) X Z/\ie X s/\Chg (fun b=>(S b∨b=D+1∨b=D)∨Mm b) Z s/\(((∃i,(∀b,X b↔i b∨b=D+1∨b=D)/\¬ i (D+1)/\¬ i D/\I xs.length i s/\D+2<=s.heap.size/\s.heap[D+1]?=some (.loop (r .ready none))/\s.heap[D]?=some (.deferred (some [])))/\Qi xs.length s) ∨
    ∃k,0<k/\k<=xs.length/\(∃i,(∀b,X b↔i b∨b=D+1∨b=D)/\¬ i (D+1)/\¬ i D/\D+2<=s.heap.size/\∃c,Ix c k i s/\s.heap[D+1]?=some (.loop (r .done (some c)))/\s.heap[D]?=some (.deferred (some [])))/\Qi k s)) ->
   rangePost Fence.wide n P (D+1) Q { a with defers:=[jm D]++a.defers } e s:=by
  rintro e s⟨v,X,rfl,A,R,f,c7⟩
  have b5:∀i:Nat->Prop,(∀b,X b↔i b∨b=D+1∨b=D)->¬ i (D+1)->¬ i D->Grows S i w:=fun i hT u B b d=>by
   rcases A b ((hT b).2 (.inl d))with (J|J|J) | J
   ·exact .inl J
   ·exact absurd (J▸d) u
   ·exact absurd (J▸d) B
   ·exact .inr (by omega)
  have b6:∀o:Obj,Chg (fun b=>S b∨Mm b) w (s.putObj (D+1) o):=fun o =>
   ((a2.trans f (T:=fun b=>S b∨Mm b) (fun _ _ h=>.inl h) (fun b d h=>by
    rcases h with (h|h|h) | h
    ·exact .inl h
    ·omega
    ·omega
    ·exact .inr h)).putObj (fun h=>by omega) o)
  rcases c7 with ⟨⟨i,hT,u,B,hi,hz,hl,hd⟩,hq⟩ | ⟨k,d8,hk,⟨i,hT,u,B,hz,c,hi,hl,hd⟩,hq⟩
  ·have z:ie i s:=(fun b h=>R b ((hT b).2 (.inl h)));refine⟨none,_,by have:=run_endLoop (P:=P) hl (by rw[j];simp);rw[j]at this;exact this,?_⟩
   have:=hdone i (s.putObj (D+1) (.loop { r .ready none with state:=.exhausted })) (b5 i hT u B) (fun b h=>by simpa using z b h) (b6 _)
    (hI _ _ _ _ hi z (by simp) (fun b h=>yx (fun e=>u (e▸h))) (fun b a1 e m d=>(yx (fun e'=>by rw[e',hl]at d;cases d)).trans d) ⟨rfl,rfl,rfl⟩)
    (hgv.1 _ _ _ hq (fun b h=>by have:=H b h;omega) (by simp) (fun b h=>yx (by have:=H b h;omega)))
    (by rw[hD];exact(yx (by omega)).trans hd) (by rw[hD];exact B)
   rw[hD,j]at this;exact this
  ·have z:ie i s:=(fun b h=>R b ((hT b).2 (.inl h)));refine⟨some c,_,by have:=run_endLoop (P:=P) hl (by rw[j];simp);rw[j]at this;exact this,?_⟩
   have:=hstop c k i (s.putObj (D+1) (.loop { r .done (some c)with state:=.exhausted })) d8 hk (b5 i hT u B) (fun b h=>by simpa using z b h) (b6 _)
    (hIx _ _ _ _ _ hi z (by simp) (fun b h=>yx (fun e=>u (e▸h))) (fun b a1 e m d=>(yx (fun e'=>by rw[e',hl]at d;cases d)).trans d) ⟨rfl,rfl,rfl⟩)
    (hgv.1 _ _ _ hq (fun b h=>by have:=H b h;omega) (by simp) (fun b h=>yx (by have:=H b h;omega)))
    (by rw[hD];exact(yx (by omega)).trans hd) (by rw[hD];exact B)
   rw[hD,j]at this;exact this
 rcases b8 with ⟨gf,lb,rfl,he,hc⟩ | ⟨l',_,_,_,_,rfl,e4,e5⟩
 ·refine⟨D+1,[jm D],Z,{ target:=.fn (.func gf) lb,args:=#[.func (.yield (D+1)) #[] #[]] },Z,gf,
   #[.func (.yield (D+1)) #[] #[]]++lb,Z,?_,?_,fun _ _=>trivial,?_,fun h=>by simp[Fence.wide]at h,?_⟩
  ·rw[<-a0,j,<-hD];exact run_enterLoop_outer _ _ _ _ _
  ·simp only[resolve,hg];simp[go_sem]
  ·simp[invoke,go_sem,he]
  exact callsIn_wide.2 (hc.mono c4)

 obtain⟨g',e6,hh⟩:=hgv.2.1;cases hh
attribute [local go_sem] Oper.semAt_some
attribute [local go_sem] fV fW eD bT
structure Came (J:Nat->(Nat->Prop)->World->Prop) (S:Nat->Prop) (W:World) (k:Nat) (S1:Nat->Prop) (W1:World):Prop where
 j:J k S1 W1
 th:ie S1 W1
 grows:Grows S S1 W
 chg:Chg S W W1
theorem Came.next{J:Nat->(Nat->Prop)->World->Prop}{S S1 S2:Nat->Prop}{W W1 W2:World}{k:Nat}(h:Came J S W k S1 W1){J':Nat->(Nat->Prop)->World->Prop}{k':Nat}(hg:Grows S1 S2 W1)(hi:ie S2 W2)(hc:Chg S1 W1 W2)(hj:J' k' S2 W2):Came J' S W k' S2 W2:=
 ⟨hj,hi,h.grows.trans hg h.chg.size,h.chg.trans hc (fun _ _ x=>x) (fun b a x=>(h.grows b x).resolve_right (by omega))⟩
theorem Came.alloc{J:Nat->(Nat->Prop)->World->Prop}{S S1:Nat->Prop}{W W1:World}{k:Nat}(h:Came J S W k S1 W1)(hJ:Loc (J k))(o:Obj):Came J S W k S1 (W1.alloc o)/\¬ S1 W1.heap.size:=
 ⟨⟨hJ S1 W1 _ h.j h.th (by simp) (fun b a=>wi _ _ _ (h.th b a)) (fun b c e m a=>(wi _ _ _ (aC a)).trans a) ⟨rfl,rfl,rfl⟩,h.th.later (by simp),h.grows,h.chg.alloc o⟩,fun a=>ub _ (h.th _ a)⟩
theorem jU(c:Nat){la:List R2}{pa:Option Addr}{ca:Nat}(ha:Nrm la)(yv:Value)(J Jx:Nat->(Nat->Prop)->World->Prop)(S:Nat->Prop)(W:World)(hJ:∀k,Loc (J k))(hS:ie S W)(hc:W.cell? ⟨c,0,none⟩=some (.slice pa la.length ca))(hv:Mv W (.slice pa la.length ca) la)(hbS:∀g,pa=some ⟨g,0,none⟩->¬ S g)(h0:J 0 S W)(hY:∀k (hk:k<(els la).length) q W1,ie q W1->Chg (fun b=>S b∨False) W W1->J k q W1 -> lf prog yv (enc1 (els la)[k]) W1 fun e I=>∃l,Grows q l W1/\ie l I/\Chg q W1 I/\((e=.returned (.bool true)/\J (k+1) l I)∨(e=.returned (.bool false)/\Jx (k+1) l I))):Calls prog 119 #[yv,.pointer (some ⟨c,0,none⟩)] W fun e W'=>∃v,e=.returned v/\((∃S',Came J S W (els la).length S' W')∨∃k S',0<k/\k<=(els la).length/\Came Jx S W k S' W'):=by
 obtain⟨na,z⟩:=ag la.length;have L:=aa (ab hv (ab z (ab ha hbS)));have HY:=aa hY;have a3:=cT ha;have HJ:=aa hJ;rw[z]at hc a3;clear hv ha hbS z hY hJ;refine(callsIn_wide (n:=0)).1 ?_;refine callsIn_of_wp func119 rfl trivial ?_ rfl;simp only[ntmps119,List.size_toArray,xe,vp,Nat.reduceAdd,Nat.reduceSub,Array.replicate_succ,Array.replicate_zero,List.push_toArray,List.append_toArray,uh,ui]
 gi_wp2
 gi_loopw [9] (fun iv wr=>∃(j:Nat) (q:Nat->Prop),j<=na/\iv=.int .i64 (j:Int)/\Came J S W (els (la.take j)).length q wr) (fun iv _=>na-(intOf iv).toNat)
 case atStart=>exact⟨0,S,zh _,rfl,⟨h0,hS,.refl _ _,.refl _ _⟩⟩
 obtain⟨j,q,hj,rfl,i⟩:=hrel;by_cases a4:j<na
 ·have A:j<la.length:=(by rw[L.2.1];exact a4);obtain⟨g,rfl,hg,Z,a1,a2⟩:=L.1.run A;have B:=L.2.2.2 g rfl;have Z:=(i.chg.cell (p:=⟨g,j*3,none⟩) hg B).trans Z;have a1:=(i.chg.cell (p:=⟨g,j*3+1,none⟩) hg B).trans a1;have a2:=(i.chg.cell (p:=⟨g,j*3+2,none⟩) hg B).trans a2;have s:∀d:Nat,(d:Int)<la[j].2-la[j].1->(els la)[(els (la.take j)).length+d]?=some (la[j].1+(d:Int)):=(fun d hd=>CM A hd);have m:=L.2.2.1.2 la[j] (z8 _);have a:(els (la.take (j+1))).length=(els (la.take j)).length+(la[j].2-la[j].1).toNat:=(by rw[yp A,dT,lP,y8,fZ]);obtain⟨r,hr⟩:=ag (la[j]);simp only[hr]at Z a1 s m a;obtain⟨f,t⟩:=r;obtain⟨y,M⟩:=ag ((els (la.take j)).length);simp only[M]at a2 i a s;have HA:=aa (ab s a);obtain⟨N,O⟩:=i.alloc (HJ.out y) (.cells #[.int .i64 f,.int .i64 t,.int .i64 (y:Int)] 146);have a6:0<=f:=m.1;have a7:f<t:=m.2.1;have a8:t<=65536:=m.2.2;have P:=z7 wr (.cells #[.int .i64 f,.int .i64 t,.int .i64 (y:Int)] 146);obtain⟨rb,Q⟩:=ag wr.heap.size;have H:=aa (ab N (ab O P));rw[Q]at H;clear M hr s a m N O P i hc
  gi_wp2
  gi_loopw [5] (fun iv w=>∃(d:Nat) (l:Nat->Prop),(d:Int)<=t-f/\iv=.int .i64 (f+(d:Int))/\Came J S W (y+d) l w/\¬ l rb/\w.heap[rb]?=some (.cells #[.int .i64 f,.int .i64 t,.int .i64 (y:Int)] 146)) (fun iv _=>(t-intOf iv).toNat)
  case atStart=>exact⟨0,q,by omega,by simp,H.1,H.2.1,H.2.2⟩
  clear Z a1 a2;obtain⟨d,l,hd,rfl,i,hn,hx⟩:=hrel;have x1:=aA hx 1;have a5:=aC hx;have u:=aa (ab i (ab hn hx));clear i hn hx;by_cases R:(d:Int)<t-f
  ·obtain⟨U,V⟩:=List.getElem?_eq_some_iff.1 (HA.1 d R);have E:=HY.out (y+d) U l wr u.1.th (u.1.chg.mono fun _ _ x=>.inl x) u.1.j;rw[V]at E;have X:f+(d:Int)<t:=(by omega);clear U V
   gi_wp2_with ((with_reducible refine fM ?_ ?_ yv [.int .i64 (f+(d:Int))] ?_ ?_ ?_);rfl;rfl;rfl;rfl;refine E.mono ?_;clear E;rintro e I⟨S3,F,Y,o,(⟨rfl,G⟩ | ⟨rfl,G⟩)⟩ <;> refine⟨_,rfl,?_⟩)
   ·go_roundw
    case rel=>exact⟨d+1,S3,by omega,by congr 1 <;> omega,u.1.next F Y o G,fun h=>(F rb h).elim u.2.1 (fun h=>by omega),(o.block rb a5 u.2.1).trans u.2.2⟩
    simp[intOf];omega
   refine ya (results_none rfl _ _ _) rfl ?_
   exact⟨_,rfl,.inr ⟨y+d+1,S3,by omega,by
    have:=(List.getElem?_eq_some_iff.1 (HA.1 d R)).1
    omega,u.1.next F Y o G⟩⟩
  have X:¬ f+(d:Int)<t:=by omega
  gi_wp2
  go_roundw
  case rel=>exact⟨j+1,l,by omega,by simp,by
   rw[HA.2];have e:(t-f).toNat=d:=(by omega);show Came J S W (y+(t-f).toNat) l wr;rw[e];exact u.1⟩
  simp[intOf];omega
 have e:els (la.take j)=els la:=(by rw[yy (by rw[L.2.1];omega)]);rw[e]at i;have H:=aa i;clear i e hc
 gi_wp2
 go_end0
 exact⟨_,rfl,.inl ⟨q,H.out⟩⟩
theorem my(c:Nat){la:List R2}{va:Value}(ha:Nrm la)(W0:World)(hv0:Mv W0 va la):Gives prog (.func (.func 119) #[] #[.pointer (some ⟨c,0,none⟩)]) enc1 (els la) (fun b=>b=c∨va.ownBlock=some b) (fun _=>False) (fun _ W=>Cell W c va/\Mv W va la):=by
 obtain⟨l,m,rfl,_,_⟩:=hv0.slice;refine⟨fun k W d⟨s,t⟩ _ _ f=>⟨s.of (f c (.inl rfl)),ac.of t (fun b h=>f b (.inr h))⟩,⟨119,_,rfl⟩,fun _ x=>x.elim,?_⟩;rintro u w J y S W z A B p a⟨q,r⟩ E F;refine .inl ⟨119,_,rfl,enters_of func119 (by kernel_rfl) rfl,?_⟩;have G:=jU c (pa:=l) (ca:=m) ha (.func u #[] w) J y S W z B q.1 r (fun g H I=>a g I (.inr (by subst H;rfl))) E F;refine G.mono ?_
 have i:∀d,Chg S W d->Cell d c (.slice l la.length m)/\Mv d (.slice l la.length m) la:=fun d h =>
  ⟨q.of (h.block c (p c (.inl rfl)) (fun x=>a c x (.inl rfl))),ac.of r (fun b f=>h.block b (p b (.inr f)) (fun x=>a b x (.inr f)))⟩
 rintro e d⟨v,rfl,(⟨n,h⟩ | ⟨k,n,o,L,h⟩)⟩
 ·exact⟨v,n,rfl,h.grows,h.th,h.chg.mono (fun _ _ x=>.inl x),.inl ⟨h.j,i _ h.chg⟩⟩
 exact⟨v,n,rfl,h.grows,h.th,h.chg.mono (fun _ _ x=>.inl x),.inr ⟨k,o,L,h.j,i _ h.chg⟩⟩
end Go.Proofs.YthlccadnojnkaaaGreat.Kc
namespace Go.Proofs.YthlccadnojnkaaaGreat
open Go.Proofs.Tryz
open Go Go.RowKit Go.Shelf Go.Proofs
attribute [local go_sem] Oper.semAt_some
attribute [local go_sem] fV fW eD bT
theorem Ex{l:List R2}{P:Int->Bool}{xs:List Int}(hl:Nrm l)(hP:Is l P)(hs:xs.Pairwise (·<·))(h:∀x,P x=true↔x∈xs):els l=xs:=
 zG (zH hl) hs (fun x=>by rw[qR,hP x,h x])
abbrev L3:List R2:=[(1,3),(5,6)]
def p3(x:Int):Bool:=decide (x=1∨x=2∨x=5)
structure Bh (W:World) (v:Value) (mb nb g D:Nat) (x:World):Prop where
 mv:Mv x v L3
 kb:x.heap[mb]?=some (.cells #[v] 102)
 kn:x.cell? ⟨nb,0,none⟩=some (.int .i64 3)
 r0:x.cell? ⟨g,0,none⟩=some (.int .i64 1)
 r1:x.cell? ⟨g,1,none⟩=some (.int .i64 3)
 kd:x.heap[D]?=some (.deferred (some []))
 bel:Below W.heap.size W x
