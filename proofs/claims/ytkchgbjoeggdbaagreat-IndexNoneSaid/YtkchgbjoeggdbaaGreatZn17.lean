import Derived.Test.YtkchgbjoeggdbaaGreatZn15
import Derived.Test.YtkchgbjoeggdbaaGreatZn16
import Derived.Sort.OwnSortedInts
set_option maxHeartbeats 2000000
set_option maxRecDepth 100000
namespace Go.Proofs.YtkchgbjoeggdbaaGreat
open Go.Proofs.Tryz
open Go Go.RowKit Go.Proofs
abbrev iv(x:Int):Value:=.int .i64 x
def Rd(W:World)(p:Option Addr)(xs:List Int):Prop:=∀j (_:j<xs.length),∃b off,p=some ⟨b,off,none⟩/\b<W.heap.size/\W.cell? ⟨b,off+j,none⟩=some (.int .i64 (xs[j]))
theorem Rd.later{W W':World}{p:Option Addr}{xs:List Int}(h:Rd W p xs)(hb:Below W.heap.size W W'):Rd W' p xs:=fun j d=>by
 obtain⟨b,a,e,c,f⟩:=h j d;exact⟨b,a,e,z9 c hb.size,(hb.cell (p:=⟨b,a+j,none⟩) c).trans f⟩
abbrev Ro(W:World)(base:Nat)(v:Value)(xs:List Int):Prop:=ac W base 3 1 v xs.length (xs.map iv)
theorem Ro.rd{W:World}{base cap:Nat}{p:Option Addr}{xs:List Int}(h:Ro W base (.slice p xs.length cap) xs):Rd W p xs:=fun j b=>by
 obtain⟨g,a,e,_,_⟩:=ac.slice h (by omega);cases e;refine⟨g,0,rfl,(ac.lt h g rfl).2,?_⟩;rw[xj];exact ac.cell h (by rw[xe,z6 b];rfl)
theorem BE:(prog.info? 3).map (fun i=>(i.zero,i.size,i.bytes))=some (some (.int .i64 0),1,8):=by kernel_rfl
theorem kW(ty:TypeId)(hty:prog.underlying ty=some (.slice 3))(y:World)(base:Nat){v:Value}{n:Nat}{xs:List Int}(hn:xs.length=n)(hr:Ro y base v xs)(hm:n+1<=1000000)(hb:base<=y.heap.size)(k:Int):∃g a b,(Builtin.append_ #[ty,ty] ty #[v,.slice (some ⟨y.heap.size,0,none⟩) 1 1]).run prog (y.alloc (.cells #[.int .i64 k] 3))=.ok (.slice (some ⟨g,0,none⟩) (n+1) a) b/\Ro b base (.slice (some ⟨g,0,none⟩) (n+1) a) (xs++[k])/\y.grownBy b v.ownBlock/\(v.ownBlock=some g∨y.heap.size<=g):=by
 subst hn;obtain⟨l,d,e,f,i⟩:=info_parts BE;have m:=z7 y (.cells #[.int .i64 k] 3)
 obtain⟨g,a,b,o,p,c,r⟩:=aS (P:=prog) (y.alloc (.cells #[.int .i64 k] 3)) base ty ty 3 l _ 1 8 hty d e f i rfl (by decide) (ac.later hr (aD y _)) ⟨y.heap.size,0,none⟩ 1 1 [.int .i64 k] rfl
  (by exact World.news_of_block m) (by simp[Value.oneCell']) (by decide) (by unfold maxLen;omega) (by omega) (by rw[zm];omega)
 exact⟨g,a,b,o,by unfold Ro;rw[vw,y6];exact p,⟨c.os,c.tape,c.output,zx (by simp) c.size,fun q s j=>(c.block q (by simp;omega) j).trans ((aD y _).block q s)⟩,r.imp id (fun h=>by rw[zm]at h;omega)⟩
theorem fO{n base:Nat}{A B:World}{nv:Value}{e:TypeId}{sz m:Nat}{xs:List Value}(hr:ac A base e sz nv m xs)(hg:A.grownBy B nv.ownBlock)(hn:n<=base)(hs:n<=A.heap.size):Below n A B:=
 ⟨hg.os,hg.tape,hg.output,hg.size,fun q a=>hg.block q (by omega) (fun e=>by have:=(hr.lt q e.symm).1;omega)⟩
def sorted(xs:List Int):List Int:=xs.mergeSort fun x y=>decide (x<=y)
theorem dB(xs:List Int):(sorted xs).length=xs.length:=List.length_mergeSort _
theorem gE(xs:List Int)(x:Int):x∈sorted xs↔x∈xs:=List.mem_mergeSort
theorem lW(xs:List Int):(sorted xs).Pairwise (·<=·):=
 (List.pairwise_mergeSort (le:=fun x y:Int=>decide (x<=y)) (fun a b c d e=>by
  have d:a<=b:=wf d;have e:b<=c:=wf e;exact yy (by omega)) (fun a b=>by
  rcases Int.le_total a b with h|h
  ·simp[h]
  ·simp[h]) xs).imp (fun h=>wf h)
theorem C'{W:World}{base:Nat}{v:Value}{xs:List Int}(h:Ro W base v xs)(hl:xs.length<=1000000):Calls prog 67 #[v] W fun e d=>e=.returned (.tuple #[])/\Ro d base v (sorted xs)/\W.grownBy d v.ownBlock:=by
 rcases List.eq_nil_or_concat xs with rfl|⟨k,r,e⟩
 ·obtain⟨p,b,rfl,_,_⟩:=ac.isslice h;refine(Any.slices_Sort_int_none Tryz.laysSort p b W).mono ?_;rintro e d⟨rfl,rfl⟩;have e:sorted []=[]:=wg (by rw[dB];rfl);exact⟨rfl,by rw[e];exact h,⟨rfl,rfl,rfl,zo _,fun _ _ _=>rfl⟩⟩
 have c:0<xs.length:=(by rw[e,List.length_concat];omega);obtain⟨g,b,rfl,m,f⟩:=ac.slice h c;obtain⟨i,o,j,_,_,l,a⟩:=ac.form h;rw[Nat.mul_one]at a;refine(Gp g 0 b xs W (holds_of_blockI j a) (aB j) (by omega)).mono ?_;rintro e d⟨rfl,n,os,rfl⟩;refine⟨rfl,⟨by simp,.inr ⟨g,b,_,?_,o,heap_sortedI _ j,by rw[dB];exact m,f,by simpa [Sort.putCells]using l,?_⟩⟩,grownBy_sortedI _⟩
 ·rw[dB]
 rw[Nat.mul_one];exact take_putCellsI i (sorted xs) (by rw[dB];omega)
def qg(x:Int):Bool:=decide (0<=x/\x<65536)
def ry(xs:List Int)(x:Int):Bool:=decide (x∈xs)&&qg x
theorem EP(xs:List Int):Nrm (uh (sorted (xs.filter qg)))/\Is (uh (sorted (xs.filter qg))) (ry xs):=by
 have b:∀y∈sorted (xs.filter qg),0<=y/\y<65536:=fun y a=>by
  rw[gE,List.mem_filter]at a;exact wf a.2
 obtain⟨c,d,_⟩:=CH _ (lW (xs.filter qg)) b;refine⟨c,fun x=>?_⟩;rw[d,gE,List.mem_filter];unfold ry;rw[zy,xz]
theorem Ej{p:Option Addr}{xs:List Int}{n c:Nat}{W:World}(hn:xs.length=n)(hl:n<=100000)(hr:Rd W p xs):Calls prog 27 #[.slice p n c] W (IsMap (ry xs) W):=by
 have d:=aD W (.cells #[.slice none 0 0] 29);have u:=z7 W (.cells #[.slice none 0 0] 29);obtain⟨S,hS⟩:=ae W.heap.size;have N:(W.alloc (.cells #[.slice none 0 0] 29)).heap.size=S+1:=(by simp[hS]);obtain⟨X,O⟩:=ae (W.alloc (.cells #[.slice none 0 0] 29));rw[O]at d u N;rw[hS]at u;have k:=aa (ab d (ab u (ab N (ab hS hn))));have a8:=aa O;have HR:=aa (hr.later d);clear d u N hS O hr hn;go_enter func27,ntmps27
 go_upto_block 0 with fail
 rw[a8.out,k.2.2.2.1]
 go_cut [3]from 200 to 200 (fun ov w=>Ro w (S+1) ov (xs.filter qg)/\Below (S+1) X w)
 case first =>
  go_wp2_with fail;go_loopg [3,11] (n+1) (fun gh ov jv w=>∃(j:Nat) (z:List Int),jv=.int .i64 (j:Int)/\j<=n/\n+1<=j+gh/\z=(xs.take j).filter qg/\z.length<=j/\Ro w (S+1) ov z/\Below (S+1) X w)
  case atStart=>exact⟨0,[],rfl,zj _,by omega,by simp,zj _,ac.nil,zg _ _⟩
  obtain⟨j,z,rfl,hj,hg,Y,a9,B,E⟩:=hrel;obtain⟨m,A⟩:=ae z.length;obtain⟨pl,cl,rfl,hc,b0⟩:=ac.isslice B;rw[A]at hc a9 ⊢;have a:=aa (ab Y (ab B (ab E A)));clear Y B E A;by_cases P:j<n
  ·have Z:j<xs.length:=(by rw[k.2.2.2.2];exact P);have a0:Below X.heap.size X wr:=a.2.2.1.mono (by rw[k.2.2.1];exact zo _);obtain⟨b,a1,rfl,b5,c0⟩:=(HR.out.later a0) j Z;obtain⟨x,F⟩:=ae (xs[j]);rw[F]at c0;have HX:Hid (xs.take (j+1)=xs.take j++[x]):=aa (by rw[yi Z,F]);clear F a0;by_cases h0:0<=x
   ·by_cases h1:x<65536
    ·have Q:Ro wr (S+1) (.slice pl m cl) z:=(by rw[<-a.2.2.2];exact a.2.1);obtain⟨g,b4,w3,a2,r3,g3,o3⟩:=kW 40 underlying40 wr (S+1) a.2.2.2 Q (by omega) (by have:=a.2.2.1.size;rw[k.2.2.1]at this;exact this) x;have G:=aa (ab r3 (fO (n:=S+1) Q g3 (zo _) (by have:=a.2.2.1.size;rw[k.2.2.1]at this;exact this)));clear r3 g3 o3 Q;go_wp2_with (at_builtin;refine aT rfl (.tmp 21) (.tmp 23) 40 rfl rfl rfl a2 ?_);go_roundg (n-j)
     case measure=>omega
     exact⟨j+1,z++[x],by go_num,by omega,by omega,by rw[HX.out,List.filter_append,<-a.1,List.filter_cons_of_pos (show qg x=true from yy (by omega))];rfl,by rw[y6,a.2.2.2];simp;omega,G.1,a.2.2.1.trans G.2⟩
    go_wp2_with fail;go_roundg (n-j)
    case measure=>omega
    exact⟨j+1,z,by go_num,by omega,by omega,by rw[HX.out,List.filter_append,<-a.1,List.filter_cons_of_neg (by rw[show qg x=false from yp (by omega)];decide)];simp,by rw[a.2.2.2];omega,by rw[<-a.2.2.2];exact a.2.1,a.2.2.1⟩
   go_wp2_with fail;go_roundg (n-j)
   case measure=>omega
   exact⟨j+1,z,by go_num,by omega,by omega,by rw[HX.out,List.filter_append,<-a.1,List.filter_cons_of_neg (by rw[show qg x=false from yp (by omega)];decide)];simp,by rw[a.2.2.2];omega,by rw[<-a.2.2.2];exact a.2.1,a.2.2.1⟩
  go_wp2_with fail;go_meet;have e:xs.take j=xs:=yu (by rw[k.2.2.2.2];omega);have h:=a.1;rw[e]at h;rw[<-h,<-a.2.2.2];exact⟨a.2.1,a.2.2.1⟩
 obtain⟨B,E⟩:=hcut;obtain⟨h1,h2⟩:=EP xs;have H:(xs.filter qg).length<=n:=by rw[<-k.2.2.2.2];exact List.length_filter_le _ _
 have R:∀y∈sorted (xs.filter qg),0<=y/\y<65536:=fun y hy=>by
  rw[gE,List.mem_filter]at hy;exact wf hy.2
 have o:=lW (xs.filter qg);have q:=dB (xs.filter qg);have hs:=C' B (by omega);obtain⟨i,a3⟩:=ae (sorted (xs.filter qg));rw[a3]at h1 h2 R o q hs;rw[<-q]at H;obtain⟨m,A⟩:=ae i.length;obtain⟨pl,cl,rfl,hc,b0⟩:=ac.isslice B;rw[<-q,A]at hc hs ⊢;rw[A]at H;have r:=B;rw[<-q,A]at r;have a:=aa (ab h1 (ab h2 (ab R (ab o (ab A E)))));have HO:=aa r;clear h1 h2 R o A E B r q a3
 go_upto_block 2 with (go_at_call 67;(with_reducible refine hs.mono ?_);rintro e I⟨rfl,r1,g1⟩;clear hs;have d:=a.2.2.2.2.2.trans (fO HO.out g1 (zo _) (by have:=a.2.2.2.2.2.size;rw[k.2.2.1]at this;exact this));have H1:=aa (ab r1 d);clear r1 g1 d)
 have hM:=lV I;obtain⟨mb,l⟩:=ae I.heap.size;obtain⟨ws,s⟩:=ae (I.alloc (.cells #[.slice none 0 0] 29));have a4:Below mb I ws:=(by rw[<-s,<-l];exact aD I _);rw[s,l]at hM;rw[s,l];have b1:S+1<=mb:=(by have:=H1.2.size;rw[k.2.2.1,l]at this;exact this);have HM:=aa (ab hM (ab a4 (ab l s)))
 have b2:Hid (Rd I pl i):=aa (by
  have h:=H1.1;have e:i.length=m:=a.2.2.2.2.1;have h:Ro I (S+1) (.slice pl i.length cl) i:=(by unfold Ro at h ⊢;rw[e]at h ⊢;exact h);exact Ro.rd h)
 clear hM l s a4;go_wp2_with fail;go_loopg [30] (m+1) (fun gh jv w=>∃(j:Nat) (v:Value),jv=.int .i64 (j:Int)/\j<=m/\m+1<=j+gh/\Mk w mb v (uh (i.take j))/\Below mb I w)
 case atStart=>exact⟨0,_,rfl,zj _,by omega,HM.1,HM.2.1⟩
 obtain⟨j,v,rfl,hj,hg,a5,E⟩:=hrel;have G:=aa (ab a5 E);clear a5 E;by_cases P:j<m
 ·have a6:j<i.length:=(by rw[a.2.2.2.2.1];exact P);obtain⟨b,a1,rfl,b3,c0⟩:=b2.out j a6;have c0:=(G.2.cell (p:=⟨b,a1+j,none⟩) (by rw[<-HM.2.2.1];exact b3)).trans c0;obtain⟨x,F⟩:=ae (i[j]);rw[F]at c0;have HX:Hid (i.take (j+1)=i.take j++[x]):=aa (by rw[yi a6,F]);have R:=a.2.2.1 x (by rw[<-F];exact z8 _);have b6:x<65536:=R.2;have b7:0<=x:=R.1;have J:(i.take j).Pairwise (·<=·):=(a.2.2.2.1).sublist (List.take_sublist _ _);have L:=(CH (i.take j) J (fun y hy=>a.2.2.1 y (List.mem_of_mem_take hy))).1;have M:=cM (f:=x) (t:=x+1) L G.1;clear F R J L;go_wp2_with (go_at_call 68;refine M.mono ?_;rintro e x2⟨rfl,v1,k1,g1,o1⟩;clear M;have H2:=aa (ab k1 g1);clear k1 g1 o1);go_roundg (m-j)
  case measure=>omega
  exact⟨j+1,v1,by go_num,by omega,by omega,by rw[HX.out,rJ];exact H2.1,G.2.trans (G.1.below' H2.2)⟩
 have e:i.take j=i:=yu (by rw[a.2.2.2.2.1];omega);have V:=G.out;rw[e]at V;have U:Below (S+1) X wr:=H1.2.trans (V.2.mono b1);have z2:=(U.block S (IW S)).trans k.2.1;have z0:=aA z2 0;have zf:=zq wr S 0 _ _ z2;obtain⟨p1,n1,a7,rfl⟩:=V.1.slc;have m0:=V.1.1.1;have s0:=wi wr ⟨S,0,none⟩ (.slice p1 n1 a7) z0;have HE:=aa (qA V.1 (rb:=S) (by omega) a.1 a.2.1 (k.1.trans (U.mono (by rw[k.2.2.2.1];omega))) (show W.heap.size<=S by rw[k.2.2.2.1];exact zo _));clear e V U z2;go_wp2_with fail;refine y8 (v:=.agg #[.slice p1 n1 a7]) (by simp[results,results27,go_sem,s0]) rfl ?_;exact HE.out
