import Derived.Test.YtgbkmjnnlkgpnaaGreatZe46
import Derived.Test.YtgbkmjnnlkgpnaaGreatZe47
import Derived.Test.YtgbkmjnnlkgpnaaGreatZe44
import Derived.Test.YtgbkmjnnlkgpnaaGreatZe48
import Derived.Test.YtgbkmjnnlkgpnaaGreatZe38
set_option maxHeartbeats 8000000
set_option maxRecDepth 100000
namespace Go.Proofs.YtgbkmjnnlkgpnaaGreat
open Go Go.RowKit Go.Proofs Co Co.S
theorem aFC {A:List R1} {c j:Nat} (hj:j<A.length) (hc:c<A[j].2.length):(lA A c).getD j z3=A[j].2[c]:=by
 rw[getD_lt (by simpa [lA] using hj)];simp[lA,hc]
def isP (l:List T3) (j k:Nat):Bool:=decide ((l.getD j z3).1=2)&&(List.range k).all fun m=>decide (l.getD m z3≠l.getD j z3)
theorem aDR (l:List T3) (j:Nat):isP l j 0=decide ((l.getD j z3).1=2):=by simp[isP]
theorem aFD (l:List T3) (j:Nat):isP l j j=fY l j:=rfl
theorem aDS (l:List T3) (j k:Nat):isP l j (k+1)=(isP l j k&&decide (l.getD k z3≠l.getD j z3)):=by
 unfold isP;rw[List.range_succ,List.all_append];simp[Bool.and_assoc]
theorem aGN {l:List T3} {j k:Nat} (hk:k<=j) (h:isP l j k=false):fY l j=false:=by
 cases hf:fY l j with
 | false=>rfl
 | true =>
  obtain⟨h1,h2⟩:=fN.1 hf
  have:isP l j k=true:=by
   unfold isP;rw[Bool.and_eq_true,List.all_eq_true];exact⟨decide_eq_true h1,fun m hm=>decide_eq_true (h2 m (by have:=List.mem_range.1 hm;omega))⟩
  rw[this] at h;cases h
structure XA where
 gs:Nat
 cs:Nat
 go:Nat
 co:Nat
 pr:Option Addr
 cr:Nat
 pc:Option Addr
 kc:Nat
 pd:Option Addr
 kd:Nat
section
variable {W:World} {b:Nat} {ts:List T} {tt:List RT} {i:NI} {O:Nat->Nat} {t:Nat} {y:RT}
theorem DbN.nreads (h:DbN W b ts tt i O) (ht:t<ts.length) (hy:tt[t]?=some y) (h0:0<ts[t].cols.length):∃ x:XA,(∀ w,Below W.heap.size W w->w.cell? ⟨b,1,none⟩=some (.slice (some ⟨x.go,0,none⟩) ts.length x.co)/\w.cell? ⟨x.go,t,none⟩=some (.slice x.pr y.A.length x.cr)/\b<w.heap.size/\x.go<w.heap.size /\
   w.cell? ⟨b,0,none⟩=some (.slice (some ⟨x.gs,0,none⟩) ts.length x.cs)/\x.gs<w.heap.size/\w.cell? ⟨x.gs,t*4,none⟩=some (.string ts[t].nm)/\w.cell? ⟨x.gs,t*4+1,none⟩=some (.slice x.pc ts[t].cols.length x.kc)/\w.cell? ⟨x.gs,t*4+2,none⟩=some (.string ts[t].key)/\w.cell? ⟨x.gs,t*4+3,none⟩=some (.slice x.pd ts[t].deps.length x.kd)/\RdT w (.slice x.pc ts[t].cols.length x.kc) (.slice x.pd ts[t].deps.length x.kd) ts[t]) /\
  ∀ k (hk:k<y.A.length),∃ gr gv cv,x.pr=some ⟨gr,0,none⟩/\∀ w,Below W.heap.size W w->gr<w.heap.size/\w.cell? ⟨gr,k*2,none⟩=some (.int .i64 y.A[k].1)/\w.cell? ⟨gr,k*2+1,none⟩=some (.slice (some ⟨gv,0,none⟩) ts[t].cols.length cv)/\gv<w.heap.size/\InV TT w (.slice (some ⟨gv,0,none⟩) ts[t].cols.length cv) y.A[k].2/\y.A[k].2.length=ts[t].cols.length:=by
 obtain⟨⟨gs,cs,go,co,gn,cn,pc,kc,pd,kd⟩,_,_,_,_,_,_,hR⟩:=h.reads ht hy;have hx1:=h.ok ht hy;obtain⟨pr,cr,hrv,_,_⟩:=hx1.rows.isslice;refine⟨⟨gs,cs,go,co,pr,cr,pc,kc,pd,kd⟩,fun w hw=>?_,fun k hk=>?_⟩
 ·have k:=hR w hw;have o0:=k.o0;rw[hrv] at o0;exact⟨k.b1,o0,k.bl,k.ol,k.b0,k.sl,k.s0,k.s1,k.s2,k.s3,k.rt⟩
 have hkv:k<y.vs.length:=(by rw[hx1.n];exact hk);have hlk:=hx1.len _ (List.getElem_mem hk);have hvr:=hx1.vals k hk hkv;rw[hlk] at hvr;obtain⟨gv,cv,r5,_,_⟩:=hvr.slice (by omega);rw[r5] at hvr;obtain⟨gr,cr',r1,_,_⟩:=hx1.rows.slice (by omega);have hrr:=hx1.rows;rw[r1] at hrr;rw[hrv] at r1;cases r1;obtain⟨q1,q2⟩:=jN hx1.n hk;rw[r5] at q2;refine⟨gr,gv,cv,rfl,fun w hb=>?_⟩;have hrw:=hrr.later hb;have hvw:=hvr.later hb;exact⟨(HRow.lt hrw gr rfl).2,hrw.cell q1,hrw.cell q2,(HRow.lt hvw gv rfl).2,(InV.of_row hvw hlk).mono (fun _ _ _=>trivial),hlk⟩
theorem aDT (x y:T3):eqV x.1 x.2.1 x.2.2 y.1 y.2.1 y.2.2=decide (x=y):=by
 obtain⟨a,b,c⟩:=x;obtain⟨a',b',c'⟩:=y;unfold eqV
 simp
theorem zV (h:DbN W b ts tt i O) (ht:t<ts.length) (hy:tt[t]?=some y) (hl:y.A.length<=100000) (hnt:ts.length<=1000) (hcl:ts[t].cols.length<=1000) (hc0:0<ts[t].cols.length) {c:Nat} (hc:c<ts[t].cols.length) :
  Calls Tryz.prog 51 #[.pointer (some ⟨b,0,none⟩),.int .i64 (t:Int),.int .i64 (c:Int)] W fun e w'=>e=.returned (.int .i64 ((dI (lA y.A c) y.A.length).length:Int))/\Below W.heap.size W w':=by
 have hrx:=h.nreads ht hy hc0;obtain⟨nt,hnt'⟩:∃ n,ts.length=n:=⟨_,rfl⟩;obtain⟨A,hAe⟩:∃ A,y.A=A:=⟨_,rfl⟩;obtain⟨nc,hnc⟩:∃ n,ts[t].cols.length=n:=⟨_,rfl⟩;rw[hAe,hnt',hnc] at hrx;rw[hAe] at hl ⊢;obtain⟨n,hn⟩:∃ n,A.length=n:=⟨_,rfl⟩;obtain⟨l,hll⟩:∃ l,lA A c=l:=⟨_,rfl⟩;have hti:(t:Int)<(nt:Int):=(by omega);have hnti:(nt:Int)<=1000:=(by omega);rw[hnc] at hc hcl;have hn':(n:Int)<=100000:=(by omega);have hci:(c:Int)<(nc:Int):=(by omega);have hci':(nc:Int)<=1000:=(by omega);rw[hll,hn];cases n with
 | zero =>
  obtain⟨x,hr0,_⟩:=hrx;obtain⟨o1,o2,o3,o4,_⟩:=hr0 W (Below.refl _ _);obtain⟨gs,cs,g,c1,pr,cr,pc,kc,pd,kd⟩:=x;dsimp only at o1 o2 o3 o4;rw[hn] at o2;clear h hr0 hn hll hnt' hAe hy;go_enter Tryz.func51,Tryz.ntmps51;go_wp2_with fail;go_loopg [7,8] 1 (fun gh cv iv w=>cv=.int .i64 0/\iv=.int .i64 0/\w=W)
  case atStart=>exact⟨rfl,rfl,rfl⟩
  case round =>
   obtain⟨rfl,rfl,rfl⟩:=hrel;go_wp2_with fail;go_ret;exact⟨rfl,Below.refl _ _⟩
 | succ n0 =>
  obtain⟨⟨gs,cs,g,c1,pr,cr,pc,kc,pd,kd⟩,hr0,hr1⟩:=hrx;dsimp only at hr0 hr1;rw[hn] at hr0
  obtain⟨gr,rfl⟩:∃ gr,pr=some ⟨gr,0,none⟩:=by
   obtain⟨gr,_,_,e,_⟩:=hr1 0 (by omega);exact⟨gr,e⟩
  have hrd:∀ w,Below W.heap.size W w->(w.cell? ⟨b,1,none⟩=some (.slice (some ⟨g,0,none⟩) nt c1)/\w.cell? ⟨g,t,none⟩=some (.slice (some ⟨gr,0,none⟩) (n0+1) cr)/\b<w.heap.size/\g<w.heap.size/\gr<w.heap.size)/\∀ k,k<n0+1->∃ gv cv,w.cell? ⟨gr,k*2+1,none⟩=some (.slice (some ⟨gv,0,none⟩) nc cv) /\
    ∀ j,j<nc->w.cell? ⟨gv,j*3,none⟩=some (.int .i64 ((lA A j).getD k z3).1)/\w.cell? ⟨gv,j*3+1,none⟩=some (.int .i64 ((lA A j).getD k z3).2.1)/\w.cell? ⟨gv,j*3+2,none⟩=some (.string ((lA A j).getD k z3).2.2):=fun w hw=>by
   obtain⟨o1,o2,o3,o4,_⟩:=hr0 w hw;refine⟨⟨o1,o2,o3,o4,?_⟩,fun k hk=>?_⟩
   ·obtain⟨gr',_,_,e,hq⟩:=hr1 0 (by omega);cases e;exact (hq w hw).1
   ·obtain⟨gr',gv,cv,e,hq⟩:=hr1 k (by omega);cases e;obtain⟨q1,q2,q3,q4,q5,q6⟩:=hq w hw;refine⟨gv,cv,q3,fun j hj=>?_⟩;have hkA:k<A.length:=(by omega);rw[aFC hkA (by rw[q6];exact hj)];obtain⟨b',o',e,_,r1,r2,r3⟩:=InV.val q5 (j:=j) (by rw[q6];exact hj);cases e;rw[Nat.zero_add] at r1 r2 r3;exact⟨r1,r2,r3⟩
  obtain⟨n,hnn⟩:∃ n,n0+1=n:=⟨_,rfl⟩;rw[hnn] at hrd hn' hn ⊢;have HRD:=qAq hrd;have HN:=qAq (qBq hn (qBq hnc (qBq hll hc)));clear h hr0 hr1 hrd hn hnc hll hc hl hcl hc0 hnn hnt hnt' hAe hy;go_enter Tryz.func51,Tryz.ntmps51;go_wp2_with fail;go_loopg [7,8] (n+1) (fun gh cv iv w=>∃ (j:Nat),iv=.int .i64 (j:Int)/\j<=n/\n+1<=j+gh/\cv=.int .i64 ((dI l j).length:Int)/\Below W.heap.size W w)
  case atStart=>exact⟨0,rfl,Nat.zero_le _,by omega,rfl,Below.refl _ _⟩
  case round =>
   obtain⟨j,rfl,hj,hg,rfl,hB⟩:=hrel;have hcnt:(dI l j).length<=j:=Nat.le_trans (List.length_filter_le _ _) (by rw[List.length_range];exact Nat.le_refl _);obtain⟨⟨x1,x2,xl,xg,xr⟩,D2⟩:=HRD.out wr hB;by_cases hlt:j<n
   ·have hji:(j:Int)<(n:Int):=(by omega);obtain⟨gv,cv,y0,y1⟩:=D2 j hlt;obtain⟨y1,y2,y3⟩:=y1 c (by omega);rw[HN.out.2.2.1] at y1 y2 y3;obtain⟨u,hu⟩:∃ u,l.getD j z3=u:=⟨_,rfl⟩;rw[hu] at y1 y2 y3;obtain⟨m,hm⟩:∃ m,(dI l j).length=m:=⟨_,rfl⟩;have hmi:(m:Int)<=100000:=(by omega);rw[hm];have HB:=qAq (qBq hB (qBq hu hm));clear D2 hB hu hm hcnt;go_upto_region 6 with fail;have hV:=qOq wr (.cells #[.int .i64 u.1,.int .i64 u.2.1,.string u.2.2] 42);have hbV:=aC wr (.cells #[.int .i64 u.1,.int .i64 u.2.1,.string u.2.2] 42);obtain⟨w1,hw1⟩:∃ w1,wr.alloc (.cells #[.int .i64 u.1,.int .i64 u.2.1,.string u.2.2] 42)=w1:=⟨_,rfl⟩;obtain⟨V,hVe⟩:∃ V,wr.heap.size=V:=⟨_,rfl⟩;rw[hw1] at hV hbV ⊢;rw[hVe] at hV ⊢;have hb1:=aB HB.out.1 hbV;have z0:=aA hV 0;have H1:=qAq (qBq hV hb1)
    have hu2:isP l j 0=(u.1==2):=by
     rw[aDR,HB.out.2.1,Bool.eq_iff_iff];simp
    clear hV hbV hw1 hVe hb1 x1 x2 xl xg xr y0 y1 y2 y3;go_upto_region 7 with fail;rw[<- hu2];clear z0 hu2
    go_upto_block 2 with fail
    go_cut [10] from 300 to 300 (fun gv wx=>gv=.bool (fY l j)/\Below W.heap.size W wx)
    case first =>
     go_wp2_with fail;go_loopg [10,11] (j+1) (fun gh gv kv w=>∃ (k:Nat),kv=.int .i64 (k:Int)/\k<=j/\j+1<=k+gh/\gv=.bool (isP l j k)/\Below w1.heap.size w1 w)
     case atStart=>exact⟨0,rfl,Nat.zero_le _,by omega,rfl,Below.refl _ _⟩
     case round =>
      obtain⟨k,rfl,hkj,hgk,rfl,hBk⟩:=hrel;cases hp:isP l j k
      ·have HBk:=qAq (qBq (aB H1.out.2 hBk) (aGN hkj hp));by_cases hkl:(k:Int)<(j:Int)
       all_goals
        clear hBk hp;go_wp2_with fail;go_meet;exact⟨by rw[HBk.out.2],HBk.out.1⟩
      ·by_cases hlk:k<j
       ·have hkl:(k:Int)<(j:Int):=(by omega);have hkn:(k:Int)<(n:Int):=(by omega);have hkn':k<n:=(by omega);obtain⟨⟨e1,e2,e3,e4,e5⟩,D2⟩:=HRD.out wr (aB H1.out.2 hBk);obtain⟨gv',cv',y0,y1⟩:=D2 k hkn';obtain⟨y1,y2,y3⟩:=y1 c (by omega);rw[HN.out.2.2.1] at y1 y2 y3;obtain⟨x,hx⟩:∃ x,l.getD k z3=x:=⟨_,rfl⟩;rw[hx] at y1 y2 y3;have hVk:=aD hBk H1.out.1
        have HC:Hid (∀ w,Below wr.heap.size wr w->(w.cell? ⟨b,1,none⟩=some (.slice (some ⟨g,0,none⟩) nt c1)/\w.cell? ⟨g,t,none⟩=some (.slice (some ⟨gr,0,none⟩) n cr)/\w.cell? ⟨gr,k*2+1,none⟩=some (.slice (some ⟨gv',0,none⟩) nc cv'))/\(b<w.heap.size/\gr<w.heap.size) /\
          (w.cell? ⟨gv',c*3,none⟩=some (.int .i64 x.1)/\w.cell? ⟨gv',c*3+1,none⟩=some (.int .i64 x.2.1)/\w.cell? ⟨gv',c*3+2,none⟩=some (.string x.2.2))/\w.heap[V]?=some (.cells #[.int .i64 u.1,.int .i64 u.2.1,.string u.2.2] 42)):=qAq (fun w hb=>by
         have tr:∀ {a:Addr} {v:Value},wr.cell? a=some v->w.cell? a=some v:=(fun h=>(World.cell?_of_block (w:=wr) (hb.block _ (World.block_lt_of_cell? _ _ h))).trans h);exact⟨⟨tr e1,tr e2,tr y0⟩,⟨Nat.lt_of_lt_of_le e3 hb.size,Nat.lt_of_lt_of_le e5 hb.size⟩,⟨tr y1,tr y2,tr y3⟩,aD hb hVk⟩)
        have heq:=(fun w=>mS x.1 x.2.1 x.2.2 u.1 u.2.1 u.2.2 w);simp only[aDT] at heq;have HBk:=qAq (qBq hBk (qBq hp hx));clear D2 e1 e2 e3 e4 e5 y0 y1 y2 y3 hVk hBk hp hx;go_upto_region 10 with fail;refine Par.wp_region_par 15 [.pointer (some ⟨b,0,none⟩),.pointer (some ⟨b,0,none⟩),.pointer (some ⟨b,1,none⟩),.slice (some ⟨g,0,none⟩) nt c1,.int .i64 ((t:Int)),.pointer (some ⟨g,t,none⟩),.slice (some ⟨gr,0,none⟩) n cr,.int .i64 ((k:Int)),.pointer (some ⟨gr,k*2,none⟩),.pointer (some ⟨gr,k*2+1,none⟩),.slice (some ⟨gv',0,none⟩) nc cv',.int .i64 ((c:Int)),.pointer (some ⟨gv',c*3,none⟩),.agg #[.int .i64 (x.1),.int .i64 (x.2.1),.string (x.2.2)],.agg #[.int .i64 (u.1),.int .i64 (u.2.1),.string (u.2.2)]] (fun w=>Below wr.heap.size wr w) ?A1 ?hm1 ?hB1 ?hA1 ((aE wr)) ?hop1 ?hT1
        case hm1=>kernel_rfl
        case hB1=>kernel_rfl
        case hA1 =>
         simp only[Par.putA,Par.dstAt,Act.put,qDq,qEq,qFq,qLq,qGq,qHq,qIq,qJq,qKq];rfl
        case hop1 =>
         simp only[qMq,List.take_zero,Par.GiveAll,and_true];and_intros<;>intro w' hR<;>have HR:=qAq hR
         rotate_left;have zl:=(HC.out w' hR).2.1.1;rotate_left;have zl:=(HC.out w' hR).2.1.1;rotate_left;have x0:=(HC.out w' hR).1.1;rotate_left 3;have x0:=(HC.out w' hR).1.2.1;rotate_left 3;have zl:=(HC.out w' hR).2.1.2;rotate_left;have x0:=(HC.out w' hR).1.2.2;rotate_left 3;have x0:=(HC.out w' hR).2.2.1.1;have x1:=(HC.out w' hR).2.2.1.2.1;have x2:=(HC.out w' hR).2.2.1.2.2;rotate_left;have x0:=aA (HC.out w' hR).2.2.2 0;have x1:=aA (HC.out w' hR).2.2.2 1;have x2:=aA (HC.out w' hR).2.2.2 2;rotate_left
         all_goals(clear hR;simp only[Par.Gives];go_simp;all_goals exact HR.out)
        case hT1 =>
         intro w' hR;simp only[qNq,List.drop_zero];have HR:=qAq hR;have heq:=heq w';clear hR;go_wp2_with (go_at_call 83;(with_reducible refine heq.mono ?_);rintro e w4 ⟨rfl,hb4⟩;have H4:=qAq (aB HBk.out.1 (HR.out.trans (hb4.mono HR.out.size)));clear heq hb4);go_roundg (j-k)
         case measure=>omega
         case rel=>exact⟨k+1,rfl,by omega,by omega,by rw[aDS,HBk.out.2.1,HBk.out.2.2,HB.out.2.1];simp,H4.out⟩
       ·obtain rfl:k=j:=(by omega);have HBk:=qAq (qBq (aB H1.out.2 hBk) hp);clear hBk hp;go_wp2_with fail;go_meet;exact⟨by rw[<- aFD,HBk.out.2],HBk.out.1⟩
    case rest =>
     obtain⟨rfl,hBc⟩:=hcut;have HBc:=qAq hBc;have hsucc:=tR l j;rw[HB.out.2.2] at hsucc;cases hf:fY l j
     ·rw[hf] at hsucc;have HS:=qAq hsucc;clear hBc hf hsucc;go_wp2_with fail;go_roundg (n-j)
      case measure=>omega
      case rel=>exact⟨j+1,rfl,by omega,by omega,by rw[HS.out];rfl,HBc.out⟩
     ·rw[hf] at hsucc;have HS:=qAq hsucc;clear hBc hf hsucc;go_wp2_with fail;go_roundg (n-j)
      case measure=>omega
      case rel=>exact⟨j+1,rfl,by omega,by omega,by rw[HS.out];rfl,HBc.out⟩
   ·obtain rfl:j=n:=(by omega);clear D2;go_wp2_with fail;go_ret;exact⟨rfl,hB⟩
end
end Go.Proofs.YtgbkmjnnlkgpnaaGreat
namespace Go.Proofs.YtgbkmjnnlkgpnaaGreat
open Go Go.RowKit Go.Shelf Go.Proofs Co Co.S
theorem aFE:(Tryz.prog.info? 45).map (fun i=>(i.zero,i.size,i.bytes))=some (some (.slice none 0 0),1,24):=by kernel_rfl
structure WrB where
 D:Nat
 F:Nat
 R:Nat
 T:Nat
 L:Nat
structure WrG (W:World) (x:WrB) (dp tb:Nat) (nm key:ByteArray) (cv dv:Value) (A:List R1) (k:Nat) (S:Nat->Prop) (w:World):Prop where
 cd:w.heap[x.D]?=some (.cells #[(Value.pointer (some ⟨dp,0,none⟩))] 24)
 cf:w.heap[x.F]?=some (.cells #[.string nm,cv,.string key,dv] 70)
 cr:w.heap[x.R]?=some (.cells zF 33)
 ct:w.heap[x.T]?=some (.cells #[(Value.pointer (some ⟨tb,0,none⟩))] 63)
 lv:∃ v vs,w.heap[x.L]?=some (.cells #[v] 131)/\HRow w W.heap.size 45 1 v k vs/\(∀ q,v.ownBlock=some q->S q/\q≠x.L/\q≠x.R)/\∀ i (hi:i<A.length),i<k->∃ vi,vs[i]?=some vi/\HRow w W.heap.size 42 3 vi A[i].2.length (cells3 A[i].2)
 sR:S x.R
 sL:S x.L
 lo:W.heap.size<=x.R/\W.heap.size<=x.L/\x.R≠x.L/\x.D≠x.L/\x.F≠x.L/\x.T≠x.L
 old:∀ b,b<W.heap.size->S b∨∃ cur e m,w.heap[b]?=some (.cells cur e m)
 bel:Below W.heap.size W w
structure WrX (W:World) (R:Nat) (er id:Int) (col:ByteArray) (S:Nat->Prop) (w:World):Prop where
 cr:w.heap[R]?=some (.cells #[.int .i64 er,.int .i64 0,.string e0,.int .i64 id,.string col] 33)
 old:∀ b,b<W.heap.size->S b∨∃ cur e m,w.heap[b]?=some (.cells cur e m)
 bel:Below W.heap.size W w
section
variable {W A' B' w1 w2:World} {x:WrB} {dp tb k R:Nat} {nm key col:ByteArray} {cv dv:Value} {A:List R1} {S:Nat->Prop} {er id:Int}
theorem HRow.kept {base n size:Nat} {e:TypeId} {v:Value} {xs:List Value} (h:HRow A' base e size v n xs) (hkc:∀ (b:Nat) (cur:Array Value) (e:TypeId) (m:Nat×Nat),A'.heap[b]?=some (Obj.cells cur e m)->B'.heap[b]?=some (Obj.cells cur e m)):HRow B' base e size v n xs :=
 h.of (fun q hq=>by
  obtain⟨_,cur,e1⟩:=HRow.block h q hq;rw[hkc _ _ _ _ e1,e1])
theorem WrG.loc (h:WrG W x dp tb nm key cv dv A k S A') (hsz:A'.heap.size<=B'.heap.size) (hb:∀ b,S b->B'.heap[b]?=A'.heap[b]?) (hkc:∀ (b:Nat) (cur:Array Value) (e:TypeId) (m:Nat×Nat),A'.heap[b]?=some (Obj.cells cur e m)->B'.heap[b]?=some (Obj.cells cur e m))
  (hos:B'.os=A'.os/\B'.tape=A'.tape/\B'.output=A'.output):WrG W x dp tb nm key cv dv A k S B':=by
 obtain⟨k1,k2⟩:=nV hb hkc hsz hos h.old h.bel;obtain⟨v,vs,l1,l2,l3,l4⟩:=h.lv
 exact⟨hkc _ _ _ _ h.cd,hkc _ _ _ _ h.cf,hkc _ _ _ _ h.cr,hkc _ _ _ _ h.ct,⟨v,vs,hkc _ _ _ _ l1,l2.kept hkc,l3,fun i hi hk=>by
  obtain⟨vi,e1,e2⟩:=l4 i hi hk;exact⟨vi,e1,e2.kept hkc⟩⟩,h.sR,h.sL,h.lo,k1,k2⟩
theorem WrX.loc (h:WrX W R er id col S A') (hsz:A'.heap.size<=B'.heap.size) (hb:∀ b,S b->B'.heap[b]?=A'.heap[b]?) (hkc:∀ (b:Nat) (cur:Array Value) (e:TypeId) (m:Nat×Nat),A'.heap[b]?=some (Obj.cells cur e m)->B'.heap[b]?=some (Obj.cells cur e m))
  (hos:B'.os=A'.os/\B'.tape=A'.tape/\B'.output=A'.output):WrX W R er id col S B':=by
 obtain⟨k1,k2⟩:=nV hb hkc hsz hos h.old h.bel;exact⟨hkc _ _ _ _ h.cr,k1,k2⟩
theorem gH (hk:k<=A.length):(bN A k).length=k:=by unfold bN;rw[List.length_map,List.length_take];omega
theorem wQ {j:Nat} (hk:k<=A.length) (hj:j<(bN A k).length):(bN A k)[j]=(A[j]'(by rw[gH hk] at hj;omega)).2:=by
 simp[bN]
theorem WrG.rl (h:WrG W x dp tb nm key cv dv A k S w1) (hk:k<=A.length):∃ v,w1.heap[x.L]?=some (.cells #[v] 131)/\RL w1 v (bN A k):=by
 obtain⟨v,vs,l1,l2,l3,l4⟩:=h.lv;obtain⟨p,c,e,_,_⟩:=HRow.isslice l2;refine⟨v,l1,p,c,by rw[gH hk];exact e,fun j hj=>?_⟩;have hjk:j<k:=(by rw[gH hk] at hj;exact hj);have hjA:j<A.length:=(by omega);obtain⟨vi,e1,e2⟩:=l4 j hjA hjk;obtain⟨g,c',e3,_,_⟩:=HRow.slice l2 (by omega);rw[e] at e3;cases e3;rw[e] at l2;refine⟨g,vi,rfl,(HRow.lt l2 g rfl).2,HRow.cell l2 e1,?_⟩;rw[wQ hk hj];exact (InV.of_row e2 rfl).mono (fun _ _ _=>trivial)
theorem WrG.more (h:WrG W x dp tb nm key cv dv A k S w1) (hin:InW S w1) (hb:Below w1.heap.size w1 w2) (hk:k<A.length) {vr:Value} {nr:Nat} (hnr:A[k].2.length=nr) (hr:HRow w2 w1.heap.size 42 3 vr nr (cells3 A[k].2)) {v v':Value} {vs:List Value} {w4 w5:World} (hv:w1.heap[x.L]?=some (.cells #[v] 131)) (hrow:HRow w1 W.heap.size 45 1 v k vs)
  (hb4:Below w2.heap.size w2 w4) (hr5:HRow w5 W.heap.size 45 1 v' (k+1) (vs++[vr])) (hg5:w4.grownBy w5 v.ownBlock) (ho5:∀ q,v'.ownBlock=some q->v.ownBlock=some q∨w4.heap.size<=q) :
  ∃ S2,Grows S S2 w1/\InW S2 (w5.setCell ⟨x.L,0,none⟩ v')/\Chg S w1 (w5.setCell ⟨x.L,0,none⟩ v')/\WrG W x dp tb nm key cv dv A (k+1) S2 (w5.setCell ⟨x.L,0,none⟩ v'):=by
 subst hnr;have hb14:=aB hb hb4;obtain⟨v0,vs0,l1,l2,l3,l4⟩:=h.lv;obtain rfl:v0=v:=by rw[hv] at l1;cases l1;rfl
 obtain rfl:vs0=vs:=by
  rcases l2.2 with ⟨e1,e2⟩ | ⟨g,cap,cur,e1,_,e3,_,_,_,e4⟩
  ·rcases hrow.2 with ⟨e5,e6⟩ | ⟨g',cap',cur',e5,_⟩
   ·have a1:=l2.1;have a2:=hrow.1;rw[e2,Nat.zero_mul] at a1 a2;rw[List.length_eq_zero_iff.1 a1,List.length_eq_zero_iff.1 a2]
   rw[e1] at e5;cases e5
  rcases hrow.2 with ⟨e5,e6⟩ | ⟨g',cap',cur',e5,_,e7,_,_,_,e8⟩
  ·rw[e1] at e5;cases e5
  rw[e1] at e5;cases e5
  rw[e3] at e7;cases e7
  rw[<- e4,<- e8]
 have hz:=hb14.size;have hz5:=hg5.size;have hLw:x.L<w1.heap.size:=lt_of_heap hv
 have hstay:∀ q,q<w1.heap.size->v0.ownBlock≠some q->q≠x.L->(w5.setCell ⟨x.L,0,none⟩ v').heap[q]?=w1.heap[q]?:=fun q hq h1 h2=>by
  rw[heap_setCell_other w5 ⟨x.L,0,none⟩ q v' h2,hg5.block q (by omega) (fun e=>h1 e.symm)];exact hb14.block q hq
 have hLrow:v0.ownBlock≠some x.L:=fun e=>(l3 _ e).2.1 rfl
 have hL5:w5.heap[x.L]?=some (.cells #[v0] 131):=by
  rw[hg5.block x.L (by omega) (fun e=>hLrow e.symm)];exact aD hb14 hv
 have hown:∀ q,v0.ownBlock=some q->∃ cur,w1.heap[q]?=some (.cells cur 45):=(fun q hq=>(HRow.block hrow q hq).2);have hL6:=heap_setCell_same w5 x.L 0 #[v0] 131 v' hL5
 have hap:∀ {vv:Value} {n:Nat} {xs:List Value} {base:Nat} {ee:TypeId} {sz:Nat},HRow w4 base ee sz vv n xs->ee≠45->ee≠131->HRow (w5.setCell ⟨x.L,0,none⟩ v') base ee sz vv n xs:=fun {vv n xs base ee sz} hh hne hne2=>hh.of (fun q hq=>by
  obtain⟨_,cur,e1⟩:=HRow.block hh q hq
  have hqL:q≠x.L:=fun e=>by
   have e2:=aD hb14 hv;rw[<- e,e1] at e2
   injection e2 with e2;injection e2 with _ e2;exact hne2 e2
  rw[heap_setCell_other w5 ⟨x.L,0,none⟩ q v' hqL,hg5.block q (lt_of_heap e1) (fun e=>by
   obtain⟨cur2,e2⟩:=hown q e.symm;have e3:=aD hb14 e2;rw[e1] at e3
   injection e3 with e3;injection e3 with _ e3;exact hne e3)])
 have hsz:(w5.setCell ⟨x.L,0,none⟩ v').heap.size=w5.heap.size:=(by simp);refine⟨fun b=>S b∨(w1.heap.size<=b/\b<w5.heap.size),fun b hb=>hb.imp id (fun h=>h.1),fun b hb=>?_,?_,?_⟩
 ·rw[hsz];rcases hb with hb|hb
  ·have:=hin b hb;omega
  exact hb.2
 ·have hc:Chg S w1 w5:=⟨hg5.os.trans hb14.os,hg5.tape.trans hb14.tape,hg5.output.trans hb14.output,by omega,fun q hq hn=>by
   rw[hg5.block q (by omega) (fun e=>hn (l3 q e.symm).1)];exact hb14.block q hq⟩
  exact hc.setCell (p:=⟨x.L,0,none⟩) (fun _=>h.sL) _
 have hne:∀ q,q<w1.heap.size->(∃ o ty,w1.heap[q]?=some (.cells o ty)/\ty≠45)->v0.ownBlock≠some q:=fun q _ ⟨o,ty,h1,h2⟩ e=>by
  obtain⟨cur,e1⟩:=hown q e;rw[h1] at e1
  injection e1 with e1;injection e1 with _ e1;exact h2 e1
 have keep:∀ {q:Nat} {o:Array Value} {ty:TypeId},w1.heap[q]?=some (.cells o ty)->ty≠45->q≠x.L->(w5.setCell ⟨x.L,0,none⟩ v').heap[q]?=some (.cells o ty):=(fun {q o ty} h1 h2 h3=>(hstay q (lt_of_heap h1) (hne q (lt_of_heap h1) ⟨o,ty,h1,h2⟩) h3).trans h1);refine⟨keep h.cd (by decide) h.lo.2.2.2.1,keep h.cf (by decide) h.lo.2.2.2.2.1,keep h.cr (by decide) h.lo.2.2.1,keep h.ct (by decide) h.lo.2.2.2.2.2,⟨v',vs0++[vr],hL6,hr5.of (fun q hq=>?_),fun q hq=>?_,fun i hi hik=>?_⟩,.inl h.sR,.inl h.sL,h.lo,fun b hlt=>?_,?_⟩
 ·refine heap_setCell_other w5 ⟨x.L,0,none⟩ q v' (fun e=>?_);rcases ho5 q hq with h1|h1
  ·exact (l3 q h1).2.1 e
  have:q=x.L:=e;omega
 ·rcases ho5 q hq with h1|h1
  ·exact⟨.inl (l3 q h1).1,(l3 q h1).2⟩
  have h2:=(HRow.lt hr5 q hq).2;have h3:=lt_of_heap h.cr;exact⟨.inr ⟨by omega,h2⟩,by omega,by omega⟩
 ·have hvl:vs0.length=k:=(by have:=hrow.1;rw[Nat.mul_one] at this;exact this);by_cases e:i=k
  ·subst e;refine⟨vr,by rw[<- hvl,List.getElem?_append_right (Nat.le_refl _),Nat.sub_self];rfl,?_⟩;exact hap ((hr.later hb4).mono h.bel.size) (by decide) (by decide)
  obtain⟨vi,e1,e2⟩:=l4 i hi (by omega);exact⟨vi,by rw[List.getElem?_append_left (by omega)];exact e1,hap (e2.later hb14) (by decide) (by decide)⟩
 ·rcases h.old b hlt with h5|⟨cur,e,m,h5⟩
  ·exact .inl (.inl h5)
  have hbl:=lt_of_heap h5;by_cases e1:v0.ownBlock=some b
  ·exact .inl (.inl (l3 b e1).1)
  refine .inr ⟨cur,e,m,(hstay b hbl e1 (fun e2=>?_)).trans h5⟩
  have:=h.lo.2.1
  omega
 refine ((aB h.bel hb14).trans ⟨hg5.os,hg5.tape,hg5.output,hz5,fun q hq=>hg5.block q (by have:=h.bel.size;omega) (fun e=>?_)⟩).setCell (p:=⟨x.L,0,none⟩) h.lo.2.1 _
 have:=(HRow.lt hrow q e.symm).1
 omega
theorem WrG.found (h:WrG W x dp tb nm key cv dv A k S w1) (hin:InW S w1) (hb:Below w1.heap.size w1 w2) :
  ∃ S2,Grows S S2 w1/\InW S2 (((((w2.setCell ⟨x.R,0,none⟩ (.int .i64 er)).setCell ⟨x.R,1,none⟩ (.int .i64 0)).setCell ⟨x.R,2,none⟩ (.string e0)).setCell ⟨x.R,3,none⟩ (.int .i64 id)).setCell ⟨x.R,4,none⟩ (.string col))/\Chg S w1 (((((w2.setCell ⟨x.R,0,none⟩ (.int .i64 er)).setCell ⟨x.R,1,none⟩ (.int .i64 0)).setCell ⟨x.R,2,none⟩ (.string e0)).setCell ⟨x.R,3,none⟩ (.int .i64 id)).setCell ⟨x.R,4,none⟩ (.string col))/\WrX W x.R er id col S2 (((((w2.setCell ⟨x.R,0,none⟩ (.int .i64 er)).setCell ⟨x.R,1,none⟩ (.int .i64 0)).setCell ⟨x.R,2,none⟩ (.string e0)).setCell ⟨x.R,3,none⟩ (.int .i64 id)).setCell ⟨x.R,4,none⟩ (.string col)):=by
 have h5:=zN (aD hb h.cr) (.int .i64 er) (.int .i64 0) (.string e0) (.int .i64 id) (.string col);have hg:=dN w2 x.R (.int .i64 er) (.int .i64 0) (.string e0) (.int .i64 id) (.string col);generalize ((((w2.setCell ⟨x.R,0,none⟩ (.int .i64 er)).setCell ⟨x.R,1,none⟩ (.int .i64 0)).setCell ⟨x.R,2,none⟩ (.string e0)).setCell ⟨x.R,3,none⟩ (.int .i64 id)).setCell ⟨x.R,4,none⟩ (.string col)=w6 at h5 hg ⊢;have hz:=hb.size;have hz6:=hg.size;refine⟨fun b=>S b∨(w1.heap.size<=b/\b<w6.heap.size),fun b hb=>hb.imp (fun h=>h) (fun h=>h.1),fun b hb=>?_,⟨hg.os.trans hb.os,hg.tape.trans hb.tape,hg.output.trans hb.output,by omega,fun q hq hn=>?_⟩,h5,fun b hlt=>?_,?_⟩
 ·rcases hb with hb|hb
  ·have:=hin b hb;omega
  exact hb.2
 ·rw[hg.block q (by omega) (fun e=>hn (by cases e;exact h.sR))];exact hb.block q hq
 ·rcases h.old b hlt with h6|⟨cur,e,m,h6⟩
  ·exact .inl (.inl h6)
  have hl:=lt_of_heap h6;refine .inr ⟨cur,e,m,(hg.block b (by omega) (fun e=>?_)).trans (aD hb h6)⟩;cases e
  have:=h.lo.1
  omega
 exact (aB h.bel hb).trans ⟨hg.os,hg.tape,hg.output,hz6,fun q hq=>hg.block q (by have:=h.bel.size;omega) (fun e=>by cases e;have:=h.lo.1;omega)⟩
end
end Go.Proofs.YtgbkmjnnlkgpnaaGreat
namespace Go.Proofs.YtgbkmjnnlkgpnaaGreat
open Go Go.RowKit Go.Proofs Co Co.S
theorem zW (w:World) (g:Nat) (a b c d:Value):w.grownBy ((((w.setCell ⟨g,0,none⟩ a).setCell ⟨g,1,none⟩ b).setCell ⟨g,2,none⟩ c).setCell ⟨g,3,none⟩ d) (some g) :=
 cP (cP (cP (cP (qB w (some g)) 0 a) 1 b) 2 c) 3 d
structure RowW (w:World) (gr m gv cv nc:Nat) (r:List T3):Prop where
 rl:gr<w.heap.size
 r0:w.cell? ⟨gr,m*2+1,none⟩=some (.slice (some ⟨gv,0,none⟩) nc cv)
 id:∃ v,w.cell? ⟨gr,m*2,none⟩=some v
 vl:gv<w.heap.size
 v:∀ c,c<nc->w.cell? ⟨gv,c*3,none⟩=some (.int .i64 (r.getD c z3).1)/\w.cell? ⟨gv,c*3+1,none⟩=some (.int .i64 (r.getD c z3).2.1)/\w.cell? ⟨gv,c*3+2,none⟩=some (.string (r.getD c z3).2.2)
structure NRW (w:World) (b nt t na nc nd gs cs go co gr cr:Nat) (pc:Option Addr) (kc:Nat) (pd:Option Addr) (kd:Nat) (T0:T):Prop where
 b0:w.cell? ⟨b,0,none⟩=some (.slice (some ⟨gs,0,none⟩) nt cs)
 bl:b<w.heap.size
 sl:gs<w.heap.size
 s0:w.cell? ⟨gs,t*4,none⟩=some (.string T0.nm)
 s1:w.cell? ⟨gs,t*4+1,none⟩=some (.slice pc nc kc)
 s2:w.cell? ⟨gs,t*4+2,none⟩=some (.string T0.key)
 s3:w.cell? ⟨gs,t*4+3,none⟩=some (.slice pd nd kd)
 b1:w.cell? ⟨b,1,none⟩=some (.slice (some ⟨go,0,none⟩) nt co)
 ol:go<w.heap.size
 o0:w.cell? ⟨go,t,none⟩=some (.slice (some ⟨gr,0,none⟩) na cr)
 rt:RdT w (.slice pc nc kc) (.slice pd nd kd) T0
section
variable {W:World} {b:Nat} {ts:List T} {tt:List RT} {i:NI} {O:Nat->Nat} {t k:Nat} {y:RT}
theorem zX (h:DbN W b ts tt i O) (ht:t<ts.length) (hy:tt[t]?=some y) (hk:k<y.A.length) (h0:0<ts[t].cols.length) :
  ∃ gs cs go co gr cr pc kc pd kd,(∀ w,Below W.heap.size W w->NRW w b ts.length t y.A.length ts[t].cols.length ts[t].deps.length gs cs go co gr cr pc kc pd kd ts[t]) /\
   ∀ m (hm:m<y.A.length),∃ gv cv,∀ w,Below W.heap.size W w->RowW w gr m gv cv ts[t].cols.length y.A[m].2:=by
 obtain⟨⟨gs,cs,go,co,pr,cr,pc,kc,pd,kd⟩,hr0,hr1⟩:=h.nreads ht hy h0;dsimp only at hr0 hr1;obtain⟨gr,_,_,rfl,_⟩:=hr1 k hk;refine⟨gs,cs,go,co,gr,cr,pc,kc,pd,kd,fun w hw=>?_,fun m hm=>?_⟩
 ·obtain⟨x1,x2,x3,x4,x5,x6,x7,x8,x9,x10,x11⟩:=hr0 w hw;exact⟨x5,x3,x6,x7,x8,x9,x10,x1,x4,x2,x11⟩
 obtain⟨gr',gv,cv,e,hq⟩:=hr1 m hm;cases e;refine⟨gv,cv,fun w hw=>?_⟩;obtain⟨q1,q2,q3,q4,q5,q6⟩:=hq w hw;refine⟨q1,q3,⟨_,q2⟩,q4,fun c hc=>?_⟩;obtain⟨b',o',e,hh⟩:=InV.cells q5 (k:=c) (by rw[q6];exact hc);cases e;obtain⟨r1,r2,r3,_⟩:=hh w (Below.refl _ _);rw[Nat.zero_add] at r1 r2 r3;exact⟨r1,r2,r3⟩
end
section
variable {W:World} {pc pd:Option Addr} {nc nd kc kd:Nat} {t:T}
theorem rV (hT:RdT W (.slice pc nc kc) (.slice pd nd kd) t) (h0:0<t.cols.length):∃ bc oc,pc=some ⟨bc,oc,none⟩/\∀ y,Below W.heap.size W y->bc<y.heap.size/\∀ j,j<t.cols.length ->
  y.cell? ⟨bc,oc+j*4,none⟩=some (.string (cAt t j).nm)/\y.cell? ⟨bc,oc+j*4+1,none⟩=some (.int .i64 (cAt t j).kd)/\y.cell? ⟨bc,oc+j*4+2,none⟩=some (.bool (cAt t j).mu)/\y.cell? ⟨bc,oc+j*4+3,none⟩=some (.string (cAt t j).tgt):=by
 obtain⟨b,off,rfl,_⟩:=RdC.col hT.c h0;refine⟨b,off,rfl,fun y hy=>⟨?_,fun j hj=>?_⟩⟩
 ·obtain⟨_,_,e,h1,_⟩:=RdC.col (hT.c.later hy) h0;cases e;exact h1
 rw[qE hj];obtain⟨_,_,e,h1,h2,h3,h4,h5⟩:=RdC.col (hT.c.later hy) hj;cases e;exact⟨h2,h3,h4,h5⟩
theorem aCb (hT:RdT W (.slice pc nc kc) (.slice pd nd kd) t) {i:Nat} (hi:i<t.deps.length):∃ bd od pl cl,pd=some ⟨bd,od,none⟩ /\
  (∀ y,Below W.heap.size W y->bd<y.heap.size/\y.cell? ⟨bd,od+i*2,none⟩=some (.slice pl (dAt t i).left.length cl)/\y.cell? ⟨bd,od+i*2+1,none⟩=some (.string (dAt t i).right)) /\
  ∀ j,j<(dAt t i).left.length->∃ bl ol,pl=some ⟨bl,ol,none⟩/\∀ y,Below W.heap.size W y->bl<y.heap.size/\y.cell? ⟨bl,ol+j,none⟩=some (.string ((dAt t i).left.getD j e0)):=by
 rw[zU hi];obtain⟨b,off,lv,rfl,h1,h2,h3,h4⟩:=RdD.dep hT.d hi;obtain⟨pl,cl,rfl,_,_⟩:=h4.slice;refine⟨b,off,pl,cl,rfl,fun y hy=>⟨Nat.lt_of_lt_of_le h1 hy.size,?_,?_⟩,fun j hj=>?_⟩
 ·exact (World.cell?_of_block (w:=W) (hy.block _ h1)).trans h2
 ·exact (World.cell?_of_block (w:=W) (hy.block _ h1)).trans h3
 obtain⟨bl,ol,rfl,_,_⟩:=RdS.word h4 hj;refine⟨bl,ol,rfl,fun y hy=>?_⟩;obtain⟨_,_,e,k1,k2⟩:=RdS.word (h4.later hy) hj;cases e;refine⟨k1,?_⟩;rw[List.getD_eq_getElem?_getD,qQq hj];exact k2
end
section
variable {t:T} {r a:List T3} {B:List (List T3)} {p:List T3->Bool}
theorem tW {x:ByteArray} {q:Nat} (h:ixC t.cols x=(q:Int)):decide (a.getD q z3=r.getD q z3)=aP t x r a:=by
 unfold aP aBY;rw[h,Int.toNat_natCast];exact decide_eq_decide.2 eq_comm
theorem aDU {n:Nat} (hn:B.length=n) (h:∀ m,m<n->p (B.getD m [])=false):B.any p=false:=by
 rw[List.any_eq_false];intro a ha;obtain⟨m,hm,rfl⟩:=List.getElem_of_mem ha
 have:=h m (by omega)
 rw[List.getD_eq_getElem?_getD,qQq hm] at this;simpa using this
theorem aAR {m:Nat} (hm:m<B.length) (h:p (B.getD m [])=true):B.any p=true:=by
 rw[List.getD_eq_getElem?_getD,qQq hm] at h;exact List.any_eq_true.2 ⟨_,List.getElem_mem hm,h⟩
theorem aFF (h:t.key=e0):fO t r B=false:=by unfold fO;rw[h];rfl
def tX (t:T) (l:List ByteArray) (k:Nat) (r a:List T3):Bool:=(l.take k).all fun x=>aP t x r a
theorem aCc (l:List ByteArray):tX t l 0 r a=true:=by simp[tX]
theorem aCd {l:List ByteArray} {k:Nat} (hk:k<l.length):tX t l (k+1) r a=(tX t l k r a&&aP t (l.getD k e0) r a):=by
 unfold tX;rw[List.take_add_one,List.all_append,List.getD_eq_getElem?_getD,qQq hk]
 simp
theorem aDV (l:List ByteArray):tX t l l.length r a=l.all fun x=>aP t x r a:=by
 unfold tX;rw[List.take_length]
end
