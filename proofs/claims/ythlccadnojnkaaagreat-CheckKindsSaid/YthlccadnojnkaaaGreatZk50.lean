import Derived.Test.YthlccadnojnkaaaGreatZk49
set_option maxHeartbeats 8000000
set_option maxRecDepth 100000
namespace Go.Proofs.YthlccadnojnkaaaGreat
open Go Go.RowKit Go.Proofs Co Co.S
def kBase:List OpX:=[pO sLand [(1,1,e0),(2,0,sA)],pO sDay [(2,0,sD),(1,1,e0),(1,2001,e0)]]
def kRow (i:Int):List OpX:=[pO sShop [(1,i,e0),(2,0,sC),(2,0,sZ),(1,1,e0)],pO sSale [(1,i,e0),(2,0,sD),(1,5,e0),(0,0,e0)]]
def kOps (n:Nat):List OpX:=kBase++(List.range n).flatMap fun i:Nat=>kRow (i:Int)
def kEx:Nat->List OpX
 | 1=>[pO sShop [(1,90,e0),(0,0,e0),(2,0,sZ),(1,1,e0)]]
 | 2=>[pO sLand [(1,1,e0),(2,0,sB)]]
 | 3=>[pO sSale [(1,77,e0),(2,0,sD),(1,5,e0),(0,0,e0)]]
 | 4=>[pO sDay [(2,0,sE),(1,1,e0),(1,2002,e0)]]
 | 5=>[pO sDay [(0,0,e0),(1,2,e0),(0,0,e0)]]
 | _=>[]
def kWant:Nat->Int
 | 1=>7 | 2=>8 | 3=>9 | 4=>10 | 5=>7 | _=>0
def errOf (ops:List OpX):Int:=(checkF (pre 4) ((fillP (pre 4) Lz ops).map (·.2))).1
theorem qD (n:Nat):kOps (n+1)=kOps n++kRow (n:Int):=by
 unfold kOps;rw[List.range_succ,List.flatMap_append,List.append_assoc]
 simp
theorem bH:∀ n:Nat,(kOps n).length=2+2*n
 | 0=>rfl
 | n+1=>by rw[qD,List.length_append,bH n,show (kRow (n:Int)).length=2 from rfl];omega
theorem aIj:((List.range 9).all fun n=>(List.range 6).all fun k=>decide (errOf (kOps n++kEx k)=kWant k))=true:=by kernel_rfl
theorem aIk {n k:Nat} (hn:n<=8) (hk:k<=5):errOf (kOps n++kEx k)=kWant k :=
 of_decide_eq_true (List.all_eq_true.1 (List.all_eq_true.1 aIj n (List.mem_range.2 (by omega))) k (List.mem_range.2 (by omega)))
def okB (o:OpX):Bool:=decide (o.tbl.size<=100)&&decide (o.col.size<=100)&&decide (o.id=0)&&(o.vals.all fun x=>decide (x.2.2.size<=100))&&decide (o.vals.length<=10)
theorem aAu:∀ k:Nat,(kEx k).length<=1
 | 0=>by decide
 | 1=>by decide
 | 2=>by decide
 | 3=>by decide
 | 4=>by decide
 | 5=>by decide
 | k+6=>Nat.zero_le _
theorem aHt {o:OpX} (h:okB o=true):OpOk o:=by
 obtain⟨k,tb,id,col,v⟩:=o;unfold okB at h;simp only[Bool.and_eq_true,decide_eq_true_eq,List.all_eq_true] at h;obtain⟨⟨⟨⟨h1,h2⟩,rfl⟩,h3⟩,h4⟩:=h;exact cM h1 h2 h3 h4
theorem aIl:((List.range 9).all fun n=>(List.range 6).all fun k=>(kOps n++kEx k).all okB)=true:=by kernel_rfl
theorem aIA {n k:Nat} (hn:n<=8) (hk:k<=5) {o:OpX} (ho:o∈kOps n++kEx k):OpOk o :=
 aHt (List.all_eq_true.1 (List.all_eq_true.1 (List.all_eq_true.1 aIl n (List.mem_range.2 (by omega))) k (List.mem_range.2 (by omega))) o ho)
theorem yN (a0 a1:Int) (W:World):Calls Tryz.prog 3 #[.int .i64 a0,.int .i64 a1] W fun e w'=>e=.returned (.bool true)/\Below W.heap.size W w':=by
 have hbeg:=cY W;by_cases hneg:a1<0
 ·go_enter Tryz.func3,Tryz.ntmps3;go_wp2_with (go_at_call 12;(with_reducible refine hbeg.mono ?_);rintro e w4 ⟨rfl,hb2⟩);go_ret;exact⟨rfl,hb2⟩
 by_cases hbig:a1>8
 ·go_enter Tryz.func3,Tryz.ntmps3;go_wp2_with (go_at_call 12;(with_reducible refine hbeg.mono ?_);rintro e w4 ⟨rfl,hb2⟩);go_ret;exact⟨rfl,hb2⟩
 obtain⟨n,rfl⟩:∃ n:Nat,a1=(n:Int):=⟨a1.toNat,by omega⟩;have hn8:(n:Int)<=8:=(by omega);go_enter Tryz.func3,Tryz.ntmps3;go_upto_region 6 with (go_at_call 12;(with_reducible refine hbeg.mono ?_);rintro e w4 ⟨rfl,hb2⟩;have H4:=qAq hb2;clear hbeg hb2);have hstar:=cP w4;go_upto_region 7 with (go_at_call 13;(with_reducible refine hstar.mono ?_);rintro e w5 ⟨d,b,ps,rfl,hP5⟩;have HP5:=qAq hP5;clear hstar hP5);have hn1:=aU 1 w5
 go_upto_region 8 with (first
  | (go_at_call 15;(with_reducible refine hn1.mono ?_);rintro e w6 ⟨rfl,hb6⟩;have B6:=qAq hb6;have ht1:=aX sA w6;clear hn1 hb6)
  | (go_at_call 16;(with_reducible refine ht1.mono ?_);rintro e w7 ⟨rfl,hb7⟩;have B7:=qAq (aB B6.out hb7);have hp1:=cR sLand [(1,1,e0),(2,0,sA)] 2 #[.int .i64 1,.int .i64 1,.string e0,.int .i64 2,.int .i64 0,.string sA] rfl rfl (by decide) (by decide) w7;clear ht1 hb7)
  | (go_at_call 14;(with_reducible refine hp1.mono ?_);rintro e w8 ⟨g1,k1,rfl,hr8,hb8⟩;have B8:=qAq (qBq (aB B7.out hb8) (hr8.mono B7.out.size));have ht2:=aX sD w8;clear hp1 hr8 hb8)
  | (go_at_call 16;(with_reducible refine ht2.mono ?_);rintro e w9 ⟨rfl,hb9⟩;have B9:=qAq (qBq (aB B8.out.1 hb9) (B8.out.2.later hb9));have hn2:=aU 1 w9;clear ht2 hb9)
  | (go_at_call 15;(with_reducible refine hn2.mono ?_);rintro e w10 ⟨rfl,hb10⟩;have B10:=qAq (qBq (aB B9.out.1 hb10) (B9.out.2.later hb10));have hn3:=aU 2001 w10;clear hn2 hb10)
  | (go_at_call 15;(with_reducible refine hn3.mono ?_);rintro e w11 ⟨rfl,hb11⟩;have B11:=qAq (qBq (aB B10.out.1 hb11) (B10.out.2.later hb11));have hp2:=cR sDay [(2,0,sD),(1,1,e0),(1,2001,e0)] 3 #[.int .i64 2,.int .i64 0,.string sD,.int .i64 1,.int .i64 1,.string e0,.int .i64 1,.int .i64 2001,.string e0] rfl rfl (by decide) (by decide) w11;clear hn3 hb11)
  | (go_at_call 14;(with_reducible refine hp2.mono ?_);rintro e w12 ⟨g2,k2,rfl,hr12,hb12⟩;have B12:=qAq (qBq (aB B11.out.1 hb12) (qBq (B11.out.2.later hb12) (hr12.mono B11.out.1.size)));clear hp2 hr12 hb12))
 have b13:=aD w12 (.cells (cOps2 sLand sDay (.slice (some ⟨g1,0,none⟩) 2 k1) (.slice (some ⟨g2,0,none⟩) 3 k2)) 29);have k13:=heap_alloc_new w12 (.cells (cOps2 sLand sDay (.slice (some ⟨g1,0,none⟩) 2 k1) (.slice (some ⟨g2,0,none⟩) 3 k2)) 29);have hops:OpsO (w12.alloc (.cells (cOps2 sLand sDay (.slice (some ⟨g1,0,none⟩) 2 k1) (.slice (some ⟨g2,0,none⟩) 3 k2)) 29)) w5.heap.size (.slice (some ⟨w12.heap.size,0,none⟩) 2 2) (kOps 0):=fJ (v1:=.slice (some ⟨g1,0,none⟩) 2 k1) (v2:=.slice (some ⟨g2,0,none⟩) 3 k2) k13 rfl B12.out.1.size (B12.out.2.1.later b13) (B12.out.2.2.later b13);have hbB:=aB B12.out.1 b13;have HB0:=qAq (qBq hops hbB);clear b13 k13 hops hbB;go_wp2_with fail;go_loopg [8,9] (n+1) (fun gh lv jv w=>∃ (j:Nat) (p:Option Addr) (c:Nat),jv=.int .i64 (j:Int)/\j<=n/\n+1<=j+gh/\lv=.slice p (2+2*j) c/\OpsO w w5.heap.size (.slice p (2+2*j) c) (kOps j)/\Below w5.heap.size w5 w)
 case atStart=>exact⟨0,_,_,rfl,Nat.zero_le _,by omega,rfl,HB0.out.1,HB0.out.2⟩
 obtain⟨j,p,c,rfl,hj,hg,rfl,ho,hB⟩:=hrel;have HB:=qAq (qBq ho hB);clear ho hB;by_cases hlt:j<n
 ·have hji:(j:Int)<(n:Int):=(by omega);have hn1:=aU (j:Int) wr
  go_wp2_with (first
   | (go_at_call 15;(with_reducible refine hn1.mono ?_);rintro e w6 ⟨rfl,hb6⟩;have C6:=qAq (aB HB.out.2 hb6);have D6:=qAq hb6;have ht1:=aX sC w6;clear hn1 hb6)
   | (go_at_call 16;(with_reducible refine ht1.mono ?_);rintro e w7 ⟨rfl,hb7⟩;have D7:=qAq (aB D6.out hb7);have ht2:=aX sZ w7;clear ht1 hb7)
   | (go_at_call 16;(with_reducible refine ht2.mono ?_);rintro e w8 ⟨rfl,hb8⟩;have D8:=qAq (aB D7.out hb8);have hn2:=aU 1 w8;clear ht2 hb8)
   | (go_at_call 15;(with_reducible refine hn2.mono ?_);rintro e w9 ⟨rfl,hb9⟩;have D9:=qAq (aB D8.out hb9);have hp1:=cR sShop [(1,(j:Int),e0),(2,0,sC),(2,0,sZ),(1,1,e0)] 4 #[.int .i64 1,.int .i64 (j:Int),.string e0,.int .i64 2,.int .i64 0,.string sC,.int .i64 2,.int .i64 0,.string sZ,.int .i64 1,.int .i64 1,.string e0] rfl rfl (by decide) (by decide) w9;clear hn2 hb9)
   | (go_at_call 14;(with_reducible refine hp1.mono ?_);rintro e w10 ⟨g3,k3,rfl,hr10,hb10⟩;have D10:=qAq (qBq (aB D9.out hb10) (hr10.mono D9.out.size));have hn3:=aU (j:Int) w10;clear hp1 hr10 hb10)
   | (go_at_call 15;(with_reducible refine hn3.mono ?_);rintro e w11 ⟨rfl,hb11⟩;have D11:=qAq (qBq (aB D10.out.1 hb11) (D10.out.2.later hb11));have ht3:=aX sD w11;clear hn3 hb11)
   | (go_at_call 16;(with_reducible refine ht3.mono ?_);rintro e w13 ⟨rfl,hb13⟩;have D13:=qAq (qBq (aB D11.out.1 hb13) (D11.out.2.later hb13));have hn4:=aU 5 w13;clear ht3 hb13)
   | (go_at_call 15;(with_reducible refine hn4.mono ?_);rintro e w14 ⟨rfl,hb14⟩;have D14:=qAq (qBq (aB D13.out.1 hb14) (D13.out.2.later hb14));have hp2:=cR sSale [(1,(j:Int),e0),(2,0,sD),(1,5,e0),(0,0,e0)] 4 #[.int .i64 1,.int .i64 (j:Int),.string e0,.int .i64 2,.int .i64 0,.string sD,.int .i64 1,.int .i64 5,.string e0,.int .i64 0,.int .i64 0,.string e0] rfl rfl (by decide) (by decide) w14;clear hn4 hb14)
   | (go_at_call 14;(with_reducible refine hp2.mono ?_);rintro e w15 ⟨g4,k4,rfl,hr15,hb15⟩;have hrun:=aEa (n1:=sShop) (n2:=sSale) (base:=w5.heap.size) (l1:=[(1,(j:Int),e0),(2,0,sC),(2,0,sZ),(1,1,e0)]) (l2:=[(1,(j:Int),e0),(2,0,sD),(1,5,e0),(0,0,e0)]) HB.out.1 (bH j) (aB D14.out.1 hb15) (Nat.le_trans HB.out.2.size (aB D14.out.1 hb15).size) HB.out.2.size (D14.out.2.later hb15) (hr15.mono D14.out.1.size) (by omega);obtain⟨g,cap,wz,hrun,ho2,hbz⟩:=hrun;have HZ:=qAq (qBq ho2 (HB.out.2.trans hbz));clear hp2 hr15 hb15 ho2 hbz)
   | (at_builtin;refine aK rfl (.tmp 40) (.tmp 55) 35 rfl rfl rfl hrun ?_))
  go_roundg (n-j)
  case measure=>omega
  exact⟨j+1,_,_,by go_num,by omega,by omega,rfl,by rw[qD];exact HZ.out.1,HZ.out.2⟩
 obtain rfl:j=n:=(by omega);clear hj hg hlt
 go_upto_block 2 with fail
 obtain⟨wc,hwc⟩:∃ z,z=wr:=⟨_,rfl⟩;subst hwc
 go_cut [8,10] from 57 to 111 (fun lv wv w=>∃ (p:Option Addr) (m c k:Nat),lv=.slice p m c/\(kOps j++kEx k).length=m/\k<=5/\wv=.int .i64 (kWant k)/\OpsO w w5.heap.size (.slice p m c) (kOps j++kEx k)/\Below w5.heap.size w5 w)
 case first =>
  generalize (wrap64 (a0.tmod 6+6)).tmod 6=x;have hj8:j<=8:=(by omega);by_cases hx1:x=1
  ·subst hx1;have hc0:=aU 90 wc
   go_wp2_with (first
    | (go_at_call 15;(with_reducible refine hc0.mono ?_);rintro e y0 ⟨rfl,hq0⟩;have E0:=qAq (hq0);have hc1:=aX sZ y0;clear hc0 hq0)
    | (go_at_call 16;(with_reducible refine hc1.mono ?_);rintro e y1 ⟨rfl,hq1⟩;have E1:=qAq (aB E0.out hq1);have hc2:=aU 1 y1;clear hc1 hq1)
    | (go_at_call 15;(with_reducible refine hc2.mono ?_);rintro e y2 ⟨rfl,hq2⟩;have E2:=qAq (aB E1.out hq2);have hp1:=cR sShop [(1,90,e0),(0,0,e0),(2,0,sZ),(1,1,e0)] 4 #[.int .i64 1,.int .i64 90,.string e0,.int .i64 0,.int .i64 0,.string e0,.int .i64 2,.int .i64 0,.string sZ,.int .i64 1,.int .i64 1,.string e0] rfl rfl (by decide) (by decide) y2;clear hc2 hq2)
    | (go_at_call 14;(with_reducible refine hp1.mono ?_);rintro e yz ⟨g3,k3,rfl,hr3,hz3⟩;have hrun:=dL (n1:=sShop) (base:=w5.heap.size) (l1:=[(1,90,e0),(0,0,e0),(2,0,sZ),(1,1,e0)]) HB.out.1 (bH j) (aB E2.out hz3) HB.out.2.size (hr3.mono E2.out.size) (by omega);obtain⟨g,cap,wz,hrun,ho2,hbz⟩:=hrun;have HZ:=qAq (qBq ho2 (HB.out.2.trans hbz));clear hp1 hr3 hz3 ho2 hbz)
    | (at_builtin;refine aK rfl (.tmp 63) (.tmp 70) 35 rfl rfl rfl hrun ?_))
   go_meet;exact⟨_,_,_,1,rfl,by rw[List.length_append,bH];rfl,by decide,rfl,HZ.out.1,HZ.out.2⟩
  have hb1:(x==1)=false:=beq_eq_false_iff_ne.2 hx1;by_cases hx2:x=2
  ·subst hx2;have hc0:=aU 1 wc
   go_wp2_with (first
    | (go_at_call 15;(with_reducible refine hc0.mono ?_);rintro e y0 ⟨rfl,hq0⟩;have E0:=qAq (hq0);have hc1:=aX sB y0;clear hc0 hq0)
    | (go_at_call 16;(with_reducible refine hc1.mono ?_);rintro e y1 ⟨rfl,hq1⟩;have E1:=qAq (aB E0.out hq1);have hp1:=cR sLand [(1,1,e0),(2,0,sB)] 2 #[.int .i64 1,.int .i64 1,.string e0,.int .i64 2,.int .i64 0,.string sB] rfl rfl (by decide) (by decide) y1;clear hc1 hq1)
    | (go_at_call 14;(with_reducible refine hp1.mono ?_);rintro e yz ⟨g3,k3,rfl,hr3,hz3⟩;have hrun:=dL (n1:=sLand) (base:=w5.heap.size) (l1:=[(1,1,e0),(2,0,sB)]) HB.out.1 (bH j) (aB E1.out hz3) HB.out.2.size (hr3.mono E1.out.size) (by omega);obtain⟨g,cap,wz,hrun,ho2,hbz⟩:=hrun;have HZ:=qAq (qBq ho2 (HB.out.2.trans hbz));clear hp1 hr3 hz3 ho2 hbz)
    | (at_builtin;refine aK rfl (.tmp 74) (.tmp 79) 35 rfl rfl rfl hrun ?_))
   go_meet;exact⟨_,_,_,2,rfl,by rw[List.length_append,bH];rfl,by decide,rfl,HZ.out.1,HZ.out.2⟩
  have hb2:(x==2)=false:=beq_eq_false_iff_ne.2 hx2;by_cases hx3:x=3
  ·subst hx3;have hc0:=aU 77 wc
   go_wp2_with (first
    | (go_at_call 15;(with_reducible refine hc0.mono ?_);rintro e y0 ⟨rfl,hq0⟩;have E0:=qAq (hq0);have hc1:=aX sD y0;clear hc0 hq0)
    | (go_at_call 16;(with_reducible refine hc1.mono ?_);rintro e y1 ⟨rfl,hq1⟩;have E1:=qAq (aB E0.out hq1);have hc2:=aU 5 y1;clear hc1 hq1)
    | (go_at_call 15;(with_reducible refine hc2.mono ?_);rintro e y2 ⟨rfl,hq2⟩;have E2:=qAq (aB E1.out hq2);have hp1:=cR sSale [(1,77,e0),(2,0,sD),(1,5,e0),(0,0,e0)] 4 #[.int .i64 1,.int .i64 77,.string e0,.int .i64 2,.int .i64 0,.string sD,.int .i64 1,.int .i64 5,.string e0,.int .i64 0,.int .i64 0,.string e0] rfl rfl (by decide) (by decide) y2;clear hc2 hq2)
    | (go_at_call 14;(with_reducible refine hp1.mono ?_);rintro e yz ⟨g3,k3,rfl,hr3,hz3⟩;have hrun:=dL (n1:=sSale) (base:=w5.heap.size) (l1:=[(1,77,e0),(2,0,sD),(1,5,e0),(0,0,e0)]) HB.out.1 (bH j) (aB E2.out hz3) HB.out.2.size (hr3.mono E2.out.size) (by omega);obtain⟨g,cap,wz,hrun,ho2,hbz⟩:=hrun;have HZ:=qAq (qBq ho2 (HB.out.2.trans hbz));clear hp1 hr3 hz3 ho2 hbz)
    | (at_builtin;refine aK rfl (.tmp 83) (.tmp 90) 35 rfl rfl rfl hrun ?_))
   go_meet;exact⟨_,_,_,3,rfl,by rw[List.length_append,bH];rfl,by decide,rfl,HZ.out.1,HZ.out.2⟩
  have hb3:(x==3)=false:=beq_eq_false_iff_ne.2 hx3;by_cases hx4:x=4
  ·subst hx4;have hc0:=aX sE wc
   go_wp2_with (first
    | (go_at_call 16;(with_reducible refine hc0.mono ?_);rintro e y0 ⟨rfl,hq0⟩;have E0:=qAq (hq0);have hc1:=aU 1 y0;clear hc0 hq0)
    | (go_at_call 15;(with_reducible refine hc1.mono ?_);rintro e y1 ⟨rfl,hq1⟩;have E1:=qAq (aB E0.out hq1);have hc2:=aU 2002 y1;clear hc1 hq1)
    | (go_at_call 15;(with_reducible refine hc2.mono ?_);rintro e y2 ⟨rfl,hq2⟩;have E2:=qAq (aB E1.out hq2);have hp1:=cR sDay [(2,0,sE),(1,1,e0),(1,2002,e0)] 3 #[.int .i64 2,.int .i64 0,.string sE,.int .i64 1,.int .i64 1,.string e0,.int .i64 1,.int .i64 2002,.string e0] rfl rfl (by decide) (by decide) y2;clear hc2 hq2)
    | (go_at_call 14;(with_reducible refine hp1.mono ?_);rintro e yz ⟨g3,k3,rfl,hr3,hz3⟩;have hrun:=dL (n1:=sDay) (base:=w5.heap.size) (l1:=[(2,0,sE),(1,1,e0),(1,2002,e0)]) HB.out.1 (bH j) (aB E2.out hz3) HB.out.2.size (hr3.mono E2.out.size) (by omega);obtain⟨g,cap,wz,hrun,ho2,hbz⟩:=hrun;have HZ:=qAq (qBq ho2 (HB.out.2.trans hbz));clear hp1 hr3 hz3 ho2 hbz)
    | (at_builtin;refine aK rfl (.tmp 94) (.tmp 100) 35 rfl rfl rfl hrun ?_))
   go_meet;exact⟨_,_,_,4,rfl,by rw[List.length_append,bH];rfl,by decide,rfl,HZ.out.1,HZ.out.2⟩
  have hb4:(x==4)=false:=beq_eq_false_iff_ne.2 hx4;by_cases hx5:x=5
  ·subst hx5;have hc0:=aU 2 wc
   go_wp2_with (first
    | (go_at_call 15;(with_reducible refine hc0.mono ?_);rintro e y0 ⟨rfl,hq0⟩;have E0:=qAq (hq0);have hp1:=cR sDay [(0,0,e0),(1,2,e0),(0,0,e0)] 3 #[.int .i64 0,.int .i64 0,.string e0,.int .i64 1,.int .i64 2,.string e0,.int .i64 0,.int .i64 0,.string e0] rfl rfl (by decide) (by decide) y0;clear hc0 hq0)
    | (go_at_call 14;(with_reducible refine hp1.mono ?_);rintro e yz ⟨g3,k3,rfl,hr3,hz3⟩;have hrun:=dL (n1:=sDay) (base:=w5.heap.size) (l1:=[(0,0,e0),(1,2,e0),(0,0,e0)]) HB.out.1 (bH j) (aB E0.out hz3) HB.out.2.size (hr3.mono E0.out.size) (by omega);obtain⟨g,cap,wz,hrun,ho2,hbz⟩:=hrun;have HZ:=qAq (qBq ho2 (HB.out.2.trans hbz));clear hp1 hr3 hz3 ho2 hbz)
    | (at_builtin;refine aK rfl (.tmp 104) (.tmp 110) 35 rfl rfl rfl hrun ?_))
   go_meet;exact⟨_,_,_,5,rfl,by rw[List.length_append,bH];rfl,by decide,rfl,HZ.out.1,HZ.out.2⟩
  have hb5:(x==5)=false:=beq_eq_false_iff_ne.2 hx5;go_wp2_with fail;go_meet;exact⟨_,_,_,0,rfl,by rw[List.length_append,bH];rfl,by decide,rfl,by rw[show kEx 0=[] from rfl,List.append_nil];exact HB.out.1,HB.out.2⟩
 obtain⟨p',m,c',k,rfl,hm,hk,rfl,ho,hBc⟩:=hcut;have hj8:j<=8:=(by omega);have hP:=HP5.out.with hBc
 have hfill:Calls Tryz.prog 17 #[.pointer (some ⟨d,0,none⟩),.pointer (some ⟨b,0,none⟩),.slice p' m c'] wc (fun e w'=>e=.returned (.tuple #[])/\PD (fun q=>q<w4.heap.size∨(w5.heap.size<=q/\q<wc.heap.size)) wc w' d b (pre 4) ps (fillP (pre 4) Lz (kOps j++kEx k)) (fillP (pre 4) Lz (kOps j++kEx k))):=by
  subst hm;exact jN (m:=0) hP ho (fun q h1 h2=>.inr ⟨h1,h2⟩) (cO 4 (by decide)) (bQ 4) aO cL cD cD (by rw[List.length_append,bH];have:=aAu k;omega) (fun o ho=>aIA hj8 hk ho)
 have hsm:∀ x∈fillP (pre 4) Lz (kOps j++kEx k),SmP 100 x:=(fun x hx=>(dY cD x hx).mono (by rw[List.length_append,bH];have:=aAu k;omega));have herr:=aIk hj8 hk;unfold errOf at herr;obtain⟨X,hX⟩:∃ X,fillP (pre 4) Lz (kOps j++kEx k)=X:=⟨_,rfl⟩;obtain⟨wt,hwt⟩:∃ x,kWant k=x:=⟨_,rfl⟩;rw[hX] at hfill hsm herr;rw[hwt] at herr;rw[hwt];obtain⟨⟨a1,a2,a3,a4⟩,hcf⟩:∃ x,checkF (pre 4) (X.map (·.2))=x:=⟨_,rfl⟩;rw[hcf] at herr;obtain rfl:a1=wt:=herr;have HC:=qAq (qBq hcf (qBq hsm hBc));clear hX hwt hcf hsm hm hk ho hBc hP hj8;go_upto_region 25 with (go_at_call 17;(with_reducible refine hfill.mono ?_);rintro e w13 ⟨rfl,hP13⟩;have HP13:=qAq ((HP5.out.later HC.out.2.2).back hP13 (fun q hq=>.inl hq));clear hfill hP13);have hck:=HP13.out.check bE HC.out.2.1 (by decide);rw[HC.out.1] at hck;go_upto_region 26 with (go_at_call 18;(with_reducible refine hck.mono ?_);rintro e w14 ⟨rfl,hb14⟩;have H14:=qAq hb14;clear hck hb14);have b15:=aD w14 (.cells #[.int .i64 a1,.int .i64 0,.string a2,.int .i64 a3,.string a4] 39);have k15:=heap_alloc_new w14 (.cells #[.int .i64 a1,.int .i64 0,.string a2,.int .i64 a3,.string a4] 39);obtain⟨wF,hwF⟩:∃ y,w14.alloc (.cells #[.int .i64 a1,.int .i64 0,.string a2,.int .i64 a3,.string a4] 39)=y:=⟨_,rfl⟩;obtain⟨F,hF⟩:∃ x,w14.heap.size=x:=⟨_,rfl⟩;rw[hwF] at b15 k15;rw[hF] at k15
 try rw[hwF]
 try rw[hF]
 have HPF:=qAq (HP13.out.later (aB H14.out b15));have HK:Hid (∀ y,Below wF.heap.size wF y->y.heap[F]?=some (.cells #[.int .i64 a1,.int .i64 0,.string a2,.int .i64 a3,.string a4] 39)):=qAq (fun y hy=>aE hy k15)
 have HNK:Hid (∀ y,Below wF.heap.size wF y->Calls Tryz.prog 20 #[.pointer (some ⟨b,0,none⟩)] y fun e w'=>e=.returned (.agg #[.int .i64 a1,.int .i64 0,.string a2,.int .i64 a3,.string a4])/\Below y.heap.size y w'):=qAq (fun y hy=>by
  have:=(HPF.out.later hy).ncheck bE fS (by decide) HC.out.2.1 (by decide)
  rw[HC.out.1] at this;exact this)
 have HEQ:Hid (∀ y,Calls Tryz.prog 19 #[.agg #[.int .i64 a1,.int .i64 0,.string a2,.int .i64 a3,.string a4],.agg #[.int .i64 a1,.int .i64 0,.string a2,.int .i64 a3,.string a4]] y fun e w'=>e=.returned (.bool true)/\Below y.heap.size y w'):=qAq (fun y=>bR a1 0 a3 a2 a4 y);clear b15 k15 hwF hF;refine Par.wp_region_par 11 [.pointer (some ⟨F,0,none⟩),.int .i64 a1,.int .i64 a1,.bool true,.bool true,.agg #[.int .i64 a1,.int .i64 0,.string a2,.int .i64 a3,.string a4],.pointer (some ⟨b,0,none⟩),.agg #[.int .i64 a1,.int .i64 0,.string a2,.int .i64 a3,.string a4],.bool true,.bool true,.bool true] (fun y=>Below wF.heap.size wF y) ?A1 ?hm1 ?hB1 ?hA1 ((aF wF)) ?hop1 ?hT1
 case hm1=>kernel_rfl
 case hB1=>kernel_rfl
 case hA1 =>
  simp only[Par.putA,Par.dstAt,Act.put,qDq,qEq,qFq,qLq,qGq,qHq,qIq,qJq,qKq];rfl
 case hop1 =>
  simp only[qMq,List.take_zero,Par.GiveAll,and_true];and_intros<;>intro w' hR<;>have HR:=qAq hR
  have zl:=aC (HK.out w' hR);rotate_left;have z0:=aA (HK.out w' hR) 0;rotate_left 4;have zl:=aC (HK.out w' hR);have z0:=aA (HK.out w' hR) 0;have z1:=aA (HK.out w' hR) 1;have z2:=aA (HK.out w' hR) 2;have z3':=aA (HK.out w' hR) 3;have z4:=aA (HK.out w' hR) 4;rotate_left 2
  ·clear hR;simp only[Par.Gives];go_simp;exact (HNK.out w' HR.out).mono (fun e w'' ⟨he,hb⟩=>⟨he,aB HR.out hb⟩)
  ·clear hR;simp only[Par.Gives];go_simp;exact (HEQ.out w').mono (fun e w'' ⟨he,hb⟩=>⟨he,aB HR.out hb⟩)
  rotate_left 2
  all_goals(clear hR;simp only[Par.Gives];go_simp;all_goals exact HR.out)
 intro w' hR;simp only[qNq,List.drop_nil];have hbe:=aB H4.out ((HPF.out.later hR).bel (Below.refl _ _) (fun q hq=>hq));clear hR;go_wp2_with fail;go_ret;exact⟨rfl,hbe⟩
