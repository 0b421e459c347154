import Derived.Test.YthlccadnojnkaaaGreatZk20
import Derived.Test.YthlccadnojnkaaaGreatZk2
import Derived.Test.YthlccadnojnkaaaGreatZk8
import Derived.Deep.QuietTactic
import Derived.BigQuiet
import Derived.Deep.RegionHeld3
set_option maxHeartbeats 2000000
set_option maxRecDepth 100000
namespace Go.Proofs.YthlccadnojnkaaaGreat
open Go Go.RowKit Go.Proofs Co Co.S
theorem aCT (k n1:Int) (s:ByteArray) (w:World):Calls Tryz.prog 129 #[.agg #[.int .i64 (k),.int .i64 (n1),.string (s)],.agg #[.int .i64 (k),.int .i64 (n1),.string (s)]] w fun e w'=>e=.returned (.int .i64 0)/\Below w.heap.size w w':=by
 have hb1:=aD w (.cells #[.int .i64 k,.int .i64 n1,.string s] 32);have hb2:=aB hb1 (aD (w.alloc (.cells #[.int .i64 k,.int .i64 n1,.string s] 32)) (.cells #[.int .i64 k,.int .i64 n1,.string s] 32));have HB:=qAq hb2;have hbl:=zL s.toList;clear hb1 hb2;go_enter Tryz.func129,Tryz.ntmps129;go_wp2_with fail;go_ret;exact⟨rfl,HB.out⟩
theorem aBr {S1 S2:Nat->Prop} {v1 v2:Value} {l:List T3} {W:World} (h1:InV S1 W v1 l) (h2:InV S2 W v2 l):Calls Tryz.prog 95 #[v1,v2] W fun e w'=>e=.returned (.int .i64 0)/\Below W.heap.size W w':=by
 obtain⟨p1,c1,rfl,_,m1⟩:=h1.slice;obtain⟨p2,c2,rfl,_,m2⟩:=h2.slice;obtain⟨n,hn⟩:∃ n,l.length=n:=⟨_,rfl⟩;have hn':(n:Int)<=9223372036854775807:=(by unfold maxLen at m1;omega);have H1:=qAq h1;have H2:=qAq h2;have HN:=qAq hn;rw[hn];clear h1 h2 m1 m2 hn;go_enter Tryz.func95,Tryz.ntmps95
 go_upto_block 0 with fail
 go_cut [] from 200 to 200 (fun w=>Below W.heap.size W w)
 case first =>
  go_wp2_with fail;go_loopg [5] (n+1) (fun gh jv w=>∃ (j:Nat),jv=.int .i64 (j:Int)/\j<=n/\n+1<=j+gh/\Below W.heap.size W w)
  case atStart=>exact⟨0,rfl,Nat.zero_le _,by omega,Below.refl _ _⟩
  obtain⟨j,rfl,hj,hg,hB⟩:=hrel;by_cases hlt:j<n
  ·have hjl:j<l.length:=(by rw[HN.out];exact hlt);have hji:(j:Int)<(n:Int):=(by omega);obtain⟨b1,o1,rfl,hb1,_⟩:=H1.out.val hjl;obtain⟨b2,o2,rfl,hb2,_⟩:=H2.out.val hjl;obtain⟨u,hu⟩:∃ u,l[j]=u:=⟨_,rfl⟩
   have HV:Hid (∀ w,Below W.heap.size W w->(w.cell? ⟨b1,o1+j*3,none⟩=some (.int .i64 u.1)/\w.cell? ⟨b1,o1+j*3+1,none⟩=some (.int .i64 u.2.1)/\w.cell? ⟨b1,o1+j*3+2,none⟩=some (.string u.2.2)) /\
     (w.cell? ⟨b2,o2+j*3,none⟩=some (.int .i64 u.1)/\w.cell? ⟨b2,o2+j*3+1,none⟩=some (.int .i64 u.2.1)/\w.cell? ⟨b2,o2+j*3+2,none⟩=some (.string u.2.2))):=qAq (fun w hb=>by
    obtain⟨b1',o1',e1,_,r1⟩:=(H1.out.later hb).val hjl;obtain⟨b2',o2',e2,_,r2⟩:=(H2.out.later hb).val hjl;cases e1;cases e2
    rw[<- hu];exact⟨r1,r2⟩)
   have hcmp:=(fun w=>aCT u.1 u.2.1 u.2.2 w);have HB:=qAq hB;clear hB hu hb1 hb2;go_upto_region 4 with fail;refine Par.wp_region_par 8 [.slice (some ⟨b1,o1,none⟩) n c1,.int .i64 ((j:Int)),.pointer (some ⟨b1,o1+j*3,none⟩),.agg #[.int .i64 (u.1),.int .i64 (u.2.1),.string (u.2.2)],.slice (some ⟨b2,o2,none⟩) n c2,.int .i64 ((j:Int)),.pointer (some ⟨b2,o2+j*3,none⟩),.agg #[.int .i64 (u.1),.int .i64 (u.2.1),.string (u.2.2)]] (fun w=>Below W.heap.size W w) ?A1 ?hm1 ?hB1 ?hA1 (HB.out.drew) ?hop1 ?hT1
   case hm1=>kernel_rfl
   case hB1=>kernel_rfl
   case hA1 =>
    simp only[Par.putA,Par.dstAt,Act.put,qDq,qEq,qFq,qLq,qGq,qHq,qIq,qJq,qKq];rfl
   case hop1 =>
    simp only[qMq,List.take_zero,Par.GiveAll,and_true];and_intros<;>intro w' hR<;>have HR:=qAq hR
    rotate_left 3;have x0:=(HV.out w' hR).1.1;have x1:=(HV.out w' hR).1.2.1;have x2:=(HV.out w' hR).1.2.2;rotate_left 4;have x0:=(HV.out w' hR).2.1;have x1:=(HV.out w' hR).2.2.1;have x2:=(HV.out w' hR).2.2.2;rotate_left
    all_goals(clear hR;simp only[Par.Gives];go_simp;all_goals exact HR.out)
   intro w' hR;simp only[qNq,List.drop_zero];have HR:=qAq hR;have hcmp:=hcmp w';clear hR;go_wp2_with (go_at_call 129;(with_reducible refine hcmp.mono ?_);rintro e w4 ⟨rfl,hb4⟩;have H4:=qAq (HR.out.trans (hb4.mono HR.out.size));clear hcmp hb4);go_roundg (n-j)
   case measure=>omega
   exact⟨j+1,rfl,by omega,by omega,H4.out⟩
  obtain rfl:j=n:=(by omega);go_wp2_with fail;go_meet;exact hB
 have HB0:=qAq hcut;go_wp2_with fail;go_ret;exact⟨rfl,HB0.out⟩
def or3 (a b c:Int):Int:=if a=0 then (if b=0 then c else b) else a
def cmp3V (u v:T3):Int:=or3 (Lib.compareInt u.1 v.1) (Lib.compareInt u.2.1 v.2.1) (Lib.compareBytes u.2.2.data.toList v.2.2.data.toList)
theorem zV (x y:Int):Lib.compareInt x y=0↔x=y:=by
 unfold Lib.compareInt;rcases Int.lt_trichotomy x y with h|h|h
 ·rw[if_pos h];omega
 ·rw[if_neg (by omega),if_neg (by omega)];omega
 rw[if_neg (by omega),if_pos (by omega)];omega
theorem zW:∀ a b:List UInt8,Lib.compareBytes a b=0↔a=b
 | [],[]=>by simp[Lib.compareBytes]
 | [],_::_=>by simp[Lib.compareBytes]
 | _::_,[]=>by simp[Lib.compareBytes]
 | x::a,y::b=>by
  have ih:=zW a b;unfold Lib.compareBytes;by_cases h:x<y
  ·have hne:x≠y:=(by intro e;subst e;simp[UInt8.lt_irrefl] at h);simp[h,hne]
  ·by_cases h2:y<x
   ·have hne:x≠y:=(by intro e;subst e;simp[UInt8.lt_irrefl] at h2);simp[h,h2,hne]
   ·have he:x=y:=by
     apply UInt8.toNat_inj.1;rw[UInt8.lt_iff_toNat_lt] at h h2;omega
    subst he;simp[UInt8.lt_irrefl,ih]
theorem xE (u v:T3):(cmp3V u v==0)=decide (u=v):=by
 obtain⟨k1,n1,s1⟩:=u;obtain⟨k2,n2,s2⟩:=v;have h1:=zV k1 k2;have h2:=zV n1 n2;have h3:=zW s1.data.toList s2.data.toList;have h4:s1.data.toList=s2.data.toList↔s1=s2:=⟨fun e=>dQ e,fun e=>by rw[e]⟩;rw[h4] at h3;rw[Bool.eq_iff_iff];simp only[beq_iff_eq,decide_eq_true_eq,cmp3V,or3,Prod.mk.injEq];by_cases e1:k1=k2
 ·rw[if_pos (h1.2 e1)];by_cases e2:n1=n2
  ·rw[if_pos (h2.2 e2),h3];simp[e1,e2]
  rw[if_neg (fun h=>e2 (h2.1 h)),h2];simp[e2]
 rw[if_neg (fun h=>e1 (h1.1 h)),h1];simp[e1]
theorem pJ (x:Int) (w:World):Calls Tryz.prog 204 #[.int .i64 x] w fun e w'=>e=.returned (.bool false)/\w'=w:=by
 go_enter Tryz.func204,Tryz.ntmps204;go_wp2_with fail;go_ret;exact⟨rfl,rfl⟩
theorem lC (x:Int) (w:World):Calls Tryz.prog 205 #[.int .i64 x] w fun e w'=>e=.returned (.bool false)/\w'=w:=by
 go_enter Tryz.func205,Tryz.ntmps205;go_wp2_with fail;go_ret;exact⟨rfl,rfl⟩
theorem aCU (x y:Int) (w:World):Calls Tryz.prog 179 #[.int .i64 x,.int .i64 y] w fun e w'=>e=.returned (.int .i64 (Lib.compareInt x y))/\w'=w:=by
 have ha:=pJ x w;have hb:=pJ y w;unfold Lib.compareInt;rcases Int.lt_trichotomy x y with h|h|h
 ·rw[if_pos h];go_enter Tryz.func179,Tryz.ntmps179;go_wp2_with (first | (go_at_call 204;(with_reducible refine ha.mono ?_);rintro e w' ⟨rfl,hw⟩;subst hw;clear ha) | (go_at_call 204;(with_reducible refine hb.mono ?_);rintro e w' ⟨rfl,hw⟩;subst hw;clear hb));go_ret;exact⟨rfl,rfl⟩
 ·subst h;rw[if_neg (by omega),if_neg (by omega)];go_enter Tryz.func179,Tryz.ntmps179;go_wp2_with (first | (go_at_call 204;(with_reducible refine ha.mono ?_);rintro e w' ⟨rfl,hw⟩;subst hw;clear ha) | (go_at_call 204;(with_reducible refine hb.mono ?_);rintro e w' ⟨rfl,hw⟩;subst hw;clear hb));go_ret;exact⟨rfl,rfl⟩
 rw[if_neg (by omega),if_pos (by omega)];go_enter Tryz.func179,Tryz.ntmps179;go_wp2_with (first | (go_at_call 204;(with_reducible refine ha.mono ?_);rintro e w' ⟨rfl,hw⟩;subst hw;clear ha) | (go_at_call 204;(with_reducible refine hb.mono ?_);rintro e w' ⟨rfl,hw⟩;subst hw;clear hb));go_ret;exact⟨rfl,rfl⟩
theorem aBs (x y:Int) (w:World):Calls Tryz.prog 180 #[.int .i64 x,.int .i64 y] w fun e w'=>e=.returned (.int .i64 (Lib.compareInt x y))/\w'=w:=by
 have ha:=lC x w;have hb:=lC y w;unfold Lib.compareInt;rcases Int.lt_trichotomy x y with h|h|h
 ·rw[if_pos h];go_enter Tryz.func180,Tryz.ntmps180;go_wp2_with (first | (go_at_call 205;(with_reducible refine ha.mono ?_);rintro e w' ⟨rfl,hw⟩;subst hw;clear ha) | (go_at_call 205;(with_reducible refine hb.mono ?_);rintro e w' ⟨rfl,hw⟩;subst hw;clear hb));go_ret;exact⟨rfl,rfl⟩
 ·subst h;rw[if_neg (by omega),if_neg (by omega)];go_enter Tryz.func180,Tryz.ntmps180;go_wp2_with (first | (go_at_call 205;(with_reducible refine ha.mono ?_);rintro e w' ⟨rfl,hw⟩;subst hw;clear ha) | (go_at_call 205;(with_reducible refine hb.mono ?_);rintro e w' ⟨rfl,hw⟩;subst hw;clear hb));go_ret;exact⟨rfl,rfl⟩
 rw[if_neg (by omega),if_pos (by omega)];go_enter Tryz.func180,Tryz.ntmps180;go_wp2_with (first | (go_at_call 205;(with_reducible refine ha.mono ?_);rintro e w' ⟨rfl,hw⟩;subst hw;clear ha) | (go_at_call 205;(with_reducible refine hb.mono ?_);rintro e w' ⟨rfl,hw⟩;subst hw;clear hb));go_ret;exact⟨rfl,rfl⟩
theorem aBt (a b c:Int) (g:Nat) (w:World) (ca:w.cell? ⟨g,0,none⟩=some (.int .i64 a)) (cb:w.cell? ⟨g,1,none⟩=some (.int .i64 b)) (cc:w.cell? ⟨g,2,none⟩=some (.int .i64 c)) :
  Calls Tryz.prog 178 #[.slice (some ⟨g,0,none⟩) 3 3] w fun e w'=>e=.returned (.int .i64 (or3 a b c))/\w'=w:=by
 by_cases ha:a=0
 ·subst ha;by_cases hb:b=0
  ·subst hb;by_cases hc:c=0
   ·subst hc;go_enter Tryz.func178,Tryz.ntmps178;go_wp2_with fail;go_loopg [8] 5 (fun gh jv wr=>∃ (j:Nat),jv=.int .i64 (j:Int)/\j<=3/\4<=j+gh/\wr=w)
    case atStart=>exact⟨0,rfl,by omega,by omega,rfl⟩
    obtain⟨k,rfl,hk,hg,rfl⟩:=hrel;rcases (by omega:k=0∨k=1∨k=2∨k=3) with rfl|rfl|rfl|rfl
    ·go_wp2_with fail;go_roundg 3
     case measure=>omega
     exact⟨1,rfl,by omega,by omega,rfl⟩
    ·go_wp2_with fail;go_roundg 2
     case measure=>omega
     exact⟨2,rfl,by omega,by omega,rfl⟩
    ·go_wp2_with fail;go_roundg 1
     case measure=>omega
     exact⟨3,rfl,by omega,by omega,rfl⟩
    go_wp2_with fail;go_ret;exact⟨rfl,rfl⟩
   have hcb:(c==0)=false:=beq_eq_false_iff_ne.2 hc;have hor:or3 0 0 c=c:=rfl;rw[hor];go_enter Tryz.func178,Tryz.ntmps178;go_wp2_with fail;go_loopg [8] 5 (fun gh jv wr=>∃ (j:Nat),jv=.int .i64 (j:Int)/\j<=2/\4<=j+gh/\wr=w)
   case atStart=>exact⟨0,rfl,by omega,by omega,rfl⟩
   obtain⟨k,rfl,hk,hg,rfl⟩:=hrel;rcases (by omega:k=0∨k=1∨k=2) with rfl|rfl|rfl
   ·go_wp2_with fail;go_roundg 3
    case measure=>omega
    exact⟨1,rfl,by omega,by omega,rfl⟩
   ·go_wp2_with fail;go_roundg 2
    case measure=>omega
    exact⟨2,rfl,by omega,by omega,rfl⟩
   go_wp2_with fail;go_ret;exact⟨rfl,rfl⟩
  have hbb:(b==0)=false:=beq_eq_false_iff_ne.2 hb;have hor:or3 0 b c=b:=(by unfold or3;rw[if_pos rfl,if_neg hb]);rw[hor];go_enter Tryz.func178,Tryz.ntmps178;go_wp2_with fail;go_loopg [8] 5 (fun gh jv wr=>∃ (j:Nat),jv=.int .i64 (j:Int)/\j<=1/\4<=j+gh/\wr=w)
  case atStart=>exact⟨0,rfl,by omega,by omega,rfl⟩
  obtain⟨k,rfl,hk,hg,rfl⟩:=hrel;rcases (by omega:k=0∨k=1) with rfl|rfl
  ·go_wp2_with fail;go_roundg 3
   case measure=>omega
   exact⟨1,rfl,by omega,by omega,rfl⟩
  go_wp2_with fail;go_ret;exact⟨rfl,rfl⟩
 have hab:(a==0)=false:=beq_eq_false_iff_ne.2 ha;have hor:or3 a b c=a:=(by unfold or3;rw[if_neg ha]);rw[hor];go_enter Tryz.func178,Tryz.ntmps178;go_wp2_with fail;go_loopg [8] 5 (fun gh jv wr=>∃ (j:Nat),jv=.int .i64 (j:Int)/\j<=0/\4<=j+gh/\wr=w)
 case atStart=>exact⟨0,rfl,by omega,by omega,rfl⟩
 obtain⟨k,rfl,hk,hg,rfl⟩:=hrel;obtain rfl:k=0:=(by omega);go_wp2_with fail;go_ret;exact⟨rfl,rfl⟩
theorem rD (u v:T3) (w:World) :
  Calls Tryz.prog 156 #[.agg #[.int .i64 (u.1),.int .i64 (u.2.1),.string (u.2.2)],.agg #[.int .i64 (v.1),.int .i64 (v.2.1),.string (v.2.2)]] w fun e w'=>e=.returned (.int .i64 (cmp3V u v))/\Below w.heap.size w w':=by
 obtain⟨k1,n1,s1⟩:=u;obtain⟨k2,n2,s2⟩:=v;go_enter Tryz.func156,Tryz.ntmps156
 go_wp2
 go_region_held3 (fun w'=>w'.cell? ⟨w.heap.size,0,none⟩=some (.int .i64 k1)/\w'.cell? ⟨w.heap.size,1,none⟩=some (.int .i64 n1)/\w'.cell? ⟨w.heap.size,2,none⟩=some (.string s1) /\
   w'.cell? ⟨w.heap.size+1,0,none⟩=some (.int .i64 k2)/\w'.cell? ⟨w.heap.size+1,1,none⟩=some (.int .i64 n2)/\w'.cell? ⟨w.heap.size+1,2,none⟩=some (.string s2))
  (go_keep)
  (first
   | (go_at_call 179;refine (aCU _ _ _).mono ?_;rintro e w' ⟨rfl,rfl⟩)
   | (go_at_call 180;refine (aBs _ _ _).mono ?_;rintro e w' ⟨rfl,rfl⟩)
   | (go_at_call 173;refine (oR _ _ _).mono ?_;rintro e w' ⟨rfl,rfl⟩)
   | (go_at_call 178;refine (aBt (Lib.compareInt k1 k2) (Lib.compareInt n1 n2) (Lib.compareBytes s1.data.toList s2.data.toList) _ _ ?_ ?_ ?_).mono ?_;(go_simp);(go_simp);(go_simp);rintro e w' ⟨rfl,rfl⟩))
 go_wp2
 go_ret;exact⟨rfl,(((aN _ _).alloc (by simp) _).alloc (by simp;omega) _).drew⟩
theorem zX (u v:T3) (w:World) :
  Calls Tryz.prog 134 #[.agg #[.int .i64 (u.1),.int .i64 (u.2.1),.string (u.2.2)],.agg #[.int .i64 (v.1),.int .i64 (v.2.1),.string (v.2.2)]] w fun e w'=>e=.returned (.bool (decide (u=v)))/\Below w.heap.size w w':=by
 have hz:=xE u v;have hb1:=aD w (.cells #[.int .i64 u.1,.int .i64 u.2.1,.string u.2.2] 32);have hb2:=aB hb1 (aD (w.alloc (.cells #[.int .i64 u.1,.int .i64 u.2.1,.string u.2.2] 32)) (.cells #[.int .i64 v.1,.int .i64 v.2.1,.string v.2.2] 32));have hc:=rD u v;obtain⟨c,hcc⟩:∃ c,cmp3V u v=c:=⟨_,rfl⟩;rw[hcc] at hz hc;rw[<- hz];have HB:=qAq hb2;clear hz hcc hb1 hb2;go_enter Tryz.func134,Tryz.ntmps134;go_wp2_with (go_at_call 156;(with_reducible refine (hc _).mono ?_);rintro e w' ⟨rfl,hb⟩);go_ret;exact⟨rfl,aB HB.out hb⟩
