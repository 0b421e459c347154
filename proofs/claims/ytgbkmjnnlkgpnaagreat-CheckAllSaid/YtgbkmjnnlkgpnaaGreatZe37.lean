import Derived.Test.YtgbkmjnnlkgpnaaGreatZe22
import Derived.Test.YtgbkmjnnlkgpnaaGreatZe8
import Derived.Deep.QuietTactic
import Derived.BigQuiet
import Derived.Deep.RegionHeld3
set_option maxHeartbeats 1000000
set_option maxRecDepth 100000
namespace Go.Proofs.YtgbkmjnnlkgpnaaGreat
open Go Go.RowKit Go.Proofs Co Co.S
def or3 (a b c:Int):Int:=if a=0 then (if b=0 then c else b) else a
def aAG (u v:T3):Int:=or3 (Lib.compareInt u.1 v.1) (Lib.compareInt u.2.1 v.2.1) (Lib.compareBytes u.2.2.data.toList v.2.2.data.toList)
theorem aAH (x y:Int):Lib.compareInt x y=0↔x=y:=by
 unfold Lib.compareInt;rcases Int.lt_trichotomy x y with h|h|h
 ·rw[if_pos h];omega
 ·rw[if_neg (by omega),if_neg (by omega)];omega
 rw[if_neg (by omega),if_pos (by omega)];omega
theorem aAI:∀ a b:List UInt8,Lib.compareBytes a b=0↔a=b
 | [],[]=>by simp[Lib.compareBytes]
 | [],_::_=>by simp[Lib.compareBytes]
 | _::_,[]=>by simp[Lib.compareBytes]
 | x::a,y::b=>by
  have ih:=aAI a b;unfold Lib.compareBytes;by_cases h:x<y
  ·have hne:x≠y:=(by intro e;subst e;simp[UInt8.lt_irrefl] at h);simp[h,hne]
  ·by_cases h2:y<x
   ·have hne:x≠y:=(by intro e;subst e;simp[UInt8.lt_irrefl] at h2);simp[h,h2,hne]
   ·have he:x=y:=by
     apply UInt8.toNat_inj.1;rw[UInt8.lt_iff_toNat_lt] at h h2;omega
    subst he;simp[UInt8.lt_irrefl,ih]
theorem yX (u v:T3):(aAG u v==0)=decide (u=v):=by
 obtain⟨k1,n1,s1⟩:=u;obtain⟨k2,n2,s2⟩:=v;have h1:=aAH k1 k2;have h2:=aAH n1 n2;have h3:=aAI s1.data.toList s2.data.toList;have h4:s1.data.toList=s2.data.toList↔s1=s2:=⟨fun e=>fE e,fun e=>by rw[e]⟩;rw[h4] at h3;rw[Bool.eq_iff_iff];simp only[beq_iff_eq,decide_eq_true_eq,aAG,or3,Prod.mk.injEq];by_cases e1:k1=k2
 ·rw[if_pos (h1.2 e1)];by_cases e2:n1=n2
  ·rw[if_pos (h2.2 e2),h3];simp[e1,e2]
  rw[if_neg (fun h=>e2 (h2.1 h)),h2];simp[e2]
 rw[if_neg (fun h=>e1 (h1.1 h)),h1];simp[e1]
theorem rO (x:Int) (w:World):Calls Tryz.prog 194 #[.int .i64 x] w fun e w'=>e=.returned (.bool false)/\w'=w:=by
 go_enter Tryz.func194,Tryz.ntmps194;go_wp2_with fail;go_ret;exact⟨rfl,rfl⟩
theorem nE (x:Int) (w:World):Calls Tryz.prog 195 #[.int .i64 x] w fun e w'=>e=.returned (.bool false)/\w'=w:=by
 go_enter Tryz.func195,Tryz.ntmps195;go_wp2_with fail;go_ret;exact⟨rfl,rfl⟩
theorem aDE (x y:Int) (w:World):Calls Tryz.prog 169 #[.int .i64 x,.int .i64 y] w fun e w'=>e=.returned (.int .i64 (Lib.compareInt x y))/\w'=w:=by
 have ha:=rO x w;have hb:=rO y w;unfold Lib.compareInt;rcases Int.lt_trichotomy x y with h|h|h
 ·rw[if_pos h];go_enter Tryz.func169,Tryz.ntmps169;go_wp2_with (first | (go_at_call 194;(with_reducible refine ha.mono ?_);rintro e w' ⟨rfl,hw⟩;subst hw;clear ha) | (go_at_call 194;(with_reducible refine hb.mono ?_);rintro e w' ⟨rfl,hw⟩;subst hw;clear hb));go_ret;exact⟨rfl,rfl⟩
 ·subst h;rw[if_neg (by omega),if_neg (by omega)];go_enter Tryz.func169,Tryz.ntmps169;go_wp2_with (first | (go_at_call 194;(with_reducible refine ha.mono ?_);rintro e w' ⟨rfl,hw⟩;subst hw;clear ha) | (go_at_call 194;(with_reducible refine hb.mono ?_);rintro e w' ⟨rfl,hw⟩;subst hw;clear hb));go_ret;exact⟨rfl,rfl⟩
 rw[if_neg (by omega),if_pos (by omega)];go_enter Tryz.func169,Tryz.ntmps169;go_wp2_with (first | (go_at_call 194;(with_reducible refine ha.mono ?_);rintro e w' ⟨rfl,hw⟩;subst hw;clear ha) | (go_at_call 194;(with_reducible refine hb.mono ?_);rintro e w' ⟨rfl,hw⟩;subst hw;clear hb));go_ret;exact⟨rfl,rfl⟩
theorem aBQ (x y:Int) (w:World):Calls Tryz.prog 170 #[.int .i64 x,.int .i64 y] w fun e w'=>e=.returned (.int .i64 (Lib.compareInt x y))/\w'=w:=by
 have ha:=nE x w;have hb:=nE y w;unfold Lib.compareInt;rcases Int.lt_trichotomy x y with h|h|h
 ·rw[if_pos h];go_enter Tryz.func170,Tryz.ntmps170;go_wp2_with (first | (go_at_call 195;(with_reducible refine ha.mono ?_);rintro e w' ⟨rfl,hw⟩;subst hw;clear ha) | (go_at_call 195;(with_reducible refine hb.mono ?_);rintro e w' ⟨rfl,hw⟩;subst hw;clear hb));go_ret;exact⟨rfl,rfl⟩
 ·subst h;rw[if_neg (by omega),if_neg (by omega)];go_enter Tryz.func170,Tryz.ntmps170;go_wp2_with (first | (go_at_call 195;(with_reducible refine ha.mono ?_);rintro e w' ⟨rfl,hw⟩;subst hw;clear ha) | (go_at_call 195;(with_reducible refine hb.mono ?_);rintro e w' ⟨rfl,hw⟩;subst hw;clear hb));go_ret;exact⟨rfl,rfl⟩
 rw[if_neg (by omega),if_pos (by omega)];go_enter Tryz.func170,Tryz.ntmps170;go_wp2_with (first | (go_at_call 195;(with_reducible refine ha.mono ?_);rintro e w' ⟨rfl,hw⟩;subst hw;clear ha) | (go_at_call 195;(with_reducible refine hb.mono ?_);rintro e w' ⟨rfl,hw⟩;subst hw;clear hb));go_ret;exact⟨rfl,rfl⟩
theorem aBR (a b c:Int) (g:Nat) (w:World) (ca:w.cell? ⟨g,0,none⟩=some (.int .i64 a)) (cb:w.cell? ⟨g,1,none⟩=some (.int .i64 b)) (cc:w.cell? ⟨g,2,none⟩=some (.int .i64 c)) :
  Calls Tryz.prog 168 #[.slice (some ⟨g,0,none⟩) 3 3] w fun e w'=>e=.returned (.int .i64 (or3 a b c))/\w'=w:=by
 by_cases ha:a=0
 ·subst ha;by_cases hb:b=0
  ·subst hb;by_cases hc:c=0
   ·subst hc;go_enter Tryz.func168,Tryz.ntmps168;go_wp2_with fail;go_loopg [8] 5 (fun gh jv wr=>∃ (j:Nat),jv=.int .i64 (j:Int)/\j<=3/\4<=j+gh/\wr=w)
    case atStart=>exact⟨0,rfl,by omega,by omega,rfl⟩
    obtain⟨k,rfl,hk,hg,rfl⟩:=hrel;rcases (by omega:k=0∨k=1∨k=2∨k=3) with rfl|rfl|rfl|rfl
    ·go_wp2_with fail;go_roundg 3
     case measure=>omega
     exact⟨1,rfl,by omega,by omega,rfl⟩
    ·go_wp2_with fail;go_roundg 2
     case measure=>omega
     exact⟨2,rfl,by omega,by omega,rfl⟩
    ·go_wp2_with fail;go_roundg 1
     case measure=>omega
     exact⟨3,rfl,by omega,by omega,rfl⟩
    go_wp2_with fail;go_ret;exact⟨rfl,rfl⟩
   have hcb:(c==0)=false:=beq_eq_false_iff_ne.2 hc;have hor:or3 0 0 c=c:=rfl;rw[hor];go_enter Tryz.func168,Tryz.ntmps168;go_wp2_with fail;go_loopg [8] 5 (fun gh jv wr=>∃ (j:Nat),jv=.int .i64 (j:Int)/\j<=2/\4<=j+gh/\wr=w)
   case atStart=>exact⟨0,rfl,by omega,by omega,rfl⟩
   obtain⟨k,rfl,hk,hg,rfl⟩:=hrel;rcases (by omega:k=0∨k=1∨k=2) with rfl|rfl|rfl
   ·go_wp2_with fail;go_roundg 3
    case measure=>omega
    exact⟨1,rfl,by omega,by omega,rfl⟩
   ·go_wp2_with fail;go_roundg 2
    case measure=>omega
    exact⟨2,rfl,by omega,by omega,rfl⟩
   go_wp2_with fail;go_ret;exact⟨rfl,rfl⟩
  have hbb:(b==0)=false:=beq_eq_false_iff_ne.2 hb;have hor:or3 0 b c=b:=(by unfold or3;rw[if_pos rfl,if_neg hb]);rw[hor];go_enter Tryz.func168,Tryz.ntmps168;go_wp2_with fail;go_loopg [8] 5 (fun gh jv wr=>∃ (j:Nat),jv=.int .i64 (j:Int)/\j<=1/\4<=j+gh/\wr=w)
  case atStart=>exact⟨0,rfl,by omega,by omega,rfl⟩
  obtain⟨k,rfl,hk,hg,rfl⟩:=hrel;rcases (by omega:k=0∨k=1) with rfl|rfl
  ·go_wp2_with fail;go_roundg 3
   case measure=>omega
   exact⟨1,rfl,by omega,by omega,rfl⟩
  go_wp2_with fail;go_ret;exact⟨rfl,rfl⟩
 have hab:(a==0)=false:=beq_eq_false_iff_ne.2 ha;have hor:or3 a b c=a:=(by unfold or3;rw[if_neg ha]);rw[hor];go_enter Tryz.func168,Tryz.ntmps168;go_wp2_with fail;go_loopg [8] 5 (fun gh jv wr=>∃ (j:Nat),jv=.int .i64 (j:Int)/\j<=0/\4<=j+gh/\wr=w)
 case atStart=>exact⟨0,rfl,by omega,by omega,rfl⟩
 obtain⟨k,rfl,hk,hg,rfl⟩:=hrel;obtain rfl:k=0:=(by omega);go_wp2_with fail;go_ret;exact⟨rfl,rfl⟩
theorem tL (u v:T3) (w:World) :
  Calls Tryz.prog 146 #[.agg #[.int .i64 (u.1),.int .i64 (u.2.1),.string (u.2.2)],.agg #[.int .i64 (v.1),.int .i64 (v.2.1),.string (v.2.2)]] w fun e w'=>e=.returned (.int .i64 (aAG u v))/\Below w.heap.size w w':=by
 obtain⟨k1,n1,s1⟩:=u;obtain⟨k2,n2,s2⟩:=v;go_enter Tryz.func146,Tryz.ntmps146
 go_wp2
 go_region_held3 (fun w'=>w'.cell? ⟨w.heap.size,0,none⟩=some (.int .i64 k1)/\w'.cell? ⟨w.heap.size,1,none⟩=some (.int .i64 n1)/\w'.cell? ⟨w.heap.size,2,none⟩=some (.string s1) /\
   w'.cell? ⟨w.heap.size+1,0,none⟩=some (.int .i64 k2)/\w'.cell? ⟨w.heap.size+1,1,none⟩=some (.int .i64 n2)/\w'.cell? ⟨w.heap.size+1,2,none⟩=some (.string s2))
  (go_keep)
  (first
   | (go_at_call 169;refine (aDE _ _ _).mono ?_;rintro e w' ⟨rfl,rfl⟩)
   | (go_at_call 170;refine (aBQ _ _ _).mono ?_;rintro e w' ⟨rfl,rfl⟩)
   | (go_at_call 163;refine (qN _ _ _).mono ?_;rintro e w' ⟨rfl,rfl⟩)
   | (go_at_call 168;refine (aBR (Lib.compareInt k1 k2) (Lib.compareInt n1 n2) (Lib.compareBytes s1.data.toList s2.data.toList) _ _ ?_ ?_ ?_).mono ?_;(go_simp);(go_simp);(go_simp);rintro e w' ⟨rfl,rfl⟩))
 go_wp2
 go_ret;exact⟨rfl,(((below_alloc1 _ _).alloc (by simp) _).alloc (by simp;omega) _).drew⟩
theorem aAJ (u v:T3) (w:World) :
  Calls Tryz.prog 120 #[.agg #[.int .i64 (u.1),.int .i64 (u.2.1),.string (u.2.2)],.agg #[.int .i64 (v.1),.int .i64 (v.2.1),.string (v.2.2)]] w fun e w'=>e=.returned (.bool (decide (u=v)))/\Below w.heap.size w w':=by
 have hz:=yX u v;have hb1:=aC w (.cells #[.int .i64 u.1,.int .i64 u.2.1,.string u.2.2] 42);have hb2:=aB hb1 (aC (w.alloc (.cells #[.int .i64 u.1,.int .i64 u.2.1,.string u.2.2] 42)) (.cells #[.int .i64 v.1,.int .i64 v.2.1,.string v.2.2] 42));have hc:=tL u v;obtain⟨c,hcc⟩:∃ c,aAG u v=c:=⟨_,rfl⟩;rw[hcc] at hz hc;rw[<- hz];have HB:=qAq hb2;clear hz hcc hb1 hb2;go_enter Tryz.func120,Tryz.ntmps120;go_wp2_with (go_at_call 146;(with_reducible refine (hc _).mono ?_);rintro e w' ⟨rfl,hb⟩);go_ret;exact⟨rfl,aB HB.out hb⟩
