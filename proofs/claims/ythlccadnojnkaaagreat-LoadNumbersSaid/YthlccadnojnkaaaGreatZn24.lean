import Derived.Test.YthlccadnojnkaaaGreatZn20
set_option maxHeartbeats 2000000
set_option maxRecDepth 100000
namespace Go.Proofs.YthlccadnojnkaaaGreat
open Go.Proofs.Tryz
open Go Go.RowKit Go.Proofs Co Co.S
theorem G6(k n1:Int)(s:ByteArray)(w:World):Calls prog 129 #[.agg #[.int .i64 k,.int .i64 n1,.string s],.agg #[.int .i64 k,.int .i64 n1,.string s]] w fun e c=>e=.returned (.int .i64 0)/\Below w.heap.size w c:=by
 have a:=aD w (.cells #[.int .i64 k,.int .i64 n1,.string s] 32);have b:=aB a (aD (w.alloc (.cells #[.int .i64 k,.int .i64 n1,.string s] 32)) (.cells #[.int .i64 k,.int .i64 n1,.string s] 32));have d:=aa b;have f:=zL s.toList;clear a b;go_enter func129,ntmps129;go_wp2_with fail;go_ret;exact⟨rfl,d.out⟩
theorem It{S1 S2:Nat->Prop}{v1 v2:Value}{l:List T3}{W:World}(h1:eb S1 W v1 l)(h2:eb S2 W v2 l):Calls prog 95 #[v1,v2] W fun e c=>e=.returned (.int .i64 0)/\Below W.heap.size W c:=by
 obtain⟨U,c1,rfl,_,r⟩:=h1.slice;obtain⟨V,c2,rfl,_,y⟩:=h2.slice;obtain⟨n,i⟩:=ag l.length;have z:(n:Int)<=9223372036854775807:=(by unfold maxLen at r;omega);have s:=aa h1;have t:=aa h2;have A:=aa i;rw[i];clear h1 h2 r y i;go_enter func95,ntmps95
 go_upto_block 0 with fail
 go_cut []from 200 to 200 (fun w=>Below W.heap.size W w)
 case first =>
  go_wp2_with fail;go_loopg [5] (n+1) (fun B E w=>∃(j:Nat),E=.int .i64 (j:Int)/\j<=n/\n+1<=j+B/\Below W.heap.size W w)
  case atStart=>exact⟨0,rfl,zh _,by omega,zb _ _⟩
  obtain⟨j,rfl,X,Y,k⟩:=hrel;by_cases m:j<n
  ·have d:j<l.length:=(by rw[A.out];exact m);have F:(j:Int)<(n:Int):=(by omega);obtain⟨b1,o1,rfl,o,_⟩:=s.out.val d;obtain⟨b2,o2,rfl,p,_⟩:=t.out.val d;obtain⟨u,v⟩:=ag (l[j])
   have f:Hid (∀w,Below W.heap.size W w->(w.cell? ⟨b1,o1+j*3,none⟩=some (.int .i64 u.1)/\w.cell? ⟨b1,o1+j*3+1,none⟩=some (.int .i64 u.2.1)/\w.cell? ⟨b1,o1+j*3+2,none⟩=some (.string u.2.2))/\(w.cell? ⟨b2,o2+j*3,none⟩=some (.int .i64 u.1)/\w.cell? ⟨b2,o2+j*3+1,none⟩=some (.int .i64 u.2.1)/\w.cell? ⟨b2,o2+j*3+2,none⟩=some (.string u.2.2))):=aa (fun w x=>by
    obtain⟨G,H,I,_,r1⟩:=(s.out.later x).val d;obtain⟨J,L,M,_,N⟩:=(t.out.later x).val d;cases I;cases M
    rw[<-v];exact⟨r1,N⟩)
   have a:=(fun w=>G6 u.1 u.2.1 u.2.2 w);have O:=aa k;clear k v o p;go_upto_region 4 with fail;refine Par.ae 8 [.slice (some ⟨b1,o1,none⟩) n c1,.int .i64 (j:Int),.pointer (some ⟨b1,o1+j*3,none⟩),.agg #[.int .i64 u.1,.int .i64 u.2.1,.string u.2.2],.slice (some ⟨b2,o2,none⟩) n c2,.int .i64 (j:Int),.pointer (some ⟨b2,o2+j*3,none⟩),.agg #[.int .i64 u.1,.int .i64 u.2.1,.string u.2.2]] (fun w=>Below W.heap.size W w) ?A1 ?hm1 ?hB1 ?hA1 (O.out.drew) ?hop1 ?hT1
   case hm1=>kernel_rfl
   case hB1=>kernel_rfl
   case hA1 =>
    simp only[Par.am,Par.ai,Act.put,cy,db,bt,cp,dc,da,bu,eg,ed];rfl
   case hop1 =>
    simp only[ce,ze,Par.ah,yu];and_intros<;>intro c b<;>have h:=aa b
    rotate_left 3;have P:=(f.out c b).1.1;have Q:=(f.out c b).1.2.1;have R:=(f.out c b).1.2.2;rotate_left 4;have P:=(f.out c b).2.1;have Q:=(f.out c b).2.2.1;have R:=(f.out c b).2.2.2;rotate_left
    all_goals(clear b;simp only[Par.Gives];go_simp;all_goals exact h.out)
   intro c b;simp only[cw,ym];have h:=aa b;have a:=a c;clear b;go_wp2_with (go_at_call 129;refine a.mono ?_;rintro e Z⟨rfl,g⟩;have S:=aa (h.out.trans (g.mono h.out.size));clear a g);go_roundg (n-j)
   case measure=>omega
   exact⟨j+1,rfl,by omega,by omega,S.out⟩
  obtain rfl:j=n:=(by omega);go_wp2_with fail;go_meet;exact k
 have q:=aa hcut;go_wp2_with fail;go_ret;exact⟨rfl,q.out⟩
def AQ(a b c:Int):Int:=if a=0 then(if b=0 then c else b)else a
def t5(u v:T3):Int:=AQ (Lib.compareInt u.1 v.1) (Lib.compareInt u.2.1 v.2.1) (Lib.compareBytes u.2.2.data.toList v.2.2.data.toList)
theorem zV(x y:Int):Lib.compareInt x y=0↔x=y:=by
 unfold Lib.compareInt;rcases Int.lt_trichotomy x y with h|h|h
 ·rw[zv h];omega
 ·rw[zq (by omega),zq (by omega)];omega
 rw[zq (by omega),zv (by omega)];omega
theorem zW:∀a b:List UInt8,Lib.compareBytes a b=0↔a=b
 | [],[]=>by simp[Lib.compareBytes]
 | [],_::_=>by simp[Lib.compareBytes]
 | _::_,[]=>by simp[Lib.compareBytes]
 | x::a,y::b=>by
  have f:=zW a b;unfold Lib.compareBytes;by_cases h:x<y
  ·have c:x≠y:=(by intro e;subst e;simp[UInt8.lt_irrefl]at h);simp[h,c]
  ·by_cases d:y<x
   ·have c:x≠y:=(by intro e;subst e;simp[UInt8.lt_irrefl]at d);simp[h,d,c]
   ·have g:x=y:=by
     apply UInt8.toNat_inj.1;rw[UInt8.lt_iff_toNat_lt]at h d;omega
    subst g;simp[UInt8.lt_irrefl,f]
theorem xE(u v:T3):(t5 u v==0)=decide (u=v):=by
 obtain⟨f,g,s1⟩:=u;obtain⟨i,j,s2⟩:=v;have c:=zV f i;have d:=zV g j;have k:=zW s1.data.toList s2.data.toList;have l:s1.data.toList=s2.data.toList↔s1=s2:=⟨fun e=>dQ e,fun e=>by rw[e]⟩;rw[l]at k;rw[vf];simp only[u9,wh,t5,AQ,Prod.mk.injEq];by_cases a:f=i
 ·rw[zv (c.2 a)];by_cases b:g=j
  ·rw[zv (d.2 b),k];simp[a,b]
  rw[zq (fun h=>b (d.1 h)),d];simp[b]
 rw[zq (fun h=>a (c.1 h)),c];simp[a]
theorem pJ(x:Int)(w:World):Calls prog 204 #[.int .i64 x] w fun e a=>e=.returned (.bool false)/\a=w:=by
 go_enter func204,ntmps204;go_wp2_with fail;go_ret;exact⟨rfl,rfl⟩
theorem lC(x:Int)(w:World):Calls prog 205 #[.int .i64 x] w fun e a=>e=.returned (.bool false)/\a=w:=by
 go_enter func205,ntmps205;go_wp2_with fail;go_ret;exact⟨rfl,rfl⟩
theorem Hp(x y:Int)(w:World):Calls prog 179 #[.int .i64 x,.int .i64 y] w fun e b=>e=.returned (.int .i64 (Lib.compareInt x y))/\b=w:=by
 have c:=pJ x w;have d:=pJ y w;unfold Lib.compareInt;rcases Int.lt_trichotomy x y with h|h|h
 ·rw[zv h];go_enter func179,ntmps179;go_wp2_with (first | (go_at_call 204;(with_reducible refine c.mono ?_);rintro e b⟨rfl,a⟩;subst a;clear c) | (go_at_call 204;(with_reducible refine d.mono ?_);rintro e b⟨rfl,a⟩;subst a;clear d));go_ret;exact⟨rfl,rfl⟩
 ·subst h;rw[zq (by omega),zq (by omega)];go_enter func179,ntmps179;go_wp2_with (first | (go_at_call 204;(with_reducible refine c.mono ?_);rintro e b⟨rfl,a⟩;subst a;clear c) | (go_at_call 204;(with_reducible refine d.mono ?_);rintro e b⟨rfl,a⟩;subst a;clear d));go_ret;exact⟨rfl,rfl⟩
 rw[zq (by omega),zv (by omega)];go_enter func179,ntmps179;go_wp2_with (first | (go_at_call 204;(with_reducible refine c.mono ?_);rintro e b⟨rfl,a⟩;subst a;clear c) | (go_at_call 204;(with_reducible refine d.mono ?_);rintro e b⟨rfl,a⟩;subst a;clear d));go_ret;exact⟨rfl,rfl⟩
theorem Hx(x y:Int)(w:World):Calls prog 180 #[.int .i64 x,.int .i64 y] w fun e b=>e=.returned (.int .i64 (Lib.compareInt x y))/\b=w:=by
 have c:=lC x w;have d:=lC y w;unfold Lib.compareInt;rcases Int.lt_trichotomy x y with h|h|h
 ·rw[zv h];go_enter func180,ntmps180;go_wp2_with (first | (go_at_call 205;(with_reducible refine c.mono ?_);rintro e b⟨rfl,a⟩;subst a;clear c) | (go_at_call 205;(with_reducible refine d.mono ?_);rintro e b⟨rfl,a⟩;subst a;clear d));go_ret;exact⟨rfl,rfl⟩
 ·subst h;rw[zq (by omega),zq (by omega)];go_enter func180,ntmps180;go_wp2_with (first | (go_at_call 205;(with_reducible refine c.mono ?_);rintro e b⟨rfl,a⟩;subst a;clear c) | (go_at_call 205;(with_reducible refine d.mono ?_);rintro e b⟨rfl,a⟩;subst a;clear d));go_ret;exact⟨rfl,rfl⟩
 rw[zq (by omega),zv (by omega)];go_enter func180,ntmps180;go_wp2_with (first | (go_at_call 205;(with_reducible refine c.mono ?_);rintro e b⟨rfl,a⟩;subst a;clear c) | (go_at_call 205;(with_reducible refine d.mono ?_);rintro e b⟨rfl,a⟩;subst a;clear d));go_ret;exact⟨rfl,rfl⟩
theorem Il(a b c:Int)(g:Nat)(w:World)(ca:w.cell? ⟨g,0,none⟩=some (.int .i64 a))(cb:w.cell? ⟨g,1,none⟩=some (.int .i64 b))(cc:w.cell? ⟨g,2,none⟩=some (.int .i64 c)):Calls prog 178 #[.slice (some ⟨g,0,none⟩) 3 3] w fun e p=>e=.returned (.int .i64 (AQ a b c))/\p=w:=by
 by_cases i:a=0
 ·subst i;by_cases l:b=0
  ·subst l;by_cases o:c=0
   ·subst o;go_enter func178,ntmps178;go_wp2_with fail;go_loopg [8] 5 (fun f h wr=>∃(j:Nat),h=.int .i64 (j:Int)/\j<=3/\4<=j+f/\wr=w)
    case atStart=>exact⟨0,rfl,by omega,by omega,rfl⟩
    obtain⟨k,rfl,m,n,rfl⟩:=hrel;rcases(by omega:k=0∨k=1∨k=2∨k=3)with rfl|rfl|rfl|rfl
    ·go_wp2_with fail;go_roundg 3
     case measure=>omega
     exact⟨1,rfl,by omega,by omega,rfl⟩
    ·go_wp2_with fail;go_roundg 2
     case measure=>omega
     exact⟨2,rfl,by omega,by omega,rfl⟩
    ·go_wp2_with fail;go_roundg 1
     case measure=>omega
     exact⟨3,rfl,by omega,by omega,rfl⟩
    go_wp2_with fail;go_ret;exact⟨rfl,rfl⟩
   have q:(c==0)=false:=beq_eq_false_iff_ne.2 o;have d:AQ 0 0 c=c:=rfl;rw[d];go_enter func178,ntmps178;go_wp2_with fail;go_loopg [8] 5 (fun f h wr=>∃(j:Nat),h=.int .i64 (j:Int)/\j<=2/\4<=j+f/\wr=w)
   case atStart=>exact⟨0,rfl,by omega,by omega,rfl⟩
   obtain⟨k,rfl,m,n,rfl⟩:=hrel;rcases(by omega:k=0∨k=1∨k=2)with rfl|rfl|rfl
   ·go_wp2_with fail;go_roundg 3
    case measure=>omega
    exact⟨1,rfl,by omega,by omega,rfl⟩
   ·go_wp2_with fail;go_roundg 2
    case measure=>omega
    exact⟨2,rfl,by omega,by omega,rfl⟩
   go_wp2_with fail;go_ret;exact⟨rfl,rfl⟩
  have r:(b==0)=false:=beq_eq_false_iff_ne.2 l;have d:AQ 0 b c=b:=(by unfold AQ;rw[zv rfl,zq l]);rw[d];go_enter func178,ntmps178;go_wp2_with fail;go_loopg [8] 5 (fun f h wr=>∃(j:Nat),h=.int .i64 (j:Int)/\j<=1/\4<=j+f/\wr=w)
  case atStart=>exact⟨0,rfl,by omega,by omega,rfl⟩
  obtain⟨k,rfl,m,n,rfl⟩:=hrel;rcases(by omega:k=0∨k=1)with rfl|rfl
  ·go_wp2_with fail;go_roundg 3
   case measure=>omega
   exact⟨1,rfl,by omega,by omega,rfl⟩
  go_wp2_with fail;go_ret;exact⟨rfl,rfl⟩
 have s:(a==0)=false:=beq_eq_false_iff_ne.2 i;have d:AQ a b c=a:=(by unfold AQ;rw[zq i]);rw[d];go_enter func178,ntmps178;go_wp2_with fail;go_loopg [8] 5 (fun f h wr=>∃(j:Nat),h=.int .i64 (j:Int)/\j<=0/\4<=j+f/\wr=w)
 case atStart=>exact⟨0,rfl,by omega,by omega,rfl⟩
 obtain⟨k,rfl,m,n,rfl⟩:=hrel;obtain rfl:k=0:=(by omega);go_wp2_with fail;go_ret;exact⟨rfl,rfl⟩
theorem rD(u v:T3)(w:World):Calls prog 156 #[.agg #[.int .i64 u.1,.int .i64 u.2.1,.string u.2.2],.agg #[.int .i64 v.1,.int .i64 v.2.1,.string v.2.2]] w fun e a=>e=.returned (.int .i64 (t5 u v))/\Below w.heap.size w a:=by
 obtain⟨b,c,s1⟩:=u;obtain⟨d,f,s2⟩:=v;go_enter func156,ntmps156
 go_wp2
 go_region_held3 (fun a=>a.cell? ⟨w.heap.size,0,none⟩=some (.int .i64 b)/\a.cell? ⟨w.heap.size,1,none⟩=some (.int .i64 c)/\a.cell? ⟨w.heap.size,2,none⟩=some (.string s1)/\a.cell? ⟨w.heap.size+1,0,none⟩=some (.int .i64 d)/\a.cell? ⟨w.heap.size+1,1,none⟩=some (.int .i64 f)/\a.cell? ⟨w.heap.size+1,2,none⟩=some (.string s2))
  (go_keep)
  (first|(go_at_call 179;refine(Hp _ _ _).mono ?_;rintro e a⟨rfl,rfl⟩)|(go_at_call 180;refine(Hx _ _ _).mono ?_;rintro e a⟨rfl,rfl⟩)|(go_at_call 173;refine(oR _ _ _).mono ?_;rintro e a⟨rfl,rfl⟩)|(go_at_call 178;refine(Il (Lib.compareInt b d) (Lib.compareInt c f) (Lib.compareBytes s1.data.toList s2.data.toList) _ _ ?_ ?_ ?_).mono ?_;(go_simp);(go_simp);(go_simp);rintro e a⟨rfl,rfl⟩))
 go_wp2
 go_ret;exact⟨rfl,(((aN _ _).alloc (by simp) _).alloc (by simp;omega) _).drew⟩
theorem zX(u v:T3)(w:World):Calls prog 134 #[.agg #[.int .i64 u.1,.int .i64 u.2.1,.string u.2.2],.agg #[.int .i64 v.1,.int .i64 v.2.1,.string v.2.2]] w fun e g=>e=.returned (.bool (decide (u=v)))/\Below w.heap.size w g:=by
 have f:=xE u v;have a:=aD w (.cells #[.int .i64 u.1,.int .i64 u.2.1,.string u.2.2] 32);have b:=aB a (aD (w.alloc (.cells #[.int .i64 u.1,.int .i64 u.2.1,.string u.2.2] 32)) (.cells #[.int .i64 v.1,.int .i64 v.2.1,.string v.2.2] 32));have h:=rD u v;obtain⟨c,d⟩:=ag (t5 u v);rw[d]at f h;rw[<-f];have i:=aa b;clear f d a b;go_enter func134,ntmps134;go_wp2_with (go_at_call 156;refine(h _).mono ?_;rintro e g⟨rfl,j⟩);go_ret;exact⟨rfl,aB i.out j⟩
